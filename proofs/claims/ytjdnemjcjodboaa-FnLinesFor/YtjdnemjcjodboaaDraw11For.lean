/- Contracts of what is drawn for chapter 11: robots, and a name. -/
import Derived.Test.YtjdnemjcjodboaaRows
import Derived.Test.YtjdnemjcjodboaaDraw11Walk
import Derived.Test.YtjdnemjcjodboaaRobParse
import Derived.Test.YtjdnemjcjodboaaRobSum
namespace Go.Proofs.Ytjdnemjcjodboaa
open Go.RowKit
set_option linter.unusedVariables false

theorem Cur.grownB {D B : Nat} {ao : Option Addr} {len cap : Nat} {w w' : World} (h : Cur D B ao len cap w) (hb : Below w.heap.size w w') : Cur D B ao len cap w' := h.below fun k hk => hb.block k hk
set_option maxHeartbeats 2000000 in
theorem l11Robots (D B : Nat) (ao : Option Addr) (len cap : Nat) (w : World) (hcur : Cur D B ao len cap w) :
    Calls Try.prog 25 #[.pointer (some ⟨B, 0, none⟩)] w fun e w' => ∃ (PS : List PT) (vo : Option Addr) (vc : Nat), (∃ z : ByteArray, z.size ≤ 1600 ∧ robV z = PS) ∧ e = .returned (.agg #[.slice vo PS.length vc]) ∧ RobOwn w' w.heap.size w'.heap.size (.slice vo PS.length vc) PS ∧ Cur D B ao len cap w' ∧ w.grownBy w' (some B) := by
  obtain ⟨O, hO⟩ : ∃ O, O = w.alloc (.cells #[.slice none 0 0] 26) := ⟨_, rfl⟩
  have AO : BAt O w.heap.size [.slice none 0 0] := by rw [hO]; exact BAt.new w #[.slice none 0 0] _
  have HC : Hid (Cur D B ao len cap O) := by rw [hO]; exact hcur.alloc _
  have GO : w.grownBy O (some B) := by rw [hO]; exact World.grownBy_alloc w _ (some B)
  have hBw := hcur.lt
  have hzO : O.heap.size = w.heap.size + 1 := by rw [hO]; simp
  clear hcur
  go_enter Try.func25, Try.ntmps25
  go_upto_region 1 with fail
  rw [← hO]
  clear hO
  go_wp2_with fail
  refine (l11Text _ _ _ _ _ _ HC.out).mono ?_
  rintro e wa ⟨z, hz, rfl, ca, ga⟩
  have CA : Hid (Cur D B ao len cap wa) := ca
  have GA := grow_trans GO ga
  have AA : BAt wa w.heap.size [.slice none 0 0] := AO.grown ga (by omega)
  have hza : O.heap.size ≤ wa.heap.size := ga.size
  clear ca ga HC
  go_wp2_with fail
  refine (specParseRobots z _ (by omega)).mono ?_
  rintro e wb ⟨v, rfl, ro, bb⟩
  obtain ⟨vo, vc, rfl⟩ := ro.row.slice
  have CB : Hid (Cur D B ao len cap wb) := CA.out.grownB bb
  have AB := AA.below bb
  have GB := grow_below GA bb
  have RO : Hid (RobOwn wb wa.heap.size wb.heap.size (.slice vo (robV z).length vc) (robV z)) := ro
  have hzb := bb.size
  clear ro bb CA
  have c0 := AB.1 0 _ rfl
  have f0 := AB.2.1
  have HZ : Hid (∃ z' : ByteArray, z'.size ≤ 1600 ∧ robV z' = robV z) := ⟨z, hz, rfl⟩
  generalize robV z = PS at *
  go_wp2_with fail
  refine bodyPost_ret (rob_res1 rfl _ _ w.heap.size (.slice vo PS.length vc) rfl (AB.set 0 (by simp) _)) rfl ⟨PS, vo, vc, HZ.out, rfl, ?_, ?_, ?_⟩
  · have h9 := RO.out.same (w' := wb.setCell ⟨w.heap.size, 0, none⟩ (.slice vo PS.length vc)) fun b hb1 hb2 => Below.heap_setCell _ _ _ _ (show b ≠ w.heap.size by omega)
    exact (h9.wide (by simp)).down (by omega)
  · obtain ⟨i, h, k1, k2, k3, k4, k5, k6⟩ := CB.out
    refine ⟨i, h, ?_, k2, k3, k4, k5, ?_⟩
    · rw [Below.heap_setCell _ _ _ _ (show B ≠ w.heap.size by omega)]; exact k1
    · exact k6.grown fun b hb => Below.heap_setCell _ _ _ _ (show b ≠ w.heap.size by omega)
  · refine ⟨?_, ?_, ?_, ?_, fun b hb hne => ?_⟩
    · exact (show (wb.setCell ⟨w.heap.size, 0, none⟩ (.slice vo PS.length vc)).os = wb.os from rfl).trans GB.os
    · exact (show (wb.setCell ⟨w.heap.size, 0, none⟩ (.slice vo PS.length vc)).tape = wb.tape from rfl).trans GB.tape
    · exact (show (wb.setCell ⟨w.heap.size, 0, none⟩ (.slice vo PS.length vc)).output = wb.output from rfl).trans GB.output
    · have := GB.size; simpa using this
    · rw [Below.heap_setCell _ _ _ _ (show b ≠ w.heap.size by omega)]; exact GB.block b hb hne
theorem rob_res2 {fn : Func} {q s : Tmp} (h : fn.results = #[.cell q 26, .tmp s]) (tmps : Array Value) (W : World) (B : Nat) (a : Value) (y : ByteArray)
    (hp : tmps[q]?.getD undef = .pointer (some ⟨B, 0, none⟩)) (hs : tmps[s]?.getD undef = .string y) (ha : BAt W B [a]) : (results fn tmps).run Try.prog W = .ok (.tuple #[.agg #[a], .string y]) W := by
  have c0 := ha.1 0 _ rfl
  simp [results, h, hp, hs, asAddr, go_sem, c0, Addr.add_lit]
set_option maxHeartbeats 2000000 in
theorem drawLinesFor (ao : Option Addr) (len cap : Nat) (w : World) (hl : len ≤ 1048576) (hcode : CodeRow w.heap.size w ao len) :
    Calls Try.prog 8 #[.slice ao len cap] w fun e w' => ∃ (PS : List PT) (vo : Option Addr) (vc : Nat) (y : ByteArray), (∃ z : ByteArray, robV z = PS) ∧ y.size ≤ 20 ∧ e = .returned (.tuple #[.agg #[.slice vo PS.length vc], .string y]) ∧ PartRow w' (.slice vo PS.length vc) PS ∧ Below w.heap.size w w' := by
  obtain ⟨O, hO⟩ : ∃ O, O = w.alloc (.cells #[.slice none 0 0] 26) := ⟨_, rfl⟩
  have AO : BAt O w.heap.size [.slice none 0 0] := by rw [hO]; exact BAt.new w #[.slice none 0 0] _
  have bO : Below w.heap.size w O := by rw [hO]; exact (Below.refl _ _).alloc (Nat.le_refl _) _
  have HCO : Hid (CodeRow O.heap.size O ao len) := hcode.later bO
  have hzO : O.heap.size = w.heap.size + 1 := by rw [hO]; simp
  clear hcode
  go_enter Try.func8, Try.ntmps8
  go_upto_region 1 with fail
  rw [← hO]
  clear hO
  go_wp2_with fail
  refine (l1New _ _ _ _ hl HCO.out).mono ?_
  rintro e wa ⟨B, rfl, hB, ca, ba⟩
  have CA : Hid (Cur O.heap.size B ao len cap wa) := ca
  have AA := AO.below ba
  have Ba := bO.trans (ba.mono bO.size)
  have hBa := ca.lt
  have za := ba.size
  clear ca ba HCO
  go_wp2_with fail
  refine (l11Robots _ _ _ _ _ _ CA.out).mono ?_
  rintro e wb ⟨PS, vo, vc, ⟨z, _, hzz⟩, rfl, ro, cb, gb⟩
  have HZ : Hid (∃ z : ByteArray, robV z = PS) := ⟨z, hzz⟩
  have CB : Hid (Cur O.heap.size B ao len cap wb) := cb
  have RO : Hid (RobOwn wb wa.heap.size wb.heap.size (.slice vo PS.length vc) PS) := ro
  have AB : BAt wb w.heap.size [.slice none 0 0] := AA.grown gb (by omega)
  have Bb : Below w.heap.size w wb := Ba.grown gb Ba.size (fun k hk => by cases hk; omega)
  have zb := gb.size
  clear ro cb gb CA hzz Ba
  have hBb := CB.out.lt
  go_wp2_with fail
  refine (l1StrX 20 6 _ 6 0 _ _ _ _ _ _ _ (by omega) (by omega) (CB.out.alloc _) (World.ownsRow_lit wb _ 6 (Nat.zero_le _) (by decide) rfl) (by omega) (by decide)).mono ?_
  rintro e wc ⟨y, hy, rfl, cc, gc⟩
  have G := grow_trans (World.grownBy_alloc wb _ (some B)) gc
  have AC : BAt wc w.heap.size [.slice none 0 0] := AB.grown G (by omega)
  have Bc : Below w.heap.size w wc := Bb.grown G Bb.size (fun k hk => by cases hk; omega)
  have RC : Hid (RobOwn wc wa.heap.size wb.heap.size (.slice vo PS.length vc) PS) := RO.out.same fun b hb1 hb2 => G.block b hb2 (fun e => by injection e with e; omega)
  clear cc gc G RO CB Bb AB
  have c0 := AC.1 0 _ rfl
  have f0 := AC.2.1
  go_wp2_with fail
  refine bodyPost_ret (rob_res2 rfl _ _ w.heap.size (.slice vo PS.length vc) y rfl rfl (AC.set 0 (by simp) _)) rfl ⟨PS, vo, vc, y, HZ.out, hy, rfl, ?_, Bc.setCell (Nat.le_refl _) _⟩
  exact (RC.out.same (w' := wc.setCell ⟨w.heap.size, 0, none⟩ (.slice vo PS.length vc)) fun b hb1 hb2 => Below.heap_setCell _ _ _ _ (show b ≠ w.heap.size by omega)).row
end Go.Proofs.Ytjdnemjcjodboaa
