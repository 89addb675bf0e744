/- Contracts of the laws' helpers that measure, copy and compare lists. -/
import Derived.Test.YtfdgehlobbeomaaDoorRows
import Derived.Test.YtfdgehlobbeomaaDoorEntLaw
import Derived.Test.YtfdgehlobbeomaaDoorEntEq
import Derived.Test.YtfdgehlobbeomaaDoorBlockAt
namespace Go.Proofs.YtfdgehlobbeomaaDoor
open Go.RowKit
set_option linter.unusedVariables false

set_option maxHeartbeats 2000000 in
theorem szMap (b : Bool) (l : List EV) (v : Value) (left : Int) (w : World) (h0 : 0 ≤ left) (h1 : left ≤ 1048576) (hm : EMx l) (h : EntRow w v l) :
    Calls Tryd.prog 4 #[.agg #[.bool b, v], .int .i64 left] w fun e w' => e = .returned (.int .i64 (leftZ left (sumEn l))) ∧ Below w.heap.size w w' := by
  obtain ⟨O, hO⟩ : ∃ O, O = w.alloc (.cells #[.bool b, v] 24) := ⟨_, rfl⟩
  have hbO : Below w.heap.size w O := by rw [hO]; exact (Below.refl _ _).alloc (Nat.le_refl _) _
  have CL : Hid (∀ W, Below w.heap.size w W → Calls Tryd.prog 9 #[v, .int .i64 left] W fun e w' => e = .returned (.int .i64 (leftZ left (sumEn l))) ∧ Below W.heap.size W w') := fun W hW => szEnts l v left W h0 h1 hm (h.below hW)
  have hz := leftZ_le (n := sumEn l) h0
  obtain ⟨ao, cap, rfl⟩ := h.slice
  generalize leftZ left (sumEn l) = z1 at *
  obtain ⟨r1, r2, _⟩ := hz
  have c0 : O.cell? ⟨w.heap.size, 1, none⟩ = some (.slice ao l.length cap) := by rw [hO, World.cell?_alloc_at _ _ _ _ rfl]; rfl
  clear h hm
  go_enter Tryd.func4, Tryd.ntmps4
  go_upto_region 1 with fail
  rw [← hO]
  clear hO
  go_wp2_with fail
  refine (CL.out _ hbO).mono ?_
  rintro e w1 ⟨rfl, b1⟩
  have B1 := hbO.trans (b1.mono hbO.size)
  by_cases hn : z1 < 0
  · have HE : Hid (z1 = -1) := by show _ = _; omega
    go_wp2_with fail
    go_ret
    exact ⟨by rw [HE.out]; rfl, B1⟩
  · go_wp2_with fail
    go_ret
    exact ⟨rfl, B1⟩
theorem map_result1 {fn : Func} {q : Tmp} (h : fn.results = #[.cell q 29]) (tmps : Array Value) (W : World) (B : Nat) (a b : Value)
    (hp : tmps[q]?.getD undef = .pointer (some ⟨B, 0, none⟩)) (ha : BAt W B [a, b]) : (results fn tmps).run Tryd.prog W = .ok (.agg #[a, b]) W := by
  have c0 := ha.1 0 _ rfl
  have c1 := ha.1 1 _ rfl
  simp [results, h, hp, asAddr, go_sem, c0, c1, Addr.add_lit]
set_option maxHeartbeats 4000000 in
theorem toMap (b : Bool) (l : List EV) (v : Value) (w : World) (hn : l.length ≤ 1073741824) (h : EntRow w v l) :
    Calls Tryd.prog 6 #[.agg #[.bool b, v]] w fun e w' => ∃ ao cap, e = .returned (.agg #[.bool b, .slice ao l.length cap]) ∧ w'.ownsRow w.heap.size 35 2 (.slice ao l.length cap) l.length (ecells l) ∧ Below w.heap.size w w' := by
  obtain ⟨O, hO⟩ : ∃ O, O = ((w.alloc (.cells #[.bool b, v] 24)).alloc (.cells #[.bool false, .slice none 0 0] 29)).alloc (.cells #[.bool false, .slice none 0 0] 29) := ⟨_, rfl⟩
  have hbO : Below w.heap.size w O := by rw [hO]; exact (((Below.refl _ _).alloc (Nat.le_refl _) _).alloc (by simp) _).alloc (by simp; omega) _
  have hzO : O.heap.size = w.heap.size + 3 := by rw [hO]; simp
  have A0 : BAt O w.heap.size [.bool b, v] := by rw [hO]; exact ((BAt.new w #[.bool b, v] _).alloc _).alloc _
  have A1 : BAt O (w.heap.size + 1) [.bool false, .slice none 0 0] := by
    rw [hO]
    have := BAt.new (w.alloc (.cells #[.bool b, v] 24)) #[.bool false, .slice none 0 0] 29
    rw [World.size_alloc] at this
    exact this.alloc _
  have A2 : BAt O (w.heap.size + 1 + 1) [.bool false, .slice none 0 0] := by
    rw [hO]
    have := BAt.new ((w.alloc (.cells #[.bool b, v] 24)).alloc (.cells #[.bool false, .slice none 0 0] 29)) #[.bool false, .slice none 0 0] 29
    rw [World.size_alloc, World.size_alloc] at this
    exact this
  have CT : Hid (∀ W, Below w.heap.size w W → Calls Tryd.prog 12 #[v] W fun e w' => ∃ v', e = .returned v' ∧ w'.ownsRow W.heap.size 35 2 v' l.length (ecells l) ∧ Below W.heap.size W w') := fun W hW => toEnts l v W hn (h.below hW)
  obtain ⟨va, vc, rfl⟩ := h.slice
  clear h
  go_enter Tryd.func6, Tryd.ntmps6
  go_upto_region 2 with fail
  rw [← hO]
  clear hO
  have a0 := A0.1 0 _ rfl
  have a1 := A0.1 1 _ rfl
  have r2 := A2.1 0 _ rfl
  have f2 := A2.2.1
  obtain ⟨O1, hO1⟩ : ∃ O1, O1 = O.setCell ⟨w.heap.size + 1 + 1, 0, none⟩ (.bool b) := ⟨_, rfl⟩
  have b1 : Below w.heap.size w O1 := by rw [hO1]; exact hbO.setCell (by simp; omega) _
  have D0 : BAt O1 w.heap.size [.bool b, .slice va l.length vc] := by rw [hO1]; exact A0.other (by omega) _ _
  have D1 : BAt O1 (w.heap.size + 1) [.bool false, .slice none 0 0] := by rw [hO1]; exact A1.other (by omega) _ _
  have D2 : BAt O1 (w.heap.size + 1 + 1) [.bool b, .slice none 0 0] := by rw [hO1]; exact A2.set 0 (by simp) _
  have hz1 : O1.heap.size = w.heap.size + 3 := by rw [hO1]; simpa using hzO
  go_upto_region 3 with fail
  rw [← hO1]
  clear hO1 A0 A1 A2 a0 a1 r2 f2 hbO hzO
  have d1 := D0.1 1 _ rfl
  have HZ1 : Hid (O1.heap.size = w.heap.size + 3) := hz1
  clear hz1
  go_wp2_with fail
  refine (CT.out _ b1).mono ?_
  rintro e w1 ⟨v', rfl, hown, bb⟩
  obtain ⟨ao', cap', rfl⟩ := (EntRow.of_own' hown).slice
  have B1 := b1.trans (bb.mono b1.size)
  have E1 := D1.below bb
  have E2 := D2.below bb
  have HO : Hid (w1.ownsRow O1.heap.size 35 2 (.slice ao' l.length cap') l.length (ecells l)) := hown
  have hzz := bb.size
  clear hown CT D0 D1 D2 bb b1 d1
  have r0 := E1.1 0 _ rfl
  have r1 := E1.1 1 _ rfl
  have f1 := E1.2.1
  have o0 := E2.1 0 _ rfl
  have o1 := E2.1 1 _ rfl
  have f2 := E2.2.1
  go_wp2_with fail
  refine bodyPost_ret (map_result1 rfl _ _ (w.heap.size + 1) (.bool b) (.slice ao' l.length cap') rfl (((E1.other (by omega) 1 _).set 0 (by simp) _).set 1 (by simp) _)) rfl ⟨_, _, rfl, ?_, ?_⟩
  · have hz := HZ1.out
    have k0 := HO.out
    have k1 := own_put k0 (C := w.heap.size + 1 + 1) (by omega) 1 (.slice ao' l.length cap')
    have k2 := own_put k1 (C := w.heap.size + 1) (by omega) 0 (.bool b)
    have k3 := own_put k2 (C := w.heap.size + 1) (by omega) 1 (.slice ao' l.length cap')
    exact ⟨k3.1, k3.2.imp id fun ⟨g, cap, cur, h1, h2, h3⟩ => ⟨g, cap, cur, h1, by omega, h3⟩⟩
  · exact ((B1.setCell (by simp; omega) _).setCell (by simp) _).setCell (by simp) _
set_option maxHeartbeats 2000000 in
theorem eqMap (b : Bool) (l : List EV) (va vb : Value) (w : World) (hl : l.length ≤ 1099511627776) (ha : EntRow w va l) (hb : EntRow w vb l) :
    Calls Tryd.prog 8 #[.agg #[.bool b, va], .agg #[.bool b, vb]] w fun e w' => e = .returned (.bool true) ∧ Below w.heap.size w w' := by
  obtain ⟨O, hO⟩ : ∃ O, O = (w.alloc (.cells #[.bool b, va] 29)).alloc (.cells #[.bool b, vb] 29) := ⟨_, rfl⟩
  have hbO : Below w.heap.size w O := by rw [hO]; exact ((Below.refl _ _).alloc (Nat.le_refl _) _).alloc (by simp) _
  have CE : Hid (∀ W, Below w.heap.size w W → Calls Tryd.prog 18 #[va, vb] W fun e w' => e = .returned (.bool true) ∧ Below W.heap.size W w') := fun W hW => eqEnts l va vb W hl (ha.below hW) (hb.below hW)
  have A0 : BAt O w.heap.size [.bool b, va] := by rw [hO]; exact (BAt.new w #[.bool b, va] _).alloc _
  have A1 : BAt O (w.heap.size + 1) [.bool b, vb] := by
    rw [hO]
    have := BAt.new (w.alloc (.cells #[.bool b, va] 29)) #[.bool b, vb] 29
    rw [World.size_alloc] at this
    exact this
  obtain ⟨ao, ac, rfl⟩ := ha.slice
  obtain ⟨bo, bc, rfl⟩ := hb.slice
  have hbb : (b != b) = false := by cases b <;> rfl
  clear ha hb
  go_enter Tryd.func8, Tryd.ntmps8
  go_upto_region 1 with fail
  rw [← hO]
  clear hO
  have a0 := A0.1 0 _ rfl
  have a1 := A0.1 1 _ rfl
  have a2 := A1.1 0 _ rfl
  have a3 := A1.1 1 _ rfl
  clear A0 A1
  go_wp2_with fail
  refine (CE.out _ hbO).mono ?_
  rintro e w1 ⟨rfl, b1⟩
  go_wp2_with fail
  go_ret
  exact ⟨rfl, hbO.trans (b1.mono hbO.size)⟩
end Go.Proofs.YtfdgehlobbeomaaDoor
