/- Parse6Spec, Par6Impl, MaxLaid, LaidPow, Parse6Impl, ArrMarks, Par6Eight. -/
import Derived.Test.YtidecdlaeomfoaaGreatQA14
import Derived.Lib.IndexMore
import Derived.ProofKit
import Derived.Lib.LaidIn
import Derived.Lib.LaidTab
import Derived.Lib.LaidU8
import Derived.Deep.DeepHandedRow
import Derived.Deep.DeepWitnessRowRef
import Derived.Laws.CopyOwn
set_option maxHeartbeats 8000000
set_option maxRecDepth 20000
namespace Go.Proofs.YtidecdlaeomfoaaGreat
open Go.RowKit
def parV (r : Option (List Nat)) : Value := match r with
 | none => .tuple #[.agg #[.int .i64 0, .int .i64 0, .int .i64 0, .int .i64 0, .int .i64 0, .int .i64 0, .int .i64 0, .int .i64 0], .bool false]
 | some gs => .tuple #[.agg ((toI gs).map (Value.int .i64)).toArray, .bool true]
def ArrAt (w : World) (B : Nat) (z : List Int) : Prop := z.length = 8 ∧ ∀ j, j < 8 → w.cell? ⟨B, j, none⟩ = some (.int .i64 (z.getD j 0)) ∧ w.frozen? ⟨B, j, none⟩ = false
theorem frozen_later {w w' : World} (hb : Below w.heap.size w w') {B j : Nat} {v : Value} (hc : w.cell? ⟨B, j, none⟩ = some v) (h : w.frozen? ⟨B, j, none⟩ = false) : w'.frozen? ⟨B, j, none⟩ = false := by
 have hB : B < w.heap.size := World.block_lt_of_cell? w ⟨B, j, none⟩ hc
 have e := hb.block B hB
 unfold World.frozen? at h ⊢
 simp only [e]
 exact h
theorem ArrAt.later {w w' : World} {B : Nat} {z : List Int} (h : ArrAt w B z) (hb : Below w.heap.size w w') : ArrAt w' B z :=
 ⟨h.1, fun j hj => ⟨cell_later hb (h.2 j hj).1, frozen_later hb (h.2 j hj).1 (h.2 j hj).2⟩⟩
theorem ArrAt.set {w : World} {B : Nat} {z : List Int} (h : ArrAt w B z) (k : Nat) (hk : k < 8) (x : Int) : ArrAt (w.setCell ⟨B, k, none⟩ (.int .i64 x)) B (z.set k x) := by
 refine ⟨by rw [List.length_set]; exact h.1, fun j hj => ⟨?_, by rw [World.frozen?_setCell]; exact (h.2 j hj).2⟩⟩
 by_cases e : k = j
 ·subst e
  rw [World.cell?_setCell_same' _ _ _ (by rw [(h.2 k hk).1]; rfl)]
  simp [List.getD, h.1, hk]
 rw [World.cell?_setCell_other _ _ _ _ (fun h => e (by injection h)), (h.2 j hj).1]
 simp [List.getD, List.getElem?_set_ne e]
theorem arr_new (w : World) : ArrAt (w.alloc (.cells #[.int .i64 0, .int .i64 0, .int .i64 0, .int .i64 0, .int .i64 0, .int .i64 0, .int .i64 0, .int .i64 0] 65)) w.heap.size [0, 0, 0, 0, 0, 0, 0, 0] :=
 ⟨rfl, fun j hj => ⟨cell8 w 0 0 0 0 0 0 0 0 j hj, World.frozen?_alloc_new _ _ _ _⟩⟩
def padA (l : List Int) (k : Nat) : List Int := l.take k ++ List.replicate (8 - k) 0
theorem padA_set {l : List Int} {k : Nat} (h : k < l.length) (h8 : l.length ≤ 8) : (padA l k).set k (l.getD k 0) = padA l (k + 1) := by
 unfold padA
 have h1 : (l.take k).length = k := by rw [List.length_take]; omega
 rw [List.set_append_right _ _ (by omega), h1, Nat.sub_self, show 8 - k = (8 - (k + 1)) + 1 by omega, List.replicate_succ, List.set_cons_zero, ztake_snoc l k h]
 simp
theorem padA_full {l : List Int} (h : l.length = 8) : padA l 8 = l := by unfold padA; rw [List.take_of_length_le (by omega)]; simp
def padB (z b : List Int) (i : Nat) : List Int := z.take (8 - b.length) ++ b.take i ++ z.drop (8 - b.length + i)
theorem padB_set {z b : List Int} {i : Nat} (hz : z.length = 8) (hb : b.length ≤ 8) (h : i < b.length) : (padB z b i).set (8 - b.length + i) (b.getD i 0) = padB z b (i + 1) := by
 unfold padB
 have h1 : (z.take (8 - b.length) ++ b.take i).length = 8 - b.length + i := by rw [List.length_append, List.length_take, List.length_take]; omega
 have h2 : z.drop (8 - b.length + i) = z.getD (8 - b.length + i) 0 :: z.drop (8 - b.length + i + 1) := by
  rw [List.drop_eq_getElem_cons (by omega)]
  simp [List.getD, show 8 - b.length + i < z.length by omega]
 rw [List.set_append_right _ _ (by omega), h1, Nat.sub_self, h2, List.set_cons_zero, ztake_snoc b i h, show 8 - b.length + (i + 1) = 8 - b.length + i + 1 by omega]
 simp
theorem padB_zero {z b : List Int} : padB z b 0 = z := by unfold padB; simp
theorem padB_full {a b : List Int} (h : a.length + b.length ≤ 7) : padB (padA a a.length) b b.length = a ++ List.replicate (8 - a.length - b.length) 0 ++ b := by
 unfold padB padA
 rw [List.take_length, List.take_length]
 have h1 : (a ++ List.replicate (8 - a.length) 0).take (8 - b.length) = a ++ List.replicate (8 - a.length - b.length) (0 : Int) := by
  rw [List.take_append, List.take_of_length_le (by omega), List.take_replicate, show min (8 - b.length - a.length) (8 - a.length) = 8 - a.length - b.length by omega]
 rw [h1, List.drop_of_length_le (by simp; omega)]
 simp
theorem toI_fill (a b : List Nat) : toI (fill8 a b) = toI a ++ List.replicate (8 - (toI a).length - (toI b).length) 0 ++ toI b := by
 unfold toI fill8
 simp
theorem padA_len {l : List Int} {k : Nat} (hk : k ≤ l.length) (h8 : l.length ≤ 8) : (padA l k).length = 8 := by
 unfold padA; simp; omega
theorem par6_none {l : List UInt8} (h : dblN l = none) : par6 l = match grpS true l with
  | none => none
  | some g => if g.length = 8 then some g else none := by
 unfold par6
 rw [dbl_cut, h]
 rfl
theorem par6_some {l : List UInt8} {k : Nat} (h : dblN l = some k) : par6 l = match grpS false (l.take k), grpS true (l.drop (k + 2)) with
  | some x, some y => if x.length + y.length ≤ 7 then some (fill8 x y) else none
  | _, _ => none := by
 unfold par6
 rw [dbl_cut, h]
 rfl
theorem hid_arr {w : World} {B : Nat} {z : List Int} (h : ArrAt w B z) : Hid (ArrAt w B z) := h
theorem arr_store {W : World} {B : Nat} {z : List Int} (h : ArrAt W B z) (x0 x1 x2 x3 x4 x5 x6 x7 : Int) : ArrAt ((((((((W.setCell ⟨B, 0, none⟩ (.int .i64 x0)).setCell ⟨B, 1, none⟩ (.int .i64 x1)).setCell ⟨B, 2, none⟩ (.int .i64 x2)).setCell ⟨B, 3, none⟩ (.int .i64 x3)).setCell ⟨B, 4, none⟩ (.int .i64 x4)).setCell ⟨B, 5, none⟩ (.int .i64 x5)).setCell ⟨B, 6, none⟩ (.int .i64 x6)).setCell ⟨B, 7, none⟩ (.int .i64 x7)) B [x0, x1, x2, x3, x4, x5, x6, x7] := by
 have h1 := (((((((h.set 0 (by decide) x0).set 1 (by decide) x1).set 2 (by decide) x2).set 3 (by decide) x3).set 4 (by decide) x4).set 5 (by decide) x5).set 6 (by decide) x6).set 7 (by decide) x7
 obtain ⟨a, b, c, d, e, f, g, i, rfl⟩ : ∃ a b c d e f g i : Int, z = [a, b, c, d, e, f, g, i] := by
  match z, h.1 with
  | [a, b, c, d, e, f, g, i], _ => exact ⟨a, b, c, d, e, f, g, i, rfl⟩
 exact h1
theorem below_store {n : Nat} {w W : World} (h : Below n w W) {B : Nat} (hB : n ≤ B) (x0 x1 x2 x3 x4 x5 x6 x7 : Int) : Below n w ((((((((W.setCell ⟨B, 0, none⟩ (.int .i64 x0)).setCell ⟨B, 1, none⟩ (.int .i64 x1)).setCell ⟨B, 2, none⟩ (.int .i64 x2)).setCell ⟨B, 3, none⟩ (.int .i64 x3)).setCell ⟨B, 4, none⟩ (.int .i64 x4)).setCell ⟨B, 5, none⟩ (.int .i64 x5)).setCell ⟨B, 6, none⟩ (.int .i64 x6)).setCell ⟨B, 7, none⟩ (.int .i64 x7)) := by
 have st : ∀ (U : World) (j : Nat) (x : Value), Below n w U → Below n w (U.setCell ⟨B, j, none⟩ x) := fun U j x hU => hU.setCell (p := ⟨B, j, none⟩) hB _
 exact st _ _ _ (st _ _ _ (st _ _ _ (st _ _ _ (st _ _ _ (st _ _ _ (st _ _ _ (st _ _ _ h)))))))
theorem arr_results {fn : Func} {p q : Tmp} (h : fn.results = #[.cell p 65, .tmp q]) (tmps : Array Value) (W : World) (B : Nat) (b : Bool) (x0 x1 x2 x3 x4 x5 x6 x7 : Int)
  (hp : tmps[p]?.getD undef = .pointer (some ⟨B, 0, none⟩)) (hq : tmps[q]?.getD undef = .bool b) (ha : ArrAt W B [x0, x1, x2, x3, x4, x5, x6, x7]) :
  (results fn tmps).run Tryz.prog W = .ok (.tuple #[.agg #[.int .i64 x0, .int .i64 x1, .int .i64 x2, .int .i64 x3, .int .i64 x4, .int .i64 x5, .int .i64 x6, .int .i64 x7], .bool b]) W := by
 have c0 := (ha.2 0 (by decide)).1
 have c1 := (ha.2 1 (by decide)).1
 have c2 := (ha.2 2 (by decide)).1
 have c3 := (ha.2 3 (by decide)).1
 have c4 := (ha.2 4 (by decide)).1
 have c5 := (ha.2 5 (by decide)).1
 have c6 := (ha.2 6 (by decide)).1
 have c7 := (ha.2 7 (by decide)).1
 simp at c0 c1 c2 c3 c4 c5 c6 c7
 simp [results, h, hp, hq, asAddr, go_sem, c0, c1, c2, c3, c4, c5, c6, c7, Addr.add_lit]
theorem ArrAt.other {w : World} {B : Nat} {z : List Int} (h : ArrAt w B z) {B' : Nat} (hne : B ≠ B') (j : Nat) (x : Value) : ArrAt (w.setCell ⟨B', j, none⟩ x) B z :=
 ⟨h.1, fun i hi => ⟨by rw [World.cell?_setCell_other _ _ _ _ (fun h => hne (by injection h with h1 _; exact h1.symm))]; exact (h.2 i hi).1, by rw [World.frozen?_setCell]; exact (h.2 i hi).2⟩⟩
theorem arr_list {w : World} {B : Nat} {z : List Int} (h : ArrAt w B z) : ∃ a b c d e f g i : Int, z = [a, b, c, d, e, f, g, i] := by
 match z, h.1 with
 | [a, b, c, d, e, f, g, i], _ => exact ⟨a, b, c, d, e, f, g, i, rfl⟩
def RowAt (w : World) (B : Nat) (ao : Option Addr) (z : List Int) : Prop := 0 < z.length → ∃ g, ao = some ⟨g, 0, none⟩ ∧ B ≤ g ∧ ∀ j, j < z.length → w.cell? ⟨g, j, none⟩ = some (.int .i64 (z.getD j 0))
theorem RowAt.later {w w' : World} {B : Nat} {ao : Option Addr} {z : List Int} (h : RowAt w B ao z) (hb : Below w.heap.size w w') : RowAt w' B ao z := fun h0 => by
 obtain ⟨g, h1, h2, h3⟩ := h h0
 exact ⟨g, h1, h2, fun j hj => cell_later hb (h3 j hj)⟩
theorem RowAt.other {w : World} {B : Nat} {ao : Option Addr} {z : List Int} (h : RowAt w B ao z) {B' : Nat} (hB : B' < B) (i : Nat) (x : Value) : RowAt (w.setCell ⟨B', i, none⟩ x) B ao z := fun h0 => by
 obtain ⟨g, h1, h2, h3⟩ := h h0
 refine ⟨g, h1, h2, fun j hj => ?_⟩
 rw [World.cell?_setCell_other _ _ _ _ (fun h => by injection h; omega)]
 exact h3 j hj
theorem row_view {w : World} {B : Nat} {e : TypeId} {v : Value} {n : Nat} {z : List Int} (h : w.ownsRow B e 1 v n (icells z)) (hz : z.length = n) : ∃ ao cap, v = .slice ao n cap ∧ RowAt w B ao z := by
 rcases own_shape h with ⟨h0, _, ao, cap, rfl⟩ | ⟨h0, g, cap, rfl⟩
 ·exact ⟨ao, cap, by rw [h0], fun h1 => by omega⟩
 exact ⟨_, cap, rfl, fun _ => ⟨g, rfl, (h.lt g rfl).1, fun j hj => icell_at h j (by omega)⟩⟩
theorem specParseIp6 (s : ByteArray) (w : World) (hs : s.size ≤ 1048576) :
  Calls Tryz.prog 58 #[.string s] w fun e w' => e = .returned (parV (par6 s.data.toList)) ∧ Below w.heap.size w w' := by
 have CD : Hid (∀ W, CB 72 #[.string s] W (.int .i64 (dblZ (dblN s.data.toList)))) := fun W => specDouble s W hs
 have AR : Hid (ArrAt ((w.alloc (.cells #[.int .i64 0, .int .i64 0, .int .i64 0, .int .i64 0, .int .i64 0, .int .i64 0, .int .i64 0, .int .i64 0] 65)).alloc (.cells #[.int .i64 0, .int .i64 0, .int .i64 0, .int .i64 0, .int .i64 0, .int .i64 0, .int .i64 0, .int .i64 0] 65)) w.heap.size [0, 0, 0, 0, 0, 0, 0, 0]) := (arr_new w).later ((Below.refl _ _).alloc (Nat.le_refl _) _)
 have AO : Hid (ArrAt ((w.alloc (.cells #[.int .i64 0, .int .i64 0, .int .i64 0, .int .i64 0, .int .i64 0, .int .i64 0, .int .i64 0, .int .i64 0] 65)).alloc (.cells #[.int .i64 0, .int .i64 0, .int .i64 0, .int .i64 0, .int .i64 0, .int .i64 0, .int .i64 0, .int .i64 0] 65)) (w.heap.size + 1) [0, 0, 0, 0, 0, 0, 0, 0]) := by
  have h := arr_new (w.alloc (.cells #[.int .i64 0, .int .i64 0, .int .i64 0, .int .i64 0, .int .i64 0, .int .i64 0, .int .i64 0, .int .i64 0] 65))
  rw [show (w.alloc (.cells #[.int .i64 0, .int .i64 0, .int .i64 0, .int .i64 0, .int .i64 0, .int .i64 0, .int .i64 0, .int .i64 0] 65)).heap.size = w.heap.size + 1 by simp] at h
  exact h
 have B0 : Hid (Below w.heap.size w ((w.alloc (.cells #[.int .i64 0, .int .i64 0, .int .i64 0, .int .i64 0, .int .i64 0, .int .i64 0, .int .i64 0, .int .i64 0] 65)).alloc (.cells #[.int .i64 0, .int .i64 0, .int .i64 0, .int .i64 0, .int .i64 0, .int .i64 0, .int .i64 0, .int .i64 0] 65))) := ((Below.refl _ w).alloc (Nat.le_refl _) _).alloc (by simp) _
 have Z0 : Hid (((w.alloc (.cells #[.int .i64 0, .int .i64 0, .int .i64 0, .int .i64 0, .int .i64 0, .int .i64 0, .int .i64 0, .int .i64 0] 65)).alloc (.cells #[.int .i64 0, .int .i64 0, .int .i64 0, .int .i64 0, .int .i64 0, .int .i64 0, .int .i64 0, .int .i64 0] 65)).heap.size = w.heap.size + 2) := by show _ = _; simp
 cases hd : dblN s.data.toList with
 | none =>
  rw [hd] at CD
  have CG : Hid (∀ W, Calls Tryz.prog 73 #[.string s, .bool true] W fun e w' => grpAns W w' (grpS true s.data.toList) e ∧ Below W.heap.size W w') := fun W => specGroups s true W hs
  have HP : Hid (par6 s.data.toList = match grpS true s.data.toList with
   | none => none
   | some g => if g.length = 8 then some g else none) := par6_none hd
  generalize grpS true s.data.toList = r at CG HP
  clear hd
  simp only [dblZ] at CD
  go_enter Tryz.func58, Tryz.ntmps58
  go_wp2_with fail
  refine (CD.out _).mono ?_
  rintro e w1 ⟨rfl, b1⟩
  go_wp2_with fail
  refine (CG.out _).mono ?_
  rintro e w2 ⟨⟨v, l, rfl, ol, hll, hrl⟩, b2⟩
  have b12 := b1.trans (b2.mono b1.size)
  have RA := AR.out.later b12
  have OA := AO.out.later b12
  have B2 := B0.out.trans (b12.mono B0.out.size)
  have HRL : Hid (∀ gs, r = some gs → l = gs) := hrl
  have z1 : w.heap.size + 2 ≤ w1.heap.size := by have := Z0.out; have := b1.size; omega
  clear b12 b2 b1 hrl
  by_cases h8 : l.length = 8
  ·rcases own_shape ol with ⟨h, _⟩ | ⟨_, g, cap, rfl⟩
   ·omega
   have hg := (ol.lt g rfl).1
   have HCL : Hid (∀ j, j < 8 → w2.cell? ⟨g, j, none⟩ = some (.int .i64 ((toI l).getD j 0))) := fun j hj => icell_at ol j (by omega)
   have HTL : Hid ((toI l).length = 8) := by show _ = _; rw [toI_len]; exact h8
   have HH8 : Hid (l.length = 8) := h8
   rw [h8]
   have HRA := hid_arr RA
   have HOA := hid_arr OA
   have HB2 : Hid (Below w.heap.size w w2) := B2
   clear ol h8 RA OA B2 CD CG AR AO B0 Z0 hll
   go_wp2_with fail
   go_loopw [8] (fun i wr => ∃ k : Nat, k ≤ 8 ∧ i = .int .i64 k ∧ ArrAt wr (w.heap.size + 1) (padA (toI l) k) ∧ ArrAt wr w.heap.size [0, 0, 0, 0, 0, 0, 0, 0] ∧ (∀ j, j < 8 → wr.cell? ⟨g, j, none⟩ = some (.int .i64 ((toI l).getD j 0))) ∧ Below w.heap.size w wr) (fun i _ => 8 - (intOf i).toNat)
   case atStart => exact ⟨0, Nat.zero_le _, rfl, HOA.out, HRA.out, HCL.out, HB2.out⟩
   obtain ⟨k, hk, rfl, oa, ra, hcl, hbel⟩ := hrel
   have HOW := hid_arr oa
   have HRW := hid_arr ra
   have HCW : Hid (∀ j, j < 8 → wr.cell? ⟨g, j, none⟩ = some (.int .i64 ((toI l).getD j 0))) := hcl
   clear oa ra hcl HRA HOA HCL HB2
   by_cases hlt : k < 8
   ·have hc := HCW.out k hlt
    have ho := (HOW.out.2 k hlt).1
    have hof := (HOW.out.2 k hlt).2
    have HPS : Hid ((padA (toI l) k).set k ((toI l).getD k 0) = padA (toI l) (k + 1)) := padA_set (by have := HTL.out; omega) (by have := HTL.out; omega)
    have hki : (k : Int) < 8 := by omega
    generalize (toI l).getD k 0 = y at hc HPS
    generalize (padA (toI l) k).getD k 0 = y0 at ho
    go_wp2_with fail
    go_roundw
    case rel =>
     refine ⟨k + 1, by omega, by go_num, ?_, ?_, ?_, ?_⟩
     ·have h := HOW.out.set k hlt y
      rw [HPS.out] at h
      exact h
     ·exact HRW.out.other (by omega) _ _
     ·intro j hj
      rw [World.cell?_setCell_other _ _ _ _ (fun h => by injection h; omega)]
      exact HCW.out j hj
     exact hbel.setCell (p := ⟨w.heap.size + 1, k, none⟩) (by simp) _
    case measure => simp [intOf]; omega
   have hki : ¬ (k : Int) < 8 := by omega
   obtain rfl : k = 8 := by omega
   generalize hq : r.isSome = q at *
   cases q with
   | true =>
    obtain ⟨gs, hgs⟩ := Option.isSome_iff_exists.1 hq
    have hlg := HRL.out gs hgs
    have HZ : Hid (parV (par6 s.data.toList) = .tuple #[.agg ((toI l).map (Value.int .i64)).toArray, .bool true]) := by
     show _ = _
     rw [HP.out, hgs]
     simp only
     rw [if_pos (by rw [← hlg]; exact HH8.out), hlg]
     rfl
    have OA8 := HOW.out
    rw [padA_full HTL.out] at OA8
    obtain ⟨x0, x1, x2, x3, x4, x5, x6, x7, hx⟩ := arr_list OA8
    rw [hx] at OA8 HZ
    have HRQ : Hid (r.isSome = true) := hq
    clear hq hgs hlg hx HOW HCW
    have HOA8 := hid_arr OA8
    have o0 := (OA8.2 0 (by decide)).1
    have o1 := (OA8.2 1 (by decide)).1
    have o2 := (OA8.2 2 (by decide)).1
    have o3 := (OA8.2 3 (by decide)).1
    have o4 := (OA8.2 4 (by decide)).1
    have o5 := (OA8.2 5 (by decide)).1
    have o6 := (OA8.2 6 (by decide)).1
    have o7 := (OA8.2 7 (by decide)).1
    clear OA8
    simp only [List.getD_eq_getElem?_getD, List.getElem?_cons_zero, List.getElem?_cons_succ, Option.getD_some] at o0 o1 o2 o3 o4 o5 o6 o7
    have RA := HRW.out
    have r0 := (RA.2 0 (by decide)).1
    have r1 := (RA.2 1 (by decide)).1
    have r2 := (RA.2 2 (by decide)).1
    have r3 := (RA.2 3 (by decide)).1
    have r4 := (RA.2 4 (by decide)).1
    have r5 := (RA.2 5 (by decide)).1
    have r6 := (RA.2 6 (by decide)).1
    have r7 := (RA.2 7 (by decide)).1
    have f0 := (RA.2 0 (by decide)).2
    have f1 := (RA.2 1 (by decide)).2
    have f2 := (RA.2 2 (by decide)).2
    have f3 := (RA.2 3 (by decide)).2
    have f4 := (RA.2 4 (by decide)).2
    have f5 := (RA.2 5 (by decide)).2
    have f6 := (RA.2 6 (by decide)).2
    have f7 := (RA.2 7 (by decide)).2
    have HRA := hid_arr RA
    clear RA
    go_wp2_with fail
    refine bodyPost_ret (arr_results rfl _ _ w.heap.size true x0 x1 x2 x3 x4 x5 x6 x7 rfl rfl (arr_store HRA.out x0 x1 x2 x3 x4 x5 x6 x7)) rfl ⟨by rw [HZ.out]; rfl, below_store hbel (Nat.le_refl _) x0 x1 x2 x3 x4 x5 x6 x7⟩
   | false =>
    have HZ : Hid (parV (par6 s.data.toList) = parV none) := by
     show _ = _
     rw [HP.out]
     cases hr : r with
     | none => rfl
     | some gs => rw [hr] at hq; cases hq
    clear hq
    have RA := HRW.out
    have r0 := (RA.2 0 (by decide)).1
    have r1 := (RA.2 1 (by decide)).1
    have r2 := (RA.2 2 (by decide)).1
    have r3 := (RA.2 3 (by decide)).1
    have r4 := (RA.2 4 (by decide)).1
    have r5 := (RA.2 5 (by decide)).1
    have r6 := (RA.2 6 (by decide)).1
    have r7 := (RA.2 7 (by decide)).1
    have f0 := (RA.2 0 (by decide)).2
    have f1 := (RA.2 1 (by decide)).2
    have f2 := (RA.2 2 (by decide)).2
    have f3 := (RA.2 3 (by decide)).2
    have f4 := (RA.2 4 (by decide)).2
    have f5 := (RA.2 5 (by decide)).2
    have f6 := (RA.2 6 (by decide)).2
    have f7 := (RA.2 7 (by decide)).2
    have HRA := hid_arr RA
    clear RA
    go_wp2_with fail
    refine bodyPost_ret (arr_results rfl _ _ w.heap.size false 0 0 0 0 0 0 0 0 rfl rfl (arr_store HRA.out 0 0 0 0 0 0 0 0)) rfl ⟨by rw [HZ.out]; rfl, below_store hbel (Nat.le_refl _) 0 0 0 0 0 0 0 0⟩
  have HZ : Hid (parV (par6 s.data.toList) = parV none) := by
   show _ = _
   rw [HP.out]
   cases hr : r with
   | none => rfl
   | some gs =>
    simp only
    rw [if_neg (by rw [← HRL.out gs hr]; exact h8)]
  have h8' : ((l.length : Int) == 8) = false := by simp; omega
  have r0 := (RA.2 0 (by decide)).1
  have r1 := (RA.2 1 (by decide)).1
  have r2 := (RA.2 2 (by decide)).1
  have r3 := (RA.2 3 (by decide)).1
  have r4 := (RA.2 4 (by decide)).1
  have r5 := (RA.2 5 (by decide)).1
  have r6 := (RA.2 6 (by decide)).1
  have r7 := (RA.2 7 (by decide)).1
  have f0 := (RA.2 0 (by decide)).2
  have f1 := (RA.2 1 (by decide)).2
  have f2 := (RA.2 2 (by decide)).2
  have f3 := (RA.2 3 (by decide)).2
  have f4 := (RA.2 4 (by decide)).2
  have f5 := (RA.2 5 (by decide)).2
  have f6 := (RA.2 6 (by decide)).2
  have f7 := (RA.2 7 (by decide)).2
  have HRA := hid_arr RA
  clear RA
  rcases own_shape ol with ⟨h, _, ao, cap, rfl⟩ | ⟨hpl, g, cap, rfl⟩
  ·generalize r.isSome = q at *
   clear ol OA h8' h8 h
   cases q with
   | true =>
    go_wp2_with fail
    refine wp_loop_rounds 1 ?_
    rw [rounds_succ]
    go_wp2_with fail
    refine bodyPost_ret (arr_results rfl _ _ w.heap.size false 0 0 0 0 0 0 0 0 rfl rfl (arr_store HRA.out 0 0 0 0 0 0 0 0)) rfl ⟨by rw [HZ.out]; rfl, below_store B2 (Nat.le_refl _) 0 0 0 0 0 0 0 0⟩
   | false =>
    go_wp2_with fail
    refine wp_loop_rounds 1 ?_
    rw [rounds_succ]
    go_wp2_with fail
    refine bodyPost_ret (arr_results rfl _ _ w.heap.size false 0 0 0 0 0 0 0 0 rfl rfl (arr_store HRA.out 0 0 0 0 0 0 0 0)) rfl ⟨by rw [HZ.out]; rfl, below_store B2 (Nat.le_refl _) 0 0 0 0 0 0 0 0⟩
  have hpl' : 0 < (l.length : Int) := by omega
  generalize r.isSome = q at *
  clear ol OA h8
  cases q with
  | true =>
   go_wp2_with fail
   refine wp_loop_rounds 1 ?_
   rw [rounds_succ]
   go_wp2_with fail
   refine bodyPost_ret (arr_results rfl _ _ w.heap.size false 0 0 0 0 0 0 0 0 rfl rfl (arr_store HRA.out 0 0 0 0 0 0 0 0)) rfl ⟨by rw [HZ.out]; rfl, below_store B2 (Nat.le_refl _) 0 0 0 0 0 0 0 0⟩
  | false =>
   go_wp2_with fail
   refine wp_loop_rounds 1 ?_
   rw [rounds_succ]
   go_wp2_with fail
   refine bodyPost_ret (arr_results rfl _ _ w.heap.size false 0 0 0 0 0 0 0 0 rfl rfl (arr_store HRA.out 0 0 0 0 0 0 0 0)) rfl ⟨by rw [HZ.out]; rfl, below_store B2 (Nat.le_refl _) 0 0 0 0 0 0 0 0⟩
 | some k =>
  have hk2 := dbl_lt hd
  have hsl : s.data.toList.length = s.size := by simp
  rw [hsl] at hk2
  have ea : (s.extract 0 k).data.toList = s.data.toList.take k := by rw [extract_list]; simp
  have eb : (s.extract (k + 2) s.size).data.toList = s.data.toList.drop (k + 2) := by rw [extract_list, take_all s s.size (Nat.le_refl _)]
  have CA : Hid (∀ W, Calls Tryz.prog 73 #[.string (s.extract 0 k), .bool false] W fun e w' => grpAns W w' (grpS false (s.data.toList.take k)) e ∧ Below W.heap.size W w') := fun W => by
   rw [← ea]
   exact specGroups _ false W (by rw [ByteArray.size_extract]; omega)
  have CB : Hid (∀ W, Calls Tryz.prog 73 #[.string (s.extract (k + 2) s.size), .bool true] W fun e w' => grpAns W w' (grpS true (s.data.toList.drop (k + 2))) e ∧ Below W.heap.size W w') := fun W => by
   rw [← eb]
   exact specGroups _ true W (by rw [ByteArray.size_extract]; omega)
  have HP : Hid (par6 s.data.toList = match grpS false (s.data.toList.take k), grpS true (s.data.toList.drop (k + 2)) with
   | some x, some y => if x.length + y.length ≤ 7 then some (fill8 x y) else none
   | _, _ => none) := par6_some hd
  rw [hd] at CD
  simp only [dblZ] at CD
  clear ea eb hsl hd
  generalize grpS false (s.data.toList.take k) = ra at CA HP
  generalize grpS true (s.data.toList.drop (k + 2)) = rb at CB HP
  have hk3 : (k : Int) + 2 ≤ (s.size : Int) := by omega
  have hk4 : ¬ (k : Int) < 0 := by omega
  go_enter Tryz.func58, Tryz.ntmps58
  go_wp2_with fail
  refine (CD.out _).mono ?_
  rintro e w1 ⟨rfl, b1⟩
  go_wp2_with fail
  refine (CA.out _).mono ?_
  rintro e w2 ⟨⟨va, la, rfl, oa, hla, hra⟩, b2⟩
  go_wp2_with fail
  refine (CB.out _).mono ?_
  rintro e w3 ⟨⟨vb, lb, rfl, ob, hlb, hrb⟩, b3⟩
  have b12 := b1.trans (b2.mono b1.size)
  have b13 := b12.trans (b3.mono b12.size)
  have AR3 := hid_arr (AR.out.later b13)
  have AO3 := hid_arr (AO.out.later b13)
  have B3 : Hid (Below w.heap.size w w3) := B0.out.trans (b13.mono B0.out.size)
  have oa' := own_below oa b3
  have z1 : w.heap.size + 2 ≤ w1.heap.size := by have := Z0.out; have := b1.size; omega
  have z2 : w.heap.size + 2 ≤ w2.heap.size := Nat.le_trans z1 b2.size
  obtain ⟨aoa, capa, rfl, ra0⟩ := row_view oa' (toI_len la)
  obtain ⟨aob, capb, rfl, rb0⟩ := row_view ob (toI_len lb)
  have HRA0 : Hid (RowAt w3 (w.heap.size + 2) aoa (toI la)) := fun h0 => by
   obtain ⟨g, h1, h2, h3⟩ := ra0 h0
   exact ⟨g, h1, by omega, h3⟩
  have HRB0 : Hid (RowAt w3 (w.heap.size + 2) aob (toI lb)) := fun h0 => by
   obtain ⟨g, h1, h2, h3⟩ := rb0 h0
   exact ⟨g, h1, by omega, h3⟩
  have HLA : Hid (∀ gs, ra = some gs → la = gs) := hra
  have HLB : Hid (∀ gs, rb = some gs → lb = gs) := hrb
  clear ra0 rb0 oa oa' ob b1 b2 b3 b12 b13 hra hrb AR AO B0 Z0 CA CB CD z1 z2
  cases ra with
  | none =>
   have HZ : Hid (parV (par6 s.data.toList) = parV none) := by show _ = _; rw [HP.out]
   simp only [Option.isSome_none]
   have RA := AR3.out
   have r0 := (RA.2 0 (by decide)).1
   have r1 := (RA.2 1 (by decide)).1
   have r2 := (RA.2 2 (by decide)).1
   have r3 := (RA.2 3 (by decide)).1
   have r4 := (RA.2 4 (by decide)).1
   have r5 := (RA.2 5 (by decide)).1
   have r6 := (RA.2 6 (by decide)).1
   have r7 := (RA.2 7 (by decide)).1
   have f0 := (RA.2 0 (by decide)).2
   have f1 := (RA.2 1 (by decide)).2
   have f2 := (RA.2 2 (by decide)).2
   have f3 := (RA.2 3 (by decide)).2
   have f4 := (RA.2 4 (by decide)).2
   have f5 := (RA.2 5 (by decide)).2
   have f6 := (RA.2 6 (by decide)).2
   have f7 := (RA.2 7 (by decide)).2
   have HRA := hid_arr RA
   clear RA
   go_wp2_with fail
   refine bodyPost_ret (arr_results rfl _ _ w.heap.size false 0 0 0 0 0 0 0 0 rfl rfl (arr_store HRA.out 0 0 0 0 0 0 0 0)) rfl ⟨by rw [HZ.out]; rfl, below_store B3.out (Nat.le_refl _) 0 0 0 0 0 0 0 0⟩
  | some ga =>
   cases rb with
   | none =>
    have HZ : Hid (parV (par6 s.data.toList) = parV none) := by show _ = _; rw [HP.out]
    simp only [Option.isSome_none, Option.isSome_some]
    have RA := AR3.out
    have r0 := (RA.2 0 (by decide)).1
    have r1 := (RA.2 1 (by decide)).1
    have r2 := (RA.2 2 (by decide)).1
    have r3 := (RA.2 3 (by decide)).1
    have r4 := (RA.2 4 (by decide)).1
    have r5 := (RA.2 5 (by decide)).1
    have r6 := (RA.2 6 (by decide)).1
    have r7 := (RA.2 7 (by decide)).1
    have f0 := (RA.2 0 (by decide)).2
    have f1 := (RA.2 1 (by decide)).2
    have f2 := (RA.2 2 (by decide)).2
    have f3 := (RA.2 3 (by decide)).2
    have f4 := (RA.2 4 (by decide)).2
    have f5 := (RA.2 5 (by decide)).2
    have f6 := (RA.2 6 (by decide)).2
    have f7 := (RA.2 7 (by decide)).2
    have HRA := hid_arr RA
    clear RA
    go_wp2_with fail
    refine bodyPost_ret (arr_results rfl _ _ w.heap.size false 0 0 0 0 0 0 0 0 rfl rfl (arr_store HRA.out 0 0 0 0 0 0 0 0)) rfl ⟨by rw [HZ.out]; rfl, below_store B3.out (Nat.le_refl _) 0 0 0 0 0 0 0 0⟩
   | some gb =>
    obtain rfl := HLA.out ga rfl
    obtain rfl := HLB.out gb rfl
    simp only [Option.isSome_some]
    by_cases h7 : la.length + lb.length ≤ 7
    ·have HZ : Hid (parV (par6 s.data.toList) = .tuple #[.agg ((toI (fill8 la lb)).map (Value.int .i64)).toArray, .bool true]) := by
      show _ = _
      rw [HP.out]
      simp only
      rw [if_pos h7]
      rfl
     have h7' : ¬ 7 < (la.length : Int) + (lb.length : Int) := by omega
     have HFIN : Hid (padB (padA (toI la) (toI la).length) (toI lb) (toI lb).length = toI (fill8 la lb)) := by
      show _ = _
      rw [padB_full (by rw [toI_len, toI_len]; exact h7), toI_fill]
     have HLL : Hid ((toI la).length = la.length ∧ (toI lb).length = lb.length) := ⟨toI_len la, toI_len lb⟩
     have hla7 : la.length ≤ 7 := by omega
     have hlb7 : lb.length ≤ 7 := by omega
     clear hla hlb HP HLA HLB hk2 hk3 hk4 h7
     go_wp2_with fail
     go_loopw [13] (fun i wr => ∃ k : Nat, k ≤ la.length ∧ i = .int .i64 k ∧ ArrAt wr (w.heap.size + 1) (padA (toI la) k) ∧ ArrAt wr w.heap.size [0, 0, 0, 0, 0, 0, 0, 0] ∧ RowAt wr (w.heap.size + 2) aoa (toI la) ∧ RowAt wr (w.heap.size + 2) aob (toI lb) ∧ Below w.heap.size w wr) (fun i _ => la.length - (intOf i).toNat)
     case atStart => exact ⟨0, Nat.zero_le _, rfl, AO3.out, AR3.out, HRA0.out, HRB0.out, B3.out⟩
     obtain ⟨i, hi, rfl, oa, ra, qa, qb, hbel⟩ := hrel
     have HOW := hid_arr oa
     have HRW := hid_arr ra
     have HQA : Hid (RowAt wr (w.heap.size + 2) aoa (toI la)) := qa
     have HQB : Hid (RowAt wr (w.heap.size + 2) aob (toI lb)) := qb
     clear oa ra qa qb HRA0 HRB0 AO3 AR3 B3
     by_cases hlt : i < la.length
     ·obtain ⟨g, rfl, hg1, hg2⟩ := HQA.out (by have := HLL.out; omega)
      have hc := hg2 i (by have := HLL.out; omega)
      have ho := (HOW.out.2 i (by omega)).1
      have hof := (HOW.out.2 i (by omega)).2
      have HPS : Hid ((padA (toI la) i).set i ((toI la).getD i 0) = padA (toI la) (i + 1)) := padA_set (by have := HLL.out; omega) (by have := HLL.out; omega)
      have hki : (i : Int) < (la.length : Int) := by omega
      clear hg2
      generalize (toI la).getD i 0 = y at hc HPS
      generalize (padA (toI la) i).getD i 0 = y0 at ho
      have hi8 : (i : Int) < 8 := by omega
      go_wp2_with fail
      go_roundw
      case rel =>
       refine ⟨i + 1, by omega, by go_num, ?_, HRW.out.other (by omega) _ _, HQA.out.other (by omega) _ _, HQB.out.other (by omega) _ _, ?_⟩
       ·have h := HOW.out.set i (by omega) y
        rw [HPS.out] at h
        exact h
       exact hbel.setCell (p := ⟨w.heap.size + 1, i, none⟩) (by simp) _
      case measure => simp [intOf]; omega
     have hki : ¬ (i : Int) < (la.length : Int) := by omega
     obtain rfl : i = la.length := by omega
     have HOW2 : Hid (ArrAt wr (w.heap.size + 1) (padB (padA (toI la) (toI la).length) (toI lb) 0)) := by
      have h := HOW.out
      rw [← HLL.out.1] at h
      rw [padB_zero]
      exact h
     have HB4 : Hid (Below w.heap.size w wr) := hbel
     have HPL : Hid ((padA (toI la) (toI la).length).length = 8) := padA_len (Nat.le_refl _) (by have := HLL.out; omega)
     clear HOW hlt hi hbel HQA
     generalize padA (toI la) (toI la).length = zz at HOW2 HPL HFIN
     go_wp2_with fail
     clear hki
     go_loopw [14] (fun i wr' => ∃ k : Nat, k ≤ lb.length ∧ i = .int .i64 k ∧ ArrAt wr' (w.heap.size + 1) (padB zz (toI lb) k) ∧ ArrAt wr' w.heap.size [0, 0, 0, 0, 0, 0, 0, 0] ∧ RowAt wr' (w.heap.size + 2) aob (toI lb) ∧ Below w.heap.size w wr') (fun i _ => lb.length - (intOf i).toNat)
     case atStart => exact ⟨0, Nat.zero_le _, rfl, HOW2.out, HRW.out, HQB.out, HB4.out⟩
     obtain ⟨i, hi, rfl, oa, ra, qb, hbel⟩ := hrel
     have HOW := hid_arr oa
     have HRW := hid_arr ra
     have HQB : Hid (RowAt wr (w.heap.size + 2) aob (toI lb)) := qb
     clear oa ra qb HOW2 HB4
     by_cases hlt : i < lb.length
     ·obtain ⟨g, rfl, hg1, hg2⟩ := HQB.out (by have := HLL.out; omega)
      have hc := hg2 i (by have := HLL.out; omega)
      obtain ⟨m, hm⟩ : ∃ m : Nat, 8 - lb.length + i = m := ⟨_, rfl⟩
      have hm8 : m < 8 := by omega
      have hmi : (8 : Int) - (lb.length : Int) + (i : Int) = (m : Int) := by omega
      have ho := (HOW.out.2 m hm8).1
      have hof := (HOW.out.2 m hm8).2
      have HPS : Hid ((padB zz (toI lb) i).set m ((toI lb).getD i 0) = padB zz (toI lb) (i + 1)) := by
       show _ = _
       have h := padB_set (z := zz) (b := toI lb) (i := i) HPL.out (by have := HLL.out; omega) (by have := HLL.out; omega)
       rw [HLL.out.2, hm] at h
       exact h
      have HM : Hid (8 - lb.length + i = m) := hm
      have hki : (i : Int) < (lb.length : Int) := by omega
      clear hg2 hm
      generalize (toI lb).getD i 0 = y at hc HPS
      generalize (padB zz (toI lb) i).getD m 0 = y0 at ho
      have hm8i : (m : Int) < 8 := by omega
      go_wp2_with fail
      go_roundw
      case rel =>
       refine ⟨i + 1, by omega, by go_num, ?_, HRW.out.other (by omega) _ _, HQB.out.other (by omega) _ _, ?_⟩
       ·have h := HOW.out.set m hm8 y
        rw [HPS.out] at h
        exact h
       exact hbel.setCell (p := ⟨w.heap.size + 1, m, none⟩) (by simp) _
      case measure => simp [intOf]; omega
     have hki : ¬ (i : Int) < (lb.length : Int) := by omega
     obtain rfl : i = lb.length := by omega
     have OA8 : ArrAt wr (w.heap.size + 1) (toI (fill8 la lb)) := by
      have h := HOW.out
      rw [← HLL.out.2, HFIN.out] at h
      exact h
     obtain ⟨x0, x1, x2, x3, x4, x5, x6, x7, hx⟩ := arr_list OA8
     rw [hx] at OA8 HZ
     clear HOW HFIN hx
     have o0 := (OA8.2 0 (by decide)).1
     have o1 := (OA8.2 1 (by decide)).1
     have o2 := (OA8.2 2 (by decide)).1
     have o3 := (OA8.2 3 (by decide)).1
     have o4 := (OA8.2 4 (by decide)).1
     have o5 := (OA8.2 5 (by decide)).1
     have o6 := (OA8.2 6 (by decide)).1
     have o7 := (OA8.2 7 (by decide)).1
     clear OA8
     simp only [List.getD_eq_getElem?_getD, List.getElem?_cons_zero, List.getElem?_cons_succ, Option.getD_some] at o0 o1 o2 o3 o4 o5 o6 o7
     have RA := HRW.out
     have r0 := (RA.2 0 (by decide)).1
     have r1 := (RA.2 1 (by decide)).1
     have r2 := (RA.2 2 (by decide)).1
     have r3 := (RA.2 3 (by decide)).1
     have r4 := (RA.2 4 (by decide)).1
     have r5 := (RA.2 5 (by decide)).1
     have r6 := (RA.2 6 (by decide)).1
     have r7 := (RA.2 7 (by decide)).1
     have f0 := (RA.2 0 (by decide)).2
     have f1 := (RA.2 1 (by decide)).2
     have f2 := (RA.2 2 (by decide)).2
     have f3 := (RA.2 3 (by decide)).2
     have f4 := (RA.2 4 (by decide)).2
     have f5 := (RA.2 5 (by decide)).2
     have f6 := (RA.2 6 (by decide)).2
     have f7 := (RA.2 7 (by decide)).2
     have HRA := hid_arr RA
     clear RA
     go_wp2_with fail
     refine bodyPost_ret (arr_results rfl _ _ w.heap.size true x0 x1 x2 x3 x4 x5 x6 x7 rfl rfl (arr_store HRA.out x0 x1 x2 x3 x4 x5 x6 x7)) rfl ⟨by rw [HZ.out]; rfl, below_store hbel (Nat.le_refl _) x0 x1 x2 x3 x4 x5 x6 x7⟩
    have HZ : Hid (parV (par6 s.data.toList) = parV none) := by
     show _ = _
     rw [HP.out]
     simp only
     rw [if_neg h7]
    have h7' : 7 < (la.length : Int) + (lb.length : Int) := by omega
    clear h7
    have RA := AR3.out
    have r0 := (RA.2 0 (by decide)).1
    have r1 := (RA.2 1 (by decide)).1
    have r2 := (RA.2 2 (by decide)).1
    have r3 := (RA.2 3 (by decide)).1
    have r4 := (RA.2 4 (by decide)).1
    have r5 := (RA.2 5 (by decide)).1
    have r6 := (RA.2 6 (by decide)).1
    have r7 := (RA.2 7 (by decide)).1
    have f0 := (RA.2 0 (by decide)).2
    have f1 := (RA.2 1 (by decide)).2
    have f2 := (RA.2 2 (by decide)).2
    have f3 := (RA.2 3 (by decide)).2
    have f4 := (RA.2 4 (by decide)).2
    have f5 := (RA.2 5 (by decide)).2
    have f6 := (RA.2 6 (by decide)).2
    have f7 := (RA.2 7 (by decide)).2
    have HRA := hid_arr RA
    clear RA
    go_wp2_with fail
    refine bodyPost_ret (arr_results rfl _ _ w.heap.size false 0 0 0 0 0 0 0 0 rfl rfl (arr_store HRA.out 0 0 0 0 0 0 0 0)) rfl ⟨by rw [HZ.out]; rfl, below_store B3.out (Nat.le_refl _) 0 0 0 0 0 0 0 0⟩


end Go.Proofs.YtidecdlaeomfoaaGreat
namespace Go.Proofs.YtidecdlaeomfoaaGreat
open Go.ChangeShapes Go.WideShapes Go.ChangeAt Go.RowKit Go.Lib
end Go.Proofs.YtidecdlaeomfoaaGreat
namespace Go.Proofs.YtidecdlaeomfoaaGreat
open Go.RowKit
theorem list_eight {z : List Int} (h : z.length = 8) : ∃ a b c d e f g i : Int, z = [a, b, c, d, e, f, g, i] := by
 match z, h with
 | [a, b, c, d, e, f, g, i], _ => exact ⟨a, b, c, d, e, f, g, i, rfl⟩

theorem par6_eight (l : List UInt8) : ∀ gs, par6 l = some gs → gs.length = 8 := by
 intro gs h
 unfold par6 at h
 split at h
 ·split at h
  ·cases h
  split at h
  ·cases h; assumption
  cases h
 split at h
 ·split at h
  ·cases h
   unfold fill8
   simp
   omega
  cases h
 cases h
end Go.Proofs.YtidecdlaeomfoaaGreat
