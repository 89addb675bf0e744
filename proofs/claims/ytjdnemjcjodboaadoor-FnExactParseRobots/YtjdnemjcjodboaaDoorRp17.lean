/- RobMark, RobMark2, RobSz, RobLen. -/
import Derived.Test.YtjdnemjcjodboaaDoorRp16
set_option maxHeartbeats 4000000
namespace Go.Proofs.YtjdnemjcjodboaaDoor
open Go.RowKit
set_option linter.unusedVariables false
def mkX (k : Nat) : LV := ⟨decide (k % 3 = 0), markS (k + 1)⟩
def mkL (k0 n : Nat) : List LV := (List.range n).map fun i => mkX (k0 + 2 * i)
theorem mkL_length (k0 n : Nat) : (mkL k0 n).length = n := by simp [mkL]
theorem mkL_succ (k0 n : Nat) : mkL k0 (n + 1) = mkL k0 n ++ [mkX (k0 + 2 * n)] := by simp [mkL, List.range_succ]
theorem mkL_at (k0 n : Nat) {i : Nat} (h : i < n) : (mkL k0 n).getD i lv0 = mkX (k0 + 2 * i) := by simp [mkL, List.getD, h]
theorem mkL_set (k0 : Nat) (l : List LV) (k : Nat) (h : k < l.length) : (mkL k0 k ++ l.drop k).set k (mkX (k0 + 2 * k)) = mkL k0 (k + 1) ++ l.drop (k + 1) := by
 rw [List.set_append_right _ _ (by rw [mkL_length]; exact Nat.le_refl _), mkL_length, Nat.sub_self, mkL_succ, List.drop_eq_getElem_cons h, List.set_cons_zero, List.append_assoc]
 rfl
theorem mix_length (k0 : Nat) (l : List LV) (k : Nat) (h : k ≤ l.length) : (mkL k0 k ++ l.drop k).length = l.length := by
 rw [List.length_append, mkL_length, List.length_drop]; omega
theorem mod3 {z : Int} {k : Nat} (h : z = (k : Int)) : (z % 3 == 0) = decide (k % 3 = 0) := by
 by_cases h3 : k % 3 = 0
 ·rw [decide_eq_true h3]; simp; omega
 rw [decide_eq_false h3]; exact beq_eq_false_iff_ne.2 (by omega)
theorem markLines (l : List LV) (v : Value) (k0 B : Nat) (w : World) (hk0 : 0 < k0) (hn : k0 + 2 * l.length ≤ 1000000000) (h : w.ownsRow B 35 2 v l.length (lcells l)) :
  Calls Tryd.prog 64 #[v, .int .i64 (k0 : Int)] w fun e w' => e = .returned (.int .i64 ((k0 + 2 * l.length : Nat) : Int)) ∧ w'.ownsRow B 35 2 v l.length (lcells (mkL k0 l.length)) ∧ w.grownBy w' v.ownBlock := by
 by_cases h0 : l.length = 0
 ·obtain rfl : l = [] := List.eq_nil_of_length_eq_zero h0
  obtain ⟨ao, cap, rfl⟩ := (LineRow.of_own' h).slice
  have HO : Hid (w.ownsRow B 35 2 (.slice ao 0 cap) 0 (lcells (mkL k0 0))) := h
  clear h
  go_enter Tryd.func64, Tryd.ntmps64
  go_wp2
  refine wp_loop_rounds 1 ?_
  rw [rounds_succ]
  go_wp2
  go_ret
  exact ⟨rfl, HO.out, World.grownBy.refl _ _⟩
 obtain ⟨g, cap, rfl⟩ : ∃ g cap, v = .slice (some ⟨g, 0, none⟩) l.length cap := by
  rcases h.2 with ⟨_, h2⟩ | ⟨g, cap, cur, rfl, _⟩
  ·exact absurd h2 h0
  exact ⟨g, cap, rfl⟩
 go_enter Tryd.func64, Tryd.ntmps64
 go_wp2
 go_loopw [1, 5] (fun a i wr => ∃ (k : Nat) (z : Int), k ≤ l.length ∧ i = .int .i64 k ∧ a = .int .i64 z ∧ 0 < z ∧ z ≤ 1000000000 ∧ Hid (z = ((k0 + 2 * k : Nat) : Int)) ∧ Hid (wr.ownsRow B 35 2 (.slice (some ⟨g, 0, none⟩) l.length cap) l.length (lcells (mkL k0 k ++ l.drop k))) ∧ w.grownBy wr (some g)) (fun _ i _ => l.length - (intOf i).toNat)
 case atStart => exact ⟨0, _, Nat.zero_le _, rfl, rfl, by omega, by omega, rfl, (by show World.ownsRow _ _ _ _ _ _ _; simpa [mkL] using h), World.grownBy.refl _ _⟩
 obtain ⟨k, z, hk, rfl, rfl, hz0, hz1, HZ, HO, hgr⟩ := hrel
 clear h
 by_cases hlt : k < l.length
 ·have hki : (k : Int) < l.length := by omega
  have hz2 : z + 2 ≤ 1000000000 := by have := HZ.out; omega
  have hm := mod3 HZ.out
  have hml := mix_length k0 l k hk
  have own0 := HO.out
  have hll : (lcells (mkL k0 k ++ l.drop k)).length = l.length * 2 := by rw [lcells_length, hml]
  have hfz := own0.frozenAt (k * 2)
  obtain ⟨u0, hu0⟩ : ∃ u, wr.cell? ⟨g, k * 2, none⟩ = some u := by
   rw [own0.cellAt (k * 2) (by omega)]
   exact ⟨_, List.getElem?_eq_getElem (by omega)⟩
  obtain ⟨S1, G1⟩ := own0.stored (k * 2) (.bool (decide ((k0 + 2 * k) % 3 = 0)))
  have CM : Hid (∀ W, CB 82 #[.int .i64 (z + 1)] W (.string (markS (k0 + 2 * k + 1)))) := fun W => by
   have := markTextI (z + 1) W (by omega) (by omega)
   rwa [show (z + 1).toNat = k0 + 2 * k + 1 by have := HZ.out; omega] at this
  have HS : Hid (((lcells (mkL k0 k ++ l.drop k)).set (k * 2) (.bool (decide ((k0 + 2 * k) % 3 = 0)))).set (k * 2 + 1) (.string (markS (k0 + 2 * k + 1))) = lcells (mkL k0 (k + 1) ++ l.drop (k + 1))) := by
   show _ = _
   rw [← mkL_set k0 l k hlt]
   exact lcells_set _ k (by rw [hml]; exact hlt) (mkX (k0 + 2 * k))
  have HS1 : Hid ((wr.setCell ⟨g, k * 2, none⟩ (.bool (decide ((k0 + 2 * k) % 3 = 0)))).ownsRow B 35 2 (.slice (some ⟨g, 0, none⟩) l.length cap) l.length ((lcells (mkL k0 k ++ l.drop k)).set (k * 2) (.bool (decide ((k0 + 2 * k) % 3 = 0))))) := S1
  have GG := grow_trans hgr G1
  clear own0 S1 G1 HO hgr
  generalize decide ((k0 + 2 * k) % 3 = 0) = D at *
  generalize markS (k0 + 2 * k + 1) = M at *
  go_wp2_with fail
  refine (CM.out _).mono ?_
  rintro e w1 ⟨rfl, b1⟩
  have own1 := own_below HS1.out b1
  have G2 := grow_below GG b1
  have hfz1 := own1.frozenAt (k * 2 + 1)
  obtain ⟨u1, hu1⟩ : ∃ u, w1.cell? ⟨g, k * 2 + 1, none⟩ = some u := by
   rw [own1.cellAt (k * 2 + 1) (by omega)]
   exact ⟨_, List.getElem?_eq_getElem (by rw [List.length_set]; omega)⟩
  obtain ⟨S3, G3⟩ := own1.stored (k * 2 + 1) (.string M)
  rw [HS.out] at S3
  have HO3 : Hid ((w1.setCell ⟨g, k * 2 + 1, none⟩ (.string M)).ownsRow B 35 2 (.slice (some ⟨g, 0, none⟩) l.length cap) l.length (lcells (mkL k0 (k + 1) ++ l.drop (k + 1)))) := S3
  have G4 := grow_trans G2 G3
  clear own1 S3 G3 G2 GG b1 HS1 CM hfz hu0 hll hml hm
  go_wp2_with fail
  go_roundw
  case rel => exact ⟨k + 1, _, by omega, by go_num, rfl, by omega, by omega, (by have := HZ.out; show _ = _; omega), HO3, G4⟩
  case measure => simp [intOf]; omega
 have hki : ¬ (k : Int) < l.length := by omega
 have HE : Hid (k = l.length) := by show _ = _; omega
 have HO2 : Hid (wr.ownsRow B 35 2 (.slice (some ⟨g, 0, none⟩) l.length cap) l.length (lcells (mkL k0 l.length))) := by
  have := HO.out
  rwa [HE.out, List.drop_length, List.append_nil] at this
 have HZ2 : Hid (z = ((k0 + 2 * l.length : Nat) : Int)) := by
  have := HZ.out
  rwa [HE.out] at this
 clear HO HZ
 go_wp2_with fail
 go_ret
 exact ⟨ret_int (by have := HZ2.out; omega), HO2.out, hgr⟩
theorem heldLines (n : Nat) (v : Value) (k0 : Nat) (w : World) (hk0 : 0 < k0) (hn : k0 + 2 * n ≤ 1000000000) (h : LineRow w v (mkL k0 n)) :
  Calls Tryd.prog 66 #[v, .int .i64 (k0 : Int)] w fun e w' => e = .returned (.int .i64 ((k0 + 2 * n : Nat) : Int)) ∧ Below w.heap.size w w' := by
 rcases h with ⟨h0, ao, cap, rfl⟩ | ⟨h0, g, off, cap, rfl, hg, hc⟩
 ·obtain rfl : n = 0 := by have := mkL_length k0 n; rw [h0] at this; simp at this; omega
  go_enter Tryd.func66, Tryd.ntmps66
  go_wp2
  refine wp_loop_rounds 1 ?_
  rw [rounds_succ]
  go_wp2
  go_ret
  exact ⟨rfl, Below.refl _ _⟩
 rw [mkL_length] at h0 hc ⊢
 have HC : Hid (∀ i, i < n → w.cell? ⟨g, off + i * 2, none⟩ = some (.bool (decide ((k0 + 2 * i) % 3 = 0))) ∧ w.cell? ⟨g, off + i * 2 + 1, none⟩ = some (.string (markS (k0 + 2 * i + 1)))) := fun i hi => by
  have := hc i hi
  rwa [mkL_at k0 n hi] at this
 clear hc
 go_enter Tryd.func66, Tryd.ntmps66
 go_wp2
 go_loopw [1, 5] (fun a i wr => ∃ (k : Nat) (z : Int), k ≤ n ∧ i = .int .i64 k ∧ a = .int .i64 z ∧ 0 < z ∧ z ≤ 1000000000 ∧ Hid (z = ((k0 + 2 * k : Nat) : Int)) ∧ Below w.heap.size w wr) (fun _ i _ => n - (intOf i).toNat)
 case atStart => exact ⟨0, _, Nat.zero_le _, rfl, rfl, by omega, by omega, rfl, Below.refl _ _⟩
 obtain ⟨k, z, hk, rfl, rfl, hz0, hz1, HZ, hbel⟩ := hrel
 by_cases hlt : k < n
 ·have hki : (k : Int) < n := by omega
  have hz2 : z + 2 ≤ 1000000000 := by have := HZ.out; omega
  have hm := mod3 HZ.out
  obtain ⟨c1, c2⟩ := HC.out k hlt
  have c1w := (hbel.cell (p := ⟨g, off + k * 2, none⟩) hg).trans c1
  have c2w := (hbel.cell (p := ⟨g, off + k * 2 + 1, none⟩) hg).trans c2
  have CM : Hid (∀ W, CB 82 #[.int .i64 (z + 1)] W (.string (markS (k0 + 2 * k + 1)))) := fun W => by
   have := markTextI (z + 1) W (by omega) (by omega)
   rwa [show (z + 1).toNat = k0 + 2 * k + 1 by have := HZ.out; omega] at this
  have hgw : g < wr.heap.size := by have := hbel.size; omega
  clear c1 c2
  generalize decide ((k0 + 2 * k) % 3 = 0) = D at *
  generalize markS (k0 + 2 * k + 1) = M at *
  go_wp2_with fail
  go_region_with (go_at_call 82; refine (CM.out _).mono ?_; rintro e wc ⟨rfl, bc⟩; have cc := (bc.cell (p := ⟨g, off + k * 2 + 1, none⟩) hgw).trans c2w)
  all_goals
   have B1 := hbel.drew.trans (bc.mono hbel.size)
   clear bc CM
   go_wp2_with fail
   refine ⟨⟨k + 1, z + 2, by omega, by go_num, by go_num, by omega, by omega, (by have := HZ.out; show _ = _; omega), B1⟩, ?_⟩
   simp [intOf]
   omega
 have hki : ¬ (k : Int) < n := by omega
 have HZ2 : Hid (z = ((k0 + 2 * n : Nat) : Int)) := by
  have := HZ.out
  rwa [show k = n by omega] at this
 clear HZ
 go_wp2_with fail
 go_ret
 exact ⟨ret_int (by have := HZ2.out; omega), hbel⟩
def kP (k0 : Nat) (l : List PT) : Nat → Nat
 | 0 => k0
 | i + 1 => kP k0 l i + (l.getD i pt0).ag.length + 2 * (l.getD i pt0).ln.length
def mkP (k : Nat) (x : PT) : PT := ⟨marks k x.ag.length, mkL (k + x.ag.length) x.ln.length⟩
def markP (k0 : Nat) (l : List PT) : List PT := (List.range l.length).map fun i => mkP (kP k0 l i) (l.getD i pt0)
theorem markP_len (k0 : Nat) (l : List PT) : (markP k0 l).length = l.length := by simp [markP]
theorem markP_at (k0 : Nat) (l : List PT) {i : Nat} (h : i < l.length) : (markP k0 l).getD i pt0 = mkP (kP k0 l i) (l.getD i pt0) := by simp [markP, List.getD, h]
def mixP (k0 : Nat) (l : List PT) (k : Nat) : List PT := (List.range l.length).map fun i => if i < k then mkP (kP k0 l i) (l.getD i pt0) else l.getD i pt0
theorem mixP_len (k0 : Nat) (l : List PT) (k : Nat) : (mixP k0 l k).length = l.length := by simp [mixP]
theorem mixP_at (k0 : Nat) (l : List PT) (k : Nat) {i : Nat} (h : i < l.length) : (mixP k0 l k).getD i pt0 = if i < k then mkP (kP k0 l i) (l.getD i pt0) else l.getD i pt0 := by
 unfold mixP
 rw [List.getD_eq_getElem?_getD, List.getElem?_map, List.getElem?_range h]
 rfl
theorem mixP_zero (k0 : Nat) (l : List PT) : mixP k0 l 0 = l := by
 refine List.ext_getElem (by simp [mixP]) fun i h1 h2 => ?_
 simp [mixP, List.getD, h2]
theorem mixP_all (k0 : Nat) (l : List PT) : mixP k0 l l.length = markP k0 l := by
 unfold mixP markP
 refine List.map_congr_left fun i hi => ?_
 rw [if_pos (List.mem_range.1 hi)]
theorem kP_ge (k0 : Nat) (l : List PT) : ∀ i, k0 ≤ kP k0 l i
 | 0 => Nat.le_refl _
 | i + 1 => by have := kP_ge k0 l i; unfold kP; omega
theorem kP_mono (k0 : Nat) (l : List PT) {i : Nat} : ∀ {j}, i ≤ j → kP k0 l i ≤ kP k0 l j
 | 0, h => by rw [show i = 0 by omega]; exact Nat.le_refl _
 | j + 1, h => by
  by_cases hi : i = j + 1
  ·rw [hi]; exact Nat.le_refl _
  have := kP_mono k0 l (show i ≤ j by omega)
  show _ ≤ kP k0 l j + _ + _
  omega
theorem markParts (l : List PT) (v : Value) (k0 base top : Nat) (w : World) (hk0 : 0 < k0) (hll : l.length ≤ 1048576) (hK : kP k0 l l.length ≤ 1000000000) (ht : top ≤ w.heap.size) (h : RobOwn w base top v l) :
  Calls Tryd.prog 35 #[v, .int .i64 (k0 : Int)] w fun e w' => e = .returned (.int .i64 ((kP k0 l l.length : Nat) : Int)) ∧ RobOwn w' base top v (markP k0 l) ∧ Only base top w w' := by
 have HK : Hid (∀ i, i ≤ l.length → kP k0 l i ≤ 1000000000) := fun i hi => Nat.le_trans (kP_mono k0 l hi) hK
 clear hK
 by_cases h0 : l.length = 0
 ·obtain rfl : l = [] := List.eq_nil_of_length_eq_zero h0
  obtain ⟨ao, cap, rfl⟩ := h.row.slice
  have HO : Hid (RobOwn w base top (.slice ao 0 cap) (markP k0 [])) := h
  clear h
  go_enter Tryd.func35, Tryd.ntmps35
  go_wp2
  refine wp_loop_rounds 1 ?_
  rw [rounds_succ]
  go_wp2
  go_ret
  exact ⟨rfl, HO.out, Only.refl _ _ _⟩
 obtain ⟨g, cap, rfl⟩ : ∃ g cap, v = .slice (some ⟨g, 0, none⟩) l.length cap := by
  obtain ⟨vs, h1, _⟩ := h
  rcases h1.2 with ⟨_, h2⟩ | ⟨g, cap, cur, rfl, _⟩
  ·exact absurd h2 h0
  exact ⟨g, cap, rfl⟩
 go_enter Tryd.func35, Tryd.ntmps35
 go_wp2
 go_loopw [1, 5] (fun a i wr => ∃ k : Nat, k ≤ l.length ∧ i = .int .i64 k ∧ a = .int .i64 ((kP k0 l k : Nat) : Int) ∧ Hid (RobOwn wr base top (.slice (some ⟨g, 0, none⟩) l.length cap) (mixP k0 l k)) ∧ Only base top w wr) (fun _ i _ => l.length - (intOf i).toNat)
 case atStart => exact ⟨0, Nat.zero_le _, rfl, rfl, (by rw [mixP_zero]; exact h), Only.refl _ _ _⟩
 obtain ⟨k, hk, rfl, rfl, HO, hon⟩ := hrel
 clear h
 by_cases hlt : k < l.length
 ·have hki : (k : Int) < l.length := by omega
  have htr : top ≤ wr.heap.size := Nat.le_trans ht hon.size
  obtain ⟨vs, h1, h2⟩ := HO.out
  have hml := mixP_len k0 l k
  rw [hml] at h1 h2
  have hgk : (mixP k0 l k).getD k pt0 = l.getD k pt0 := by rw [mixP_at k0 l k hlt, if_neg (by omega)]
  obtain ⟨p, q, a1, a2, a3, a4⟩ := h2.1 k hlt
  obtain ⟨p1, p2, p3⟩ := h2.2.1 _ p (by omega) a1
  obtain ⟨q1, q2, q3⟩ := h2.2.1 _ q (by omega) a2
  have apq : apt p q := p3 _ q (by omega) a2 (by omega)
  have pge := h2.ge (by omega) a1
  have qge := h2.ge (by omega) a2
  rw [hgk] at a3 a4
  have c1 : wr.cell? ⟨g, k * 2, none⟩ = some p := by rw [h1.cellAt (k * 2) (by omega)]; exact a1
  have hks : kP k0 l (k + 1) = kP k0 l k + (l.getD k pt0).ag.length + 2 * (l.getD k pt0).ln.length := rfl
  have hK1 := HK.out (k + 1) (by omega)
  have hKg := kP_ge k0 l k
  have CM : Hid (Calls Tryd.prog 63 #[p, .int .i64 ((kP k0 l k : Nat) : Int)] wr fun e w' => e = .returned (.int .i64 ((kP k0 l k + (l.getD k pt0).ag.length : Nat) : Int)) ∧ w'.ownsRow base 9 1 p (l.getD k pt0).ag.length (scells (marks (kP k0 l k) (l.getD k pt0).ag.length)) ∧ wr.grownBy w' p.ownBlock) := markStringS (kP k0 l k) _ p base _ wr (by omega) (by omega) a3
  have CL : Hid (∀ W, W.ownsRow base 35 2 q (l.getD k pt0).ln.length (lcells (l.getD k pt0).ln) → Calls Tryd.prog 64 #[q, .int .i64 ((kP k0 l k + (l.getD k pt0).ag.length : Nat) : Int)] W fun e w' => e = .returned (.int .i64 ((kP k0 l k + (l.getD k pt0).ag.length + 2 * (l.getD k pt0).ln.length : Nat) : Int)) ∧ w'.ownsRow base 35 2 q (l.getD k pt0).ln.length (lcells (mkL (kP k0 l k + (l.getD k pt0).ag.length) (l.getD k pt0).ln.length)) ∧ W.grownBy w' q.ownBlock) := fun W hW => markLines (l.getD k pt0).ln q (kP k0 l k + (l.getD k pt0).ag.length) base W (by omega) (by omega) hW
  have HFIN : Hid (∀ w1 w2, wr.grownBy w1 p.ownBlock → w1.grownBy w2 q.ownBlock → w1.ownsRow base 9 1 p (l.getD k pt0).ag.length (scells (marks (kP k0 l k) (l.getD k pt0).ag.length)) → w2.ownsRow base 35 2 q (l.getD k pt0).ln.length (lcells (mkL (kP k0 l k + (l.getD k pt0).ag.length) (l.getD k pt0).ln.length)) → RobOwn w2 base top (.slice (some ⟨g, 0, none⟩) l.length cap) (mixP k0 l (k + 1)) ∧ Only base top w w2) := fun w1 w2 g1 g2 o1 o2 => by
   refine ⟨⟨vs, ?_, ?_⟩, (hon.trans (Only.of_grown g1 fun b e => ⟨pge b e, p2 b e⟩)).trans (Only.of_grown g2 fun b e => ⟨qge b e, q2 b e⟩)⟩
   ·rw [mixP_len]
    refine own_at (own_at h1 fun b hb => g1.block b (h1.lt b hb).2 fun e => p1 b e.symm hb) fun b hb => g2.block b (Nat.lt_of_lt_of_le (h1.lt b hb).2 g1.size) fun e => q1 b e.symm hb
   rw [mixP_len]
   have hat : (mixP k0 l (k + 1)).getD k pt0 = mkP (kP k0 l k) (l.getD k pt0) := by rw [mixP_at k0 l (k + 1) hlt, if_pos (by omega)]
   refine h2.at (p' := p) (q' := q) hlt a1 a2 (fun b hb hbt n1 n2 n3 => ?_) (fun _ _ _ => rfl) a1 a2 ?_ ?_ (.inl rfl) (.inl rfl) apq (fun j hj hne => ?_) (Nat.le_refl _)
   ·exact (g2.block b (by have := g1.size; omega) n3).trans (g1.block b (by omega) n2)
   ·rw [hat]
    show World.ownsRow _ _ _ _ _ (marks _ _).length (scells (marks _ _))
    rw [marks_length]
    exact own_at o1 fun b hb => g2.block b (o1.lt b hb).2 fun e => apq b hb e.symm
   ·rw [hat]
    show World.ownsRow _ _ _ _ _ (mkL _ _).length (lcells (mkL _ _))
    rw [mkL_length]
    exact o2
   rw [mixP_at k0 l (k + 1) hj, mixP_at k0 l k hj]
   by_cases hjk : j < k
   ·rw [if_pos hjk, if_pos (by omega)]
   rw [if_neg hjk, if_neg (by omega)]
  have HC2 : Hid (∀ w1, wr.grownBy w1 p.ownBlock → w1.cell? ⟨g, k * 2 + 1, none⟩ = some q ∧ w1.ownsRow base 35 2 q (l.getD k pt0).ln.length (lcells (l.getD k pt0).ln)) := fun w1 g1 => by
   have o1 := own_at h1 fun b hb => g1.block b (h1.lt b hb).2 fun e => p1 b e.symm hb
   exact ⟨by rw [o1.cellAt (k * 2 + 1) (by omega)]; exact a2, own_at a4 fun b hb => g1.block b (a4.lt b hb).2 fun e => apq b e.symm hb⟩
  obtain ⟨pa, pc, hpp⟩ := (StrRow.of_own a3).slice
  obtain ⟨qa, qc, hqq⟩ := (LineRow.of_own' a4).slice
  clear h1 h2 a1 a2 a3 a4 p1 p2 p3 q1 q2 q3 apq pge qge HO hon hgk hml
  generalize hAA : (l.getD k pt0).ag.length = AN at *
  generalize hLL : (l.getD k pt0).ln.length = LN at *
  have HKS : Hid (kP k0 l (k + 1) = kP k0 l k + AN + 2 * LN) := hks
  clear hks
  generalize hKK : kP k0 l k = KK at *
  clear hKK hAA hLL
  subst hpp hqq
  obtain ⟨y1, hy1⟩ : ∃ y : Int, ((KK + AN : Nat) : Int) = y := ⟨_, rfl⟩
  obtain ⟨y2, hy2⟩ : ∃ y : Int, ((KK + AN + 2 * LN : Nat) : Int) = y := ⟨_, rfl⟩
  rw [hy1] at CM CL
  rw [hy2] at CL
  have HY2 : Hid (((KK + AN + 2 * LN : Nat) : Int) = y2) := hy2
  clear hy1 hy2
  go_wp2_with fail
  refine CM.out.mono ?_
  rintro e w1 ⟨rfl, o1, g1⟩
  obtain ⟨c2, o2⟩ := HC2.out w1 g1
  have O1 : Hid (w1.ownsRow base 9 1 (.slice pa AN pc) AN (scells (marks KK AN))) := o1
  have O2 : Hid (w1.ownsRow base 35 2 (.slice qa LN qc) LN (lcells (l.getD k pt0).ln)) := o2
  clear o1 o2 CM HC2 c1
  go_wp2_with fail
  refine (CL.out _ O2.out).mono ?_
  rintro e w2 ⟨rfl, o3, g2⟩
  obtain ⟨R1, R2⟩ := HFIN.out w1 w2 g1 g2 O1.out o3
  have HR : Hid (RobOwn w2 base top (.slice (some ⟨g, 0, none⟩) l.length cap) (mixP k0 l (k + 1))) := R1
  have HY3 : Hid (Value.int .i64 y2 = .int .i64 ((kP k0 l (k + 1) : Nat) : Int)) := by show _ = _; rw [HKS.out, HY2.out]
  clear R1 o3 g1 g2 HFIN O1 O2 CL c2 HY2 HKS
  go_wp2_with fail
  go_roundw
  case rel => exact ⟨k + 1, by omega, by go_num, HY3.out, HR, R2⟩
  case measure => simp [intOf]; omega
 have hki : ¬ (k : Int) < l.length := by omega
 have HE : Hid (k = l.length) := by show _ = _; omega
 have HO2 : Hid (RobOwn wr base top (.slice (some ⟨g, 0, none⟩) l.length cap) (markP k0 l)) := by
  have := HO.out
  rw [HE.out, mixP_all] at this
  exact this
 clear HO
 go_wp2_with fail
 go_ret
 exact ⟨by rw [HE.out]; rfl, HO2.out, hon⟩
theorem markRobots (l : List PT) (v : Value) (k0 base top : Nat) (w : World) (hk0 : 0 < k0) (hll : l.length ≤ 1048576) (hK : kP k0 l l.length ≤ 1000000000) (ht : top ≤ w.heap.size) (h : RobOwn w base top v l) :
  Calls Tryd.prog 14 #[.agg #[v], .int .i64 (k0 : Int)] w fun e w' => e = .returned (.int .i64 ((kP k0 l l.length : Nat) : Int)) ∧ RobOwn w' base top v (markP k0 l) ∧ Only base top w w' := by
 obtain ⟨O, hO⟩ : ∃ O, O = w.alloc (.cells #[v] 26) := ⟨_, rfl⟩
 have bO : Below w.heap.size w O := by rw [hO]; exact (Below.refl _ _).alloc (Nat.le_refl _) _
 have AO : BAt O w.heap.size [v] := by rw [hO]; exact BAt.new w #[v] _
 have CM : Hid (Calls Tryd.prog 35 #[v, .int .i64 (k0 : Int)] O fun e w' => e = .returned (.int .i64 ((kP k0 l l.length : Nat) : Int)) ∧ RobOwn w' base top v (markP k0 l) ∧ Only base top O w') := markParts l v k0 base top O hk0 hll hK (Nat.le_trans ht bO.size) (h.below ht bO)
 obtain ⟨ao, cap, hv⟩ := h.row.slice
 subst hv
 clear h
 clear hK
 generalize kP k0 l l.length = KE at *
 go_enter Tryd.func14, Tryd.ntmps14
 go_upto_region 1 with fail
 rw [← hO]
 clear hO
 have c0 := AO.1 0 _ rfl
 go_wp2_with fail
 refine CM.out.mono ?_
 rintro e w1 ⟨rfl, r1, o1⟩
 have HR := r1
 have HR1 : Hid (RobOwn w1 base top (.slice ao l.length cap) (markP k0 l)) := r1
 clear r1 HR CM
 go_wp2_with fail
 go_ret
 exact ⟨rfl, HR1.out, (Only.of_below bO).trans o1⟩
theorem heldParts (l : List PT) (v : Value) (k0 base top : Nat) (w : World) (hk0 : 0 < k0) (hll : l.length ≤ 1048576) (hK : kP k0 l l.length ≤ 1000000000) (h : RobOwn w base top v (markP k0 l)) :
  Calls Tryd.prog 36 #[v, .int .i64 (k0 : Int)] w fun e w' => e = .returned (.int .i64 ((kP k0 l l.length : Nat) : Int)) ∧ Below w.heap.size w w' := by
 have HK : Hid (∀ i, i ≤ l.length → kP k0 l i ≤ 1000000000) := fun i hi => Nat.le_trans (kP_mono k0 l hi) hK
 clear hK
 by_cases h0 : l.length = 0
 ·obtain rfl : l = [] := List.eq_nil_of_length_eq_zero h0
  obtain ⟨ao, cap, rfl⟩ := h.row.slice
  clear h
  go_enter Tryd.func36, Tryd.ntmps36
  go_wp2
  refine wp_loop_rounds 1 ?_
  rw [rounds_succ]
  go_wp2
  go_ret
  exact ⟨rfl, Below.refl _ _⟩
 obtain ⟨vs, h1, h2⟩ := h
 rw [markP_len] at h1 h2
 obtain ⟨g, cap, rfl⟩ : ∃ g cap, v = .slice (some ⟨g, 0, none⟩) l.length cap := by
  rcases h1.2 with ⟨_, h2⟩ | ⟨g, cap, cur, rfl, _⟩
  ·exact absurd h2 h0
  exact ⟨g, cap, rfl⟩
 have HA : Hid (∀ i, i < l.length → ∃ p q, w.cell? ⟨g, i * 2, none⟩ = some p ∧ w.cell? ⟨g, i * 2 + 1, none⟩ = some q ∧ w.ownsRow base 9 1 p (l.getD i pt0).ag.length (scells (marks (kP k0 l i) (l.getD i pt0).ag.length)) ∧ LineRow w q (mkL (kP k0 l i + (l.getD i pt0).ag.length) (l.getD i pt0).ln.length)) := fun i hi => by
  obtain ⟨p, q, a1, a2, a3, a4⟩ := h2.1 i hi
  rw [markP_at k0 l hi] at a3 a4
  refine ⟨p, q, by rw [h1.cellAt (i * 2) (by omega)]; exact a1, by rw [h1.cellAt (i * 2 + 1) (by omega)]; exact a2, ?_, LineRow.of_own' a4⟩
  have e : (mkP (kP k0 l i) (l.getD i pt0)).ag = marks (kP k0 l i) (l.getD i pt0).ag.length := rfl
  rw [e, marks_length] at a3
  exact a3
 have hg := (h1.lt g rfl).2
 clear h1 h2
 go_enter Tryd.func36, Tryd.ntmps36
 go_wp2
 go_loopw [1, 5] (fun a i wr => ∃ k : Nat, k ≤ l.length ∧ i = .int .i64 k ∧ a = .int .i64 ((kP k0 l k : Nat) : Int) ∧ Below w.heap.size w wr) (fun _ i _ => l.length - (intOf i).toNat)
 case atStart => exact ⟨0, Nat.zero_le _, rfl, rfl, Below.refl _ _⟩
 obtain ⟨k, hk, rfl, rfl, hbel⟩ := hrel
 by_cases hlt : k < l.length
 ·have hki : (k : Int) < l.length := by omega
  obtain ⟨p, q, a1, a2, a3, a4⟩ := HA.out k hlt
  have c1 := (hbel.cell (p := ⟨g, k * 2, none⟩) hg).trans a1
  have hks : kP k0 l (k + 1) = kP k0 l k + (l.getD k pt0).ag.length + 2 * (l.getD k pt0).ln.length := rfl
  have hK1 := HK.out (k + 1) (by omega)
  have hKg := kP_ge k0 l k
  have CM : Hid (∀ W, Below w.heap.size w W → CB 65 #[p, .int .i64 ((kP k0 l k : Nat) : Int)] W (.int .i64 ((kP k0 l k + (l.getD k pt0).ag.length : Nat) : Int))) := fun W hW => heldStringS (kP k0 l k) _ p base W (by omega) (by omega) (own_below a3 hW)
  have CL : Hid (∀ W, Below w.heap.size w W → CB 66 #[q, .int .i64 ((kP k0 l k + (l.getD k pt0).ag.length : Nat) : Int)] W (.int .i64 ((kP k0 l k + (l.getD k pt0).ag.length + 2 * (l.getD k pt0).ln.length : Nat) : Int))) := fun W hW => heldLines (l.getD k pt0).ln.length q (kP k0 l k + (l.getD k pt0).ag.length) W (by omega) (by omega) (a4.below hW)
  obtain ⟨pa, pc, hpp⟩ := (StrRow.of_own a3).slice
  obtain ⟨qa, qc, hqq⟩ := a4.slice
  have HC2 : Hid (w.cell? ⟨g, k * 2 + 1, none⟩ = some q) := a2
  clear a1 a2 a3 a4
  generalize (l.getD k pt0).ag.length = AN at *
  generalize (l.getD k pt0).ln.length = LN at *
  have HKS : Hid (kP k0 l (k + 1) = kP k0 l k + AN + 2 * LN) := hks
  clear hks
  generalize kP k0 l k = KK at *
  subst hpp hqq
  obtain ⟨y1, hy1⟩ : ∃ y : Int, ((KK + AN : Nat) : Int) = y := ⟨_, rfl⟩
  obtain ⟨y2, hy2⟩ : ∃ y : Int, ((KK + AN + 2 * LN : Nat) : Int) = y := ⟨_, rfl⟩
  rw [hy1] at CM CL
  rw [hy2] at CL
  have hn1 : ¬ y1 < 0 := by omega
  have hn2 : ¬ y2 < 0 := by omega
  have HY3 : Hid (Value.int .i64 y2 = .int .i64 ((kP k0 l (k + 1) : Nat) : Int)) := by show _ = _; rw [HKS.out, hy2]
  clear hy1 hy2 HKS
  go_wp2_with fail
  refine (CM.out _ hbel).mono ?_
  rintro e w1 ⟨rfl, b1⟩
  have B1 := hbel.trans (b1.mono hbel.size)
  have c2 := (B1.cell (p := ⟨g, k * 2 + 1, none⟩) hg).trans HC2.out
  clear b1 hbel CM c1 HC2
  go_wp2_with fail
  refine (CL.out _ B1).mono ?_
  rintro e w2 ⟨rfl, b2⟩
  have B2 := B1.trans (b2.mono B1.size)
  clear b2 B1 CL c2
  go_wp2_with fail
  go_roundw
  case rel => exact ⟨k + 1, by omega, by go_num, HY3.out, B2⟩
  case measure => simp [intOf]; omega
 have hki : ¬ (k : Int) < l.length := by omega
 have HE : Hid (k = l.length) := by show _ = _; omega
 go_wp2_with fail
 go_ret
 exact ⟨by rw [HE.out]; rfl, hbel⟩
theorem heldRobots (l : List PT) (v : Value) (k0 base top : Nat) (w : World) (hk0 : 0 < k0) (hll : l.length ≤ 1048576) (hK : kP k0 l l.length ≤ 1000000000) (ht : top ≤ w.heap.size) (h : RobOwn w base top v (markP k0 l)) :
  Calls Tryd.prog 15 #[.agg #[v], .int .i64 (k0 : Int)] w fun e w' => e = .returned (.int .i64 ((kP k0 l l.length : Nat) : Int)) ∧ Below w.heap.size w w' := by
 obtain ⟨O, hO⟩ : ∃ O, O = w.alloc (.cells #[v] 26) := ⟨_, rfl⟩
 have bO : Below w.heap.size w O := by rw [hO]; exact (Below.refl _ _).alloc (Nat.le_refl _) _
 have AO : BAt O w.heap.size [v] := by rw [hO]; exact BAt.new w #[v] _
 have CM : Hid (CB 36 #[v, .int .i64 (k0 : Int)] O (.int .i64 ((kP k0 l l.length : Nat) : Int))) := heldParts l v k0 base top O hk0 hll hK (h.below ht bO)
 obtain ⟨ao, cap, hv⟩ := h.row.slice
 subst hv
 clear h
 clear hK
 generalize kP k0 l l.length = KE at *
 go_enter Tryd.func15, Tryd.ntmps15
 go_upto_region 1 with fail
 rw [← hO]
 clear hO
 have c0 := AO.1 0 _ rfl
 have hn : ¬ (KE : Int) < 0 := by omega
 go_wp2_with fail
 refine CM.out.mono ?_
 rintro e w1 ⟨rfl, b1⟩
 have B1 := bO.trans (b1.mono bO.size)
 clear CM
 go_wp2_with fail
 go_ret
 exact ⟨rfl, B1⟩
def psum (f : Nat → Nat) : Nat → Nat
 | 0 => 0
 | k + 1 => psum f k + f k
theorem psum_le (f : Nat → Nat) {k : Nat} : ∀ {n}, k ≤ n → psum f k ≤ psum f n
 | 0, h => by rw [show k = 0 by omega]; exact Nat.le_refl _
 | n + 1, h => by
  by_cases hk : k = n + 1
  ·rw [hk]; exact Nat.le_refl _
  have := psum_le f (show k ≤ n by omega)
  show _ ≤ psum f n + f n
  omega
theorem psum_at (f : Nat → Nat) {k n : Nat} (h : k < n) : f k ≤ psum f n := by
 have := psum_le f (show k + 1 ≤ n from h)
 have e : psum f (k + 1) = psum f k + f k := rfl
 omega
def sumS (l : List ByteArray) : Nat := l.length + psum (fun i => (l.getD i ByteArray.empty).size) l.length
def sumL (l : List LV) : Nat := l.length + psum (fun i => (l.getD i lv0).pa.size) l.length
def sumT (p : PT) : Nat := sumS p.ag + sumL p.ln
def sumP (l : List PT) : Nat := l.length + psum (fun i => sumT (l.getD i pt0)) l.length
end Go.Proofs.YtjdnemjcjodboaaDoor
namespace Go.Proofs.YtjdnemjcjodboaaDoor
open Go.RowKit
theorem part_lens {ps : List PT} {k : Nat} (hN : sumP ps ≤ 1048576) (hk : k < ps.length) : ps.length ≤ 1048576 ∧ (ps.getD k pt0).ag.length ≤ 1048576 ∧ (ps.getD k pt0).ln.length ≤ 1048576 := by
 have h1 : sumT (ps.getD k pt0) ≤ psum (fun i => sumT (ps.getD i pt0)) ps.length := psum_at (fun i => sumT (ps.getD i pt0)) hk
 have e2 : sumT (ps.getD k pt0) = sumS (ps.getD k pt0).ag + sumL (ps.getD k pt0).ln := rfl
 have e3 : sumL (ps.getD k pt0).ln = (ps.getD k pt0).ln.length + psum (fun i => ((ps.getD k pt0).ln.getD i lv0).pa.size) (ps.getD k pt0).ln.length := rfl
 have e4 : sumS (ps.getD k pt0).ag = (ps.getD k pt0).ag.length + psum (fun i => ((ps.getD k pt0).ag.getD i ByteArray.empty).size) (ps.getD k pt0).ag.length := rfl
 unfold sumP at hN
 omega
end Go.Proofs.YtjdnemjcjodboaaDoor
