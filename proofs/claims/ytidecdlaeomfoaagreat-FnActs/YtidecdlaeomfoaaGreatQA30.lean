/- Ip6Both, HostSpec. -/
import Derived.Test.YtidecdlaeomfoaaGreatQA29
set_option maxHeartbeats 8000000
set_option maxRecDepth 20000
namespace Go.Proofs.YtidecdlaeomfoaaGreat
open Go.RowKit
def tx (gs : List Nat) (f t k : Nat) : List UInt8 := if k ≤ f then gtL (gs.take k) else gtL (gs.take f) ++ 58 :: 58 :: gtL ((gs.drop t).take (k - t))
theorem tx_low0 {gs : List Nat} {f t : Nat} (hl : gs.length = 8) (h : 0 < f) : tx gs f t (0 + 1) = tx gs f t 0 ++ hex4 (gs.getD 0 0) := by
 unfold tx
 rw [if_pos (by omega), if_pos (by omega), gt_zero gs (by omega)]
 rfl
theorem tx_low {gs : List Nat} {f t k : Nat} (hl : gs.length = 8) (hk : 0 < k) (h : k < f) (h8 : k < 8) : tx gs f t (k + 1) = tx gs f t k ++ [58] ++ hex4 (gs.getD k 0) := by
 unfold tx
 rw [if_pos (by omega), if_pos (by omega), gt_succ gs k (by omega) hk]
theorem tx_cut {gs : List Nat} {f t : Nat} (h : f < t) : tx gs f t t = tx gs f t f ++ [58, 58] := by
 unfold tx
 rw [if_neg (by omega), if_pos (by omega), Nat.sub_self, List.take_zero]
 rfl
theorem tx_hi0 {gs : List Nat} {f t : Nat} (hl : gs.length = 8) (h : f < t) (h8 : t < 8) : tx gs f t (t + 1) = tx gs f t t ++ hex4 (gs.getD t 0) := by
 unfold tx
 rw [if_neg (by omega), if_neg (by omega), Nat.sub_self, List.take_zero, show t + 1 - t = 1 by omega, gt_zero _ (by rw [List.length_drop]; omega)]
 rw [show (gs.drop t).getD 0 0 = gs.getD t 0 by simp [List.getD]]
 simp [gtL, jl]
theorem tx_hi {gs : List Nat} {f t k : Nat} (hl : gs.length = 8) (h : f < t) (hk : t < k) (h8 : k < 8) : tx gs f t (k + 1) = tx gs f t k ++ [58] ++ hex4 (gs.getD k 0) := by
 unfold tx
 rw [if_neg (by omega), if_neg (by omega), show k + 1 - t = (k - t) + 1 by omega, gt_succ _ (k - t) (by rw [List.length_drop]; omega) (by omega)]
 rw [show (gs.drop t).getD (k - t) 0 = gs.getD k 0 by simp [List.getD, show t + (k - t) = k by omega]]
 simp
theorem tx_len {gs : List Nat} {f t k : Nat} (hl : gs.length = 8) : (tx gs f t k).length ≤ 100 := by
 unfold tx
 have g1 := (gt_len (gs.take k)).1
 have g2 := (gt_len (gs.take f)).1
 have g3 := (gt_len ((gs.drop t).take (k - t))).1
 simp only [List.length_take, List.length_drop] at g1 g2 g3
 split
 ·omega
 simp only [List.length_append, List.length_cons]
 omega
theorem tx_end (x0 x1 x2 x3 x4 x5 x6 x7 : Int) (hok : okG [x0, x1, x2, x3, x4, x5, x6, x7] = true) :
  tx ([x0, x1, x2, x3, x4, x5, x6, x7].map Int.toNat) (rowS 0 (8, 8) (zb [x0, x1, x2, x3, x4, x5, x6, x7])).1 (rowS 0 (8, 8) (zb [x0, x1, x2, x3, x4, x5, x6, x7])).2 8 = ip6L [x0, x1, x2, x3, x4, x5, x6, x7] := by
 have h := row_ok x0 x1 x2 x3 x4 x5 x6 x7
 unfold ip6L
 rw [if_pos hok]
 have hl : ([x0, x1, x2, x3, x4, x5, x6, x7].map Int.toNat).length = 8 := rfl
 generalize [x0, x1, x2, x3, x4, x5, x6, x7].map Int.toNat = gs at hl
 unfold rowOkB at h
 generalize rowI 0 (0, 0, 0) (zb [x0, x1, x2, x3, x4, x5, x6, x7]) = p at h
 generalize rowS 0 (8, 8) (zb [x0, x1, x2, x3, x4, x5, x6, x7]) = q at h
 simp only [Bool.and_eq_true, decide_eq_true_eq] at h
 obtain ⟨⟨h1, h2⟩, h3⟩ := h
 by_cases c : p.2.1 - p.1 < 2
 ·rw [if_pos c] at h3
  simp only [decide_eq_true_eq] at h3
  subst h3
  unfold tx ip6T
  rw [if_pos (by simp), if_pos c, List.take_of_length_le (by omega)]
 rw [if_neg c] at h3
 simp only [Bool.and_eq_true, decide_eq_true_eq] at h3
 rw [h3.1]
 unfold tx ip6T
 simp only
 rw [if_neg (by omega), if_neg c, List.take_of_length_le (l := gs.drop p.2.1) (by rw [List.length_drop]; omega)]
theorem rowS_ok (x0 x1 x2 x3 x4 x5 x6 x7 : Int) : ((rowS 0 (8, 8) (zb [x0, x1, x2, x3, x4, x5, x6, x7])).1 = 8 ∧ (rowS 0 (8, 8) (zb [x0, x1, x2, x3, x4, x5, x6, x7])).2 = 8) ∨ ((rowS 0 (8, 8) (zb [x0, x1, x2, x3, x4, x5, x6, x7])).1 < (rowS 0 (8, 8) (zb [x0, x1, x2, x3, x4, x5, x6, x7])).2 ∧ (rowS 0 (8, 8) (zb [x0, x1, x2, x3, x4, x5, x6, x7])).2 ≤ 8) := by
 have h := row_ok x0 x1 x2 x3 x4 x5 x6 x7
 unfold rowOkB at h
 generalize rowI 0 (0, 0, 0) (zb [x0, x1, x2, x3, x4, x5, x6, x7]) = p at h
 generalize rowS 0 (8, 8) (zb [x0, x1, x2, x3, x4, x5, x6, x7]) = q at h
 simp only [Bool.and_eq_true, decide_eq_true_eq] at h
 obtain ⟨⟨h1, h2⟩, h3⟩ := h
 by_cases c : p.2.1 - p.1 < 2
 ·rw [if_pos c] at h3
  simp only [decide_eq_true_eq] at h3
  subst h3
  exact .inl ⟨rfl, rfl⟩
 rw [if_neg c] at h3
 simp only [Bool.and_eq_true, decide_eq_true_eq] at h3
 rw [h3.1]
 exact .inr ⟨by simp only; omega, h2⟩
theorem ip6L_no {z : List Int} (h : okG z = false) : ip6L z = [] := by unfold ip6L; rw [h]; rfl
theorem specIp6Text (x0 x1 x2 x3 x4 x5 x6 x7 : Int) (w : World) :
  Calls Tryz.prog 83 #[.agg #[.int .i64 x0, .int .i64 x1, .int .i64 x2, .int .i64 x3, .int .i64 x4, .int .i64 x5, .int .i64 x6, .int .i64 x7]] w fun e w' => e = .returned (.string ⟨(ip6L [x0, x1, x2, x3, x4, x5, x6, x7]).toArray⟩) ∧ Below w.heap.size w w' := by
 have HC : Hid (∀ k, k < 8 → (w.alloc (.cells #[.int .i64 x0, .int .i64 x1, .int .i64 x2, .int .i64 x3, .int .i64 x4, .int .i64 x5, .int .i64 x6, .int .i64 x7] 65)).cell? ⟨w.heap.size, k, none⟩ = some (.int .i64 ([x0, x1, x2, x3, x4, x5, x6, x7].getD k 0))) := fun k hk => cell8 w x0 x1 x2 x3 x4 x5 x6 x7 k hk
 have CR : Hid (∀ W, CB 92 #[.agg #[.int .i64 x0, .int .i64 x1, .int .i64 x2, .int .i64 x3, .int .i64 x4, .int .i64 x5, .int .i64 x6, .int .i64 x7]] W (rowW (rowS 0 (8, 8) (zb [x0, x1, x2, x3, x4, x5, x6, x7])))) := fun W => specRow x0 x1 x2 x3 x4 x5 x6 x7 W
 have HE : Hid (okG [x0, x1, x2, x3, x4, x5, x6, x7] = true → tx ([x0, x1, x2, x3, x4, x5, x6, x7].map Int.toNat) (rowS 0 (8, 8) (zb [x0, x1, x2, x3, x4, x5, x6, x7])).1 (rowS 0 (8, 8) (zb [x0, x1, x2, x3, x4, x5, x6, x7])).2 8 = ip6L [x0, x1, x2, x3, x4, x5, x6, x7]) := tx_end x0 x1 x2 x3 x4 x5 x6 x7
 have HRO : Hid (((rowS 0 (8, 8) (zb [x0, x1, x2, x3, x4, x5, x6, x7])).1 = 8 ∧ (rowS 0 (8, 8) (zb [x0, x1, x2, x3, x4, x5, x6, x7])).2 = 8) ∨ ((rowS 0 (8, 8) (zb [x0, x1, x2, x3, x4, x5, x6, x7])).1 < (rowS 0 (8, 8) (zb [x0, x1, x2, x3, x4, x5, x6, x7])).2 ∧ (rowS 0 (8, 8) (zb [x0, x1, x2, x3, x4, x5, x6, x7])).2 ≤ 8)) := rowS_ok x0 x1 x2 x3 x4 x5 x6 x7
 generalize rowS 0 (8, 8) (zb [x0, x1, x2, x3, x4, x5, x6, x7]) = r at CR HE HRO
 obtain ⟨f, t⟩ := r
 simp only [rowW] at CR HE HRO
 generalize hz : [x0, x1, x2, x3, x4, x5, x6, x7] = z at HC HE ⊢
 have HZL : Hid (z.length = 8) := by show _ = _; rw [← hz]; rfl
 have HZZ : Hid ([x0, x1, x2, x3, x4, x5, x6, x7] = z) := hz
 clear hz
 go_enter Tryz.func83, Tryz.ntmps83
 go_wp2
 go_loop [3] (fun i => ∃ k : Nat, k ≤ 8 ∧ i = .int .i64 k ∧ ∀ x ∈ z.take k, 0 ≤ x ∧ x ≤ 65535) (fun i => 8 - (intOf i).toNat)
 case atStart => exact ⟨0, by omega, rfl, fun x hx => by simp at hx⟩
 obtain ⟨k, hk, rfl, hall⟩ := hrel
 have HA0 : Hid (∀ x ∈ z.take k, 0 ≤ x ∧ x ≤ 65535) := hall
 clear hall
 by_cases hlt : k < 8
 ·have hce := HC.out k hlt
  have HT : Hid (z.take (k + 1) = z.take k ++ [z.getD k 0]) := ztake_snoc z k (by have := HZL.out; omega)
  have HM : Hid (z.getD k 0 ∈ z) := by
   show _ ∈ _
   rw [List.getD_eq_getElem?_getD, List.getElem?_eq_getElem (by have := HZL.out; omega)]
   exact List.getElem_mem _
  have hki : (k : Int) < 8 := by omega
  generalize z.getD k 0 = y at hce HT HM
  by_cases hy : 0 ≤ y ∧ y ≤ 65535
  ·obtain ⟨hy0, hy1⟩ := hy
   go_wp2_with fail
   refine (specL1In_yes _ _ _ _ hy0 hy1).mono ?_
   rintro e w' ⟨rfl, rfl⟩
   go_wp2_with fail
   go_round
   case rel =>
    refine ⟨k + 1, by omega, by go_num, fun x hx => ?_⟩
    rw [HT.out] at hx
    rcases List.mem_append.1 hx with h | h
    ·exact HA0.out x h
    rw [List.mem_singleton.1 h]; exact ⟨hy0, hy1⟩
   case measure => simp [intOf]; omega
  have HF : Hid (ip6L z = []) := ip6L_no (okG_no HM.out hy)
  have HY : Hid (y < 0 ∨ 65535 < y) := by show _ ∨ _; omega
  clear hy
  go_wp2_with fail
  refine (specL1In_no _ _ _ _ HY.out).mono ?_
  rintro e w' ⟨rfl, rfl⟩
  go_wp2_with fail
  go_ret
  exact ⟨by rw [HF.out]; rfl, (Below.refl _ _).alloc (Nat.le_refl _) _⟩
 have HA : Hid (∀ x ∈ z, 0 ≤ x ∧ x ≤ 65535) := fun x hx => HA0.out x (by rw [List.take_of_length_le (by have := HZL.out; omega)]; exact hx)
 have HEE : Hid (tx (z.map Int.toNat) f t 8 = ip6L z) := HE.out (okG_yes HA.out)
 have hki : ¬ (k : Int) < 8 := by omega
 have hfl : f ≤ 8 ∧ t ≤ 8 := by have := HRO.out; omega
 obtain ⟨hf8, ht8⟩ := hfl
 have HGL : Hid ((z.map Int.toNat).length = 8) := by show _ = _; rw [List.length_map]; exact HZL.out
 clear HA0 HE hk hlt
 have hcs : True := trivial
 have HC0 : Hid (∀ k, k < 8 → (w.alloc (.cells #[.int .i64 x0, .int .i64 x1, .int .i64 x2, .int .i64 x3, .int .i64 x4, .int .i64 x5, .int .i64 x6, .int .i64 x7] 65)).cell? ⟨w.heap.size, k, none⟩ = some (.int .i64 ([x0, x1, x2, x3, x4, x5, x6, x7].getD k 0))) := fun k hk => cell8 w x0 x1 x2 x3 x4 x5 x6 x7 k hk
 have a0 : (w.alloc (.cells #[.int .i64 x0, .int .i64 x1, .int .i64 x2, .int .i64 x3, .int .i64 x4, .int .i64 x5, .int .i64 x6, .int .i64 x7] 65)).cell? ⟨w.heap.size, 0, none⟩ = some (.int .i64 x0) := HC0.out 0 (by decide)
 have a1 : (w.alloc (.cells #[.int .i64 x0, .int .i64 x1, .int .i64 x2, .int .i64 x3, .int .i64 x4, .int .i64 x5, .int .i64 x6, .int .i64 x7] 65)).cell? ⟨w.heap.size, 1, none⟩ = some (.int .i64 x1) := HC0.out 1 (by decide)
 have a2 : (w.alloc (.cells #[.int .i64 x0, .int .i64 x1, .int .i64 x2, .int .i64 x3, .int .i64 x4, .int .i64 x5, .int .i64 x6, .int .i64 x7] 65)).cell? ⟨w.heap.size, 2, none⟩ = some (.int .i64 x2) := HC0.out 2 (by decide)
 have a3 : (w.alloc (.cells #[.int .i64 x0, .int .i64 x1, .int .i64 x2, .int .i64 x3, .int .i64 x4, .int .i64 x5, .int .i64 x6, .int .i64 x7] 65)).cell? ⟨w.heap.size, 3, none⟩ = some (.int .i64 x3) := HC0.out 3 (by decide)
 have a4 : (w.alloc (.cells #[.int .i64 x0, .int .i64 x1, .int .i64 x2, .int .i64 x3, .int .i64 x4, .int .i64 x5, .int .i64 x6, .int .i64 x7] 65)).cell? ⟨w.heap.size, 4, none⟩ = some (.int .i64 x4) := HC0.out 4 (by decide)
 have a5 : (w.alloc (.cells #[.int .i64 x0, .int .i64 x1, .int .i64 x2, .int .i64 x3, .int .i64 x4, .int .i64 x5, .int .i64 x6, .int .i64 x7] 65)).cell? ⟨w.heap.size, 5, none⟩ = some (.int .i64 x5) := HC0.out 5 (by decide)
 have a6 : (w.alloc (.cells #[.int .i64 x0, .int .i64 x1, .int .i64 x2, .int .i64 x3, .int .i64 x4, .int .i64 x5, .int .i64 x6, .int .i64 x7] 65)).cell? ⟨w.heap.size, 6, none⟩ = some (.int .i64 x6) := HC0.out 6 (by decide)
 have a7 : (w.alloc (.cells #[.int .i64 x0, .int .i64 x1, .int .i64 x2, .int .i64 x3, .int .i64 x4, .int .i64 x5, .int .i64 x6, .int .i64 x7] 65)).cell? ⟨w.heap.size, 7, none⟩ = some (.int .i64 x7) := HC0.out 7 (by decide)
 go_wp2_with fail
 refine (CR.out _).mono ?_
 rintro e w1 ⟨rfl, b1⟩
 have HB1 : Hid (Below (w.alloc (.cells #[.int .i64 x0, .int .i64 x1, .int .i64 x2, .int .i64 x3, .int .i64 x4, .int .i64 x5, .int .i64 x6, .int .i64 x7] 65)).heap.size (w.alloc (.cells #[.int .i64 x0, .int .i64 x1, .int .i64 x2, .int .i64 x3, .int .i64 x4, .int .i64 x5, .int .i64 x6, .int .i64 x7] 65)) w1) := b1
 clear b1 a0 a1 a2 a3 a4 a5 a6 a7 HC0 hcs CR
 go_wp2_with fail
 go_loopw [6, 7] (fun S i wr => ∃ (k : Nat) (T : ByteArray), (k ≤ f ∨ t ≤ k) ∧ k ≤ 8 ∧ i = .int .i64 k ∧ S = .string T ∧ T.size ≤ 100 ∧ T = ⟨(tx (z.map Int.toNat) f t k).toArray⟩ ∧ Below (w.alloc (.cells #[.int .i64 x0, .int .i64 x1, .int .i64 x2, .int .i64 x3, .int .i64 x4, .int .i64 x5, .int .i64 x6, .int .i64 x7] 65)).heap.size (w.alloc (.cells #[.int .i64 x0, .int .i64 x1, .int .i64 x2, .int .i64 x3, .int .i64 x4, .int .i64 x5, .int .i64 x6, .int .i64 x7] 65)) wr) (fun _ i _ => 8 - (intOf i).toNat)
 case atStart => exact ⟨0, ⟨#[]⟩, .inl (Nat.zero_le _), by omega, rfl, rfl, by decide, rfl, HB1.out⟩
 obtain ⟨k, T, hkr, hk, rfl, rfl, hTs, hTe, hb1⟩ := hrel
 have HTE : Hid (T = ⟨(tx (z.map Int.toNat) f t k).toArray⟩) := hTe
 have HBW : Hid (Below w.heap.size w wr) := ((Below.refl _ w).alloc (Nat.le_refl _) _).trans (hb1.mono (by simp))
 have HKR : Hid (k ≤ f ∨ t ≤ k) := hkr
 clear hTe hkr
 by_cases hlt : k < 8
 ·have hki : (k : Int) < 8 := by omega
  by_cases hkf : k = f
  ·have hft : f < t := by have := HRO.out; omega
   have hkq : ((k : Int) == (f : Int)) = true := by simp; omega
   have HKF : Hid (k = f) := hkf
   have HT2 : Hid (tx (z.map Int.toNat) f t t = tx (z.map Int.toNat) f t f ++ [58, 58]) := tx_cut hft
   have ht0 : 0 < (t : Int) := by omega
   clear hkf
   have zc : (⟨#[58, 58]⟩ : ByteArray).size = 2 := rfl
   go_wp2_with fail
   go_roundw
   case rel =>
    refine ⟨t, T ++ ⟨#[58, 58]⟩, .inr (Nat.le_refl _), ht8, by go_num, rfl, ?_, ?_, hb1⟩
    ·have h1 := HT2.out
     have h2 := tx_len (f := f) (t := t) (k := t) HGL.out
     have h3 := HTE.out
     rw [HKF.out] at h3
     rw [show (T ++ ⟨#[58, 58]⟩ : ByteArray) = ⟨(tx (z.map Int.toNat) f t t).toArray⟩ by rw [h1, h3, show (⟨#[58, 58]⟩ : ByteArray) = ⟨[58, 58].toArray⟩ from rfl, cat_bytes]]
     show (tx (z.map Int.toNat) f t t).toArray.size ≤ 100
     rw [List.size_toArray]
     exact h2
    have h3 := HTE.out
    rw [HKF.out] at h3
    rw [HT2.out, h3, show (⟨#[58, 58]⟩ : ByteArray) = ⟨[58, 58].toArray⟩ from rfl, cat_bytes]
   case measure => simp [intOf]; have := HKF.out; omega
  have hkq : ((k : Int) == (f : Int)) = false := by simp; omega
  have hce := cell_later hb1 (HC.out k (by omega))
  have hgr := HA.out (z.getD k 0) (by
   rw [List.getD_eq_getElem?_getD, List.getElem?_eq_getElem (by have := HZL.out; omega)]
   exact List.getElem_mem _)
  have CT : Hid (∀ W, CB 93 #[.int .i64 (z.getD k 0)] W (.string (hexT (z.getD k 0)))) := fun W => specGroup _ W (by omega) (by omega)
  have HX : Hid (hexT (z.getD k 0) = ⟨(hex4 ((z.map Int.toNat).getD k 0)).toArray⟩) := by
   show _ = _
   unfold hexT
   simp only [List.getD_eq_getElem?_getD]
   rw [List.getElem?_eq_getElem (by have := HZL.out; omega), List.getElem?_eq_getElem (by rw [List.length_map]; have := HZL.out; omega), List.getElem_map]
   rfl
  have hs2 := hexT_size (z.getD k 0)
  generalize hexT (z.getD k 0) = T2 at CT HX hs2
  generalize z.getD k 0 = y at hce CT hgr
  clear hgr
  by_cases hcol : k = 0 ∨ k = t
  ·have HS : Hid (tx (z.map Int.toNat) f t (k + 1) = tx (z.map Int.toNat) f t k ++ hex4 ((z.map Int.toNat).getD k 0)) := by
    show _ = _
    have h1 := HKR.out
    have h2 := HRO.out
    by_cases h0 : k = 0
    ·subst h0
     exact tx_low0 HGL.out (by omega)
    have h3 : k = t := by omega
    subst h3
    exact tx_hi0 HGL.out (by omega) hlt
   by_cases hk0 : 0 < k
   ·have hk0' : 0 < (k : Int) := by omega
    have hkt : ((k : Int) == (t : Int)) = true := by simp; omega
    clear hcol hk0
    clear hkf
    go_wp2_with fail
    refine (CT.out _).mono ?_
    rintro e w2 ⟨rfl, b2⟩
    have B2 := hb1.trans (b2.mono hb1.size)
    clear b2 hb1 hce
    go_wp2_with fail
    go_roundw
    case rel =>
     have e1 : (T ++ T2 : ByteArray) = ⟨(tx (z.map Int.toNat) f t (k + 1)).toArray⟩ := by
      rw [HS.out, HTE.out, HX.out, cat_bytes]
     refine ⟨k + 1, T ++ T2, ?_, by omega, by go_num, rfl, ?_, e1, B2⟩
     ·have h1 := HKR.out
      have h2 : k ≠ f := fun h => by simp [h] at hkq
      omega
     rw [e1]
     show (tx (z.map Int.toNat) f t (k + 1)).toArray.size ≤ 100
     rw [List.size_toArray]
     exact tx_len HGL.out
    case measure => simp [intOf]; omega
   have hk0' : ¬ 0 < (k : Int) := by omega
   clear hcol hk0
   clear hkf
   go_wp2_with fail
   refine (CT.out _).mono ?_
   rintro e w2 ⟨rfl, b2⟩
   have B2 := hb1.trans (b2.mono hb1.size)
   clear b2 hb1 hce
   go_wp2_with fail
   go_roundw
   case rel =>
    have e1 : (T ++ T2 : ByteArray) = ⟨(tx (z.map Int.toNat) f t (k + 1)).toArray⟩ := by
     rw [HS.out, HTE.out, HX.out, cat_bytes]
    refine ⟨k + 1, T ++ T2, ?_, by omega, by go_num, rfl, ?_, e1, B2⟩
    ·have h1 := HKR.out
     have h2 : k ≠ f := fun h => by simp [h] at hkq
     omega
    rw [e1]
    show (tx (z.map Int.toNat) f t (k + 1)).toArray.size ≤ 100
    rw [List.size_toArray]
    exact tx_len HGL.out
   case measure => simp [intOf]; omega
  have HS : Hid (tx (z.map Int.toNat) f t (k + 1) = tx (z.map Int.toNat) f t k ++ [58] ++ hex4 ((z.map Int.toNat).getD k 0)) := by
   show _ = _
   have h1 := HKR.out
   have h2 := HRO.out
   by_cases h0 : k < f
   ·exact tx_low HGL.out (by omega) h0 hlt
   exact tx_hi HGL.out (by omega) (by omega) hlt
  have hk0 : 0 < (k : Int) := by omega
  have hkt : ((k : Int) == (t : Int)) = false := by simp; omega
  clear hcol hkf
  have zc : (⟨#[58]⟩ : ByteArray).size = 1 := rfl
  go_wp2_with fail
  refine (CT.out _).mono ?_
  rintro e w2 ⟨rfl, b2⟩
  have B2 := hb1.trans (b2.mono hb1.size)
  clear b2 hb1 hce
  go_wp2_with fail
  go_roundw
  case rel =>
   have e1 : (T ++ ⟨#[58]⟩ ++ T2 : ByteArray) = ⟨(tx (z.map Int.toNat) f t (k + 1)).toArray⟩ := by
    rw [HS.out, HTE.out, HX.out, show (⟨#[58]⟩ : ByteArray) = ⟨[58].toArray⟩ from rfl, cat_bytes, cat_bytes]
   refine ⟨k + 1, T ++ ⟨#[58]⟩ ++ T2, ?_, by omega, by go_num, rfl, ?_, e1, B2⟩
   ·have h1 := HKR.out
    have h2 : k ≠ f := fun h => by simp [h] at hkq
    omega
   rw [e1]
   show (tx (z.map Int.toNat) f t (k + 1)).toArray.size ≤ 100
   rw [List.size_toArray]
   exact tx_len HGL.out
  case measure => simp [intOf]; omega
 have HTT : Hid ((⟨(ip6L z).toArray⟩ : ByteArray) = T) := by
  show _ = _
  have h8 : k = 8 := by omega
  rw [HTE.out, h8, HEE.out]
 have hki : ¬ (k : Int) < 8 := by omega
 go_wp2_with fail
 go_ret
 exact ⟨by rw [HTT.out]; rfl, HBW.out⟩
def ZeroCells (W : World) (B : Nat) : Prop :=
 W.cell? ⟨B, 0, none⟩ = some (.int .i64 0) ∧ W.cell? ⟨B, 1, none⟩ = some (.int .i64 0) ∧ W.cell? ⟨B, 2, none⟩ = some (.int .i64 0) ∧ W.cell? ⟨B, 3, none⟩ = some (.int .i64 0) ∧
 W.cell? ⟨B, 4, none⟩ = some (.int .i64 0) ∧ W.cell? ⟨B, 5, none⟩ = some (.int .i64 0) ∧ W.cell? ⟨B, 6, none⟩ = some (.int .i64 0) ∧ W.cell? ⟨B, 7, none⟩ = some (.int .i64 0)
theorem zero_cells (w W : World) (t : TypeId) (hb : Below (w.alloc (.cells #[.int .i64 0, .int .i64 0, .int .i64 0, .int .i64 0, .int .i64 0, .int .i64 0, .int .i64 0, .int .i64 0] t)).heap.size (w.alloc (.cells #[.int .i64 0, .int .i64 0, .int .i64 0, .int .i64 0, .int .i64 0, .int .i64 0, .int .i64 0, .int .i64 0] t)) W) : ZeroCells W w.heap.size := by
 have key : ∀ j v, (#[.int .i64 0, .int .i64 0, .int .i64 0, .int .i64 0, .int .i64 0, .int .i64 0, .int .i64 0, .int .i64 0] : Array Value)[j]? = some v → W.cell? ⟨w.heap.size, j, none⟩ = some v := fun j v h => cell_later hb (by rw [World.cell?_alloc_at _ _ _ _ rfl]; simpa using h)
 exact ⟨key 0 _ rfl, key 1 _ rfl, key 2 _ rfl, key 3 _ rfl, key 4 _ rfl, key 5 _ rfl, key 6 _ rfl, key 7 _ rfl⟩
def Laid2 (w W : World) (k : Int) (s : ByteArray) (n : Int) (x0 x1 x2 x3 x4 x5 x6 x7 : Int) : Prop := HostCells w W k s n x0 x1 x2 x3 x4 x5 x6 x7 ∧ ZeroCells W (w.heap.size + 1)
theorem laid2 (w W : World) (k : Int) (s : ByteArray) (n : Int) (x0 x1 x2 x3 x4 x5 x6 x7 : Int) (t u : TypeId) (hb : Below ((w.alloc (.cells #[.int .i64 k, .string s, .int .i64 n, .int .i64 x0, .int .i64 x1, .int .i64 x2, .int .i64 x3, .int .i64 x4, .int .i64 x5, .int .i64 x6, .int .i64 x7] t)).alloc (.cells #[.int .i64 0, .int .i64 0, .int .i64 0, .int .i64 0, .int .i64 0, .int .i64 0, .int .i64 0, .int .i64 0] u)).heap.size ((w.alloc (.cells #[.int .i64 k, .string s, .int .i64 n, .int .i64 x0, .int .i64 x1, .int .i64 x2, .int .i64 x3, .int .i64 x4, .int .i64 x5, .int .i64 x6, .int .i64 x7] t)).alloc (.cells #[.int .i64 0, .int .i64 0, .int .i64 0, .int .i64 0, .int .i64 0, .int .i64 0, .int .i64 0, .int .i64 0] u)) W) : Laid2 w W k s n x0 x1 x2 x3 x4 x5 x6 x7 := by
 refine ⟨host_cells w W k s n x0 x1 x2 x3 x4 x5 x6 x7 t (((Below.refl _ _).alloc (Nat.le_refl _) _).trans (hb.mono (by simp))), ?_⟩
 have h := zero_cells _ W u hb
 rwa [show (w.alloc (.cells #[.int .i64 k, .string s, .int .i64 n, .int .i64 x0, .int .i64 x1, .int .i64 x2, .int .i64 x3, .int .i64 x4, .int .i64 x5, .int .i64 x6, .int .i64 x7] t)).heap.size = w.heap.size + 1 by simp] at h
theorem specHostOk1 (n : Int) (s : ByteArray) (x0 x1 x2 x3 x4 x5 x6 x7 : Int) (w : World) (hs : s.size ≤ 1048576) :
  Calls Tryz.prog 68 #[.agg #[.int .i64 1, .string s, .int .i64 n, .int .i64 x0, .int .i64 x1, .int .i64 x2, .int .i64 x3, .int .i64 x4, .int .i64 x5, .int .i64 x6, .int .i64 x7]] w fun e w' => e = .returned (.bool (hOk ⟨1, s, n, [x0, x1, x2, x3, x4, x5, x6, x7]⟩)) ∧ Below w.heap.size w w' := by
 have HZ0 : Hid (hOk ⟨1, s, n, [x0, x1, x2, x3, x4, x5, x6, x7]⟩ = (decide (nameL s = some s.data.toList) && !endL s && decide (n = 0) && eqB [x0, x1, x2, x3, x4, x5, x6, x7] zeros)) := rfl
 have CN : Hid (∀ W, CB 59 #[.string s] W (ansS (nameL s))) := fun W => specNameOf s W hs
 have CE : Hid (∀ W, CB 61 #[.string s] W (.bool (endL s))) := fun W => specEndsInNumber s W hs
 have heq : ∀ W, _ := eqA 9998 x0 x1 x2 x3 x4 x5 x6 x7 0 0 0 0 0 0 0 0
 rw [show [0, 0, 0, 0, 0, 0, 0, 0] = zeros from rfl, show 9998 + 2 = 10000 from rfl] at heq
 obtain ⟨O, hO⟩ : ∃ O, O = (w.alloc (.cells #[.int .i64 1, .string s, .int .i64 n, .int .i64 x0, .int .i64 x1, .int .i64 x2, .int .i64 x3, .int .i64 x4, .int .i64 x5, .int .i64 x6, .int .i64 x7] 67)).alloc (.cells #[.int .i64 0, .int .i64 0, .int .i64 0, .int .i64 0, .int .i64 0, .int .i64 0, .int .i64 0, .int .i64 0] 65) := ⟨_, rfl⟩
 have HL : Hid (∀ W, Below O.heap.size O W → Laid2 w W 1 s n x0 x1 x2 x3 x4 x5 x6 x7) := fun W h => by rw [hO] at h; exact laid2 w W _ _ _ x0 x1 x2 x3 x4 x5 x6 x7 _ _ h
 have HE : Hid (∀ W, Below O.heap.size O W → Below w.heap.size w W) := fun W h => by
  rw [hO] at h
  exact (((Below.refl _ w).alloc (Nat.le_refl _) _).alloc (by simp) _).trans (h.mono (by simp; omega))
 have CN1 : Hid (Calls Tryz.prog 59 #[.string s] O fun e w' => e = .returned (ansS (nameL s)) ∧ Hid (Below O.heap.size O w')) := CN.out O
 have CE1 : Hid (∀ W, Below O.heap.size O W → Calls Tryz.prog 61 #[.string s] W fun e w' => e = .returned (.bool (endL s)) ∧ Laid2 w w' 1 s n x0 x1 x2 x3 x4 x5 x6 x7 ∧ Hid (Below O.heap.size O w')) := fun W hW =>
  (CE.out W).mono fun e w' h => ⟨h.1, HL.out w' (hW.trans (h.2.mono hW.size)), hW.trans (h.2.mono hW.size)⟩
 clear CN CE
 generalize eqB [x0, x1, x2, x3, x4, x5, x6, x7] zeros = q at heq HZ0
 cases hn : nameL s with
 | none =>
  have HZ : Hid (hOk ⟨1, s, n, [x0, x1, x2, x3, x4, x5, x6, x7]⟩ = false) := by
   show _ = _
   rw [HZ0.out, hn, decide_eq_false (by simp)]
   rfl
  rw [hn, show ansS none = .tuple #[.string ⟨#[]⟩, .bool false] from rfl] at CN1
  clear hn HZ0
  go_enter Tryz.func68, Tryz.ntmps68
  go_wp2_with fail
  rw [← hO]
  refine CN1.out.mono ?_
  rintro e w1 ⟨rfl, b1⟩
  obtain ⟨⟨c0, c1, c2, c3, c4, c5, c6, c7, c8, c9, c10⟩, ⟨d0, d1, d2, d3, d4, d5, d6, d7⟩⟩ := HL.out w1 b1.out
  go_wp2_with fail
  go_ret
  exact ⟨by rw [HZ.out]; rfl, HE.out _ b1.out⟩
 | some m =>
  by_cases he : m = s.data.toList
  ·rw [hn, show ansS (some m) = .tuple #[.string s, .bool true] by rw [he]; show Value.tuple #[.string ⟨s.data.toList.toArray⟩, .bool true] = _; rw [arr_back]] at CN1
   have HZ1 : Hid (hOk ⟨1, s, n, [x0, x1, x2, x3, x4, x5, x6, x7]⟩ = (!endL s && decide (n = 0) && q)) := by
    show _ = _
    rw [HZ0.out, hn, he, decide_eq_true rfl]
    rfl
   clear hn HZ0 he
   generalize endL s = r at CE1 HZ1
   cases r with
   | true =>
    go_enter Tryz.func68, Tryz.ntmps68
    go_wp2_with fail
    rw [← hO]
    refine CN1.out.mono ?_
    rintro e w1 ⟨rfl, b1⟩
    obtain ⟨⟨c0, c1, c2, c3, c4, c5, c6, c7, c8, c9, c10⟩, ⟨d0, d1, d2, d3, d4, d5, d6, d7⟩⟩ := HL.out w1 b1.out
    go_wp2_with fail
    refine (CE1.out _ b1.out).mono ?_
    rintro e w2 ⟨rfl, ⟨⟨e0, e1, e2, e3, e4, e5, e6, e7, e8, e9, e10⟩, ⟨f0, f1, f2, f3, f4, f5, f6, f7⟩⟩, b2⟩
    go_wp2_with fail
    go_ret
    exact ⟨by rw [HZ1.out]; rfl, HE.out _ b2.out⟩
   | false =>
    by_cases h0 : n = 0
    ·subst h0
     go_enter Tryz.func68, Tryz.ntmps68
     go_wp2_with fail
     rw [← hO]
     refine CN1.out.mono ?_
     rintro e w1 ⟨rfl, b1⟩
     obtain ⟨⟨c0, c1, c2, c3, c4, c5, c6, c7, c8, c9, c10⟩, ⟨d0, d1, d2, d3, d4, d5, d6, d7⟩⟩ := HL.out w1 b1.out
     go_wp2_with fail
     refine (CE1.out _ b1.out).mono ?_
     rintro e w2 ⟨rfl, ⟨⟨e0, e1, e2, e3, e4, e5, e6, e7, e8, e9, e10⟩, ⟨f0, f1, f2, f3, f4, f5, f6, f7⟩⟩, b2⟩
     go_wp2_with fail
     go_ret
     exact ⟨by rw [HZ1.out]; rfl, HE.out _ b2.out⟩
    have HZ : Hid (hOk ⟨1, s, n, [x0, x1, x2, x3, x4, x5, x6, x7]⟩ = false) := by
     show _ = _
     rw [HZ1.out, decide_eq_false h0]
     rfl
    have q0 : (n == 0) = false := beq_eq_false_iff_ne.2 h0
    clear h0 HZ1
    go_enter Tryz.func68, Tryz.ntmps68
    go_wp2_with fail
    rw [← hO]
    refine CN1.out.mono ?_
    rintro e w1 ⟨rfl, b1⟩
    obtain ⟨⟨c0, c1, c2, c3, c4, c5, c6, c7, c8, c9, c10⟩, ⟨d0, d1, d2, d3, d4, d5, d6, d7⟩⟩ := HL.out w1 b1.out
    go_wp2_with fail
    refine (CE1.out _ b1.out).mono ?_
    rintro e w2 ⟨rfl, ⟨⟨e0, e1, e2, e3, e4, e5, e6, e7, e8, e9, e10⟩, ⟨f0, f1, f2, f3, f4, f5, f6, f7⟩⟩, b2⟩
    go_wp2_with fail
    go_ret
    exact ⟨by rw [HZ.out]; rfl, HE.out _ b2.out⟩
  have HZ : Hid (hOk ⟨1, s, n, [x0, x1, x2, x3, x4, x5, x6, x7]⟩ = false) := by
   show _ = _
   rw [HZ0.out, hn, decide_eq_false (by intro e; exact he (Option.some.inj e))]
   rfl
  have hne : ((⟨m.toArray⟩ : ByteArray).toList == s.toList) = false := str_ne (fun e => he (by rw [← e]))
  rw [hn, show ansS (some m) = .tuple #[.string ⟨m.toArray⟩, .bool true] from rfl] at CN1
  generalize (⟨m.toArray⟩ : ByteArray) = T at CN1 hne
  clear hn HZ0 he
  go_enter Tryz.func68, Tryz.ntmps68
  go_wp2_with fail
  rw [← hO]
  refine CN1.out.mono ?_
  rintro e w1 ⟨rfl, b1⟩
  obtain ⟨⟨c0, c1, c2, c3, c4, c5, c6, c7, c8, c9, c10⟩, ⟨d0, d1, d2, d3, d4, d5, d6, d7⟩⟩ := HL.out w1 b1.out
  go_wp2_with fail
  go_ret
  exact ⟨by rw [HZ.out]; rfl, HE.out _ b1.out⟩
theorem specHostOk2 (n : Int) (s : ByteArray) (x0 x1 x2 x3 x4 x5 x6 x7 : Int) (w : World) :
  Calls Tryz.prog 68 #[.agg #[.int .i64 2, .string s, .int .i64 n, .int .i64 x0, .int .i64 x1, .int .i64 x2, .int .i64 x3, .int .i64 x4, .int .i64 x5, .int .i64 x6, .int .i64 x7]] w fun e w' => e = .returned (.bool (hOk ⟨2, s, n, [x0, x1, x2, x3, x4, x5, x6, x7]⟩)) ∧ Below w.heap.size w w' := by
 have HZ0 : Hid (hOk ⟨2, s, n, [x0, x1, x2, x3, x4, x5, x6, x7]⟩ = (decide (s.size = 0) && decide (0 ≤ n ∧ n < 4294967296) && eqB [x0, x1, x2, x3, x4, x5, x6, x7] zeros)) := rfl
 have heq : ∀ W, _ := eqA 9998 x0 x1 x2 x3 x4 x5 x6 x7 0 0 0 0 0 0 0 0
 rw [show [0, 0, 0, 0, 0, 0, 0, 0] = zeros from rfl, show 9998 + 2 = 10000 from rfl] at heq
 obtain ⟨O, hO⟩ : ∃ O, O = (w.alloc (.cells #[.int .i64 2, .string s, .int .i64 n, .int .i64 x0, .int .i64 x1, .int .i64 x2, .int .i64 x3, .int .i64 x4, .int .i64 x5, .int .i64 x6, .int .i64 x7] 67)).alloc (.cells #[.int .i64 0, .int .i64 0, .int .i64 0, .int .i64 0, .int .i64 0, .int .i64 0, .int .i64 0, .int .i64 0] 65) := ⟨_, rfl⟩
 have HL : Hid (∀ W, Below O.heap.size O W → Laid2 w W 2 s n x0 x1 x2 x3 x4 x5 x6 x7) := fun W h => by rw [hO] at h; exact laid2 w W _ _ _ x0 x1 x2 x3 x4 x5 x6 x7 _ _ h
 have HE : Hid (∀ W, Below O.heap.size O W → Below w.heap.size w W) := fun W h => by
  rw [hO] at h
  exact (((Below.refl _ w).alloc (Nat.le_refl _) _).alloc (by simp) _).trans (h.mono (by simp; omega))
 generalize eqB [x0, x1, x2, x3, x4, x5, x6, x7] zeros = q at heq HZ0
 by_cases h0 : s.size = 0
 ·have hem := empty_yes h0
  by_cases hr : 0 ≤ n ∧ n < 4294967296
  ·have HZ : Hid (hOk ⟨2, s, n, [x0, x1, x2, x3, x4, x5, x6, x7]⟩ = q) := by
    show _ = _
    rw [HZ0.out, decide_eq_true h0, decide_eq_true hr]
    rfl
   have CI : Hid (∀ W, CS 18 #[.int .i64 n, .int .i64 0, .int .i64 4294967295] W (.bool true)) := fun W => labIn_yes _ _ _ W (by omega) (by omega)
   clear h0 hr HZ0
   go_enter Tryz.func68, Tryz.ntmps68
   go_wp2_with fail
   refine (CI.out _).mono ?_
   rintro e w1 ⟨rfl, rfl⟩
   go_wp2_with fail
   go_ret
   exact ⟨by rw [HZ.out]; rfl, by go_grown⟩
  have HZ : Hid (hOk ⟨2, s, n, [x0, x1, x2, x3, x4, x5, x6, x7]⟩ = false) := by
   show _ = _
   rw [HZ0.out, decide_eq_true h0, decide_eq_false hr]
   rfl
  have CI : Hid (∀ W, CS 18 #[.int .i64 n, .int .i64 0, .int .i64 4294967295] W (.bool false)) := fun W => labIn_no _ _ _ W (by omega)
  clear h0 hr HZ0
  go_enter Tryz.func68, Tryz.ntmps68
  go_wp2_with fail
  refine (CI.out _).mono ?_
  rintro e w1 ⟨rfl, rfl⟩
  go_wp2_with fail
  go_ret
  exact ⟨by rw [HZ.out]; rfl, by go_grown⟩
 have HZ : Hid (hOk ⟨2, s, n, [x0, x1, x2, x3, x4, x5, x6, x7]⟩ = false) := by
  show _ = _
  rw [HZ0.out, decide_eq_false h0]
  rfl
 have hem := empty_no (by omega : 0 < s.size)
 clear h0 HZ0
 go_enter Tryz.func68, Tryz.ntmps68
 go_wp2_with fail
 go_ret
 exact ⟨by rw [HZ.out]; rfl, by go_grown⟩
theorem ip6_empty (x0 x1 x2 x3 x4 x5 x6 x7 : Int) : (⟨(ip6L [x0, x1, x2, x3, x4, x5, x6, x7]).toArray⟩ : ByteArray).toList.isEmpty = !okG [x0, x1, x2, x3, x4, x5, x6, x7] := by
 cases h : okG [x0, x1, x2, x3, x4, x5, x6, x7] with
 | false =>
  have e : ip6L [x0, x1, x2, x3, x4, x5, x6, x7] = [] := by unfold ip6L; rw [if_neg (by rw [h]; decide)]
  rw [e]
  exact empty_yes rfl
 | true =>
  refine empty_no ?_
  show 0 < (ip6L [x0, x1, x2, x3, x4, x5, x6, x7]).toArray.size
  rw [List.size_toArray]
  unfold ip6L
  rw [if_pos h]
  exact Nat.lt_of_lt_of_le (by decide : 0 < 2) (ip6_len rfl (row_le (row_ok x0 x1 x2 x3 x4 x5 x6 x7)).2).1
theorem specHostOk3 (n : Int) (s : ByteArray) (x0 x1 x2 x3 x4 x5 x6 x7 : Int) (w : World) :
  Calls Tryz.prog 68 #[.agg #[.int .i64 3, .string s, .int .i64 n, .int .i64 x0, .int .i64 x1, .int .i64 x2, .int .i64 x3, .int .i64 x4, .int .i64 x5, .int .i64 x6, .int .i64 x7]] w fun e w' => e = .returned (.bool (hOk ⟨3, s, n, [x0, x1, x2, x3, x4, x5, x6, x7]⟩)) ∧ Below w.heap.size w w' := by
 have HZ0 : Hid (hOk ⟨3, s, n, [x0, x1, x2, x3, x4, x5, x6, x7]⟩ = (decide (s.size = 0) && decide (n = 0) && okG [x0, x1, x2, x3, x4, x5, x6, x7])) := rfl
 have hie := ip6_empty x0 x1 x2 x3 x4 x5 x6 x7
 have CT : Hid (∀ W, CB 83 #[.agg #[.int .i64 x0, .int .i64 x1, .int .i64 x2, .int .i64 x3, .int .i64 x4, .int .i64 x5, .int .i64 x6, .int .i64 x7]] W (.string ⟨(ip6L [x0, x1, x2, x3, x4, x5, x6, x7]).toArray⟩)) := fun W => specIp6Text x0 x1 x2 x3 x4 x5 x6 x7 W
 have heq : ∀ W, _ := eqA 9998 x0 x1 x2 x3 x4 x5 x6 x7 0 0 0 0 0 0 0 0
 rw [show [0, 0, 0, 0, 0, 0, 0, 0] = zeros from rfl, show 9998 + 2 = 10000 from rfl] at heq
 obtain ⟨O, hO⟩ : ∃ O, O = (w.alloc (.cells #[.int .i64 3, .string s, .int .i64 n, .int .i64 x0, .int .i64 x1, .int .i64 x2, .int .i64 x3, .int .i64 x4, .int .i64 x5, .int .i64 x6, .int .i64 x7] 67)).alloc (.cells #[.int .i64 0, .int .i64 0, .int .i64 0, .int .i64 0, .int .i64 0, .int .i64 0, .int .i64 0, .int .i64 0] 65) := ⟨_, rfl⟩
 have HL : Hid (∀ W, Below O.heap.size O W → Laid2 w W 3 s n x0 x1 x2 x3 x4 x5 x6 x7) := fun W h => by rw [hO] at h; exact laid2 w W _ _ _ x0 x1 x2 x3 x4 x5 x6 x7 _ _ h
 have HE : Hid (∀ W, Below O.heap.size O W → Below w.heap.size w W) := fun W h => by
  rw [hO] at h
  exact (((Below.refl _ w).alloc (Nat.le_refl _) _).alloc (by simp) _).trans (h.mono (by simp; omega))
 generalize (⟨(ip6L [x0, x1, x2, x3, x4, x5, x6, x7]).toArray⟩ : ByteArray) = T at CT hie
 generalize okG [x0, x1, x2, x3, x4, x5, x6, x7] = q at hie HZ0
 by_cases h0 : s.size = 0
 ·have hem := empty_yes h0
  by_cases hr : n = 0
  ·have HZ : Hid (hOk ⟨3, s, n, [x0, x1, x2, x3, x4, x5, x6, x7]⟩ = q) := by
    show _ = _
    rw [HZ0.out, decide_eq_true h0, decide_eq_true hr]
    rfl
   have CT1 : Hid (Calls Tryz.prog 83 #[.agg #[.int .i64 x0, .int .i64 x1, .int .i64 x2, .int .i64 x3, .int .i64 x4, .int .i64 x5, .int .i64 x6, .int .i64 x7]] O fun e w' => e = .returned (.string T) ∧ Hid (Below O.heap.size O w')) := CT.out O
   clear h0 HZ0
   subst hr
   cases q with
   | true =>
    have hie' : T.toList.isEmpty = false := hie
    clear hie
    go_enter Tryz.func68, Tryz.ntmps68
    go_wp2_with fail
    rw [← hO]
    refine CT1.out.mono ?_
    rintro e w1 ⟨rfl, b1⟩
    go_wp2_with fail
    go_ret
    exact ⟨by rw [HZ.out]; rfl, HE.out _ b1.out⟩
   | false =>
    have hie' : T.toList.isEmpty = true := hie
    clear hie
    go_enter Tryz.func68, Tryz.ntmps68
    go_wp2_with fail
    rw [← hO]
    refine CT1.out.mono ?_
    rintro e w1 ⟨rfl, b1⟩
    go_wp2_with fail
    go_ret
    exact ⟨by rw [HZ.out]; rfl, HE.out _ b1.out⟩
  have HZ : Hid (hOk ⟨3, s, n, [x0, x1, x2, x3, x4, x5, x6, x7]⟩ = false) := by
   show _ = _
   rw [HZ0.out, decide_eq_true h0, decide_eq_false hr]
   rfl
  have q0 : (n == 0) = false := beq_eq_false_iff_ne.2 hr
  clear h0 hr HZ0 hie
  go_enter Tryz.func68, Tryz.ntmps68
  go_wp2_with fail
  go_ret
  exact ⟨by rw [HZ.out]; rfl, by go_grown⟩
 have HZ : Hid (hOk ⟨3, s, n, [x0, x1, x2, x3, x4, x5, x6, x7]⟩ = false) := by
  show _ = _
  rw [HZ0.out, decide_eq_false h0]
  rfl
 have hem := empty_no (by omega : 0 < s.size)
 clear h0 HZ0 hie
 go_enter Tryz.func68, Tryz.ntmps68
 go_wp2_with fail
 go_ret
 exact ⟨by rw [HZ.out]; rfl, by go_grown⟩
theorem specHostOk0 (k n : Int) (s : ByteArray) (x0 x1 x2 x3 x4 x5 x6 x7 : Int) (w : World) (h1 : ¬ k = 1) (h2 : ¬ k = 2) (h3 : ¬ k = 3) :
  Calls Tryz.prog 68 #[.agg #[.int .i64 k, .string s, .int .i64 n, .int .i64 x0, .int .i64 x1, .int .i64 x2, .int .i64 x3, .int .i64 x4, .int .i64 x5, .int .i64 x6, .int .i64 x7]] w fun e w' => e = .returned (.bool (hOk ⟨k, s, n, [x0, x1, x2, x3, x4, x5, x6, x7]⟩)) ∧ Below w.heap.size w w' := by
 have HZ : Hid (hOk ⟨k, s, n, [x0, x1, x2, x3, x4, x5, x6, x7]⟩ = false) := hOk0 k n s _ h1 h2 h3
 have q1 : (k == 1) = false := beq_eq_false_iff_ne.2 h1
 have q2 : (k == 2) = false := beq_eq_false_iff_ne.2 h2
 have q3 : (k == 3) = false := beq_eq_false_iff_ne.2 h3
 clear h1 h2 h3
 go_enter Tryz.func68, Tryz.ntmps68
 go_wp2_with fail
 go_ret
 exact ⟨by rw [HZ.out]; rfl, by go_grown⟩
theorem specHostOk (k n : Int) (s : ByteArray) (x0 x1 x2 x3 x4 x5 x6 x7 : Int) (w : World) (hs : s.size ≤ 1048576) :
  Calls Tryz.prog 68 #[.agg #[.int .i64 k, .string s, .int .i64 n, .int .i64 x0, .int .i64 x1, .int .i64 x2, .int .i64 x3, .int .i64 x4, .int .i64 x5, .int .i64 x6, .int .i64 x7]] w fun e w' => e = .returned (.bool (hOk ⟨k, s, n, [x0, x1, x2, x3, x4, x5, x6, x7]⟩)) ∧ Below w.heap.size w w' := by
 by_cases h1 : k = 1
 ·subst h1; exact specHostOk1 n s x0 x1 x2 x3 x4 x5 x6 x7 w hs
 by_cases h2 : k = 2
 ·subst h2; exact specHostOk2 n s x0 x1 x2 x3 x4 x5 x6 x7 w
 by_cases h3 : k = 3
 ·subst h3; exact specHostOk3 n s x0 x1 x2 x3 x4 x5 x6 x7 w
 exact specHostOk0 k n s x0 x1 x2 x3 x4 x5 x6 x7 w h1 h2 h3
end Go.Proofs.YtidecdlaeomfoaaGreat
