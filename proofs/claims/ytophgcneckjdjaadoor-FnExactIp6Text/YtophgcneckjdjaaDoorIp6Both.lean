/- Contract of the specification's Ip6Text: its own loops. -/
import Derived.Test.YtophgcneckjdjaaDoorRows
import Derived.Test.YtophgcneckjdjaaDoorIp6Spec
namespace Go.Proofs.YtophgcneckjdjaaDoor
open Go.RowKit

/-- The text ahead of the group k. -/
def tx (gs : List Nat) (f t k : Nat) : List UInt8 := if k ≤ f then gtL (gs.take k) else gtL (gs.take f) ++ 58 :: 58 :: gtL ((gs.drop t).take (k - t))

theorem tx_low0 {gs : List Nat} {f t : Nat} (hl : gs.length = 8) (h : 0 < f) : tx gs f t (0 + 1) = tx gs f t 0 ++ hex4 (gs.getD 0 0) := by
  unfold tx
  rw [if_pos (by omega), if_pos (by omega), gt_zero gs (by omega)]
  rfl
theorem tx_low {gs : List Nat} {f t k : Nat} (hl : gs.length = 8) (hk : 0 < k) (h : k < f) (h8 : k < 8) : tx gs f t (k + 1) = tx gs f t k ++ [58] ++ hex4 (gs.getD k 0) := by
  unfold tx
  rw [if_pos (by omega), if_pos (by omega), gt_succ gs k (by omega) hk]
theorem tx_cut {gs : List Nat} {f t : Nat} (h : f < t) : tx gs f t t = tx gs f t f ++ [58, 58] := by
  unfold tx
  rw [if_neg (by omega), if_pos (by omega), Nat.sub_self, List.take_zero]
  rfl
theorem tx_hi0 {gs : List Nat} {f t : Nat} (hl : gs.length = 8) (h : f < t) (h8 : t < 8) : tx gs f t (t + 1) = tx gs f t t ++ hex4 (gs.getD t 0) := by
  unfold tx
  rw [if_neg (by omega), if_neg (by omega), Nat.sub_self, List.take_zero, show t + 1 - t = 1 by omega, gt_zero _ (by rw [List.length_drop]; omega)]
  rw [show (gs.drop t).getD 0 0 = gs.getD t 0 by simp [List.getD]]
  simp [gtL, jl]
theorem tx_hi {gs : List Nat} {f t k : Nat} (hl : gs.length = 8) (h : f < t) (hk : t < k) (h8 : k < 8) : tx gs f t (k + 1) = tx gs f t k ++ [58] ++ hex4 (gs.getD k 0) := by
  unfold tx
  rw [if_neg (by omega), if_neg (by omega), show k + 1 - t = (k - t) + 1 by omega, gt_succ _ (k - t) (by rw [List.length_drop]; omega) (by omega)]
  rw [show (gs.drop t).getD (k - t) 0 = gs.getD k 0 by simp [List.getD, show t + (k - t) = k by omega]]
  simp
theorem tx_len {gs : List Nat} {f t k : Nat} (hl : gs.length = 8) : (tx gs f t k).length ≤ 100 := by
  unfold tx
  have g1 := (gt_len (gs.take k)).1
  have g2 := (gt_len (gs.take f)).1
  have g3 := (gt_len ((gs.drop t).take (k - t))).1
  simp only [List.length_take, List.length_drop] at g1 g2 g3
  split
  · omega
  · simp only [List.length_append, List.length_cons]
    omega

theorem tx_end (x0 x1 x2 x3 x4 x5 x6 x7 : Int) (hok : okG [x0, x1, x2, x3, x4, x5, x6, x7] = true) :
    tx ([x0, x1, x2, x3, x4, x5, x6, x7].map Int.toNat) (rowS 0 (8, 8) (zb [x0, x1, x2, x3, x4, x5, x6, x7])).1 (rowS 0 (8, 8) (zb [x0, x1, x2, x3, x4, x5, x6, x7])).2 8 = ip6L [x0, x1, x2, x3, x4, x5, x6, x7] := by
  have h := row_ok x0 x1 x2 x3 x4 x5 x6 x7
  unfold ip6L
  rw [if_pos hok]
  have hl : ([x0, x1, x2, x3, x4, x5, x6, x7].map Int.toNat).length = 8 := rfl
  generalize [x0, x1, x2, x3, x4, x5, x6, x7].map Int.toNat = gs at hl
  unfold rowOkB at h
  generalize rowI 0 (0, 0, 0) (zb [x0, x1, x2, x3, x4, x5, x6, x7]) = p at h
  generalize rowS 0 (8, 8) (zb [x0, x1, x2, x3, x4, x5, x6, x7]) = q at h
  simp only [Bool.and_eq_true, decide_eq_true_eq] at h
  obtain ⟨⟨h1, h2⟩, h3⟩ := h
  by_cases c : p.2.1 - p.1 < 2
  · rw [if_pos c] at h3
    simp only [decide_eq_true_eq] at h3
    subst h3
    unfold tx ip6T
    rw [if_pos (by simp), if_pos c, List.take_of_length_le (by omega)]
  · rw [if_neg c] at h3
    simp only [Bool.and_eq_true, decide_eq_true_eq] at h3
    rw [h3.1]
    unfold tx ip6T
    simp only
    rw [if_neg (by omega), if_neg c, List.take_of_length_le (l := gs.drop p.2.1) (by rw [List.length_drop]; omega)]

/-- The row that the specification finds: none, or two or more. -/
theorem rowS_ok (x0 x1 x2 x3 x4 x5 x6 x7 : Int) : ((rowS 0 (8, 8) (zb [x0, x1, x2, x3, x4, x5, x6, x7])).1 = 8 ∧ (rowS 0 (8, 8) (zb [x0, x1, x2, x3, x4, x5, x6, x7])).2 = 8) ∨ ((rowS 0 (8, 8) (zb [x0, x1, x2, x3, x4, x5, x6, x7])).1 < (rowS 0 (8, 8) (zb [x0, x1, x2, x3, x4, x5, x6, x7])).2 ∧ (rowS 0 (8, 8) (zb [x0, x1, x2, x3, x4, x5, x6, x7])).2 ≤ 8) := by
  have h := row_ok x0 x1 x2 x3 x4 x5 x6 x7
  unfold rowOkB at h
  generalize rowI 0 (0, 0, 0) (zb [x0, x1, x2, x3, x4, x5, x6, x7]) = p at h
  generalize rowS 0 (8, 8) (zb [x0, x1, x2, x3, x4, x5, x6, x7]) = q at h
  simp only [Bool.and_eq_true, decide_eq_true_eq] at h
  obtain ⟨⟨h1, h2⟩, h3⟩ := h
  by_cases c : p.2.1 - p.1 < 2
  · rw [if_pos c] at h3
    simp only [decide_eq_true_eq] at h3
    subst h3
    exact .inl ⟨rfl, rfl⟩
  · rw [if_neg c] at h3
    simp only [Bool.and_eq_true, decide_eq_true_eq] at h3
    rw [h3.1]
    exact .inr ⟨by simp only; omega, h2⟩

theorem ip6L_no {z : List Int} (h : okG z = false) : ip6L z = [] := by unfold ip6L; rw [h]; rfl




set_option maxRecDepth 20000 in
set_option maxHeartbeats 8000000 in
theorem specIp6Text (x0 x1 x2 x3 x4 x5 x6 x7 : Int) (w : World) :
    Calls Tryd.prog 20 #[.agg #[.int .i64 x0, .int .i64 x1, .int .i64 x2, .int .i64 x3, .int .i64 x4, .int .i64 x5, .int .i64 x6, .int .i64 x7]] w fun e w' => e = .returned (.string ⟨(ip6L [x0, x1, x2, x3, x4, x5, x6, x7]).toArray⟩) ∧ Below w.heap.size w w' := by
  have HC : Hid (∀ k, k < 8 → (w.alloc (.cells #[.int .i64 x0, .int .i64 x1, .int .i64 x2, .int .i64 x3, .int .i64 x4, .int .i64 x5, .int .i64 x6, .int .i64 x7] 24)).cell? ⟨w.heap.size, k, none⟩ = some (.int .i64 ([x0, x1, x2, x3, x4, x5, x6, x7].getD k 0))) := fun k hk => cell8 w x0 x1 x2 x3 x4 x5 x6 x7 k hk
  have CR : Hid (∀ W, Calls Tryd.prog 45 #[.agg #[.int .i64 x0, .int .i64 x1, .int .i64 x2, .int .i64 x3, .int .i64 x4, .int .i64 x5, .int .i64 x6, .int .i64 x7]] W fun e w' => e = .returned (rowW (rowS 0 (8, 8) (zb [x0, x1, x2, x3, x4, x5, x6, x7]))) ∧ Below W.heap.size W w') := fun W => specRow x0 x1 x2 x3 x4 x5 x6 x7 W
  have HE : Hid (okG [x0, x1, x2, x3, x4, x5, x6, x7] = true → tx ([x0, x1, x2, x3, x4, x5, x6, x7].map Int.toNat) (rowS 0 (8, 8) (zb [x0, x1, x2, x3, x4, x5, x6, x7])).1 (rowS 0 (8, 8) (zb [x0, x1, x2, x3, x4, x5, x6, x7])).2 8 = ip6L [x0, x1, x2, x3, x4, x5, x6, x7]) := tx_end x0 x1 x2 x3 x4 x5 x6 x7
  have HRO : Hid (((rowS 0 (8, 8) (zb [x0, x1, x2, x3, x4, x5, x6, x7])).1 = 8 ∧ (rowS 0 (8, 8) (zb [x0, x1, x2, x3, x4, x5, x6, x7])).2 = 8) ∨ ((rowS 0 (8, 8) (zb [x0, x1, x2, x3, x4, x5, x6, x7])).1 < (rowS 0 (8, 8) (zb [x0, x1, x2, x3, x4, x5, x6, x7])).2 ∧ (rowS 0 (8, 8) (zb [x0, x1, x2, x3, x4, x5, x6, x7])).2 ≤ 8)) := rowS_ok x0 x1 x2 x3 x4 x5 x6 x7
  generalize rowS 0 (8, 8) (zb [x0, x1, x2, x3, x4, x5, x6, x7]) = r at CR HE HRO
  obtain ⟨f, t⟩ := r
  simp only [rowW] at CR HE HRO
  generalize hz : [x0, x1, x2, x3, x4, x5, x6, x7] = z at HC HE ⊢
  have HZL : Hid (z.length = 8) := by show _ = _; rw [← hz]; rfl
  have HZZ : Hid ([x0, x1, x2, x3, x4, x5, x6, x7] = z) := hz
  clear hz
  go_enter Tryd.func20, Tryd.ntmps20
  go_wp2
  go_loop [3] (fun i => ∃ k : Nat, k ≤ 8 ∧ i = .int .i64 k ∧ ∀ x ∈ z.take k, 0 ≤ x ∧ x ≤ 65535) (fun i => 8 - (intOf i).toNat)
  case atStart => exact ⟨0, by omega, rfl, fun x hx => by simp at hx⟩
  case round =>
    obtain ⟨k, hk, rfl, hall⟩ := hrel
    have HA0 : Hid (∀ x ∈ z.take k, 0 ≤ x ∧ x ≤ 65535) := hall
    clear hall
    by_cases hlt : k < 8
    · have hce := HC.out k hlt
      have HT : Hid (z.take (k + 1) = z.take k ++ [z.getD k 0]) := ztake_snoc z k (by have := HZL.out; omega)
      have HM : Hid (z.getD k 0 ∈ z) := by
        show _ ∈ _
        rw [List.getD_eq_getElem?_getD, List.getElem?_eq_getElem (by have := HZL.out; omega)]
        exact List.getElem_mem _
      have hki : (k : Int) < 8 := by omega
      generalize z.getD k 0 = y at hce HT HM
      by_cases hy : 0 ≤ y ∧ y ≤ 65535
      · obtain ⟨hy0, hy1⟩ := hy
        go_wp2_with fail
        refine (specL1In_yes _ _ _ _ hy0 hy1).mono ?_
        rintro e w' ⟨rfl, rfl⟩
        go_wp2_with fail
        go_round
        case rel =>
          refine ⟨k + 1, by omega, by go_num, fun x hx => ?_⟩
          rw [HT.out] at hx
          rcases List.mem_append.1 hx with h | h
          · exact HA0.out x h
          · rw [List.mem_singleton.1 h]; exact ⟨hy0, hy1⟩
        case measure => simp [intOf]; omega
      · have HF : Hid (ip6L z = []) := ip6L_no (okG_no HM.out hy)
        have HY : Hid (y < 0 ∨ 65535 < y) := by show _ ∨ _; omega
        clear hy
        go_wp2_with fail
        refine (specL1In_no _ _ _ _ HY.out).mono ?_
        rintro e w' ⟨rfl, rfl⟩
        go_wp2_with fail
        go_ret
        exact ⟨by rw [HF.out]; rfl, (Below.refl _ _).alloc (Nat.le_refl _) _⟩
    · have HA : Hid (∀ x ∈ z, 0 ≤ x ∧ x ≤ 65535) := fun x hx => HA0.out x (by rw [List.take_of_length_le (by have := HZL.out; omega)]; exact hx)
      have HEE : Hid (tx (z.map Int.toNat) f t 8 = ip6L z) := HE.out (okG_yes HA.out)
      have hki : ¬ (k : Int) < 8 := by omega
      have hfl : f ≤ 8 ∧ t ≤ 8 := by have := HRO.out; omega
      obtain ⟨hf8, ht8⟩ := hfl
      have HGL : Hid ((z.map Int.toNat).length = 8) := by show _ = _; rw [List.length_map]; exact HZL.out
      clear HA0 HE hk hlt
      have hcs : True := trivial
      have HC0 : Hid (∀ k, k < 8 → (w.alloc (.cells #[.int .i64 x0, .int .i64 x1, .int .i64 x2, .int .i64 x3, .int .i64 x4, .int .i64 x5, .int .i64 x6, .int .i64 x7] 24)).cell? ⟨w.heap.size, k, none⟩ = some (.int .i64 ([x0, x1, x2, x3, x4, x5, x6, x7].getD k 0))) := fun k hk => cell8 w x0 x1 x2 x3 x4 x5 x6 x7 k hk
      have a0 : (w.alloc (.cells #[.int .i64 x0, .int .i64 x1, .int .i64 x2, .int .i64 x3, .int .i64 x4, .int .i64 x5, .int .i64 x6, .int .i64 x7] 24)).cell? ⟨w.heap.size, 0, none⟩ = some (.int .i64 x0) := HC0.out 0 (by decide)
      have a1 : (w.alloc (.cells #[.int .i64 x0, .int .i64 x1, .int .i64 x2, .int .i64 x3, .int .i64 x4, .int .i64 x5, .int .i64 x6, .int .i64 x7] 24)).cell? ⟨w.heap.size, 1, none⟩ = some (.int .i64 x1) := HC0.out 1 (by decide)
      have a2 : (w.alloc (.cells #[.int .i64 x0, .int .i64 x1, .int .i64 x2, .int .i64 x3, .int .i64 x4, .int .i64 x5, .int .i64 x6, .int .i64 x7] 24)).cell? ⟨w.heap.size, 2, none⟩ = some (.int .i64 x2) := HC0.out 2 (by decide)
      have a3 : (w.alloc (.cells #[.int .i64 x0, .int .i64 x1, .int .i64 x2, .int .i64 x3, .int .i64 x4, .int .i64 x5, .int .i64 x6, .int .i64 x7] 24)).cell? ⟨w.heap.size, 3, none⟩ = some (.int .i64 x3) := HC0.out 3 (by decide)
      have a4 : (w.alloc (.cells #[.int .i64 x0, .int .i64 x1, .int .i64 x2, .int .i64 x3, .int .i64 x4, .int .i64 x5, .int .i64 x6, .int .i64 x7] 24)).cell? ⟨w.heap.size, 4, none⟩ = some (.int .i64 x4) := HC0.out 4 (by decide)
      have a5 : (w.alloc (.cells #[.int .i64 x0, .int .i64 x1, .int .i64 x2, .int .i64 x3, .int .i64 x4, .int .i64 x5, .int .i64 x6, .int .i64 x7] 24)).cell? ⟨w.heap.size, 5, none⟩ = some (.int .i64 x5) := HC0.out 5 (by decide)
      have a6 : (w.alloc (.cells #[.int .i64 x0, .int .i64 x1, .int .i64 x2, .int .i64 x3, .int .i64 x4, .int .i64 x5, .int .i64 x6, .int .i64 x7] 24)).cell? ⟨w.heap.size, 6, none⟩ = some (.int .i64 x6) := HC0.out 6 (by decide)
      have a7 : (w.alloc (.cells #[.int .i64 x0, .int .i64 x1, .int .i64 x2, .int .i64 x3, .int .i64 x4, .int .i64 x5, .int .i64 x6, .int .i64 x7] 24)).cell? ⟨w.heap.size, 7, none⟩ = some (.int .i64 x7) := HC0.out 7 (by decide)
      go_wp2_with fail
      refine (CR.out _).mono ?_
      rintro e w1 ⟨rfl, b1⟩
      have HB1 : Hid (Below (w.alloc (.cells #[.int .i64 x0, .int .i64 x1, .int .i64 x2, .int .i64 x3, .int .i64 x4, .int .i64 x5, .int .i64 x6, .int .i64 x7] 24)).heap.size (w.alloc (.cells #[.int .i64 x0, .int .i64 x1, .int .i64 x2, .int .i64 x3, .int .i64 x4, .int .i64 x5, .int .i64 x6, .int .i64 x7] 24)) w1) := b1
      clear b1 a0 a1 a2 a3 a4 a5 a6 a7 HC0 hcs CR
      go_wp2_with fail
      go_loopw [6, 7] (fun S i wr => ∃ (k : Nat) (T : ByteArray), (k ≤ f ∨ t ≤ k) ∧ k ≤ 8 ∧ i = .int .i64 k ∧ S = .string T ∧ T.size ≤ 100 ∧ T = ⟨(tx (z.map Int.toNat) f t k).toArray⟩ ∧ Below (w.alloc (.cells #[.int .i64 x0, .int .i64 x1, .int .i64 x2, .int .i64 x3, .int .i64 x4, .int .i64 x5, .int .i64 x6, .int .i64 x7] 24)).heap.size (w.alloc (.cells #[.int .i64 x0, .int .i64 x1, .int .i64 x2, .int .i64 x3, .int .i64 x4, .int .i64 x5, .int .i64 x6, .int .i64 x7] 24)) wr) (fun _ i _ => 8 - (intOf i).toNat)
      case atStart => exact ⟨0, ⟨#[]⟩, .inl (Nat.zero_le _), by omega, rfl, rfl, by decide, rfl, HB1.out⟩
      case round =>
        obtain ⟨k, T, hkr, hk, rfl, rfl, hTs, hTe, hb1⟩ := hrel
        have HTE : Hid (T = ⟨(tx (z.map Int.toNat) f t k).toArray⟩) := hTe
        have HBW : Hid (Below w.heap.size w wr) := ((Below.refl _ w).alloc (Nat.le_refl _) _).trans (hb1.mono (by simp))
        have HKR : Hid (k ≤ f ∨ t ≤ k) := hkr
        clear hTe hkr
        by_cases hlt : k < 8
        · have hki : (k : Int) < 8 := by omega
          by_cases hkf : k = f
          · have hft : f < t := by have := HRO.out; omega
            have hkq : ((k : Int) == (f : Int)) = true := by simp; omega
            have HKF : Hid (k = f) := hkf
            have HT2 : Hid (tx (z.map Int.toNat) f t t = tx (z.map Int.toNat) f t f ++ [58, 58]) := tx_cut hft
            have ht0 : 0 < (t : Int) := by omega
            clear hkf
            have zc : (⟨#[58, 58]⟩ : ByteArray).size = 2 := rfl
            go_wp2_with fail
            go_roundw
            case rel =>
              refine ⟨t, T ++ ⟨#[58, 58]⟩, .inr (Nat.le_refl _), ht8, by go_num, rfl, ?_, ?_, hb1⟩
              · have h1 := HT2.out
                have h2 := tx_len (f := f) (t := t) (k := t) HGL.out
                have h3 := HTE.out
                rw [HKF.out] at h3
                rw [show (T ++ ⟨#[58, 58]⟩ : ByteArray) = ⟨(tx (z.map Int.toNat) f t t).toArray⟩ by rw [h1, h3, show (⟨#[58, 58]⟩ : ByteArray) = ⟨[58, 58].toArray⟩ from rfl, cat_bytes]]
                show (tx (z.map Int.toNat) f t t).toArray.size ≤ 100
                rw [List.size_toArray]
                exact h2
              · have h3 := HTE.out
                rw [HKF.out] at h3
                rw [HT2.out, h3, show (⟨#[58, 58]⟩ : ByteArray) = ⟨[58, 58].toArray⟩ from rfl, cat_bytes]
            case measure => simp [intOf]; have := HKF.out; omega
          · have hkq : ((k : Int) == (f : Int)) = false := by simp; omega
            have hce := cell_later hb1 (HC.out k (by omega))
            have hgr := HA.out (z.getD k 0) (by
              rw [List.getD_eq_getElem?_getD, List.getElem?_eq_getElem (by have := HZL.out; omega)]
              exact List.getElem_mem _)
            have CT : Hid (∀ W, Calls Tryd.prog 46 #[.int .i64 (z.getD k 0)] W fun e w' => e = .returned (.string (hexT (z.getD k 0))) ∧ Below W.heap.size W w') := fun W => specGroup _ W (by omega) (by omega)
            have HX : Hid (hexT (z.getD k 0) = ⟨(hex4 ((z.map Int.toNat).getD k 0)).toArray⟩) := by
              show _ = _
              unfold hexT
              simp only [List.getD_eq_getElem?_getD]
              rw [List.getElem?_eq_getElem (by have := HZL.out; omega), List.getElem?_eq_getElem (by rw [List.length_map]; have := HZL.out; omega), List.getElem_map]
              rfl
            have hs2 := hexT_size (z.getD k 0)
            generalize hexT (z.getD k 0) = T2 at CT HX hs2
            generalize z.getD k 0 = y at hce CT hgr
            clear hgr
            by_cases hcol : k = 0 ∨ k = t
            · have HS : Hid (tx (z.map Int.toNat) f t (k + 1) = tx (z.map Int.toNat) f t k ++ hex4 ((z.map Int.toNat).getD k 0)) := by
                show _ = _
                have h1 := HKR.out
                have h2 := HRO.out
                by_cases h0 : k = 0
                · subst h0
                  exact tx_low0 HGL.out (by omega)
                · have h3 : k = t := by omega
                  subst h3
                  exact tx_hi0 HGL.out (by omega) hlt
              by_cases hk0 : 0 < k
              · have hk0' : 0 < (k : Int) := by omega
                have hkt : ((k : Int) == (t : Int)) = true := by simp; omega
                clear hcol hk0
                clear hkf
                go_wp2_with fail
                refine (CT.out _).mono ?_
                rintro e w2 ⟨rfl, b2⟩
                have B2 := hb1.trans (b2.mono hb1.size)
                clear b2 hb1 hce
                go_wp2_with fail
                go_roundw
                case rel =>
                  have e1 : (T ++ T2 : ByteArray) = ⟨(tx (z.map Int.toNat) f t (k + 1)).toArray⟩ := by
                    rw [HS.out, HTE.out, HX.out, cat_bytes]
                  refine ⟨k + 1, T ++ T2, ?_, by omega, by go_num, rfl, ?_, e1, B2⟩
                  · have h1 := HKR.out
                    have h2 : k ≠ f := fun h => by simp [h] at hkq
                    omega
                  · rw [e1]
                    show (tx (z.map Int.toNat) f t (k + 1)).toArray.size ≤ 100
                    rw [List.size_toArray]
                    exact tx_len HGL.out
                case measure => simp [intOf]; omega
              · have hk0' : ¬ 0 < (k : Int) := by omega
                clear hcol hk0
                clear hkf
                go_wp2_with fail
                refine (CT.out _).mono ?_
                rintro e w2 ⟨rfl, b2⟩
                have B2 := hb1.trans (b2.mono hb1.size)
                clear b2 hb1 hce
                go_wp2_with fail
                go_roundw
                case rel =>
                  have e1 : (T ++ T2 : ByteArray) = ⟨(tx (z.map Int.toNat) f t (k + 1)).toArray⟩ := by
                    rw [HS.out, HTE.out, HX.out, cat_bytes]
                  refine ⟨k + 1, T ++ T2, ?_, by omega, by go_num, rfl, ?_, e1, B2⟩
                  · have h1 := HKR.out
                    have h2 : k ≠ f := fun h => by simp [h] at hkq
                    omega
                  · rw [e1]
                    show (tx (z.map Int.toNat) f t (k + 1)).toArray.size ≤ 100
                    rw [List.size_toArray]
                    exact tx_len HGL.out
                case measure => simp [intOf]; omega
            · have HS : Hid (tx (z.map Int.toNat) f t (k + 1) = tx (z.map Int.toNat) f t k ++ [58] ++ hex4 ((z.map Int.toNat).getD k 0)) := by
                show _ = _
                have h1 := HKR.out
                have h2 := HRO.out
                by_cases h0 : k < f
                · exact tx_low HGL.out (by omega) h0 hlt
                · exact tx_hi HGL.out (by omega) (by omega) hlt
              have hk0 : 0 < (k : Int) := by omega
              have hkt : ((k : Int) == (t : Int)) = false := by simp; omega
              clear hcol hkf
              have zc : (⟨#[58]⟩ : ByteArray).size = 1 := rfl
              go_wp2_with fail
              refine (CT.out _).mono ?_
              rintro e w2 ⟨rfl, b2⟩
              have B2 := hb1.trans (b2.mono hb1.size)
              clear b2 hb1 hce
              go_wp2_with fail
              go_roundw
              case rel =>
                have e1 : (T ++ ⟨#[58]⟩ ++ T2 : ByteArray) = ⟨(tx (z.map Int.toNat) f t (k + 1)).toArray⟩ := by
                  rw [HS.out, HTE.out, HX.out, show (⟨#[58]⟩ : ByteArray) = ⟨[58].toArray⟩ from rfl, cat_bytes, cat_bytes]
                refine ⟨k + 1, T ++ ⟨#[58]⟩ ++ T2, ?_, by omega, by go_num, rfl, ?_, e1, B2⟩
                · have h1 := HKR.out
                  have h2 : k ≠ f := fun h => by simp [h] at hkq
                  omega
                · rw [e1]
                  show (tx (z.map Int.toNat) f t (k + 1)).toArray.size ≤ 100
                  rw [List.size_toArray]
                  exact tx_len HGL.out
              case measure => simp [intOf]; omega
        · have HTT : Hid ((⟨(ip6L z).toArray⟩ : ByteArray) = T) := by
            show _ = _
            have h8 : k = 8 := by omega
            rw [HTE.out, h8, HEE.out]
          have hki : ¬ (k : Int) < 8 := by omega
          go_wp2_with fail
          go_ret
          exact ⟨by rw [HTT.out]; rfl, HBW.out⟩
end Go.Proofs.YtophgcneckjdjaaDoor
