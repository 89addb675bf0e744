/- Contracts of walks over the eight groups of an address. -/
import Derived.Test.YtophgcneckjdjaaDoorRows
import Derived.Test.YtophgcneckjdjaaDoorBase
import Derived.Test.YtophgcneckjdjaaDoorIp6Plain
namespace Go.Proofs.YtophgcneckjdjaaDoor
open Go.RowKit

def okG (z : List Int) : Bool := z.all fun x => decide (0 ≤ x ∧ x ≤ 65535)
def zb (z : List Int) : List Bool := z.map fun x => decide (x = 0)
theorem okG_no {z : List Int} {y : Int} (hy : y ∈ z) (h : ¬ (0 ≤ y ∧ y ≤ 65535)) : okG z = false := List.all_eq_false.2 ⟨y, hy, by simpa using h⟩
theorem okG_yes {z : List Int} (h : ∀ x ∈ z, 0 ≤ x ∧ x ≤ 65535) : okG z = true := List.all_eq_true.2 fun x hx => decide_eq_true (h x hx)

theorem index8 (x0 x1 x2 x3 x4 x5 x6 x7 : Int) (k : Nat) (hk : k < 8) (W : World) :
    (Instr.index 24 (.agg #[.int .i64 x0, .int .i64 x1, .int .i64 x2, .int .i64 x3, .int .i64 x4, .int .i64 x5, .int .i64 x6, .int .i64 x7]) (.int .i64 (k : Int))).run Tryd.prog W = .ok (.int .i64 ([x0, x1, x2, x3, x4, x5, x6, x7].getD k 0)) W := by
  have h : k = 0 ∨ k = 1 ∨ k = 2 ∨ k = 3 ∨ k = 4 ∨ k = 5 ∨ k = 6 ∨ k = 7 := by omega
  rcases h with rfl | rfl | rfl | rfl | rfl | rfl | rfl | rfl <;> simp [Instr.index, run_underlying Tryd.underlying24, asIntOf, go_sem, part, Tryd.sizeOf3, Tryd.isAgg3]

theorem cell8 (w : World) (x0 x1 x2 x3 x4 x5 x6 x7 : Int) (k : Nat) (hk : k < 8) :
    (w.alloc (.cells #[.int .i64 x0, .int .i64 x1, .int .i64 x2, .int .i64 x3, .int .i64 x4, .int .i64 x5, .int .i64 x6, .int .i64 x7] 24)).cell? ⟨w.heap.size, k, none⟩ = some (.int .i64 ([x0, x1, x2, x3, x4, x5, x6, x7].getD k 0)) := by
  rw [World.cell?_alloc_at _ _ _ _ rfl]
  have h : k = 0 ∨ k = 1 ∨ k = 2 ∨ k = 3 ∨ k = 4 ∨ k = 5 ∨ k = 6 ∨ k = 7 := by omega
  rcases h with rfl | rfl | rfl | rfl | rfl | rfl | rfl | rfl <;> rfl

set_option maxHeartbeats 1000000 in
theorem implGroupsOk (x0 x1 x2 x3 x4 x5 x6 x7 : Int) (w : World) :
    Calls Tryd.prog 31 #[.agg #[.int .i64 x0, .int .i64 x1, .int .i64 x2, .int .i64 x3, .int .i64 x4, .int .i64 x5, .int .i64 x6, .int .i64 x7]] w fun e w' => e = .returned (.bool (okG [x0, x1, x2, x3, x4, x5, x6, x7])) ∧ Below w.heap.size w w' := by
  have HI : Hid (∀ k W, k < 8 → _) := fun k W hk => index8 x0 x1 x2 x3 x4 x5 x6 x7 k hk W
  generalize hz : [x0, x1, x2, x3, x4, x5, x6, x7] = z at HI ⊢
  have hzl : z.length = 8 := by rw [← hz]; rfl
  clear hz
  have HZL : Hid (z.length = 8) := hzl
  clear hzl
  go_enter Tryd.func31, Tryd.ntmps31
  go_wp2
  go_loop [6] (fun i => ∃ k : Nat, k ≤ 8 ∧ i = .int .i64 k ∧ ∀ x ∈ z.take k, 0 ≤ x ∧ x ≤ 65535) (fun i => 8 - (intOf i).toNat)
  case atStart => exact ⟨0, by omega, rfl, fun x hx => by simp at hx⟩
  case round =>
    obtain ⟨k, hk, rfl, hall⟩ := hrel
    have HA : Hid (∀ x ∈ z.take k, 0 ≤ x ∧ x ≤ 65535) := hall
    clear hall
    by_cases hlt : k < 8
    · have hix := fun W => HI.out k W hlt
      have HT : Hid (z.take (k + 1) = z.take k ++ [z.getD k 0]) := ztake_snoc z k (by have := HZL.out; omega)
      have HM : Hid (z.getD k 0 ∈ z) := by
        show _ ∈ _
        rw [List.getD_eq_getElem?_getD, List.getElem?_eq_getElem (by have := HZL.out; omega)]
        exact List.getElem_mem _
      generalize z.getD k 0 = y at hix HT HM
      by_cases hy : 0 ≤ y ∧ y ≤ 65535
      · obtain ⟨hy0, hy1⟩ := hy
        go_wp2_with fail
        go_round
        case rel =>
          refine ⟨k + 1, by omega, by go_num, fun x hx => ?_⟩
          rw [HT.out] at hx
          rcases List.mem_append.1 hx with h | h
          · exact HA.out x h
          · rw [List.mem_singleton.1 h]; exact ⟨hy0, hy1⟩
        case measure => simp [intOf]; omega
      · have HF : Hid (okG z = false) := okG_no HM.out hy
        by_cases hy0 : y < 0
        · clear hy
          go_wp2_with fail
          go_ret
          exact ⟨by rw [HF.out]; rfl, (Below.refl _ _).alloc (Nat.le_refl _) _⟩
        · have hy1 : 65535 < y := by omega
          clear hy
          go_wp2_with fail
          go_ret
          exact ⟨by rw [HF.out]; rfl, (Below.refl _ _).alloc (Nat.le_refl _) _⟩
    · have HF : Hid (okG z = true) := okG_yes fun x hx => HA.out x (by rw [List.take_of_length_le (by have := HZL.out; omega)]; exact hx)
      go_wp2_with fail
      go_ret
      exact ⟨by rw [HF.out]; rfl, (Below.refl _ _).alloc (Nat.le_refl _) _⟩

theorem zb_drop (z : List Int) (k : Nat) (h : k < z.length) : (zb z).drop k = decide (z.getD k 0 = 0) :: (zb z).drop (k + 1) := by
  unfold zb
  rw [List.drop_eq_getElem_cons (by simpa using h)]
  simp [List.getD, h]
theorem zb_end (z : List Int) (k : Nat) (h : z.length ≤ k) : (zb z).drop k = [] := List.drop_of_length_le (by simpa [zb] using h)
theorem rowI_step (k f t b : Nat) (z : List Int) (h : k < z.length) : rowI k (f, t, b) ((zb z).drop k) = rowI (k + 1) (if z.getD k 0 = 0 then (if t - f < k + 1 - b then (b, k + 1, b) else (f, t, b)) else (f, t, k + 1)) ((zb z).drop (k + 1)) := by
  rw [zb_drop z k h, rowI]
  by_cases h0 : z.getD k 0 = 0
  · rw [if_pos h0, decide_eq_true h0]; rfl
  · rw [if_neg h0, decide_eq_false h0]; rfl
def rowV (r : Nat × Nat × Nat) : Value := .tuple #[.int .i64 (r.1 : Int), .int .i64 (r.2.1 : Int)]

set_option maxHeartbeats 2000000 in
theorem implLongest (x0 x1 x2 x3 x4 x5 x6 x7 : Int) (w : World) :
    Calls Tryd.prog 32 #[.agg #[.int .i64 x0, .int .i64 x1, .int .i64 x2, .int .i64 x3, .int .i64 x4, .int .i64 x5, .int .i64 x6, .int .i64 x7]] w fun e w' => e = .returned (rowV (rowI 0 (0, 0, 0) (zb [x0, x1, x2, x3, x4, x5, x6, x7]))) ∧ Below w.heap.size w w' := by
  have HI : Hid (∀ k W, k < 8 → _) := fun k W hk => index8 x0 x1 x2 x3 x4 x5 x6 x7 k hk W
  generalize hz : [x0, x1, x2, x3, x4, x5, x6, x7] = z at HI ⊢
  have hzl : z.length = 8 := by rw [← hz]; rfl
  clear hz
  have HZL : Hid (z.length = 8) := hzl
  clear hzl
  go_enter Tryd.func32, Tryd.ntmps32
  go_wp2
  go_loop [4, 5, 6, 10] (fun x y v i => ∃ k f t b : Nat, k ≤ 8 ∧ i = .int .i64 k ∧ x = .int .i64 f ∧ y = .int .i64 t ∧ v = .int .i64 b ∧ f ≤ t ∧ t ≤ k ∧ b ≤ k ∧ rowI k (f, t, b) ((zb z).drop k) = rowI 0 (0, 0, 0) (zb z)) (fun _ _ _ i => 8 - (intOf i).toNat)
  case atStart => exact ⟨0, 0, 0, 0, by omega, rfl, rfl, rfl, rfl, by omega, by omega, by omega, rfl⟩
  case round =>
    obtain ⟨k, f, t, b, hk, rfl, rfl, rfl, rfl, h1, h2, h3, hr⟩ := hrel
    have HR : Hid (rowI k (f, t, b) ((zb z).drop k) = rowI 0 (0, 0, 0) (zb z)) := hr
    clear hr
    by_cases hlt : k < 8
    · have hix := fun W => HI.out k W hlt
      have HS : Hid (_ = _) := rowI_step k f t b z (by have := HZL.out; omega)
      generalize z.getD k 0 = y at hix HS
      by_cases hy : y = 0
      · subst hy
        by_cases hc : t - f < k + 1 - b
        · have HG : Hid (rowI (k + 1) (b, k + 1, b) ((zb z).drop (k + 1)) = rowI 0 (0, 0, 0) (zb z)) := by
            show _ = _
            rw [← HR.out, HS.out, if_pos rfl, if_pos hc]
          have hc' : (t : Int) - f < (k : Int) + 1 - b := by omega
          clear hc
          go_wp2_with fail
          go_round
          case rel => exact ⟨k + 1, b, k + 1, b, by omega, by go_num, by go_num, by go_num, by go_num, by omega, by omega, by omega, HG.out⟩
          case measure => simp [intOf]; omega
        · have HG : Hid (rowI (k + 1) (f, t, b) ((zb z).drop (k + 1)) = rowI 0 (0, 0, 0) (zb z)) := by
            show _ = _
            rw [← HR.out, HS.out, if_pos rfl, if_neg hc]
          have hc' : ¬ (t : Int) - f < (k : Int) + 1 - b := by omega
          clear hc
          go_wp2_with fail
          go_round
          case rel => exact ⟨k + 1, f, t, b, by omega, by go_num, by go_num, by go_num, by go_num, by omega, by omega, by omega, HG.out⟩
          case measure => simp [intOf]; omega
      · have HG : Hid (rowI (k + 1) (f, t, k + 1) ((zb z).drop (k + 1)) = rowI 0 (0, 0, 0) (zb z)) := by
          show _ = _
          rw [← HR.out, HS.out, if_neg hy]
        have hy' : (y == 0) = false := by simpa using hy
        clear hy
        go_wp2_with fail
        go_round
        case rel => exact ⟨k + 1, f, t, k + 1, by omega, by go_num, by go_num, by go_num, by go_num, by omega, by omega, by omega, HG.out⟩
        case measure => simp [intOf]; omega
    · have HG : Hid (rowI 0 (0, 0, 0) (zb z) = (f, t, b)) := by
        show _ = _
        rw [← HR.out, zb_end z k (by have := HZL.out; omega)]
        rfl
      have hki : ¬ (k : Int) < 8 := by omega
      go_wp2_with fail
      go_ret2
      exact ⟨by rw [HG.out]; rfl, (Below.refl _ _).alloc (Nat.le_refl _) _⟩

theorem runZ_yes {z : List Int} {k : Nat} (h : k < z.length) (h0 : z.getD k 0 = 0) : runZ ((zb z).drop k) = runZ ((zb z).drop (k + 1)) + 1 := by
  rw [zb_drop z k h, decide_eq_true h0]; rfl
theorem runZ_no {z : List Int} {k : Nat} (h : k < z.length) (h0 : ¬ z.getD k 0 = 0) : runZ ((zb z).drop k) = 0 := by
  rw [zb_drop z k h, decide_eq_false h0]; rfl
theorem runZ_end {z : List Int} {k : Nat} (h : z.length ≤ k) : runZ ((zb z).drop k) = 0 := by
  rw [zb_end z k h]; rfl
theorem rowS_step (a f t : Nat) (z : List Int) (h : a < z.length) : rowS a (f, t) ((zb z).drop a) = rowS (a + 1) (if 1 < runZ ((zb z).drop a) ∧ t - f < runZ ((zb z).drop a) then (a, a + runZ ((zb z).drop a)) else (f, t)) ((zb z).drop (a + 1)) := by
  rw [zb_drop z a h, rowS]
def rowW (r : Nat × Nat) : Value := .tuple #[.int .i64 (r.1 : Int), .int .i64 (r.2 : Int)]


set_option maxHeartbeats 4000000 in
theorem specRow (x0 x1 x2 x3 x4 x5 x6 x7 : Int) (w : World) :
    Calls Tryd.prog 45 #[.agg #[.int .i64 x0, .int .i64 x1, .int .i64 x2, .int .i64 x3, .int .i64 x4, .int .i64 x5, .int .i64 x6, .int .i64 x7]] w fun e w' => e = .returned (rowW (rowS 0 (8, 8) (zb [x0, x1, x2, x3, x4, x5, x6, x7]))) ∧ Below w.heap.size w w' := by
  have HC : Hid (∀ k, k < 8 → (w.alloc (.cells #[.int .i64 x0, .int .i64 x1, .int .i64 x2, .int .i64 x3, .int .i64 x4, .int .i64 x5, .int .i64 x6, .int .i64 x7] 24)).cell? ⟨w.heap.size, k, none⟩ = some (.int .i64 ([x0, x1, x2, x3, x4, x5, x6, x7].getD k 0))) := fun k hk => cell8 w x0 x1 x2 x3 x4 x5 x6 x7 k hk
  generalize hz : [x0, x1, x2, x3, x4, x5, x6, x7] = z at HC ⊢
  have hzl : z.length = 8 := by rw [← hz]; rfl
  clear hz
  have HZL : Hid (z.length = 8) := hzl
  clear hzl
  go_enter Tryd.func45, Tryd.ntmps45
  go_wp2
  go_loop [4, 5, 6] (fun x y i => ∃ a f t : Nat, a ≤ 8 ∧ i = .int .i64 a ∧ x = .int .i64 f ∧ y = .int .i64 t ∧ f ≤ t ∧ t ≤ 8 ∧ rowS a (f, t) ((zb z).drop a) = rowS 0 (8, 8) (zb z)) (fun _ _ i => 8 - (intOf i).toNat)
  case atStart => exact ⟨0, 8, 8, by omega, rfl, rfl, rfl, by omega, by omega, rfl⟩
  case round =>
    obtain ⟨a, f, t, ha, rfl, rfl, rfl, h1, h2, hr⟩ := hrel
    have HR : Hid (rowS a (f, t) ((zb z).drop a) = rowS 0 (8, 8) (zb z)) := hr
    clear hr
    by_cases hlt : a < 8
    · have hai : (a : Int) < 8 := by omega
      have HS : Hid (_ = _) := rowS_step a f t z (by have := HZL.out; omega)
      go_wp2_with fail
      go_loop [7] (fun b => ∃ j : Nat, a ≤ j ∧ j ≤ 8 ∧ b = .int .i64 j ∧ j - a + runZ ((zb z).drop j) = runZ ((zb z).drop a)) (fun b => 8 - (intOf b).toNat)
      case atStart => exact ⟨a, by omega, by omega, rfl, by omega⟩
      case round =>
        obtain ⟨j, hj1, hj2, rfl, hz⟩ := hrel
        have HZ : Hid (j - a + runZ ((zb z).drop j) = runZ ((zb z).drop a)) := hz
        clear hz
        by_cases hjlt : j < 8
        · have hc := HC.out j hjlt
          have HY : Hid (z.getD j 0 = 0 → runZ ((zb z).drop j) = runZ ((zb z).drop (j + 1)) + 1) := fun h => runZ_yes (by have := HZL.out; omega) h
          have HN : Hid (¬ z.getD j 0 = 0 → runZ ((zb z).drop j) = 0) := fun h => runZ_no (by have := HZL.out; omega) h
          have hji : (j : Int) < 8 := by omega
          generalize z.getD j 0 = y at hc HY HN
          by_cases hy : y = 0
          · subst hy
            go_wp2_with fail
            go_round
            case rel => exact ⟨j + 1, by omega, by omega, by go_num, by have h1 := HZ.out; have h2 := HY.out rfl; omega⟩
            case measure => simp [intOf]; omega
          · have HE : Hid (runZ ((zb z).drop a) = j - a) := by
              show _ = _
              have h1 := HZ.out
              have h2 := HN.out hy
              omega
            have hy' : (y == 0) = false := by simpa using hy
            clear hy
            by_cases hq : 1 < j - a ∧ t - f < j - a
            · have HG : Hid (rowS (a + 1) (a, j) ((zb z).drop (a + 1)) = rowS 0 (8, 8) (zb z)) := by
                show _ = _
                rw [← HR.out, HS.out, HE.out, if_pos hq, show a + (j - a) = j by omega]
              have hq1 : 1 < (j : Int) - a := by omega
              have hq2 : (t : Int) - f < (j : Int) - a := by omega
              clear hq
              go_wp2_with fail
              go_round
              case rel => exact ⟨a + 1, a, j, by omega, by go_num, by go_num, by go_num, by omega, by omega, HG.out⟩
              case measure => simp [intOf]; omega
            · have HG : Hid (rowS (a + 1) (f, t) ((zb z).drop (a + 1)) = rowS 0 (8, 8) (zb z)) := by
                show _ = _
                rw [← HR.out, HS.out, HE.out, if_neg hq]
              by_cases hq0 : 1 < j - a
              · have hq1 : 1 < (j : Int) - a := by omega
                have hq2 : ¬ (t : Int) - f < (j : Int) - a := by omega
                clear hq hq0
                go_wp2_with fail
                go_round
                case rel => exact ⟨a + 1, f, t, by omega, by go_num, by go_num, by go_num, by omega, by omega, HG.out⟩
                case measure => simp [intOf]; omega
              · have hq1 : ¬ 1 < (j : Int) - a := by omega
                clear hq hq0
                go_wp2_with fail
                go_round
                case rel => exact ⟨a + 1, f, t, by omega, by go_num, by go_num, by go_num, by omega, by omega, HG.out⟩
                case measure => simp [intOf]; omega
        · have HE : Hid (runZ ((zb z).drop a) = j - a) := by
            show _ = _
            have h1 := HZ.out
            have h2 := runZ_end (z := z) (k := j) (by have := HZL.out; omega)
            omega
          have hji : ¬ (j : Int) < 8 := by omega
          by_cases hq : 1 < j - a ∧ t - f < j - a
          · have HG : Hid (rowS (a + 1) (a, j) ((zb z).drop (a + 1)) = rowS 0 (8, 8) (zb z)) := by
              show _ = _
              rw [← HR.out, HS.out, HE.out, if_pos hq, show a + (j - a) = j by omega]
            have hq1 : 1 < (j : Int) - a := by omega
            have hq2 : (t : Int) - f < (j : Int) - a := by omega
            clear hq
            go_wp2_with fail
            go_round
            case rel => exact ⟨a + 1, a, j, by omega, by go_num, by go_num, by go_num, by omega, by omega, HG.out⟩
            case measure => simp [intOf]; omega
          · have HG : Hid (rowS (a + 1) (f, t) ((zb z).drop (a + 1)) = rowS 0 (8, 8) (zb z)) := by
              show _ = _
              rw [← HR.out, HS.out, HE.out, if_neg hq]
            by_cases hq0 : 1 < j - a
            · have hq1 : 1 < (j : Int) - a := by omega
              have hq2 : ¬ (t : Int) - f < (j : Int) - a := by omega
              clear hq hq0
              go_wp2_with fail
              go_round
              case rel => exact ⟨a + 1, f, t, by omega, by go_num, by go_num, by go_num, by omega, by omega, HG.out⟩
              case measure => simp [intOf]; omega
            · have hq1 : ¬ 1 < (j : Int) - a := by omega
              clear hq hq0
              go_wp2_with fail
              go_round
              case rel => exact ⟨a + 1, f, t, by omega, by go_num, by go_num, by go_num, by omega, by omega, HG.out⟩
              case measure => simp [intOf]; omega
    · have HG : Hid (rowS 0 (8, 8) (zb z) = (f, t)) := by
        show _ = _
        rw [← HR.out, zb_end z a (by have := HZL.out; omega)]
        rfl
      have hai : ¬ (a : Int) < 8 := by omega
      go_wp2_with fail
      go_ret2
      exact ⟨by rw [HG.out]; rfl, (Below.refl _ _).alloc (Nat.le_refl _) _⟩
end Go.Proofs.YtophgcneckjdjaaDoor
