/- Contract of impl.Adapt. -/
import Derived.Test.YtamnhegianpedaaGreatDoorRows
import Derived.Test.YtamnhegianpedaaGreatDoorAdaptWalk
namespace Go.Proofs.YtamnhegianpedaaGreatDoor
open Go.RowKit

set_option maxRecDepth 20000 in
set_option maxHeartbeats 2000000 in
theorem implAdapt_in (delta n : Nat) (first : Bool) (w : World) (h1 : (delta : Int) ≤ 1000000000000) (h2 : 1 ≤ (n : Int)) (h3 : (n : Int) ≤ 1000000) :
    Calls Tryz.prog 155 #[.int .i64 (delta : Int), .int .i64 (n : Int), .bool first] w fun e w' => e = .returned (.int .i64 (adaptN delta n first : Int)) ∧ w = w' := by
  have h0 : 0 ≤ (delta : Int) := by omega
  obtain ⟨x, hx⟩ : ∃ x : Nat, x = if first then delta / 700 else delta / 2 := ⟨_, rfl⟩
  have HN : Hid (adaptN delta n first = adaptF 64 (x + x / n) 0) := adaptN_in h1 h2 h3 x hx
  have hy : x / n ≤ x := Nat.div_le_self x n
  have hne : ¬ (n : Int) = 0 := by omega
  have hxle : (x : Int) ≤ 500000000000 := by cases first <;> simp at hx <;> omega
  obtain ⟨z, hz⟩ : ∃ z : Nat, x / n = z := ⟨_, rfl⟩
  have hZ : (x : Int) / (n : Int) = (z : Int) := by rw [← hz]; simp
  rw [hz] at HN hy
  have hzle : (z : Int) ≤ (x : Int) := by omega
  have HP : Hid (x + z < 2 ^ 64) := by
    show _ < _
    have : (2 : Nat) ^ 64 = 18446744073709551616 := by decide
    omega
  clear hz hy
  cases first with
  | true =>
    have hX : (delta : Int) / 700 = (x : Int) := by simp at hx; omega
    clear hx
    go_enter Tryz.func155, Tryz.ntmps155
    have hA : ¬ (delta : Int) < 0 := by omega
    have hB : ¬ 1000000000000 < (delta : Int) := by omega
    have hC : ¬ (n : Int) < 1 := by omega
    have hD : ¬ 1000000 < (n : Int) := by omega
    go_wp2_with fail
    go_loop [0, 7] (fun a b => ∃ f d k : Nat, a = .int .i64 d ∧ b = .int .i64 k ∧ d ≤ x + z ∧ k + 36 * f ≤ 2304 ∧ d < 2 ^ f ∧ adaptF f d k = adaptF 64 (x + z) 0) (fun a _ => (intOf a).toNat)
    case atStart => exact ⟨64, x + z, 0, by simp, rfl, Nat.le_refl _, by omega, HP.out, rfl⟩
    case round =>
      obtain ⟨f, d, k, rfl, rfl, hd, hk, hf, he⟩ := hrel
      have HE : Hid (adaptF f d k = adaptF 64 (x + z) 0) := he
      have HF : Hid (d < 2 ^ f) := hf
      clear he hf
      by_cases hlt : 455 < (d : Int)
      · obtain ⟨g, hg, he, hl⟩ := adaptF_more (k := k) (show 455 < d by omega) HF.out
        have HE2 : Hid (adaptF g (d / 35) (k + 36) = adaptF 64 (x + z) 0) := he.symm.trans HE.out
        have HF2 : Hid (d / 35 < 2 ^ g) := hl
        clear he hl
        go_wp2
        go_round
        case rel => exact ⟨g, d / 35, k + 36, by simp, by go_num, by omega, by omega, HF2.out, HE2.out⟩
        case measure => simp [intOf]; omega
      · have HR : Hid (adaptN delta n true = k + 36 * d / (d + 38)) := by show _ = _; rw [HN.out, ← HE.out, adaptF_end (by omega)]
        have hnz : ¬ (d : Int) + 38 = 0 := by omega
        have hr0 : 36 * d / (d + 38) ≤ 36 := Nat.div_le_of_le_mul (by omega)
        obtain ⟨r, hr⟩ : ∃ r : Nat, 36 * d / (d + 38) = r := ⟨_, rfl⟩
        have hR : (36 * (d : Int)) / ((d : Int) + 38) = (r : Int) := by rw [← hr]; simp
        rw [hr] at HR hr0
        clear hr
        go_wp2
        go_ret
        exact ⟨ret_int (by rw [HR.out]; simp), rfl⟩
  | false =>
    have hX : (delta : Int) / 2 = (x : Int) := by simp at hx; omega
    clear hx
    go_enter Tryz.func155, Tryz.ntmps155
    have hA : ¬ (delta : Int) < 0 := by omega
    have hB : ¬ 1000000000000 < (delta : Int) := by omega
    have hC : ¬ (n : Int) < 1 := by omega
    have hD : ¬ 1000000 < (n : Int) := by omega
    go_wp2_with fail
    go_loop [0, 7] (fun a b => ∃ f d k : Nat, a = .int .i64 d ∧ b = .int .i64 k ∧ d ≤ x + z ∧ k + 36 * f ≤ 2304 ∧ d < 2 ^ f ∧ adaptF f d k = adaptF 64 (x + z) 0) (fun a _ => (intOf a).toNat)
    case atStart => exact ⟨64, x + z, 0, by simp, rfl, Nat.le_refl _, by omega, HP.out, rfl⟩
    case round =>
      obtain ⟨f, d, k, rfl, rfl, hd, hk, hf, he⟩ := hrel
      have HE : Hid (adaptF f d k = adaptF 64 (x + z) 0) := he
      have HF : Hid (d < 2 ^ f) := hf
      clear he hf
      by_cases hlt : 455 < (d : Int)
      · obtain ⟨g, hg, he, hl⟩ := adaptF_more (k := k) (show 455 < d by omega) HF.out
        have HE2 : Hid (adaptF g (d / 35) (k + 36) = adaptF 64 (x + z) 0) := he.symm.trans HE.out
        have HF2 : Hid (d / 35 < 2 ^ g) := hl
        clear he hl
        go_wp2
        go_round
        case rel => exact ⟨g, d / 35, k + 36, by simp, by go_num, by omega, by omega, HF2.out, HE2.out⟩
        case measure => simp [intOf]; omega
      · have HR : Hid (adaptN delta n false = k + 36 * d / (d + 38)) := by show _ = _; rw [HN.out, ← HE.out, adaptF_end (by omega)]
        have hnz : ¬ (d : Int) + 38 = 0 := by omega
        have hr0 : 36 * d / (d + 38) ≤ 36 := Nat.div_le_of_le_mul (by omega)
        obtain ⟨r, hr⟩ : ∃ r : Nat, 36 * d / (d + 38) = r := ⟨_, rfl⟩
        have hR : (36 * (d : Int)) / ((d : Int) + 38) = (r : Int) := by rw [← hr]; simp
        rw [hr] at HR hr0
        clear hr
        go_wp2
        go_ret
        exact ⟨ret_int (by rw [HR.out]; simp), rfl⟩

theorem implAdapt (delta n : Int) (first : Bool) (w : World) :
    Calls Tryz.prog 155 #[.int .i64 delta, .int .i64 n, .bool first] w fun e w' => e = .returned (.int .i64 (adaptZ delta n first)) ∧ w = w' := by
  by_cases h1 : 0 ≤ delta ∧ delta ≤ 1000000000000
  · by_cases h2 : 1 ≤ n ∧ n ≤ 1000000
    · rw [adaptZ_in ⟨h1.1, h2.1⟩]
      obtain ⟨d, rfl⟩ := Int.eq_ofNat_of_zero_le h1.1
      obtain ⟨m, rfl⟩ := Int.eq_ofNat_of_zero_le (show 0 ≤ n by omega)
      exact implAdapt_in d m first w h1.2 h2.1 h2.2
    · have HV : Hid (adaptZ delta n first = 0) := adaptZ_out (by omega)
      obtain ⟨a1, a2⟩ := h1
      have hA : ¬ delta < 0 := by omega
      have hB : ¬ 1000000000000 < delta := by omega
      by_cases hC : n < 1
      · clear h2
        go_enter Tryz.func155, Tryz.ntmps155
        go_wp2_with fail
        go_ret
        exact ⟨ret_int (by rw [HV.out]), rfl⟩
      · have hD : 1000000 < n := by omega
        clear h2
        go_enter Tryz.func155, Tryz.ntmps155
        go_wp2_with fail
        go_ret
        exact ⟨ret_int (by rw [HV.out]), rfl⟩
  · have HV : Hid (adaptZ delta n first = 0) := adaptZ_out (by omega)
    by_cases hA : delta < 0
    · clear h1
      go_enter Tryz.func155, Tryz.ntmps155
      go_wp2_with fail
      go_ret
      exact ⟨ret_int (by rw [HV.out]), rfl⟩
    · have hB : 1000000000000 < delta := by omega
      clear h1
      go_enter Tryz.func155, Tryz.ntmps155
      go_wp2_with fail
      go_ret
      exact ⟨ret_int (by rw [HV.out]), rfl⟩
end Go.Proofs.YtamnhegianpedaaGreatDoor
