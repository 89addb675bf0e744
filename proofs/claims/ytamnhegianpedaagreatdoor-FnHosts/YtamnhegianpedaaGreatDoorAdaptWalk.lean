/- Contract of spec.Adapt. -/
import Derived.Test.YtamnhegianpedaaGreatDoorRows
import Derived.Test.YtamnhegianpedaaGreatDoorHexWalk
import Derived.Test.YtamnhegianpedaaGreatDoorPunyPlain
namespace Go.Proofs.YtamnhegianpedaaGreatDoor
open Go.RowKit

def adaptZ (delta n : Int) (first : Bool) : Int := if 0 ≤ delta ∧ 1 ≤ n then (adaptN delta.toNat n.toNat first : Int) else 0

theorem adaptF_le : ∀ (f d k : Nat), adaptF f d k ≤ k + 36 * f + 36
  | 0, d, k => by
    unfold adaptF
    have : 36 * d / (d + 38) ≤ 36 := Nat.div_le_of_le_mul (by omega)
    omega
  | f + 1, d, k => by
    unfold adaptF
    split
    · have := adaptF_le f (d / 35) (k + 36); omega
    · have : 36 * d / (d + 38) ≤ 36 := Nat.div_le_of_le_mul (by omega)
      omega
theorem adaptN_le (d n : Nat) (first : Bool) : adaptN d n first ≤ 2400 := by
  unfold adaptN
  split
  · omega
  · have := adaptF_le 64 ((if first then d / 700 else d / 2) + (if first then d / 700 else d / 2) / n) 0
    omega
theorem adaptF_more {f d k : Nat} (h : 455 < d) (hf : d < 2 ^ f) : ∃ g, f = g + 1 ∧ adaptF f d k = adaptF g (d / 35) (k + 36) ∧ d / 35 < 2 ^ g := by
  cases f with
  | zero => simp at hf; omega
  | succ g =>
    refine ⟨g, rfl, by rw [adaptF, if_pos h], ?_⟩
    have h4 : 2 ^ (g + 1) = 2 * 2 ^ g := by rw [Nat.pow_succ]; omega
    omega
theorem adaptF_end {f d k : Nat} (h : d ≤ 455) : adaptF f d k = k + 36 * d / (d + 38) := by
  cases f with
  | zero => rfl
  | succ g => rw [adaptF, if_neg (by omega)]

theorem adaptN_in {delta n : Nat} {first : Bool} (h1 : (delta : Int) ≤ 1000000000000) (h2 : 1 ≤ (n : Int)) (h3 : (n : Int) ≤ 1000000) (x : Nat) (hx : x = if first then delta / 700 else delta / 2) : adaptN delta n first = adaptF 64 (x + x / n) 0 := by
  unfold adaptN
  rw [if_neg (by omega), hx]

set_option maxRecDepth 20000 in
set_option maxHeartbeats 2000000 in
theorem specAdapt_in (delta n : Nat) (first : Bool) (w : World) (h1 : (delta : Int) ≤ 1000000000000) (h2 : 1 ≤ (n : Int)) (h3 : (n : Int) ≤ 1000000) :
    Calls Tryz.prog 88 #[.int .i64 (delta : Int), .int .i64 (n : Int), .bool first] w fun e w' => e = .returned (.int .i64 (adaptN delta n first : Int)) ∧ w = w' := by
  have h0 : 0 ≤ (delta : Int) := by omega
  obtain ⟨x, hx⟩ : ∃ x : Nat, x = if first then delta / 700 else delta / 2 := ⟨_, rfl⟩
  have HN : Hid (adaptN delta n first = adaptF 64 (x + x / n) 0) := adaptN_in h1 h2 h3 x hx
  have hy : x / n ≤ x := Nat.div_le_self x n
  have hne : ¬ (n : Int) = 0 := by omega
  have hxle : (x : Int) ≤ 500000000000 := by cases first <;> simp at hx <;> omega
  obtain ⟨z, hz⟩ : ∃ z : Nat, x / n = z := ⟨_, rfl⟩
  have hZ : (x : Int) / (n : Int) = (z : Int) := by rw [← hz]; simp
  rw [hz] at HN hy
  have hzle : (z : Int) ≤ (x : Int) := by omega
  have HP : Hid (x + z < 2 ^ 64) := by
    show _ < _
    have : (2 : Nat) ^ 64 = 18446744073709551616 := by decide
    omega
  clear hz hy
  cases first with
  | true =>
    have hX : (delta : Int) / 700 = (x : Int) := by simp at hx; omega
    clear hx
    go_enter Tryz.func88, Tryz.ntmps88
    go_wp2_with fail
    refine (specL1In_yes _ _ _ _ h0 h1).mono ?_
    rintro e w' ⟨rfl, rfl⟩
    go_wp2_with fail
    refine (specL1In_yes _ _ _ _ h2 h3).mono ?_
    rintro e w' ⟨rfl, rfl⟩
    go_wp2_with fail
    go_loop [0, 7] (fun a b => ∃ f d k : Nat, a = .int .i64 d ∧ b = .int .i64 k ∧ d ≤ x + z ∧ k + 36 * f ≤ 2304 ∧ d < 2 ^ f ∧ adaptF f d k = adaptF 64 (x + z) 0) (fun a _ => (intOf a).toNat)
    case atStart => exact ⟨64, x + z, 0, by simp, rfl, Nat.le_refl _, by omega, HP.out, rfl⟩
    case round =>
      obtain ⟨f, d, k, rfl, rfl, hd, hk, hf, he⟩ := hrel
      have HE : Hid (adaptF f d k = adaptF 64 (x + z) 0) := he
      have HF : Hid (d < 2 ^ f) := hf
      clear he hf
      by_cases hlt : 455 < (d : Int)
      · obtain ⟨g, hg, he, hl⟩ := adaptF_more (k := k) (show 455 < d by omega) HF.out
        have HE2 : Hid (adaptF g (d / 35) (k + 36) = adaptF 64 (x + z) 0) := he.symm.trans HE.out
        have HF2 : Hid (d / 35 < 2 ^ g) := hl
        clear he hl
        go_wp2
        go_round
        case rel => exact ⟨g, d / 35, k + 36, by simp, by go_num, by omega, by omega, HF2.out, HE2.out⟩
        case measure => simp [intOf]; omega
      · have HR : Hid (adaptN delta n true = k + 36 * d / (d + 38)) := by show _ = _; rw [HN.out, ← HE.out, adaptF_end (by omega)]
        have hnz : ¬ (d : Int) + 38 = 0 := by omega
        have hr0 : 36 * d / (d + 38) ≤ 36 := Nat.div_le_of_le_mul (by omega)
        obtain ⟨r, hr⟩ : ∃ r : Nat, 36 * d / (d + 38) = r := ⟨_, rfl⟩
        have hR : (36 * (d : Int)) / ((d : Int) + 38) = (r : Int) := by rw [← hr]; simp
        rw [hr] at HR hr0
        clear hr
        go_wp2
        go_ret
        exact ⟨ret_int (by rw [HR.out]; simp), rfl⟩
  | false =>
    have hX : (delta : Int) / 2 = (x : Int) := by simp at hx; omega
    clear hx
    go_enter Tryz.func88, Tryz.ntmps88
    go_wp2_with fail
    refine (specL1In_yes _ _ _ _ h0 h1).mono ?_
    rintro e w' ⟨rfl, rfl⟩
    go_wp2_with fail
    refine (specL1In_yes _ _ _ _ h2 h3).mono ?_
    rintro e w' ⟨rfl, rfl⟩
    go_wp2_with fail
    go_loop [0, 7] (fun a b => ∃ f d k : Nat, a = .int .i64 d ∧ b = .int .i64 k ∧ d ≤ x + z ∧ k + 36 * f ≤ 2304 ∧ d < 2 ^ f ∧ adaptF f d k = adaptF 64 (x + z) 0) (fun a _ => (intOf a).toNat)
    case atStart => exact ⟨64, x + z, 0, by simp, rfl, Nat.le_refl _, by omega, HP.out, rfl⟩
    case round =>
      obtain ⟨f, d, k, rfl, rfl, hd, hk, hf, he⟩ := hrel
      have HE : Hid (adaptF f d k = adaptF 64 (x + z) 0) := he
      have HF : Hid (d < 2 ^ f) := hf
      clear he hf
      by_cases hlt : 455 < (d : Int)
      · obtain ⟨g, hg, he, hl⟩ := adaptF_more (k := k) (show 455 < d by omega) HF.out
        have HE2 : Hid (adaptF g (d / 35) (k + 36) = adaptF 64 (x + z) 0) := he.symm.trans HE.out
        have HF2 : Hid (d / 35 < 2 ^ g) := hl
        clear he hl
        go_wp2
        go_round
        case rel => exact ⟨g, d / 35, k + 36, by simp, by go_num, by omega, by omega, HF2.out, HE2.out⟩
        case measure => simp [intOf]; omega
      · have HR : Hid (adaptN delta n false = k + 36 * d / (d + 38)) := by show _ = _; rw [HN.out, ← HE.out, adaptF_end (by omega)]
        have hnz : ¬ (d : Int) + 38 = 0 := by omega
        have hr0 : 36 * d / (d + 38) ≤ 36 := Nat.div_le_of_le_mul (by omega)
        obtain ⟨r, hr⟩ : ∃ r : Nat, 36 * d / (d + 38) = r := ⟨_, rfl⟩
        have hR : (36 * (d : Int)) / ((d : Int) + 38) = (r : Int) := by rw [← hr]; simp
        rw [hr] at HR hr0
        clear hr
        go_wp2
        go_ret
        exact ⟨ret_int (by rw [HR.out]; simp), rfl⟩

theorem adaptZ_in {delta n : Int} {first : Bool} (h : 0 ≤ delta ∧ 1 ≤ n) : adaptZ delta n first = (adaptN delta.toNat n.toNat first : Int) := if_pos h
theorem adaptZ_out {delta n : Int} {first : Bool} (h : delta < 0 ∨ 1000000000000 < delta ∨ n < 1 ∨ 1000000 < n) : adaptZ delta n first = 0 := by
  unfold adaptZ
  split
  · unfold adaptN
    rw [if_pos (by omega)]
    rfl
  · rfl

theorem specAdapt (delta n : Int) (first : Bool) (w : World) :
    Calls Tryz.prog 88 #[.int .i64 delta, .int .i64 n, .bool first] w fun e w' => e = .returned (.int .i64 (adaptZ delta n first)) ∧ w = w' := by
  by_cases h1 : 0 ≤ delta ∧ delta ≤ 1000000000000
  · by_cases h2 : 1 ≤ n ∧ n ≤ 1000000
    · rw [adaptZ_in ⟨h1.1, h2.1⟩]
      obtain ⟨d, rfl⟩ := Int.eq_ofNat_of_zero_le h1.1
      obtain ⟨m, rfl⟩ := Int.eq_ofNat_of_zero_le (show 0 ≤ n by omega)
      exact specAdapt_in d m first w h1.2 h2.1 h2.2
    · have HV : Hid (adaptZ delta n first = 0) := adaptZ_out (by omega)
      have H2 : Hid (n < 1 ∨ 1000000 < n) := by show _ ∨ _; omega
      obtain ⟨a1, a2⟩ := h1
      clear h2
      go_enter Tryz.func88, Tryz.ntmps88
      go_wp2_with fail
      refine (specL1In_yes _ _ _ _ a1 a2).mono ?_
      rintro e w' ⟨rfl, rfl⟩
      go_wp2_with fail
      refine (specL1In_no _ _ _ _ H2.out).mono ?_
      rintro e w' ⟨rfl, rfl⟩
      go_wp2_with fail
      go_ret
      exact ⟨ret_int (by rw [HV.out]), rfl⟩
  · have HV : Hid (adaptZ delta n first = 0) := adaptZ_out (by omega)
    have H1 : Hid (delta < 0 ∨ 1000000000000 < delta) := by show _ ∨ _; omega
    clear h1
    go_enter Tryz.func88, Tryz.ntmps88
    go_wp2_with fail
    refine (specL1In_no _ _ _ _ H1.out).mono ?_
    rintro e w' ⟨rfl, rfl⟩
    go_wp2_with fail
    go_ret
    exact ⟨ret_int (by rw [HV.out]), rfl⟩
end Go.Proofs.YtamnhegianpedaaGreatDoor
