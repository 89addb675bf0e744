/- Contracts of impl.isRune, impl.noRune, impl.leastFrom. -/
import Derived.Test.YtamnhegianpedaaGreatDoorRows
import Derived.Test.YtamnhegianpedaaGreatDoorPunyEncWalk
import Derived.Test.YtamnhegianpedaaGreatDoorShelf
namespace Go.Proofs.YtamnhegianpedaaGreatDoor
open Go.RowKit Go.Shelf

def runeB (r : Int) : Bool := decide (0 ≤ r ∧ r ≤ 1114111 ∧ (r < 55296 ∨ 57343 < r))
theorem runeB_iff (r : Int) : runeB r = true ↔ runeOk r := by unfold runeB runeOk; exact decide_eq_true_iff

set_option maxHeartbeats 1000000 in
theorem implIsRune (r : Int) (w : World) :
    Calls Tryz.prog 166 #[.int .i64 r] w fun e w' => e = .returned (.bool (runeB r)) ∧ w = w' := by
  by_cases h0 : r < 0
  · have HV : Hid (runeB r = false) := by show _ = _; unfold runeB; rw [decide_eq_false_iff_not]; omega
    go_enter Tryz.func166, Tryz.ntmps166
    go_wp2
    go_ret
    exact ⟨ret_bool HV.out.symm, rfl⟩
  · by_cases h1 : 1114111 < r
    · have HV : Hid (runeB r = false) := by show _ = _; unfold runeB; rw [decide_eq_false_iff_not]; omega
      go_enter Tryz.func166, Tryz.ntmps166
      go_wp2
      go_ret
      exact ⟨ret_bool HV.out.symm, rfl⟩
    · by_cases h2 : r < 55296
      · have HV : Hid (runeB r = true) := by show _ = _; unfold runeB; rw [decide_eq_true_iff]; omega
        go_enter Tryz.func166, Tryz.ntmps166
        go_wp2
        go_ret
        exact ⟨ret_bool (by rw [HV.out]), rfl⟩
      · by_cases h3 : 57343 < r
        · have HV : Hid (runeB r = true) := by show _ = _; unfold runeB; rw [decide_eq_true_iff]; omega
          go_enter Tryz.func166, Tryz.ntmps166
          go_wp2
          go_ret
          exact ⟨ret_bool (by rw [HV.out]), rfl⟩
        · have HV : Hid (runeB r = false) := by show _ = _; unfold runeB; rw [decide_eq_false_iff_not]; omega
          go_enter Tryz.func166, Tryz.ntmps166
          go_wp2
          go_ret
          exact ⟨ret_bool (by rw [HV.out]), rfl⟩

theorem implNoRune (r : Int) (w : World) :
    Calls Tryz.prog 152 #[.int .i64 r] w fun e w' => e = .returned (.bool (!(runeB r))) ∧ w = w' := by
  have HC : Hid (Calls Tryz.prog 166 #[.int .i64 r] w fun e w' => e = .returned (.bool (runeB r)) ∧ w = w') := implIsRune r w
  generalize runeB r = b at HC
  go_enter Tryz.func152, Tryz.ntmps152
  go_wp2_with fail
  refine HC.out.mono ?_
  rintro e w' ⟨rfl, rfl⟩
  go_wp2_with fail
  go_ret
  exact ⟨rfl, rfl⟩

theorem noRune_pred (w : World) : PredAt Tryz.prog 152 #[] (fun z : Int => Value.int .i64 z) (fun z => !runeB z) w := by
  intro W x _
  exact (implNoRune x W).mono fun e w' h => ⟨h.1, 0, h.2.symm⟩

set_option maxHeartbeats 2000000 in
theorem implLeast (l : List Nat) (n0 N cap g : Nat) (B : Nat) (w : World) (hN : l.length = N) (hN1 : N ≤ 1048576) (hv : ∀ c ∈ l, c ≤ 1114111) (hex : leastN n0 l ≤ 1114111) (hown : w.ownsRow B 3 1 (.slice (some ⟨g, 0, none⟩) N cap) N (icN l)) :
    Calls Tryz.prog 153 #[.slice (some ⟨g, 0, none⟩) N cap, .int .i64 (n0 : Int)] w fun e w' => e = .returned (.int .i64 (leastN n0 l : Int)) ∧ w = w' := by
  have HL : Hid (l.length = N) := hN
  have HV : Hid (∀ c ∈ l, c ≤ 1114111) := hv
  have H0 : Hid (leastL n0 1114111 l = leastN n0 l) := by
    show _ = _
    rw [leastL_eq n0 l _ (by decide)]
    split <;> omega
  clear hN hv hex
  go_enter Tryz.func153, Tryz.ntmps153
  go_wp2_with fail
  go_loop [5, 10] (fun a i => ∃ k m : Nat, k ≤ N ∧ i = .int .i64 k ∧ a = .int .i64 m ∧ m ≤ 1114112 ∧ leastL n0 m (l.drop k) = leastN n0 l) (fun _ i => N - (intOf i).toNat)
  case atStart => exact ⟨0, 1114111, Nat.zero_le _, rfl, rfl, by decide, H0.out⟩
  case round =>
    obtain ⟨k, m, hk, rfl, rfl, hm, he⟩ := hrel
    have HE : Hid (leastL n0 m (l.drop k) = leastN n0 l) := he
    clear he
    by_cases hlt : k < N
    · have ca := icN_at hown k hlt
      have HS : Hid (l.drop k = l.getD k 0 :: l.drop (k + 1)) := nat_drop l k (by have := HL.out; omega)
      have hc := HV.out (l.getD k 0) (by
        rw [List.getD_eq_getElem?_getD, List.getElem?_eq_getElem (by have := HL.out; omega)]
        exact List.getElem_mem _)
      generalize l.getD k 0 = c at ca HS hc
      have HR : Hid (leastL n0 (if n0 ≤ c ∧ c < m then c else m) (l.drop (k + 1)) = leastN n0 l) := by show _ = _; rw [← HE.out, HS.out]; rfl
      by_cases h1 : (n0 : Int) ≤ (c : Int)
      · by_cases h2 : (c : Int) < (m : Int)
        · rw [if_pos (by omega)] at HR
          go_wp2_with fail
          go_round
          case rel => exact ⟨k + 1, c, by omega, by go_num, by go_num, by omega, HR.out⟩
          case measure => simp [intOf]; omega
        · rw [if_neg (by omega)] at HR
          go_wp2_with fail
          go_round
          case rel => exact ⟨k + 1, m, by omega, by go_num, by go_num, hm, HR.out⟩
          case measure => simp [intOf]; omega
      · rw [if_neg (by omega)] at HR
        go_wp2_with fail
        go_round
        case rel => exact ⟨k + 1, m, by omega, by go_num, rfl, hm, HR.out⟩
        case measure => simp [intOf]; omega
    · have HR : Hid (m = leastN n0 l) := by
        show _ = _
        rw [← HE.out, List.drop_of_length_le (by have := HL.out; omega)]
        rfl
      go_wp2_with fail
      go_ret
      exact ⟨ret_int (by rw [← HR.out]), rfl⟩
end Go.Proofs.YtamnhegianpedaaGreatDoor
