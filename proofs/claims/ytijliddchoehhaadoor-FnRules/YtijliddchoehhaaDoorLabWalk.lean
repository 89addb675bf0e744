/- Contracts of LabelOk, of the specification and of the program: whether it is a right label. -/
import Derived.Test.YtijliddchoehhaaDoorRows
import Derived.Test.YtijliddchoehhaaDoorBase
import Derived.Test.YtijliddchoehhaaDoorLabPlain
namespace Go.Proofs.YtijliddchoehhaaDoor
open Go.RowKit

set_option maxHeartbeats 1000000 in
theorem specLabelOk (s : ByteArray) (w : World) (hs : s.size ≤ maxLen) :
    Calls Tryd.prog 48 #[.string s] w fun e w' => e = .returned (.bool (labL s.data.toList)) ∧ w = w' := by
  unfold maxLen at hs
  have HV : Hid (∀ b : Bool, labL s.data.toList = b → (.returned (.bool b) : Ending) = .returned (.bool (labL s.data.toList))) := fun b h => by rw [h]
  by_cases hr : 1 ≤ s.size ∧ s.size ≤ 63
  · have hr1 : 1 ≤ (s.size : Int) := by omega
    have hr2 : (s.size : Int) ≤ 63 := by omega
    by_cases h0 : (s[0]'(by omega)).toNat = 45
    · have HF : Hid (labL s.data.toList = false) := lab_head s (by omega) h0
      go_enter Tryd.func48, Tryd.ntmps48
      go_wp2_with fail
      refine (labIn_yes _ _ _ _ hr1 hr2).mono ?_
      rintro e w' ⟨rfl, rfl⟩
      go_wp2_with fail
      go_ret
      exact ⟨HV.out _ HF.out, rfl⟩
    · by_cases h1 : (s[s.size - 1]'(by omega)).toNat = 45
      · have HF : Hid (labL s.data.toList = false) := lab_last s (by omega) h1
        go_enter Tryd.func48, Tryd.ntmps48
        go_wp2_with fail
        refine (labIn_yes _ _ _ _ hr1 hr2).mono ?_
        rintro e w' ⟨rfl, rfl⟩
        go_wp2_with fail
        go_ret
        exact ⟨HV.out _ HF.out, rfl⟩
      · have q0 : (((s[0]'(by omega)).toNat : Int) == 45) = false := beq_eq_false_iff_ne.2 (by omega)
        have q1 : (((s[s.size - 1]'(by omega)).toNat : Int) == 45) = false := beq_eq_false_iff_ne.2 (by omega)
        have HY : Hid ((∀ c ∈ s.data.toList.take s.size, labB c = true) → labL s.data.toList = true) := lab_yes s hr h0 h1
        clear h0 h1
        go_enter Tryd.func48, Tryd.ntmps48
        go_wp2_with fail
        refine (labIn_yes _ _ _ _ hr1 hr2).mono ?_
        rintro e w' ⟨rfl, rfl⟩
        go_wp2_with fail
        go_loop [4] (fun i => ∃ k : Nat, k ≤ s.size ∧ i = .int .i64 k ∧ ∀ c ∈ s.data.toList.take k, labB c = true) (fun i => s.size - (intOf i).toNat)
        case atStart => exact ⟨0, Nat.zero_le _, rfl, fun c h => by simp at h⟩
        case round =>
          obtain ⟨k, hk, rfl, hall⟩ := hrel
          have HA : Hid (∀ c ∈ s.data.toList.take k, labB c = true) := hall
          clear hall
          by_cases hlt : k < s.size
          · obtain ⟨d, hd⟩ : ∃ d : Nat, s[k].toNat = d := ⟨_, rfl⟩
            have hd1 : (d : Int) ≤ 255 := by have := s[k].toNat_lt; omega
            have HS : Hid ((97 ≤ d ∧ d ≤ 122) ∨ (48 ≤ d ∧ d ≤ 57) ∨ d = 45 → ∀ c ∈ s.data.toList.take (k + 1), labB c = true) := fun hc => lab_take s k hlt d hd hc HA.out
            have HN : Hid (¬ ((97 ≤ d ∧ d ≤ 122) ∨ (48 ≤ d ∧ d ≤ 57) ∨ d = 45) → labL s.data.toList = false) := fun hc => lab_byte s k hlt (by rw [hd]; exact hc)
            by_cases ha : 97 ≤ d ∧ d ≤ 122
            · go_wp2_with fail
              refine (labIn_yes _ _ _ _ (by omega) (by omega)).mono ?_
              rintro e w' ⟨rfl, rfl⟩
              go_wp2_with fail
              go_round
              case rel => exact ⟨k + 1, by omega, by go_num, HS.out (by omega)⟩
              case measure => simp [intOf]; omega
            · by_cases hn : 48 ≤ d ∧ d ≤ 57
              · go_wp2_with fail
                refine (labIn_no _ _ _ _ (by omega)).mono ?_
                rintro e w' ⟨rfl, rfl⟩
                go_wp2_with fail
                refine (labIn_yes _ _ _ _ (by omega) (by omega)).mono ?_
                rintro e w' ⟨rfl, rfl⟩
                go_wp2_with fail
                go_round
                case rel => exact ⟨k + 1, by omega, by go_num, HS.out (by omega)⟩
                case measure => simp [intOf]; omega
              · by_cases hm : d = 45
                · subst hm
                  clear hn ha
                  go_wp2_with fail
                  refine (labIn_no _ _ _ _ (by omega)).mono ?_
                  rintro e w' ⟨rfl, rfl⟩
                  go_wp2_with fail
                  refine (labIn_no _ _ _ _ (by omega)).mono ?_
                  rintro e w' ⟨rfl, rfl⟩
                  go_wp2_with fail
                  go_round
                  case rel => exact ⟨k + 1, by omega, by go_num, HS.out (.inr (.inr trivial))⟩
                  case measure => simp [intOf]; omega
                · have hm' : ¬ (d : Int) = 45 := by omega
                  go_wp2_with fail
                  refine (labIn_no _ _ _ _ (by omega)).mono ?_
                  rintro e w' ⟨rfl, rfl⟩
                  go_wp2_with fail
                  refine (labIn_no _ _ _ _ (by omega)).mono ?_
                  rintro e w' ⟨rfl, rfl⟩
                  go_wp2_with fail
                  go_ret
                  exact ⟨HV.out _ (HN.out (by omega)), rfl⟩
          · have hks : k = s.size := by omega
            subst hks
            go_wp2_with fail
            go_ret
            exact ⟨HV.out _ (HY.out HA.out), rfl⟩
  · have HF : Hid (labL s.data.toList = false) := lab_size s hr
    have hr1 : (s.size : Int) < 1 ∨ 63 < (s.size : Int) := by omega
    go_enter Tryd.func48, Tryd.ntmps48
    go_wp2_with fail
    refine (labIn_no _ _ _ _ hr1).mono ?_
    rintro e w' ⟨rfl, rfl⟩
    go_wp2_with fail
    go_ret
    exact ⟨HV.out _ HF.out, rfl⟩

theorem labIsDigit (d : Nat) (w : World) (hd : (d : Int) ≤ 255) :
    Calls Tryd.prog 86 #[.int .u8 d] w fun e w' => e = .returned (.bool (decide (48 ≤ (d : Int)) && decide ((d : Int) ≤ 57))) ∧ w = w' := by
  by_cases h1 : 48 ≤ (d : Int)
  · go_enter Tryd.func86, Tryd.ntmps86
    go_wp2
    go_ret
    exact ⟨ret_bool (by simp; omega), rfl⟩
  · go_enter Tryd.func86, Tryd.ntmps86
    go_wp2
    go_ret
    exact ⟨ret_bool (by simp; omega), rfl⟩

def labD (d : Nat) : Bool := decide ((97 ≤ d ∧ d ≤ 122) ∨ (48 ≤ d ∧ d ≤ 57) ∨ d = 45)

set_option maxHeartbeats 1000000 in
theorem implIsLabelByte (d : Nat) (w : World) (hd : (d : Int) ≤ 255) :
    Calls Tryd.prog 79 #[.int .u8 d] w fun e w' => e = .returned (.bool (labD d)) ∧ w = w' := by
  have HV : Hid (∀ b : Bool, labD d = b → (.returned (.bool b) : Ending) = .returned (.bool (labD d))) := fun b h => by rw [h]
  by_cases hm : (d : Int) = 45
  · go_enter Tryd.func79, Tryd.ntmps79
    go_wp2_with fail
    go_ret
    exact ⟨HV.out _ (decide_eq_true (by omega)), rfl⟩
  · by_cases hn : 48 ≤ d ∧ d ≤ 57
    · have HC : Hid (Calls Tryd.prog 86 #[.int .u8 d] w fun e w' => e = .returned (.bool true) ∧ w = w') := by
        have := labIsDigit d w hd
        rw [decide_eq_true (show 48 ≤ (d : Int) by omega), decide_eq_true (show (d : Int) ≤ 57 by omega)] at this
        exact this
      go_enter Tryd.func79, Tryd.ntmps79
      go_wp2_with fail
      refine HC.out.mono ?_
      rintro e w' ⟨rfl, rfl⟩
      go_wp2_with fail
      go_ret
      exact ⟨HV.out _ (decide_eq_true (by omega)), rfl⟩
    · have HC : Hid (Calls Tryd.prog 86 #[.int .u8 d] w fun e w' => e = .returned (.bool false) ∧ w = w') := by
        have := labIsDigit d w hd
        have e : (decide (48 ≤ (d : Int)) && decide ((d : Int) ≤ 57)) = false := by simp; omega
        rw [e] at this
        exact this
      by_cases h1 : 97 ≤ (d : Int)
      · by_cases h2 : (d : Int) ≤ 122
        · go_enter Tryd.func79, Tryd.ntmps79
          go_wp2_with fail
          refine HC.out.mono ?_
          rintro e w' ⟨rfl, rfl⟩
          go_wp2_with fail
          go_ret
          exact ⟨HV.out _ (decide_eq_true (by omega)), rfl⟩
        · go_enter Tryd.func79, Tryd.ntmps79
          go_wp2_with fail
          refine HC.out.mono ?_
          rintro e w' ⟨rfl, rfl⟩
          go_wp2_with fail
          go_ret
          exact ⟨HV.out _ (by unfold labD; rw [Bool.eq_iff_iff]; simp; omega), rfl⟩
      · go_enter Tryd.func79, Tryd.ntmps79
        go_wp2_with fail
        refine HC.out.mono ?_
        rintro e w' ⟨rfl, rfl⟩
        go_wp2_with fail
        go_ret
        exact ⟨HV.out _ (by unfold labD; rw [Bool.eq_iff_iff]; simp; omega), rfl⟩

theorem lab_empty_no {u : ByteArray} (h : 0 < u.size) : u.toList.isEmpty = false := by
  cases he : u.toList.isEmpty with
  | false => rfl
  | true =>
    rw [ByteArray.toList_eq, List.isEmpty_iff_length_eq_zero] at he
    have : u.size = 0 := by simpa using he
    omega

set_option maxHeartbeats 1000000 in
theorem implLabelOk (s : ByteArray) (w : World) (hs : s.size ≤ maxLen) :
    Calls Tryd.prog 64 #[.string s] w fun e w' => e = .returned (.bool (labL s.data.toList)) ∧ w = w' := by
  unfold maxLen at hs
  have HV : Hid (∀ b : Bool, labL s.data.toList = b → (.returned (.bool b) : Ending) = .returned (.bool (labL s.data.toList))) := fun b h => by rw [h]
  by_cases hz : s = ⟨#[]⟩
  · have HF : Hid (labL s.data.toList = false) := by subst hz; show _ = _; rfl
    subst hz
    go_enter Tryd.func64, Tryd.ntmps64
    go_wp2_with fail
    go_ret
    exact ⟨HV.out _ HF.out, rfl⟩
  · have hr1 : 0 < s.size := by
      apply Nat.pos_of_ne_zero
      intro h
      exact hz (ByteArray.ext (Array.eq_empty_of_size_eq_zero h))
    have hem := lab_empty_no hr1
    by_cases hr2 : (s.size : Int) ≤ 63
    · have hr3 : ¬ 63 < (s.size : Int) := by omega
      by_cases h0 : (s[0]'(by omega)).toNat = 45
      · have HF : Hid (labL s.data.toList = false) := lab_head s (by omega) h0
        go_enter Tryd.func64, Tryd.ntmps64
        go_wp2_with fail
        go_ret
        exact ⟨HV.out _ HF.out, rfl⟩
      · by_cases h1 : (s[s.size - 1]'(by omega)).toNat = 45
        · have HF : Hid (labL s.data.toList = false) := lab_last s (by omega) h1
          go_enter Tryd.func64, Tryd.ntmps64
          go_wp2_with fail
          go_ret
          exact ⟨HV.out _ HF.out, rfl⟩
        · have q0 : (((s[0]'(by omega)).toNat : Int) == 45) = false := beq_eq_false_iff_ne.2 (by omega)
          have q1 : (((s[s.size - 1]'(by omega)).toNat : Int) == 45) = false := beq_eq_false_iff_ne.2 (by omega)
          have HY : Hid ((∀ c ∈ s.data.toList.take s.size, labB c = true) → labL s.data.toList = true) := lab_yes s (by omega) h0 h1
          clear h0 h1
          go_enter Tryd.func64, Tryd.ntmps64
          go_wp2_with fail
          go_loop [26] (fun i => ∃ k : Nat, k ≤ s.size ∧ i = .int .i64 k ∧ ∀ c ∈ s.data.toList.take k, labB c = true) (fun i => s.size - (intOf i).toNat)
          case atStart => exact ⟨0, Nat.zero_le _, rfl, fun c h => by simp at h⟩
          case round =>
            obtain ⟨k, hk, rfl, hall⟩ := hrel
            have HA : Hid (∀ c ∈ s.data.toList.take k, labB c = true) := hall
            clear hall
            by_cases hlt : k < s.size
            · obtain ⟨d, hd⟩ : ∃ d : Nat, s[k].toNat = d := ⟨_, rfl⟩
              have hd1 : (d : Int) ≤ 255 := by have := s[k].toNat_lt; omega
              have HS : Hid ((97 ≤ d ∧ d ≤ 122) ∨ (48 ≤ d ∧ d ≤ 57) ∨ d = 45 → ∀ c ∈ s.data.toList.take (k + 1), labB c = true) := fun hc => lab_take s k hlt d hd hc HA.out
              have HN : Hid (¬ ((97 ≤ d ∧ d ≤ 122) ∨ (48 ≤ d ∧ d ≤ 57) ∨ d = 45) → labL s.data.toList = false) := fun hc => lab_byte s k hlt (by rw [hd]; exact hc)
              have HC : Hid (∀ W, Calls Tryd.prog 79 #[.int .u8 d] W fun e w' => e = .returned (.bool (labD d)) ∧ W = w') := fun W => implIsLabelByte d W hd1
              cases hb : labD d with
              | true =>
                have HB : Hid ((97 ≤ d ∧ d ≤ 122) ∨ (48 ≤ d ∧ d ≤ 57) ∨ d = 45) := by
                  have := of_decide_eq_true (p := (97 ≤ d ∧ d ≤ 122) ∨ (48 ≤ d ∧ d ≤ 57) ∨ d = 45) hb
                  exact this
                rw [hb] at HC
                clear hb
                go_wp2_with fail
                refine (HC.out _).mono ?_
                rintro e w' ⟨rfl, rfl⟩
                go_wp2_with fail
                go_round
                case rel => exact ⟨k + 1, by omega, by go_num, HS.out HB.out⟩
                case measure => simp [intOf]; omega
              | false =>
                have HB : Hid (¬ ((97 ≤ d ∧ d ≤ 122) ∨ (48 ≤ d ∧ d ≤ 57) ∨ d = 45)) := by
                  have := of_decide_eq_false (p := (97 ≤ d ∧ d ≤ 122) ∨ (48 ≤ d ∧ d ≤ 57) ∨ d = 45) hb
                  exact this
                rw [hb] at HC
                clear hb
                go_wp2_with fail
                refine (HC.out _).mono ?_
                rintro e w' ⟨rfl, rfl⟩
                go_wp2_with fail
                go_ret
                exact ⟨HV.out _ (HN.out HB.out), rfl⟩
            · have hks : k = s.size := by omega
              subst hks
              go_wp2_with fail
              go_ret
              exact ⟨HV.out _ (HY.out HA.out), rfl⟩
    · have HF : Hid (labL s.data.toList = false) := lab_size s (by omega)
      go_enter Tryd.func64, Tryd.ntmps64
      go_wp2_with fail
      go_ret
      exact ⟨HV.out _ HF.out, rfl⟩
end Go.Proofs.YtijliddchoehhaaDoor
