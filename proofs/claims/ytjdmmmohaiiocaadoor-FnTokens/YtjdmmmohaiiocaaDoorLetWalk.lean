/- Contracts of letters and of a byte among others. -/
import Derived.Test.YtjdmmmohaiiocaaDoorRows
import Derived.Test.YtjdmmmohaiiocaaDoorHexWalk
namespace Go.Proofs.YtjdmmmohaiiocaaDoor
open Go.RowKit

theorem implIsLetter (c : Nat) (w : World) (hc : (c : Int) ≤ 255) :
    Calls Tryd.prog 92 #[.int .u8 (c : Int)] w fun e w' => e = .returned (.bool (letterN c)) ∧ w = w' := by
  by_cases h1 : 97 ≤ (c : Int)
  · by_cases h2 : (c : Int) ≤ 122
    · have HV : Hid (letterN c = true) := by show _ = _; unfold letterN; simp; omega
      go_enter Tryd.func92, Tryd.ntmps92
      go_wp2
      go_ret
      exact ⟨ret_bool (by rw [HV.out] <;> first | rfl | (simp <;> omega)), rfl⟩
    · have HV : Hid (letterN c = false) := by show _ = _; unfold letterN; simp; omega
      have h3 : 65 ≤ (c : Int) := by omega
      have h4 : ¬ (c : Int) ≤ 90 := by omega
      go_enter Tryd.func92, Tryd.ntmps92
      go_wp2
      go_ret
      exact ⟨ret_bool (by rw [HV.out] <;> first | rfl | (simp <;> omega)), rfl⟩
  · by_cases h3 : 65 ≤ (c : Int)
    · by_cases h4 : (c : Int) ≤ 90
      · have HV : Hid (letterN c = true) := by show _ = _; unfold letterN; simp; omega
        go_enter Tryd.func92, Tryd.ntmps92
        go_wp2
        go_ret
        exact ⟨ret_bool (by rw [HV.out] <;> first | rfl | (simp <;> omega)), rfl⟩
      · have HV : Hid (letterN c = false) := by show _ = _; unfold letterN; simp; omega
        go_enter Tryd.func92, Tryd.ntmps92
        go_wp2
        go_ret
        exact ⟨ret_bool (by rw [HV.out] <;> first | rfl | (simp <;> omega)), rfl⟩
    · have HV : Hid (letterN c = false) := by show _ = _; unfold letterN; simp; omega
      go_enter Tryd.func92, Tryd.ntmps92
      go_wp2
      go_ret
      exact ⟨ret_bool (by rw [HV.out] <;> first | rfl | (simp <;> omega)), rfl⟩

def amongL (l : List UInt8) (c : Int) : Bool := l.any fun b => decide ((b.toNat : Int) = c)

set_option maxHeartbeats 1000000 in
theorem specAmong (s : ByteArray) (c : Int) (w : World) (hs : s.size ≤ 1048576) :
    Calls Tryd.prog 48 #[.string s, .int .i64 c] w fun e w' => e = .returned (.bool (amongL s.data.toList c)) ∧ w = w' := by
  go_enter Tryd.func48, Tryd.ntmps48
  go_wp2
  go_loop [5] (fun i => ∃ k : Nat, k ≤ s.size ∧ i = .int .i64 k ∧ amongL (s.data.toList.take k) c = false) (fun i => s.size - (intOf i).toNat)
  case atStart => exact ⟨0, Nat.zero_le _, rfl, rfl⟩
  case round =>
    obtain ⟨k, hk, rfl, hno⟩ := hrel
    have HN : Hid (amongL (s.data.toList.take k) c = false) := hno
    clear hno
    by_cases hlt : k < s.size
    · obtain ⟨d, hd⟩ : ∃ d : Nat, s[k].toNat = d := ⟨_, rfl⟩
      have hd1 : (d : Int) ≤ 255 := by have := s[k].toNat_lt; omega
      by_cases he : (d : Int) = c
      · have HV : Hid (amongL s.data.toList c = true) := by
          show _ = _
          unfold amongL
          refine List.any_eq_true.2 ⟨s[k], ?_, by rw [hd]; exact decide_eq_true he⟩
          have : s[k] ∈ s.data := Array.getElem_mem _
          simpa using this
        go_wp2
        go_ret
        exact ⟨ret_bool (by rw [HV.out]), rfl⟩
      · have HN2 : Hid (amongL (s.data.toList.take (k + 1)) c = false) := by
          show _ = _
          have h := HN.out
          unfold amongL at h ⊢
          rw [take_snoc s k hlt, List.any_append, h]
          simp [hd, he]
        go_wp2
        go_round
        case rel => exact ⟨k + 1, by omega, by go_num, HN2.out⟩
        case measure => simp [intOf]; omega
    · have HV : Hid (amongL s.data.toList c = false) := by
        show _ = _
        have h := HN.out
        rw [take_all s k (by omega)] at h
        exact h
      go_wp2
      go_ret
      exact ⟨ret_bool (by rw [HV.out]), rfl⟩

def letterZ (c : Int) : Bool := decide (97 ≤ c ∧ c ≤ 122) || decide (65 ≤ c ∧ c ≤ 90)

theorem specLetter (c : Int) (w : World) : Calls Tryd.prog 82 #[.int .i64 c] w fun e w' => e = .returned (.bool (letterZ c)) ∧ w = w' := by
  by_cases h1 : 97 ≤ c ∧ c ≤ 122
  · have HV : Hid (letterZ c = true) := by show _ = _; unfold letterZ; rw [decide_eq_true h1]; rfl
    have H1 : Hid (97 ≤ c ∧ c ≤ 122) := h1
    clear h1
    go_enter Tryd.func82, Tryd.ntmps82
    go_wp2_with fail
    refine (specL1In_yes _ _ _ _ H1.out.1 H1.out.2).mono ?_
    rintro e w' ⟨rfl, rfl⟩
    go_wp2
    go_ret
    exact ⟨ret_bool (by rw [HV.out]), rfl⟩
  · have HV : Hid (letterZ c = decide (65 ≤ c ∧ c ≤ 90)) := by show _ = _; unfold letterZ; rw [decide_eq_false h1]; rfl
    have H1 : Hid (c < 97 ∨ 122 < c) := by show _ ∨ _; omega
    clear h1
    go_enter Tryd.func82, Tryd.ntmps82
    go_wp2_with fail
    refine (specL1In_no _ _ _ _ H1.out).mono ?_
    rintro e w' ⟨rfl, rfl⟩
    go_wp2_with fail
    refine (specL1In _ _ _ _).mono ?_
    rintro e w' ⟨rfl, rfl⟩
    generalize decide (65 ≤ c ∧ c ≤ 90) = b at HV
    go_wp2
    go_ret
    exact ⟨ret_bool (by rw [HV.out]), rfl⟩

end Go.Proofs.YtjdmmmohaiiocaaDoor
