/- The contract of the code's AgentOf. -/
import Derived.Test.YtjdnemjcjodboaaDoorRows
import Derived.Test.YtjdnemjcjodboaaDoorAgSpec
import Derived.Test.YtjdnemjcjodboaaDoorShelf
namespace Go.Proofs.YtjdnemjcjodboaaDoor
open Go.RowKit
set_option linter.unusedVariables false

theorem agB_nat {c : UInt8} {d : Nat} (h : c.toNat = d) : agB c = (letterN d || decide (d = 95) || decide (d = 45)) := by
  have e : letterZ (d : Int) = letterN d := by
    unfold letterN letterZ
    rw [Bool.eq_iff_iff]
    simp only [Bool.or_eq_true, decide_eq_true_eq]
    omega
  rw [agB_of h, e]
set_option maxHeartbeats 1000000 in
theorem implIsAgent (d : Nat) (w : World) (hd : (d : Int) ≤ 255) :
    Calls Tryd.prog 29 #[.int .u8 (d : Int)] w fun e w' => e = .returned (.bool (letterN d || decide (d = 95) || decide (d = 45))) ∧ w = w' := by
  have CT : Hid (∀ W, Calls Tryd.prog 56 #[.int .u8 (d : Int)] W fun e w' => e = .returned (.bool (letterN d)) ∧ W = w') := fun W => implIsLetter d W hd
  generalize letterN d = Z at *
  cases Z with
  | true =>
    go_enter Tryd.func29, Tryd.ntmps29
    go_wp2_with (go_at_call 56; refine (CT.out _).mono ?_; rintro e w' ⟨rfl, rfl⟩)
    go_ret
    exact ⟨ret_bool (by simp), rfl⟩
  | false =>
    by_cases h95 : d = 95
    · subst h95
      go_enter Tryd.func29, Tryd.ntmps29
      go_wp2_with (go_at_call 56; refine (CT.out _).mono ?_; rintro e w' ⟨rfl, rfl⟩)
      go_ret
      exact ⟨ret_bool (by simp), rfl⟩
    · have q95 : ((d : Int) == 95) = false := beq_eq_false_iff_ne.2 (by omega)
      by_cases h45 : d = 45
      · subst h45
        go_enter Tryd.func29, Tryd.ntmps29
        go_wp2_with (go_at_call 56; refine (CT.out _).mono ?_; rintro e w' ⟨rfl, rfl⟩)
        go_ret
        exact ⟨ret_bool (by simp), rfl⟩
      · have q45 : ((d : Int) == 45) = false := beq_eq_false_iff_ne.2 (by omega)
        go_enter Tryd.func29, Tryd.ntmps29
        go_wp2_with (go_at_call 56; refine (CT.out _).mono ?_; rintro e w' ⟨rfl, rfl⟩)
        go_ret
        exact ⟨ret_bool (by simp [h95, h45]), rfl⟩
theorem star_head (s : ByteArray) : Lib.hasPrefix s.data.toList [42] = decide (s.data.toList.head? = some 42) := by
  unfold Lib.hasPrefix
  cases s.data.toList with
  | nil => rfl
  | cons c r =>
    by_cases h : c = 42
    · subst h; simp [List.isPrefixOf]
    · have hh : ((42 : UInt8) == c) = false := beq_eq_false_iff_ne.2 (Ne.symm h)
      simp [h, List.isPrefixOf, hh]
set_option maxHeartbeats 2000000 in
theorem implAgentOf (s : ByteArray) (w : World) (hs : s.size ≤ 1048576) :
    Calls Tryd.prog 11 #[.string s] w fun e w' => e = .returned (.string ⟨(agL s.data.toList).toArray⟩) ∧ Below w.heap.size w w' := by
  have CH : Hid (∀ W, Calls Tryd.prog 28 #[.string s, .string ⟨#[42]⟩] W fun e w' => e = .returned (.bool (decide (s.data.toList.head? = some 42))) ∧ W = w') := fun W =>
    (Tryd.strings_HasPrefix s ⟨#[42]⟩ W).mono fun e w' h => ⟨by rw [h.1, show (⟨#[42]⟩ : ByteArray).data.toList = [42] from rfl, star_head], h.2.symm⟩
  by_cases h42 : s.data.toList.head? = some 42
  · have HA : Hid (agL s.data.toList = [42]) := by
      show _ = _
      unfold agL
      rw [if_pos h42]
    rw [decide_eq_true h42] at CH
    clear h42
    go_enter Tryd.func11, Tryd.ntmps11
    go_wp2_with fail
    refine (CH.out _).mono ?_
    rintro e wh ⟨rfl, rfl⟩
    go_wp2_with fail
    go_ret
    exact ⟨by rw [HA.out]; rfl, Below.refl _ _⟩
  · have HCUT : Hid (∀ k, k ≤ s.size → (∀ j (hj : j < s.size), j < k → agB s[j] = true) → (∀ hk : k < s.size, agB s[k] = false) → agL s.data.toList = lowerL (s.data.toList.take k)) := fun k hk h1 h2 => agL_cut hk h42 h1 h2
    have CL : Hid (∀ k W, k ≤ s.size → Calls Tryd.prog 30 #[.string (s.extract 0 k)] W fun e w' => e = .returned (.string ⟨(lowerL (s.data.toList.take k)).toArray⟩) ∧ Below W.heap.size W w') := fun k W hk => by
      have := implLower (s.extract 0 k) W (by rw [ByteArray.size_extract]; omega)
      rwa [show (s.extract 0 k).data.toList = s.data.toList.take k by rw [extract_list, List.drop_zero]] at this
    rw [decide_eq_false h42] at CH
    clear h42
    go_enter Tryd.func11, Tryd.ntmps11
    go_wp2_with fail
    refine (CH.out _).mono ?_
    rintro e wh ⟨rfl, rfl⟩
    go_wp2_with fail
    go_loop [3] (fun i => ∃ k : Nat, k ≤ s.size ∧ i = .int .i64 k ∧ Hid (∀ j (hj : j < s.size), j < k → agB s[j] = true)) (fun i => s.size - (intOf i).toNat)
    case atStart => exact ⟨0, Nat.zero_le _, rfl, fun j hj h => absurd h (Nat.not_lt_zero _)⟩
    case round =>
      obtain ⟨k, hk, rfl, HP⟩ := hrel
      by_cases hlt : k < s.size
      · have hki : (k : Int) < s.size := by omega
        obtain ⟨d, hd⟩ : ∃ d : Nat, s[k].toNat = d := ⟨_, rfl⟩
        have hb := agB_nat hd
        have hd255 : (d : Int) ≤ 255 := by have := s[k].toNat_lt; omega
        have CT : Hid (∀ W, Calls Tryd.prog 29 #[.int .u8 (d : Int)] W fun e w' => e = .returned (.bool (letterN d || decide (d = 95) || decide (d = 45))) ∧ W = w') := fun W => implIsAgent d W hd255
        rw [← hb] at CT
        clear hb
        cases hz : agB s[k] with
        | true =>
          have HY : Hid (∀ j (hj : j < s.size), j < k + 1 → agB s[j] = true) := fun j hj hjk => by
            by_cases hjk2 : j < k
            · exact HP.out j hj hjk2
            · have : j = k := by omega
              subst this
              exact hz
          rw [hz] at CT
          clear HP hz
          go_wp2_with (go_at_call 29; refine (CT.out _).mono ?_; rintro e w' ⟨rfl, rfl⟩)
          go_round
          case rel => exact ⟨k + 1, by omega, by go_num, HY⟩
          case measure => simp [intOf]; omega
        | false =>
          have HE : Hid (agL s.data.toList = lowerL (s.data.toList.take k)) := HCUT.out k hk HP.out fun _ => hz
          rw [hz] at CT
          clear HP hz
          go_wp2_with (go_at_call 29; refine (CT.out _).mono ?_; rintro e w' ⟨rfl, rfl⟩)
          refine (CL.out k _ (by omega)).mono ?_
          rintro e w1 ⟨rfl, b1⟩
          go_wp2_with fail
          go_ret
          exact ⟨by rw [HE.out]; rfl, b1⟩
      · have hki : ¬ (k : Int) < s.size := by omega
        have HE : Hid (agL s.data.toList = lowerL (s.data.toList.take k)) := HCUT.out k hk HP.out fun h => absurd h hlt
        clear HP
        go_wp2_with fail
        refine (CL.out k _ (by omega)).mono ?_
        rintro e w1 ⟨rfl, b1⟩
        go_wp2_with fail
        go_ret
        exact ⟨by rw [HE.out]; rfl, b1⟩
end Go.Proofs.YtjdnemjcjodboaaDoor
