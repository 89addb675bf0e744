/- The contract of the specification's AgentOf. -/
import Derived.Test.YtjdnemjcjodboaaDoorRows
import Derived.Test.YtjdnemjcjodboaaDoorRobPlain
import Derived.Test.YtjdnemjcjodboaaDoorLetWalk
import Derived.Test.YtjdnemjcjodboaaDoorRowMore
import Derived.Test.YtjdnemjcjodboaaDoorExtPlain
namespace Go.Proofs.YtjdnemjcjodboaaDoor
open Go.RowKit
set_option linter.unusedVariables false

theorem takeWhile_cut {f : UInt8 → Bool} : ∀ {l : List UInt8} {k : Nat}, k ≤ l.length → (∀ j (hj : j < l.length), j < k → f l[j] = true) → (∀ hk : k < l.length, f l[k] = false) → l.takeWhile f = l.take k
  | l, 0, _, _, h2 => by
    cases l with
    | nil => rfl
    | cons a l =>
      have := h2 (by simp)
      rw [List.takeWhile_cons, if_neg (by simpa using this)]
      rfl
  | [], k + 1, h, _, _ => by simp at h
  | a :: l, k + 1, h, h1, h2 => by
    have ha := h1 0 (by simp) (by omega)
    rw [List.takeWhile_cons, if_pos (by simpa using ha), List.take_succ_cons]
    congr 1
    exact takeWhile_cut (by simpa using h) (fun j hj hjk => by have := h1 (j + 1) (by simp; omega) (by omega); simpa using this) (fun hk => by have := h2 (by simp; omega); simpa using this)
theorem agL_cut {s : ByteArray} {k : Nat} (hk : k ≤ s.size) (h0 : s.data.toList.head? ≠ some 42) (h1 : ∀ j (hj : j < s.size), j < k → agB s[j] = true) (h2 : ∀ hk : k < s.size, agB s[k] = false) : agL s.data.toList = lowerL (s.data.toList.take k) := by
  unfold agL
  rw [if_neg h0, takeWhile_cut (k := k) (by simpa using hk) (fun j hj hjk => h1 j (by simpa using hj) hjk) (fun hk => h2 (by simpa using hk))]
theorem agB_of {c : UInt8} {d : Nat} (h : c.toNat = d) : agB c = (letterZ (d : Int) || decide (d = 95) || decide (d = 45)) := by
  unfold agB letterN letterZ
  rw [h]
  have e1 : decide (c = 95) = decide (d = 95) := by
    by_cases hc : c = 95
    · rw [decide_eq_true hc, decide_eq_true (by rw [← h, hc]; rfl)]
    · rw [decide_eq_false hc, decide_eq_false fun e => hc (UInt8.toNat_inj.1 (by rw [h, e]; rfl))]
  have e2 : decide (c = 45) = decide (d = 45) := by
    by_cases hc : c = 45
    · rw [decide_eq_true hc, decide_eq_true (by rw [← h, hc]; rfl)]
    · rw [decide_eq_false hc, decide_eq_false fun e => hc (UInt8.toNat_inj.1 (by rw [h, e]; rfl))]
  rw [e1, e2]
  congr 3
  · exact decide_eq_decide.2 (by omega)
  · exact decide_eq_decide.2 (by omega)
set_option maxHeartbeats 2000000 in
theorem specAgentOf (s : ByteArray) (w : World) (hs : s.size ≤ 1048576) :
    Calls Tryd.prog 33 #[.string s] w fun e w' => e = .returned (.string ⟨(agL s.data.toList).toArray⟩) ∧ Below w.heap.size w w' := by
  by_cases h42 : s.data.toList.head? = some 42
  · have hp : 0 < s.size := by
      cases hl : s.data.toList with
      | nil => rw [hl] at h42; cases h42
      | cons a l =>
        have : s.data.toList.length = s.size := by simp
        rw [hl] at this
        simp at this
        omega
    have HA : Hid (agL s.data.toList = [42]) := by show _ = _; unfold agL; rw [if_pos h42]
    have hc : s[0].toNat = 42 := by
      rw [List.head?_eq_getElem?, List.getElem?_eq_getElem (by simpa using hp)] at h42
      injection h42 with h42
      have : s[0] = 42 := h42
      rw [this]
      rfl
    have he := empty_no hp
    have hpi : 0 < (s.size : Int) := by omega
    clear h42
    go_enter Tryd.func33, Tryd.ntmps33
    go_wp2_with fail
    go_ret
    exact ⟨by rw [HA.out]; rfl, Below.refl _ _⟩
  · have HCUT : Hid (∀ k, k ≤ s.size → (∀ j (hj : j < s.size), j < k → agB s[j] = true) → (∀ hk : k < s.size, agB s[k] = false) → agL s.data.toList = lowerL (s.data.toList.take k)) := fun k hk h1 h2 => agL_cut hk h42 h1 h2
    have CL : Hid (∀ k W, k ≤ s.size → Calls Tryd.prog 59 #[.string (s.extract 0 k)] W fun e w' => e = .returned (.string ⟨(lowerL (s.data.toList.take k)).toArray⟩) ∧ Below W.heap.size W w') := fun k W hk => by
      have := specLower (s.extract 0 k) W (by rw [ByteArray.size_extract]; omega)
      rwa [show (s.extract 0 k).data.toList = s.data.toList.take k by rw [extract_list, List.drop_zero]] at this
    have h42' : s.size = 0 ∨ ∃ h : 0 < s.size, s[0].toNat ≠ 42 := by
      by_cases h0 : s.size = 0
      · exact .inl h0
      · refine .inr ⟨by omega, fun e => h42 ?_⟩
        rw [List.head?_eq_getElem?, List.getElem?_eq_getElem (by simp; omega)]
        congr 1
        exact UInt8.toNat_inj.1 e
    clear h42
    rcases h42' with h0 | ⟨hp, hne⟩
    · obtain rfl : s = ⟨#[]⟩ := by
        cases s with
        | mk a =>
          congr
          exact Array.eq_empty_of_size_eq_zero h0
      have CE : Hid (∀ W, Calls Tryd.prog 59 #[.string ⟨#[]⟩] W fun e w' => e = .returned (.string ⟨#[]⟩) ∧ Below W.heap.size W w') := fun W => specLower ⟨#[]⟩ W (by decide)
      clear CL HCUT
      go_enter Tryd.func33, Tryd.ntmps33
      go_wp2_with fail
      refine wp_loop_rounds 1 ?_
      rw [rounds_succ]
      go_wp2_with fail
      refine (CE.out _).mono ?_
      rintro e w1 ⟨rfl, b1⟩
      go_wp2_with fail
      go_ret
      exact ⟨rfl, b1⟩
    · have he := empty_no hp
      have hpi : 0 < (s.size : Int) := by omega
      obtain ⟨d0, hd0⟩ : ∃ d : Nat, s[0].toNat = d := ⟨_, rfl⟩
      rw [hd0] at hne
      have hd1 : ((d0 : Int) == 42) = false := beq_eq_false_iff_ne.2 (by omega)
      go_enter Tryd.func33, Tryd.ntmps33
      go_wp2_with fail
      go_loop [3] (fun i => ∃ k : Nat, k ≤ s.size ∧ i = .int .i64 k ∧ Hid (∀ j (hj : j < s.size), j < k → agB s[j] = true)) (fun i => s.size - (intOf i).toNat)
      case atStart => exact ⟨0, Nat.zero_le _, rfl, fun j hj h => absurd h (Nat.not_lt_zero _)⟩
      case round =>
        obtain ⟨k, hk, rfl, HP⟩ := hrel
        by_cases hlt : k < s.size
        · have hki : (k : Int) < s.size := by omega
          obtain ⟨d, hd⟩ : ∃ d : Nat, s[k].toNat = d := ⟨_, rfl⟩
          have hb := agB_of hd
          have hd255 : (d : Int) ≤ 255 := by have := s[k].toNat_lt; omega
          have CT : Hid (∀ W, Calls Tryd.prog 61 #[.int .i64 (d : Int)] W fun e w' => e = .returned (.bool (letterZ (d : Int))) ∧ W = w') := fun W => specLetter (d : Int) W
          have HY0 : Hid (agB s[k] = true → ∀ j (hj : j < s.size), j < k + 1 → agB s[j] = true) := fun h j hj hjk => by
            by_cases hjk2 : j < k
            · exact HP.out j hj hjk2
            · have : j = k := by omega
              subst this
              exact h
          have HN0 : Hid (agB s[k] = false → agL s.data.toList = lowerL (s.data.toList.take k)) := fun h => HCUT.out k hk HP.out fun _ => h
          rw [hb] at HY0 HN0
          clear hb HP
          generalize letterZ (d : Int) = Z at *
          cases Z with
          | true =>
            have HY : Hid (∀ j (hj : j < s.size), j < k + 1 → agB s[j] = true) := HY0.out (by simp)
            clear HY0 HN0
            go_wp2_with (go_at_call 61; refine (CT.out _).mono ?_; rintro e w' ⟨rfl, rfl⟩)
            go_round
            case rel => exact ⟨k + 1, by omega, by go_num, HY⟩
            case measure => simp [intOf]; omega
          | false =>
            by_cases h95 : d = 95
            · have HY : Hid (∀ j (hj : j < s.size), j < k + 1 → agB s[j] = true) := HY0.out (by simp [h95])
              subst h95
              clear HY0 HN0
              go_wp2_with (go_at_call 61; refine (CT.out _).mono ?_; rintro e w' ⟨rfl, rfl⟩)
              go_round
              case rel => exact ⟨k + 1, by omega, by go_num, HY⟩
              case measure => simp [intOf]; omega
            · have q95 : ((d : Int) == 95) = false := beq_eq_false_iff_ne.2 (by omega)
              by_cases h45 : d = 45
              · have HY : Hid (∀ j (hj : j < s.size), j < k + 1 → agB s[j] = true) := HY0.out (by simp [h45])
                subst h45
                clear HY0 HN0
                go_wp2_with (go_at_call 61; refine (CT.out _).mono ?_; rintro e w' ⟨rfl, rfl⟩)
                go_round
                case rel => exact ⟨k + 1, by omega, by go_num, HY⟩
                case measure => simp [intOf]; omega
              · have q45 : ((d : Int) == 45) = false := beq_eq_false_iff_ne.2 (by omega)
                have HE : Hid (agL s.data.toList = lowerL (s.data.toList.take k)) := HN0.out (by simp [h95, h45])
                clear HY0 HN0
                go_wp2_with (go_at_call 61; refine (CT.out _).mono ?_; rintro e w' ⟨rfl, rfl⟩)
                refine (CL.out k _ (by omega)).mono ?_
                rintro e w1 ⟨rfl, b1⟩
                go_wp2_with fail
                go_ret
                exact ⟨by rw [HE.out]; rfl, b1⟩
        · have hki : ¬ (k : Int) < s.size := by omega
          have HE : Hid (agL s.data.toList = lowerL (s.data.toList.take k)) := HCUT.out k hk HP.out fun h => absurd h hlt
          clear HP
          go_wp2_with fail
          refine (CL.out k _ (by omega)).mono ?_
          rintro e w1 ⟨rfl, b1⟩
          go_wp2_with fail
          go_ret
          exact ⟨by rw [HE.out]; rfl, b1⟩
end Go.Proofs.YtjdnemjcjodboaaDoor
