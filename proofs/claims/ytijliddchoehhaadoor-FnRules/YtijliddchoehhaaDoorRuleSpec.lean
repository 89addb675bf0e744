/- Contracts of the specification's chapter 10: which rules are right, their text, whether one fits. -/
import Derived.Test.YtijliddchoehhaaDoorRows
import Derived.Test.YtijliddchoehhaaDoorRuleRow
import Derived.Test.YtijliddchoehhaaDoorRowMore
import Derived.Test.YtijliddchoehhaaDoorPctWalk
import Derived.Test.YtijliddchoehhaaDoorLabWalk
import Derived.BigQuiet
import Derived.Deep.QuietTactic
import Derived.Deep.RegionWith
namespace Go.Proofs.YtijliddchoehhaaDoor
open Go.RowKit
set_option linter.unusedVariables false

theorem take_same {la lb : List ByteArray} {k : Nat} (ha : k < la.length) (hb : k < lb.length) (h : la.take k = lb.take k) (e : la.getD k ByteArray.empty = lb.getD k ByteArray.empty) : la.take (k + 1) = lb.take (k + 1) := by
  rw [btake_snoc la k ha, btake_snoc lb k hb, h, e]
theorem take_whole {la lb : List ByteArray} (hl : la.length = lb.length) (h : la.take la.length = lb.take la.length) : la = lb := by
  rwa [List.take_length, hl, List.take_length] at h

set_option maxHeartbeats 2000000 in
theorem specSameParts (la lb : List ByteArray) (va vb : Value) (w : World) (hla : la.length ≤ 1099511627776) (hlb : lb.length ≤ 1099511627776) (ha : StrRow w va la) (hb : StrRow w vb lb) :
    Calls Tryd.prog 24 #[va, vb] w fun e w' => e = .returned (.bool (decide (la = lb))) ∧ ∃ m, w' = w.drewN m := by
  by_cases hl : la.length = lb.length
  · rcases ha with ⟨rfl, ao, cap, rfl⟩ | ⟨h0, g, off, cap, rfl, hg, hc⟩
    · obtain rfl : lb = [] := List.eq_nil_of_length_eq_zero (by simpa using hl.symm)
      obtain ⟨bo, cap', rfl⟩ := hb.slice
      clear hb hl hla hlb
      go_enter Tryd.func24, Tryd.ntmps24
      go_wp2
      refine wp_loop_rounds 1 ?_
      rw [rounds_succ]
      go_wp2
      go_ret
      exact ⟨rfl, 0, rfl⟩
    · rcases hb with ⟨rfl, _⟩ | ⟨_, g', off', cap', rfl, hg', hc'⟩
      · exact absurd hl (by show ¬ la.length = 0; omega)
      · have HC : Hid (∀ i, i < la.length → w.cell? ⟨g, off + i, none⟩ = some (.string (la.getD i ByteArray.empty))) := hc
        have HC' : Hid (∀ i, i < lb.length → w.cell? ⟨g', off' + i, none⟩ = some (.string (lb.getD i ByteArray.empty))) := hc'
        have HL : Hid (la.length = lb.length) := hl
        rw [← hl]
        clear hc hc' hl hlb
        go_enter Tryd.func24, Tryd.ntmps24
        go_wp2
        go_loopw [5] (fun i wr => ∃ k : Nat, k ≤ la.length ∧ i = .int .i64 k ∧ Hid (la.take k = lb.take k) ∧ ∃ m, wr = w.drewN m) (fun i _ => la.length - (intOf i).toNat)
        case atStart => exact ⟨0, Nat.zero_le _, rfl, rfl, 0, rfl⟩
        case round =>
          obtain ⟨k, hk, rfl, hs, m, rfl⟩ := hrel
          by_cases hlt : k < la.length
          · have ca := HC.out k hlt
            have cb := HC'.out k (by rw [← HL.out]; exact hlt)
            by_cases he : la.getD k ByteArray.empty = lb.getD k ByteArray.empty
            · have HS : Hid (la.take (k + 1) = lb.take (k + 1)) := take_same hlt (by rw [← HL.out]; exact hlt) hs.out he
              rw [← he] at cb
              clear he hs
              generalize la.getD k ByteArray.empty = x at ca cb
              go_wp2
              go_quiet (fail)
              go_wp2
              go_roundw
              case rel => exact ⟨k + 1, by omega, by go_num, HS, m + nq, rfl⟩
              case measure => simp [intOf]; omega
            · have hne : Hid (¬ la = lb) := fun h => he (by rw [h])
              have hst := str_ne he
              clear he hs
              generalize la.getD k ByteArray.empty = x at ca hst
              generalize lb.getD k ByteArray.empty = y at cb hst
              go_wp2
              go_quiet (fail)
              go_wp2
              go_ret
              exact ⟨ret_bool (decide_eq_false hne.out).symm, m + nq, by rw [World.drewN_drewN]⟩
          · have HE : Hid (la = lb) := take_whole HL.out (by
              have := hs.out
              rwa [show k = la.length by omega] at this)
            clear hs
            go_wp2
            go_ret
            exact ⟨ret_bool (decide_eq_true HE.out).symm, m, rfl⟩
  · have HN : Hid (¬ la = lb) := fun h => hl (by rw [h])
    obtain ⟨ao, cap, rfl⟩ := ha.slice
    obtain ⟨bo, cap', rfl⟩ := hb.slice
    have hli : ((la.length : Int) == (lb.length : Int)) = false := beq_eq_false_iff_ne.2 (by omega)
    clear ha hb hl
    generalize la.length = n at *
    generalize lb.length = m at *
    go_enter Tryd.func24, Tryd.ntmps24
    go_wp2
    go_ret
    exact ⟨ret_bool (decide_eq_false HN.out).symm, 0, rfl⟩

theorem lit_eq (x : ByteArray) (c : UInt8) : (x.toList == [c]) = decide (x.data.toList = [c]) := by
  rw [ByteArray.toList_eq]
  by_cases h : x.data.toList = [c]
  · rw [h]; simp
  · rw [decide_eq_false h]; exact beq_eq_false_iff_ne.2 h
theorem ruleB_of {ps : List ByteArray} {ex : Bool} (h1 : 1 ≤ ps.length ∧ ps.length ≤ 8) (h2 : ex = true → 2 ≤ ps.length) (h3 : ∀ i, i < ps.length → partB ex ps.length i (ps.getD i ByteArray.empty) = true) : ruleB ⟨ps, ex⟩ = true := by
  unfold ruleB
  simp only [Bool.and_eq_true, decide_eq_true_eq, Bool.or_eq_true, Bool.not_eq_true']
  refine ⟨⟨h1, ?_⟩, all_range.2 h3⟩
  cases ex with
  | false => exact .inl rfl
  | true => exact .inr (h2 rfl)
theorem ruleB_part {ps : List ByteArray} {ex : Bool} {i : Nat} (hi : i < ps.length) (h : partB ex ps.length i (ps.getD i ByteArray.empty) = false) : ruleB ⟨ps, ex⟩ = false := by
  cases hr : ruleB ⟨ps, ex⟩ with
  | false => rfl
  | true =>
    have := (ruleB_yes hr).2.2 i hi
    rw [h] at this
    cases this
theorem beq_of_dec {a b : Int} {c : Bool} (h : decide (a = b) = c) : (a == b) = c := by
  rw [← h]
  by_cases e : a = b
  · rw [e]; simp
  · rw [decide_eq_false e]; exact beq_eq_false_iff_ne.2 e
set_option maxHeartbeats 4000000 in
theorem specRule (p : Value) (ps : List ByteArray) (ex : Bool) (w : World) (hl : ps.length ≤ 1099511627776) (hsz : ∀ x ∈ ps, x.size ≤ 1048576) (h : StrRow w p ps) :
    Calls Tryd.prog 23 #[.agg #[p, .bool ex]] w fun e w' => e = .returned (.bool (ruleB ⟨ps, ex⟩)) ∧ Below w.heap.size w w' := by
  have HSZ : Hid (∀ x ∈ ps, x.size ≤ 1048576) := hsz
  clear hsz
  by_cases h18 : 1 ≤ (ps.length : Int) ∧ (ps.length : Int) ≤ 8
  · rcases h with ⟨rfl, _⟩ | ⟨h0, g, off, cap, rfl, hg, hc⟩
    · simp at h18
    have HC : Hid (∀ i, i < ps.length → w.cell? ⟨g, off + i, none⟩ = some (.string (ps.getD i ByteArray.empty))) := hc
    have CI : Hid (∀ W, Calls Tryd.prog 47 #[.int .i64 (ps.length : Int), .int .i64 1, .int .i64 8] W fun e w' => e = .returned (.bool true) ∧ W = w') := fun W => by
      have := specL1In ps.length 1 8 W
      rwa [decide_eq_true h18] at this
    clear hc
    obtain ⟨h1, h8⟩ := h18
    by_cases hx : ex = true ∧ ps.length < 2
    · obtain ⟨rfl, h2⟩ := hx
      have HR : Hid (ruleB ⟨ps, true⟩ = false) := by
        show _ = _
        cases hr : ruleB ⟨ps, true⟩ with
        | false => rfl
        | true =>
          have := (ruleB_yes hr).2.1 rfl
          have : 2 ≤ ps.length := this
          omega
      have h2i : (ps.length : Int) < 2 := by omega
      go_enter Tryd.func23, Tryd.ntmps23
      go_wp2_with (go_at_call 47; refine (CI.out _).mono ?_; rintro e w' ⟨rfl, rfl⟩)
      go_ret
      exact ⟨ret_bool HR.out.symm, (Below.refl _ _).alloc (Nat.le_refl _) _⟩
    · have HX : Hid (ex = true → 2 ≤ ps.length) := fun he => by
        by_cases h2 : 2 ≤ ps.length
        · exact h2
        · exact absurd ⟨he, by omega⟩ hx
      have hx2 : (ex && decide ((ps.length : Int) < 2)) = false := by
        cases ex with
        | false => rfl
        | true =>
          have := HX.out rfl
          simp
          omega
      clear hx
      go_enter Tryd.func23, Tryd.ntmps23
      cases ex with
      | true =>
        have h2i : ¬ (ps.length : Int) < 2 := by have := HX.out rfl; omega
        go_wp2_with (go_at_call 47; refine (CI.out _).mono ?_; rintro e w' ⟨rfl, rfl⟩)
        go_loop [4] (fun i => ∃ k : Nat, k ≤ ps.length ∧ i = .int .i64 k ∧ Hid (∀ j, j < k → partB true ps.length j (ps.getD j ByteArray.empty) = true)) (fun i => ps.length - (intOf i).toNat)
        case atStart => exact ⟨0, Nat.zero_le _, rfl, fun j hj => absurd hj (Nat.not_lt_zero _)⟩
        obtain ⟨k, hk, rfl, HP⟩ := hrel
        by_cases hlt : k < ps.length
        · have ca := HC.out k hlt
          have hmem : ps.getD k ByteArray.empty ∈ ps := by
            rw [List.getD_eq_getElem?_getD, List.getElem?_eq_getElem hlt]
            exact List.getElem_mem _
          have hxs := HSZ.out _ hmem
          have hb1 := lit_eq (ps.getD k ByteArray.empty) 42
          have HV : Hid (partB true ps.length k (ps.getD k ByteArray.empty) = (decide ((ps.getD k ByteArray.empty).data.toList = [42]) && decide (k + 1 = ps.length) && !true || labL (ps.getD k ByteArray.empty).data.toList)) := rfl
          have CL : Hid (∀ W, Calls Tryd.prog 48 #[.string (ps.getD k ByteArray.empty)] W fun e w' => e = .returned (.bool (labL (ps.getD k ByteArray.empty).data.toList)) ∧ W = w') := fun W => specLabelOk _ W (by unfold maxLen; omega)
          clear hmem
          generalize labL (ps.getD k ByteArray.empty).data.toList = L at HV CL
          generalize decide ((ps.getD k ByteArray.empty).data.toList = [42]) = b1 at hb1 HV
          have HW : Hid (∀ P : Bool, partB true ps.length k (ps.getD k ByteArray.empty) = P → partB true ps.length k (ps.getD k ByteArray.empty) = P) := fun _ h => h
          generalize hgx : ps.getD k ByteArray.empty = x at ca hxs hb1 CL
          have HG : Hid (ps.getD k ByteArray.empty = x) := hgx
          clear hgx HW
          have hki : (k : Int) < ps.length := by omega
          cases b1 with
          | false =>
            have HS : Hid ((false && decide (k + 1 = ps.length) && !true) = false) := rfl
            cases hL : L with
            | true =>
              have HP2 : Hid (∀ j, j < k + 1 → partB true ps.length j (ps.getD j ByteArray.empty) = true) := fun j hj => by
                by_cases hjk : j < k
                · exact HP.out j hjk
                · rw [show j = k by omega]
                  exact HV.out.trans (by rw [hL, Bool.or_true])
              rw [hL] at CL
              clear HV hL HP
              go_wp2_with (go_at_call 48; refine (CL.out _).mono ?_; rintro e w' ⟨rfl, rfl⟩)
              go_round
              case rel => exact ⟨k + 1, by omega, by go_num, HP2⟩
              case measure => simp [intOf]; omega
            | false =>
              have HR : Hid (ruleB ⟨ps, true⟩ = false) := ruleB_part hlt (HV.out.trans (by rw [hL, Bool.or_false]; exact HS.out))
              rw [hL] at CL
              clear HV hL HP
              go_wp2_with (go_at_call 48; refine (CL.out _).mono ?_; rintro e w' ⟨rfl, rfl⟩)
              go_ret
              exact ⟨ret_bool HR.out.symm, (Below.refl _ _).alloc (Nat.le_refl _) _⟩
          | true =>
            have HS : Hid ((true && decide (k + 1 = ps.length) && !true) = false) := by show _ = _; simp
            cases hb2 : decide ((k : Int) = (ps.length : Int) - 1) with
            | true =>
              have hq := beq_of_dec hb2
              clear hb2
              cases hL : L with
              | true =>
                have HP2 : Hid (∀ j, j < k + 1 → partB true ps.length j (ps.getD j ByteArray.empty) = true) := fun j hj => by
                  by_cases hjk : j < k
                  · exact HP.out j hjk
                  · rw [show j = k by omega]
                    exact HV.out.trans (by rw [hL, Bool.or_true])
                rw [hL] at CL
                clear HV hL HP
                go_wp2_with (go_at_call 48; refine (CL.out _).mono ?_; rintro e w' ⟨rfl, rfl⟩)
                go_round
                case rel => exact ⟨k + 1, by omega, by go_num, HP2⟩
                case measure => simp [intOf]; omega
              | false =>
                have HR : Hid (ruleB ⟨ps, true⟩ = false) := ruleB_part hlt (HV.out.trans (by rw [hL, Bool.or_false]; exact HS.out))
                rw [hL] at CL
                clear HV hL HP
                go_wp2_with (go_at_call 48; refine (CL.out _).mono ?_; rintro e w' ⟨rfl, rfl⟩)
                go_ret
                exact ⟨ret_bool HR.out.symm, (Below.refl _ _).alloc (Nat.le_refl _) _⟩
            | false =>
              have hq := beq_of_dec hb2
              clear hb2
              cases hL : L with
              | true =>
                have HP2 : Hid (∀ j, j < k + 1 → partB true ps.length j (ps.getD j ByteArray.empty) = true) := fun j hj => by
                  by_cases hjk : j < k
                  · exact HP.out j hjk
                  · rw [show j = k by omega]
                    exact HV.out.trans (by rw [hL, Bool.or_true])
                rw [hL] at CL
                clear HV hL HP
                go_wp2_with (go_at_call 48; refine (CL.out _).mono ?_; rintro e w' ⟨rfl, rfl⟩)
                go_round
                case rel => exact ⟨k + 1, by omega, by go_num, HP2⟩
                case measure => simp [intOf]; omega
              | false =>
                have HR : Hid (ruleB ⟨ps, true⟩ = false) := ruleB_part hlt (HV.out.trans (by rw [hL, Bool.or_false]; exact HS.out))
                rw [hL] at CL
                clear HV hL HP
                go_wp2_with (go_at_call 48; refine (CL.out _).mono ?_; rintro e w' ⟨rfl, rfl⟩)
                go_ret
                exact ⟨ret_bool HR.out.symm, (Below.refl _ _).alloc (Nat.le_refl _) _⟩
        · have hki : ¬ (k : Int) < ps.length := by omega
          have HR : Hid (ruleB ⟨ps, true⟩ = true) := ruleB_of (by omega) (fun h => HX.out (by first | trivial | cases h)) (fun i hi => HP.out i (by omega))
          clear HP
          go_wp2_with fail
          go_ret
          exact ⟨ret_bool HR.out.symm, (Below.refl _ _).alloc (Nat.le_refl _) _⟩
      | false =>
        go_wp2_with (go_at_call 47; refine (CI.out _).mono ?_; rintro e w' ⟨rfl, rfl⟩)
        go_loop [4] (fun i => ∃ k : Nat, k ≤ ps.length ∧ i = .int .i64 k ∧ Hid (∀ j, j < k → partB false ps.length j (ps.getD j ByteArray.empty) = true)) (fun i => ps.length - (intOf i).toNat)
        case atStart => exact ⟨0, Nat.zero_le _, rfl, fun j hj => absurd hj (Nat.not_lt_zero _)⟩
        obtain ⟨k, hk, rfl, HP⟩ := hrel
        by_cases hlt : k < ps.length
        · have ca := HC.out k hlt
          have hmem : ps.getD k ByteArray.empty ∈ ps := by
            rw [List.getD_eq_getElem?_getD, List.getElem?_eq_getElem hlt]
            exact List.getElem_mem _
          have hxs := HSZ.out _ hmem
          have hb1 := lit_eq (ps.getD k ByteArray.empty) 42
          have HV : Hid (partB false ps.length k (ps.getD k ByteArray.empty) = (decide ((ps.getD k ByteArray.empty).data.toList = [42]) && decide (k + 1 = ps.length) && !false || labL (ps.getD k ByteArray.empty).data.toList)) := rfl
          have CL : Hid (∀ W, Calls Tryd.prog 48 #[.string (ps.getD k ByteArray.empty)] W fun e w' => e = .returned (.bool (labL (ps.getD k ByteArray.empty).data.toList)) ∧ W = w') := fun W => specLabelOk _ W (by unfold maxLen; omega)
          clear hmem
          generalize labL (ps.getD k ByteArray.empty).data.toList = L at HV CL
          generalize decide ((ps.getD k ByteArray.empty).data.toList = [42]) = b1 at hb1 HV
          have HW : Hid (∀ P : Bool, partB false ps.length k (ps.getD k ByteArray.empty) = P → partB false ps.length k (ps.getD k ByteArray.empty) = P) := fun _ h => h
          generalize hgx : ps.getD k ByteArray.empty = x at ca hxs hb1 CL
          have HG : Hid (ps.getD k ByteArray.empty = x) := hgx
          clear hgx HW
          have hki : (k : Int) < ps.length := by omega
          cases b1 with
          | false =>
            have HS : Hid ((false && decide (k + 1 = ps.length) && !false) = false) := rfl
            cases hL : L with
            | true =>
              have HP2 : Hid (∀ j, j < k + 1 → partB false ps.length j (ps.getD j ByteArray.empty) = true) := fun j hj => by
                by_cases hjk : j < k
                · exact HP.out j hjk
                · rw [show j = k by omega]
                  exact HV.out.trans (by rw [hL, Bool.or_true])
              rw [hL] at CL
              clear HV hL HP
              go_wp2_with (go_at_call 48; refine (CL.out _).mono ?_; rintro e w' ⟨rfl, rfl⟩)
              go_round
              case rel => exact ⟨k + 1, by omega, by go_num, HP2⟩
              case measure => simp [intOf]; omega
            | false =>
              have HR : Hid (ruleB ⟨ps, false⟩ = false) := ruleB_part hlt (HV.out.trans (by rw [hL, Bool.or_false]; exact HS.out))
              rw [hL] at CL
              clear HV hL HP
              go_wp2_with (go_at_call 48; refine (CL.out _).mono ?_; rintro e w' ⟨rfl, rfl⟩)
              go_ret
              exact ⟨ret_bool HR.out.symm, (Below.refl _ _).alloc (Nat.le_refl _) _⟩
          | true =>
            cases hb2 : decide ((k : Int) = (ps.length : Int) - 1) with
            | true =>
              have hq := beq_of_dec hb2
              have h2 : k + 1 = ps.length := by have := of_decide_eq_true hb2; omega
              have HP2 : Hid (∀ j, j < k + 1 → partB false ps.length j (ps.getD j ByteArray.empty) = true) := fun j hj => by
                by_cases hjk : j < k
                · exact HP.out j hjk
                · rw [show j = k by omega]
                  exact HV.out.trans (by rw [decide_eq_true h2]; rfl)
              clear hb2 h2 HV HP
              go_wp2_with fail
              go_round
              case rel => exact ⟨k + 1, by omega, by go_num, HP2⟩
              case measure => simp [intOf]; omega
            | false =>
              have hq := beq_of_dec hb2
              have HS : Hid ((true && decide (k + 1 = ps.length) && !false) = false) := by
                show _ = _
                have := of_decide_eq_false hb2
                rw [decide_eq_false (by omega)]
                rfl
              clear hb2
              cases hL : L with
              | true =>
                have HP2 : Hid (∀ j, j < k + 1 → partB false ps.length j (ps.getD j ByteArray.empty) = true) := fun j hj => by
                  by_cases hjk : j < k
                  · exact HP.out j hjk
                  · rw [show j = k by omega]
                    exact HV.out.trans (by rw [hL, Bool.or_true])
                rw [hL] at CL
                clear HV hL HP
                go_wp2_with (go_at_call 48; refine (CL.out _).mono ?_; rintro e w' ⟨rfl, rfl⟩)
                go_round
                case rel => exact ⟨k + 1, by omega, by go_num, HP2⟩
                case measure => simp [intOf]; omega
              | false =>
                have HR : Hid (ruleB ⟨ps, false⟩ = false) := ruleB_part hlt (HV.out.trans (by rw [hL, Bool.or_false]; exact HS.out))
                rw [hL] at CL
                clear HV hL HP
                go_wp2_with (go_at_call 48; refine (CL.out _).mono ?_; rintro e w' ⟨rfl, rfl⟩)
                go_ret
                exact ⟨ret_bool HR.out.symm, (Below.refl _ _).alloc (Nat.le_refl _) _⟩
        · have hki : ¬ (k : Int) < ps.length := by omega
          have HR : Hid (ruleB ⟨ps, false⟩ = true) := ruleB_of (by omega) (fun h => HX.out (by first | trivial | cases h)) (fun i hi => HP.out i (by omega))
          clear HP
          go_wp2_with fail
          go_ret
          exact ⟨ret_bool HR.out.symm, (Below.refl _ _).alloc (Nat.le_refl _) _⟩
  · have HR : Hid (ruleB ⟨ps, ex⟩ = false) := by
      show _ = _
      unfold ruleB
      rw [decide_eq_false (show ¬ (1 ≤ ps.length ∧ ps.length ≤ 8) by omega)]
      rfl
    have CI : Hid (∀ W, Calls Tryd.prog 47 #[.int .i64 (ps.length : Int), .int .i64 1, .int .i64 8] W fun e w' => e = .returned (.bool false) ∧ W = w') := fun W => by
      have := specL1In ps.length 1 8 W
      rwa [decide_eq_false h18] at this
    obtain ⟨ao, cap, rfl⟩ := h.slice
    clear h h18
    go_enter Tryd.func23, Tryd.ntmps23
    go_wp2_with (go_at_call 47; refine (CI.out _).mono ?_; rintro e w' ⟨rfl, rfl⟩)
    go_ret
    exact ⟨ret_bool HR.out.symm, (Below.refl _ _).alloc (Nat.le_refl _) _⟩
end Go.Proofs.YtijliddchoehhaaDoor
