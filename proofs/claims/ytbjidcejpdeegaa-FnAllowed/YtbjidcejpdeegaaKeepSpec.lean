/- Contracts of what is kept, as the specification tells it. -/
import Derived.Test.YtbjidcejpdeegaaRows
import Derived.Test.YtbjidcejpdeegaaKeepWalk
namespace Go.Proofs.Ytbjidcejpdeegaa
open Go.RowKit

def freeZ (c : Int) : Bool := decide (0 ≤ c) && freeN c.toNat

theorem plain_eq (c : Int) : amongL [45, 46, 95, 126] c = (decide (0 ≤ c) && plainT c.toNat) := by
  rw [Bool.eq_iff_iff]
  simp [amongL, plainT]
  omega
theorem mark_eq (c : Int) : amongL [33, 36, 38, 39, 40, 41, 42, 43, 44, 59, 61, 58, 64] c = (decide (0 ≤ c) && markN c.toNat) := by
  rw [Bool.eq_iff_iff]
  simp [amongL, markN]
  omega
theorem free_eq (c : Int) : freeZ c = (letterZ c || decide (48 ≤ c ∧ c ≤ 57) || amongL [45, 46, 95, 126] c) := by
  rw [plain_eq, Bool.eq_iff_iff]
  simp [freeZ, letterZ, freeN, letterN, digitN, plainT]
  omega

set_option maxHeartbeats 1000000 in
theorem specFree (c : Int) (w : World) : Calls Try.prog 54 #[.int .i64 c] w fun e w' => e = .returned (.bool (freeZ c)) ∧ w = w' := by
  have HV : Hid (freeZ c = (letterZ c || decide (48 ≤ c ∧ c ≤ 57) || amongL [45, 46, 95, 126] c)) := free_eq c
  have cl := fun W => specLetter c W
  have ca := fun W => specAmong ⟨#[45, 46, 95, 126]⟩ c W (by decide)
  have CL : Hid (∀ W, Calls Try.prog 58 #[.int .i64 c] W fun e w' => e = .returned (.bool (letterZ c)) ∧ W = w') := cl
  have CA : Hid (∀ W, Calls Try.prog 60 #[.string ⟨#[45, 46, 95, 126]⟩, .int .i64 c] W fun e w' => e = .returned (.bool (amongL [45, 46, 95, 126] c)) ∧ W = w') := ca
  clear cl ca
  generalize letterZ c = b1 at HV CL
  generalize amongL [45, 46, 95, 126] c = b3 at HV CA
  cases b1 with
  | true =>
    go_enter Try.func54, Try.ntmps54
    go_wp2_with fail
    refine (CL.out _).mono ?_
    rintro e w' ⟨rfl, rfl⟩
    go_wp2
    go_ret
    exact ⟨ret_bool (by rw [HV.out]; rfl), rfl⟩
  | false =>
    by_cases h2 : 48 ≤ c ∧ c ≤ 57
    · rw [decide_eq_true h2] at HV
      have H2 : Hid (48 ≤ c ∧ c ≤ 57) := h2
      clear h2
      go_enter Try.func54, Try.ntmps54
      go_wp2_with fail
      refine (CL.out _).mono ?_
      rintro e w' ⟨rfl, rfl⟩
      go_wp2_with fail
      refine (specL1In_yes _ _ _ _ H2.out.1 H2.out.2).mono ?_
      rintro e w' ⟨rfl, rfl⟩
      go_wp2
      go_ret
      exact ⟨ret_bool (by rw [HV.out]; rfl), rfl⟩
    · rw [decide_eq_false h2] at HV
      have H2 : Hid (c < 48 ∨ 57 < c) := by show _ ∨ _; omega
      clear h2
      go_enter Try.func54, Try.ntmps54
      go_wp2_with fail
      refine (CL.out _).mono ?_
      rintro e w' ⟨rfl, rfl⟩
      go_wp2_with fail
      refine (specL1In_no _ _ _ _ H2.out).mono ?_
      rintro e w' ⟨rfl, rfl⟩
      go_wp2_with fail
      refine (CA.out _).mono ?_
      rintro e w' ⟨rfl, rfl⟩
      go_wp2
      go_ret
      exact ⟨ret_bool (by rw [HV.out]; rfl), rfl⟩

theorem keepZ_eq {set : Int} (h : 1 ≤ set ∧ set ≤ 3) (c : Int) : keepZ set c = (freeZ c || amongL [33, 36, 38, 39, 40, 41, 42, 43, 44, 59, 61, 58, 64] c || (decide (c = 47) && decide (set ≠ 3)) || (decide (c = 63) && decide (set = 2))) := by
  rw [mark_eq]
  unfold keepZ keepN freeZ
  rw [decide_eq_true h]
  by_cases h0 : 0 ≤ c
  · have e1 : decide (c.toNat = 47) = decide (c = 47) := decide_eq_decide.2 (by omega)
    have e2 : decide (c.toNat = 63) = decide (c = 63) := decide_eq_decide.2 (by omega)
    rw [e1, e2, decide_eq_true h0]
    rfl
  · have e1 : decide (c = 47) = false := decide_eq_false (by omega)
    have e2 : decide (c = 63) = false := decide_eq_false (by omega)
    rw [e1, e2, decide_eq_false h0]
    rfl

set_option maxHeartbeats 2000000 in
theorem specKeeps (set c : Int) (w : World) :
    Calls Try.prog 56 #[.int .i64 set, .int .i64 c] w fun e w' => e = .returned (.bool (keepZ set c)) ∧ w = w' := by
  by_cases h : 1 ≤ set ∧ set ≤ 3
  · have HV : Hid (keepZ set c = _) := keepZ_eq h c
    have H1 : Hid (1 ≤ set ∧ set ≤ 3) := h
    clear h
    have cl := fun W => specFree c W
    have ca := fun W => specAmong ⟨#[33, 36, 38, 39, 40, 41, 42, 43, 44, 59, 61, 58, 64]⟩ c W (by decide)
    have CL : Hid (∀ W, Calls Try.prog 54 #[.int .i64 c] W fun e w' => e = .returned (.bool (freeZ c)) ∧ W = w') := cl
    have CA : Hid (∀ W, Calls Try.prog 60 #[.string ⟨#[33, 36, 38, 39, 40, 41, 42, 43, 44, 59, 61, 58, 64]⟩, .int .i64 c] W fun e w' => e = .returned (.bool (amongL [33, 36, 38, 39, 40, 41, 42, 43, 44, 59, 61, 58, 64] c)) ∧ W = w') := ca
    clear cl ca
    generalize freeZ c = b1 at HV CL
    generalize amongL [33, 36, 38, 39, 40, 41, 42, 43, 44, 59, 61, 58, 64] c = b2 at HV CA
    cases b1 with
    | true =>
      go_enter Try.func56, Try.ntmps56
      go_wp2_with fail
      refine (specL1In_yes _ _ _ _ H1.out.1 H1.out.2).mono ?_
      rintro e w' ⟨rfl, rfl⟩
      go_wp2_with fail
      refine (CL.out _).mono ?_
      rintro e w' ⟨rfl, rfl⟩
      go_wp2
      go_ret
      exact ⟨ret_bool (by rw [HV.out]; rfl), rfl⟩
    | false =>
      cases b2 with
      | true =>
        go_enter Try.func56, Try.ntmps56
        go_wp2_with fail
        refine (specL1In_yes _ _ _ _ H1.out.1 H1.out.2).mono ?_
        rintro e w' ⟨rfl, rfl⟩
        go_wp2_with fail
        refine (CL.out _).mono ?_
        rintro e w' ⟨rfl, rfl⟩
        go_wp2_with fail
        refine (CA.out _).mono ?_
        rintro e w' ⟨rfl, rfl⟩
        go_wp2
        go_ret
        exact ⟨ret_bool (by rw [HV.out]; rfl), rfl⟩
      | false =>
        by_cases hs : c = 47
        · subst hs
          by_cases he : set = 3
          · subst he
            go_enter Try.func56, Try.ntmps56
            go_wp2_with fail
            refine (specL1In_yes _ _ _ _ H1.out.1 H1.out.2).mono ?_
            rintro e w' ⟨rfl, rfl⟩
            go_wp2_with fail
            refine (CL.out _).mono ?_
            rintro e w' ⟨rfl, rfl⟩
            go_wp2_with fail
            refine (CA.out _).mono ?_
            rintro e w' ⟨rfl, rfl⟩
            go_wp2
            go_ret
            exact ⟨ret_bool (by first | (rw [HV.out]; simp) | (rw [HV.out]; decide) | decide), rfl⟩
          · go_enter Try.func56, Try.ntmps56
            go_wp2_with fail
            refine (specL1In_yes _ _ _ _ H1.out.1 H1.out.2).mono ?_
            rintro e w' ⟨rfl, rfl⟩
            go_wp2_with fail
            refine (CL.out _).mono ?_
            rintro e w' ⟨rfl, rfl⟩
            go_wp2_with fail
            refine (CA.out _).mono ?_
            rintro e w' ⟨rfl, rfl⟩
            go_wp2
            go_ret
            exact ⟨ret_bool (by first | (rw [HV.out]; simp [he]) | (rw [HV.out]; decide) | decide), rfl⟩
        · by_cases hq : c = 63
          · subst hq
            by_cases he : set = 2
            · subst he
              go_enter Try.func56, Try.ntmps56
              go_wp2_with fail
              refine (specL1In_yes _ _ _ _ H1.out.1 H1.out.2).mono ?_
              rintro e w' ⟨rfl, rfl⟩
              go_wp2_with fail
              refine (CL.out _).mono ?_
              rintro e w' ⟨rfl, rfl⟩
              go_wp2_with fail
              refine (CA.out _).mono ?_
              rintro e w' ⟨rfl, rfl⟩
              go_wp2
              go_ret
              exact ⟨ret_bool (by first | (rw [HV.out]; simp) | (rw [HV.out]; decide) | decide), rfl⟩
            · go_enter Try.func56, Try.ntmps56
              go_wp2_with fail
              refine (specL1In_yes _ _ _ _ H1.out.1 H1.out.2).mono ?_
              rintro e w' ⟨rfl, rfl⟩
              go_wp2_with fail
              refine (CL.out _).mono ?_
              rintro e w' ⟨rfl, rfl⟩
              go_wp2_with fail
              refine (CA.out _).mono ?_
              rintro e w' ⟨rfl, rfl⟩
              go_wp2
              go_ret
              exact ⟨ret_bool (by first | (rw [HV.out]; simp [he]) | (rw [HV.out]; decide) | decide), rfl⟩
          · go_enter Try.func56, Try.ntmps56
            go_wp2_with fail
            refine (specL1In_yes _ _ _ _ H1.out.1 H1.out.2).mono ?_
            rintro e w' ⟨rfl, rfl⟩
            go_wp2_with fail
            refine (CL.out _).mono ?_
            rintro e w' ⟨rfl, rfl⟩
            go_wp2_with fail
            refine (CA.out _).mono ?_
            rintro e w' ⟨rfl, rfl⟩
            go_wp2
            go_ret
            exact ⟨ret_bool (by first | (rw [HV.out]; simp [hs, hq]) | (rw [HV.out]; decide) | decide), rfl⟩
  · have HV : Hid (keepZ set c = false) := keepZ_out c h
    have H1 : Hid (set < 1 ∨ 3 < set) := by show _ ∨ _; omega
    clear h
    go_enter Try.func56, Try.ntmps56
    go_wp2_with fail
    refine (specL1In_no _ _ _ _ H1.out).mono ?_
    rintro e w' ⟨rfl, rfl⟩
    go_wp2
    go_ret
    exact ⟨ret_bool (by rw [HV.out]), rfl⟩
end Go.Proofs.Ytbjidcejpdeegaa
