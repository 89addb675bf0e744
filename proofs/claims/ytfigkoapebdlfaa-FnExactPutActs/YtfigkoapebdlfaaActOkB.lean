/- Contracts of spec.ActOk, impl.ActOk. -/
import Derived.Test.YtfigkoapebdlfaaRows
import Derived.Test.YtfigkoapebdlfaaActEq
import Derived.Test.YtfigkoapebdlfaaHexWalk
namespace Go.Proofs.Ytfigkoapebdlfaa
open Go.RowKit
set_option linter.unusedVariables false

theorem emp_size (b : ByteArray) : b.toList.isEmpty = decide (b.size = 0) := by
  rw [ByteArray.toList_eq]
  have : b.data.toList.length = b.size := rfl
  cases h : b.data.toList with
  | nil =>
    have h0 : b.size = 0 := by rw [← this, h]; rfl
    simp [h0]
  | cons x l =>
    have h0 : b.size = l.length + 1 := by rw [← this, h]; rfl
    rw [decide_eq_false (by omega)]
    rfl

set_option maxRecDepth 100000 in
set_option maxHeartbeats 8000000 in
theorem specActOk (x : AV) (w : World) :
    Calls Try.prog 9 #[.agg #[.int .i64 x.k, .string x.t, .string x.b, .int .i64 x.n]] w fun e w' => e = .returned (.bool (actB x)) ∧ Below w.heap.size w w' := by
  obtain ⟨k, t, b, n⟩ := x
  dsimp only
  have hbO : Below w.heap.size w (w.alloc (.cells #[.int .i64 k, .string t, .string b, .int .i64 n] 26)) := (Below.refl _ _).alloc (Nat.le_refl _) _
  have CK : Hid (∀ W, Calls Try.prog 30 #[.int .i64 (t.size : Int), .int .i64 1, .int .i64 2000] W fun e w' => e = .returned (.bool (decide ((1 : Int) ≤ (t.size : Int) ∧ (t.size : Int) ≤ 2000))) ∧ W = w') := fun W => specL1In _ _ _ W
  have CN : Hid (∀ a c W, Calls Try.prog 30 #[.int .i64 n, .int .i64 a, .int .i64 c] W fun e w' => e = .returned (.bool (decide (a ≤ n ∧ n ≤ c))) ∧ W = w') := fun a c W => specL1In _ _ _ W
  have HE1 : Hid (b.toList.isEmpty = decide (b.size = 0)) := emp_size b
  have HE2 : Hid (t.toList.isEmpty = decide (t.size = 0)) := emp_size t
  obtain ⟨R, HR⟩ : ∃ R, Hid (R = actB ⟨k, t, b, n⟩) := ⟨_, rfl⟩
  have HRk : Hid (R = if k = 1 then decide (0 < t.size ∧ t.size ≤ 2000 ∧ b.size = 0 ∧ 0 ≤ n ∧ n ≤ 1000)
    else if k = 2 then decide (0 < t.size ∧ t.size ≤ 2000 ∧ b.size ≤ 2000 ∧ 1 ≤ n ∧ n ≤ 1000000)
    else if k = 4 ∨ k = 5 then decide (0 < t.size ∧ t.size ≤ 2000 ∧ b.size = 0 ∧ n = 0)
    else if k = 6 then decide (t.size = 0 ∧ b.size = 0 ∧ 1 ≤ n ∧ n ≤ 10000)
    else if k = 3 ∨ k = 7 then decide (t.size = 0 ∧ b.size = 0 ∧ n = 0)
    else false) := HR.out
  rw [← HR.out]
  clear HR
  obtain ⟨K, HK⟩ : ∃ K : Bool, Hid (K = decide ((1 : Int) ≤ (t.size : Int) ∧ (t.size : Int) ≤ 2000)) := ⟨_, rfl⟩
  rw [← HK.out] at CK
  obtain ⟨E1, hE1⟩ : ∃ E : Bool, b.toList.isEmpty = E := ⟨_, rfl⟩
  obtain ⟨E2, hE2⟩ : ∃ E : Bool, t.toList.isEmpty = E := ⟨_, rfl⟩
  rw [hE1] at HE1
  rw [hE2] at HE2
  by_cases h1 : k = 1
  · subst h1
    obtain ⟨N, HN⟩ : ∃ N : Bool, Hid (N = decide ((0 : Int) ≤ n ∧ n ≤ 1000)) := ⟨_, rfl⟩
    have CN2 := CN.out 0 1000
    rw [← HN.out] at CN2
    have CN3 : Hid (∀ W, _) := CN2
    have HR : Hid ((K && (E1 && N)) = R) := by
      show _ = _
      rw [HRk.out, HK.out, HE1.out, HN.out, if_pos rfl, ← Bool.decide_and, ← Bool.decide_and]
      exact decide_eq_decide.2 (by omega)
    clear HRk HK HE1 HE2 HN CN CN2
    cases K with
    | false =>
      go_enter Try.func9, Try.ntmps9
      go_wp2_with fail
      refine (CK.out _).mono ?_
      rintro e w1 ⟨rfl, rfl⟩
      go_wp2_with fail
      go_ret
      exact ⟨ret_bool HR.out, by first | exact hbO | exact Below.refl _ _⟩
    | true =>
      cases E1 with
      | false =>
        go_enter Try.func9, Try.ntmps9
        go_wp2_with fail
        refine (CK.out _).mono ?_
        rintro e w1 ⟨rfl, rfl⟩
        go_wp2_with fail
        go_ret
        exact ⟨ret_bool HR.out, by first | exact hbO | exact Below.refl _ _⟩
      | true =>
        go_enter Try.func9, Try.ntmps9
        go_wp2_with fail
        refine (CK.out _).mono ?_
        rintro e w1 ⟨rfl, rfl⟩
        go_wp2_with fail
        refine (CN3.out _).mono ?_
        rintro e w2 ⟨rfl, rfl⟩
        go_wp2_with fail
        go_ret
        exact ⟨ret_bool HR.out, by first | exact hbO | exact Below.refl _ _⟩
  by_cases h2 : k = 2
  · subst h2
    obtain ⟨N, HN⟩ : ∃ N : Bool, Hid (N = decide ((1 : Int) ≤ n ∧ n ≤ 1000000)) := ⟨_, rfl⟩
    have CN2 := CN.out 1 1000000
    rw [← HN.out] at CN2
    have CN3 : Hid (∀ W, _) := CN2
    obtain ⟨B, hB⟩ : ∃ B : Bool, decide ((b.size : Int) ≤ 2000) = B := ⟨_, rfl⟩
    have HR : Hid ((K && (B && N)) = R) := by
      show _ = _
      rw [HRk.out, HK.out, ← hB, HN.out, if_neg (by decide), if_pos rfl, ← Bool.decide_and, ← Bool.decide_and]
      exact decide_eq_decide.2 (by omega)
    clear HRk HK HE1 HE2 HN CN CN2
    cases K with
    | false =>
      go_enter Try.func9, Try.ntmps9
      go_wp2_with fail
      refine (CK.out _).mono ?_
      rintro e w1 ⟨rfl, rfl⟩
      go_wp2_with fail
      go_ret
      exact ⟨ret_bool HR.out, by first | exact hbO | exact Below.refl _ _⟩
    | true =>
      cases B with
      | false =>
        go_enter Try.func9, Try.ntmps9
        go_wp2_with fail
        refine (CK.out _).mono ?_
        rintro e w1 ⟨rfl, rfl⟩
        go_wp2_with fail
        go_ret
        exact ⟨ret_bool HR.out, by first | exact hbO | exact Below.refl _ _⟩
      | true =>
        go_enter Try.func9, Try.ntmps9
        go_wp2_with fail
        refine (CK.out _).mono ?_
        rintro e w1 ⟨rfl, rfl⟩
        go_wp2_with fail
        refine (CN3.out _).mono ?_
        rintro e w2 ⟨rfl, rfl⟩
        go_wp2_with fail
        go_ret
        exact ⟨ret_bool HR.out, by first | exact hbO | exact Below.refl _ _⟩
  by_cases h45 : k = 4 ∨ k = 5
  · obtain ⟨N, hN⟩ : ∃ N : Bool, (n == 0) = N := ⟨_, rfl⟩
    have HR : Hid ((K && (E1 && N)) = R) := by
      show _ = _
      rw [HRk.out, HK.out, HE1.out, ← hN, if_neg h1, if_neg h2, if_pos h45, show (n == 0) = decide (n = 0) from rfl, ← Bool.decide_and, ← Bool.decide_and]
      exact decide_eq_decide.2 (by omega)
    clear HRk HK HE1 HE2 CN h1 h2
    rcases h45 with rfl | rfl
    all_goals
      cases K with
      | false =>
        go_enter Try.func9, Try.ntmps9
        go_wp2_with fail
        refine (CK.out _).mono ?_
        rintro e w1 ⟨rfl, rfl⟩
        go_wp2_with fail
        go_ret
        exact ⟨ret_bool HR.out, by first | exact hbO | exact Below.refl _ _⟩
      | true =>
        cases E1 with
        | false =>
          go_enter Try.func9, Try.ntmps9
          go_wp2_with fail
          refine (CK.out _).mono ?_
          rintro e w1 ⟨rfl, rfl⟩
          go_wp2_with fail
          go_ret
          exact ⟨ret_bool HR.out, by first | exact hbO | exact Below.refl _ _⟩
        | true =>
          go_enter Try.func9, Try.ntmps9
          go_wp2_with fail
          refine (CK.out _).mono ?_
          rintro e w1 ⟨rfl, rfl⟩
          go_wp2_with fail
          go_ret
          exact ⟨ret_bool HR.out, by first | exact hbO | exact Below.refl _ _⟩
  by_cases h6 : k = 6
  · subst h6
    obtain ⟨N, HN⟩ : ∃ N : Bool, Hid (N = decide ((1 : Int) ≤ n ∧ n ≤ 10000)) := ⟨_, rfl⟩
    have CN2 := CN.out 1 10000
    rw [← HN.out] at CN2
    have CN3 : Hid (∀ W, _) := CN2
    have HR : Hid ((E2 && (E1 && N)) = R) := by
      show _ = _
      rw [HRk.out, HE2.out, HE1.out, HN.out, if_neg h1, if_neg h2, if_neg h45, if_pos rfl, ← Bool.decide_and, ← Bool.decide_and]
    clear HRk HK HE1 HE2 HN CN CN2 h1 h2 h45
    cases E2 with
    | false =>
      go_enter Try.func9, Try.ntmps9
      go_wp2_with fail
      refine (CK.out _).mono ?_
      rintro e w1 ⟨rfl, rfl⟩
      go_wp2_with fail
      go_ret
      exact ⟨ret_bool HR.out, by first | exact hbO | exact Below.refl _ _⟩
    | true =>
      cases E1 with
      | false =>
        go_enter Try.func9, Try.ntmps9
        go_wp2_with fail
        refine (CK.out _).mono ?_
        rintro e w1 ⟨rfl, rfl⟩
        go_wp2_with fail
        go_ret
        exact ⟨ret_bool HR.out, by first | exact hbO | exact Below.refl _ _⟩
      | true =>
        go_enter Try.func9, Try.ntmps9
        go_wp2_with fail
        refine (CK.out _).mono ?_
        rintro e w1 ⟨rfl, rfl⟩
        go_wp2_with fail
        refine (CN3.out _).mono ?_
        rintro e w2 ⟨rfl, rfl⟩
        go_wp2_with fail
        go_ret
        exact ⟨ret_bool HR.out, by first | exact hbO | exact Below.refl _ _⟩
  by_cases h37 : k = 3 ∨ k = 7
  · obtain ⟨N, hN⟩ : ∃ N : Bool, (n == 0) = N := ⟨_, rfl⟩
    have HR : Hid ((E2 && (E1 && N)) = R) := by
      show _ = _
      rw [HRk.out, HE2.out, HE1.out, ← hN, if_neg h1, if_neg h2, if_neg h45, if_neg h6, if_pos h37, show (n == 0) = decide (n = 0) from rfl, ← Bool.decide_and, ← Bool.decide_and]
    clear HRk HK HE1 HE2 CN h1 h2 h45 h6
    rcases h37 with rfl | rfl
    all_goals
      cases E2 with
      | false =>
        go_enter Try.func9, Try.ntmps9
        go_wp2_with fail
        refine (CK.out _).mono ?_
        rintro e w1 ⟨rfl, rfl⟩
        go_wp2_with fail
        go_ret
        exact ⟨ret_bool HR.out, by first | exact hbO | exact Below.refl _ _⟩
      | true =>
        cases E1 with
        | false =>
          go_enter Try.func9, Try.ntmps9
          go_wp2_with fail
          refine (CK.out _).mono ?_
          rintro e w1 ⟨rfl, rfl⟩
          go_wp2_with fail
          go_ret
          exact ⟨ret_bool HR.out, by first | exact hbO | exact Below.refl _ _⟩
        | true =>
          go_enter Try.func9, Try.ntmps9
          go_wp2_with fail
          refine (CK.out _).mono ?_
          rintro e w1 ⟨rfl, rfl⟩
          go_wp2_with fail
          go_ret
          exact ⟨ret_bool HR.out, by first | exact hbO | exact Below.refl _ _⟩
  have HR : Hid (false = R) := by
    show _ = _
    rw [HRk.out, if_neg h1, if_neg h2, if_neg h45, if_neg h6, if_neg h37]
  have b1 : ¬ k = 4 := fun e => h45 (.inl e)
  have b2 : ¬ k = 5 := fun e => h45 (.inr e)
  have b3 : ¬ k = 3 := fun e => h37 (.inl e)
  have b4 : ¬ k = 7 := fun e => h37 (.inr e)
  clear HRk HK HE1 HE2 CN h45 h37
  go_enter Try.func9, Try.ntmps9
  go_wp2_with fail
  refine (CK.out _).mono ?_
  rintro e w1 ⟨rfl, rfl⟩
  go_wp2_with fail
  go_ret
  exact ⟨ret_bool HR.out, by first | exact hbO | exact Below.refl _ _⟩
set_option maxHeartbeats 2000000 in
theorem implTextOk (s : ByteArray) (w : World) :
    Calls Try.prog 31 #[.string s] w fun e w' => e = .returned (.bool (decide (0 < s.size ∧ s.size ≤ 2000))) ∧ w = w' := by
  have HE : Hid (s.toList.isEmpty = decide (s.size = 0)) := emp_size s
  obtain ⟨E, hE⟩ : ∃ E : Bool, s.toList.isEmpty = E := ⟨_, rfl⟩
  obtain ⟨B, hB⟩ : ∃ B : Bool, decide ((s.size : Int) ≤ 2000) = B := ⟨_, rfl⟩
  rw [hE] at HE
  have HR : Hid ((!E && B) = decide (0 < s.size ∧ s.size ≤ 2000)) := by
    show _ = _
    rw [HE.out, ← hB, ← decide_not, ← Bool.decide_and]
    exact decide_eq_decide.2 (by omega)
  generalize decide (0 < s.size ∧ s.size ≤ 2000) = R at *
  clear HE
  cases E with
  | true =>
    go_enter Try.func31, Try.ntmps31
    go_wp2_with fail
    go_ret
    exact ⟨ret_bool HR.out, rfl⟩
  | false =>
    go_enter Try.func31, Try.ntmps31
    go_wp2_with fail
    go_ret
    exact ⟨ret_bool HR.out, rfl⟩
theorem eq_emp (b : ByteArray) : (b.toList == (⟨#[]⟩ : ByteArray).toList) = decide (b.size = 0) := by
  rw [← emp_size, show (⟨#[]⟩ : ByteArray).toList = [] from by rw [ByteArray.toList_eq]]
  cases b.toList <;> rfl

set_option maxRecDepth 100000 in
set_option maxHeartbeats 8000000 in
theorem implActOk (x : AV) (w : World) :
    Calls Try.prog 11 #[.agg #[.int .i64 x.k, .string x.t, .string x.b, .int .i64 x.n]] w fun e w' => e = .returned (.bool (actB x)) ∧ Below w.heap.size w w' := by
  obtain ⟨k, t, b, n⟩ := x
  dsimp only
  have hbO : Below w.heap.size w (w.alloc (.cells #[.int .i64 k, .string t, .string b, .int .i64 n] 26)) := (Below.refl _ _).alloc (Nat.le_refl _) _
  have CK : Hid (∀ W, Calls Try.prog 31 #[.string t] W fun e w' => e = .returned (.bool (decide (0 < t.size ∧ t.size ≤ 2000))) ∧ W = w') := fun W => implTextOk _ W
  have HE1 : Hid ((b.toList == (⟨#[]⟩ : ByteArray).toList) = decide (b.size = 0)) := eq_emp b
  have HE2 : Hid ((t.toList == (⟨#[]⟩ : ByteArray).toList) = decide (t.size = 0)) := eq_emp t
  obtain ⟨R, HR⟩ : ∃ R, Hid (R = actB ⟨k, t, b, n⟩) := ⟨_, rfl⟩
  have HRk : Hid (R = if k = 1 then decide (0 < t.size ∧ t.size ≤ 2000 ∧ b.size = 0 ∧ 0 ≤ n ∧ n ≤ 1000)
    else if k = 2 then decide (0 < t.size ∧ t.size ≤ 2000 ∧ b.size ≤ 2000 ∧ 1 ≤ n ∧ n ≤ 1000000)
    else if k = 4 ∨ k = 5 then decide (0 < t.size ∧ t.size ≤ 2000 ∧ b.size = 0 ∧ n = 0)
    else if k = 6 then decide (t.size = 0 ∧ b.size = 0 ∧ 1 ≤ n ∧ n ≤ 10000)
    else if k = 3 ∨ k = 7 then decide (t.size = 0 ∧ b.size = 0 ∧ n = 0)
    else false) := HR.out
  rw [← HR.out]
  clear HR
  obtain ⟨K, HK⟩ : ∃ K : Bool, Hid (K = decide (0 < t.size ∧ t.size ≤ 2000)) := ⟨_, rfl⟩
  rw [← HK.out] at CK
  by_cases h1 : k = 1
  · subst h1
    have heq : ∀ W, _ := eqActV 1 t b n 1 t ⟨#[]⟩ n
    obtain ⟨E, HE⟩ : ∃ E, Hid (E = eqAB 1 t b n 1 t ⟨#[]⟩ n) := ⟨_, rfl⟩
    rw [← HE.out] at heq
    obtain ⟨N1, hN1⟩ : ∃ B : Bool, decide ((0 : Int) ≤ n) = B := ⟨_, rfl⟩
    obtain ⟨N2, hN2⟩ : ∃ B : Bool, decide (n ≤ 1000) = B := ⟨_, rfl⟩
    have HR : Hid ((E && (K && (N1 && N2))) = R) := by
      show _ = _
      have : E = decide (b.size = 0) := by rw [HE.out, ← HE1.out]; simp [eqAB]
      rw [HRk.out, HK.out, this, ← hN1, ← hN2, if_pos rfl, ← Bool.decide_and, ← Bool.decide_and, ← Bool.decide_and]
      exact decide_eq_decide.2 (by omega)
    clear HRk HK HE1 HE2 HE
    cases E with
    | false =>
      go_enter Try.func11, Try.ntmps11
      go_wp2_with fail
      go_ret
      exact ⟨ret_bool HR.out, by first | exact hbO | exact Below.refl _ _⟩
    | true =>
      cases K with
      | false =>
        go_enter Try.func11, Try.ntmps11
        go_wp2_with fail
        refine (CK.out _).mono ?_
        rintro e w1 ⟨rfl, rfl⟩
        go_wp2_with fail
        go_ret
        exact ⟨ret_bool HR.out, by first | exact hbO | exact Below.refl _ _⟩
      | true =>
        cases N1 with
        | false =>
          go_enter Try.func11, Try.ntmps11
          go_wp2_with fail
          refine (CK.out _).mono ?_
          rintro e w1 ⟨rfl, rfl⟩
          go_wp2_with fail
          go_ret
          exact ⟨ret_bool HR.out, by first | exact hbO | exact Below.refl _ _⟩
        | true =>
          go_enter Try.func11, Try.ntmps11
          go_wp2_with fail
          refine (CK.out _).mono ?_
          rintro e w1 ⟨rfl, rfl⟩
          go_wp2_with fail
          go_ret
          exact ⟨ret_bool HR.out, by first | exact hbO | exact Below.refl _ _⟩
  by_cases h2 : k = 2
  · subst h2
    obtain ⟨B, hB⟩ : ∃ B : Bool, decide ((b.size : Int) ≤ 2000) = B := ⟨_, rfl⟩
    obtain ⟨N1, hN1⟩ : ∃ B : Bool, decide ((0 : Int) < n) = B := ⟨_, rfl⟩
    obtain ⟨N2, hN2⟩ : ∃ B : Bool, decide (n ≤ 1000000) = B := ⟨_, rfl⟩
    have HR : Hid ((K && (B && (N1 && N2))) = R) := by
      show _ = _
      rw [HRk.out, HK.out, ← hB, ← hN1, ← hN2, if_neg (by decide), if_pos rfl, ← Bool.decide_and, ← Bool.decide_and, ← Bool.decide_and]
      exact decide_eq_decide.2 (by omega)
    clear HRk HK HE1 HE2
    cases K with
    | false =>
      go_enter Try.func11, Try.ntmps11
      go_wp2_with fail
      refine (CK.out _).mono ?_
      rintro e w1 ⟨rfl, rfl⟩
      go_wp2_with fail
      go_ret
      exact ⟨ret_bool HR.out, by first | exact hbO | exact Below.refl _ _⟩
    | true =>
      cases B with
      | false =>
        go_enter Try.func11, Try.ntmps11
        go_wp2_with fail
        refine (CK.out _).mono ?_
        rintro e w1 ⟨rfl, rfl⟩
        go_wp2_with fail
        go_ret
        exact ⟨ret_bool HR.out, by first | exact hbO | exact Below.refl _ _⟩
      | true =>
        cases N1 with
        | false =>
          go_enter Try.func11, Try.ntmps11
          go_wp2_with fail
          refine (CK.out _).mono ?_
          rintro e w1 ⟨rfl, rfl⟩
          go_wp2_with fail
          go_ret
          exact ⟨ret_bool HR.out, by first | exact hbO | exact Below.refl _ _⟩
        | true =>
          go_enter Try.func11, Try.ntmps11
          go_wp2_with fail
          refine (CK.out _).mono ?_
          rintro e w1 ⟨rfl, rfl⟩
          go_wp2_with fail
          go_ret
          exact ⟨ret_bool HR.out, by first | exact hbO | exact Below.refl _ _⟩
  by_cases h45 : k = 4 ∨ k = 5
  · have heq : ∀ W, _ := eqActV k t b n k t ⟨#[]⟩ 0
    obtain ⟨E, HE⟩ : ∃ E, Hid (E = eqAB k t b n k t ⟨#[]⟩ 0) := ⟨_, rfl⟩
    rw [← HE.out] at heq
    have HR : Hid ((E && K) = R) := by
      show _ = _
      have : E = (decide (b.size = 0) && decide (n = 0)) := by rw [HE.out, ← HE1.out]; unfold eqAB; simp; rfl
      rw [HRk.out, HK.out, this, if_neg h1, if_neg h2, if_pos h45, ← Bool.decide_and, ← Bool.decide_and]
      exact decide_eq_decide.2 (by omega)
    clear HRk HK HE1 HE2 HE h1 h2
    rcases h45 with rfl | rfl
    all_goals
      cases E with
      | false =>
        go_enter Try.func11, Try.ntmps11
        go_wp2_with fail
        go_ret
        exact ⟨ret_bool HR.out, by first | exact hbO | exact Below.refl _ _⟩
      | true =>
        go_enter Try.func11, Try.ntmps11
        go_wp2_with fail
        refine (CK.out _).mono ?_
        rintro e w1 ⟨rfl, rfl⟩
        go_wp2_with fail
        go_ret
        exact ⟨ret_bool HR.out, by first | exact hbO | exact Below.refl _ _⟩
  by_cases h6 : k = 6
  · subst h6
    have heq : ∀ W, _ := eqActV 6 t b n 6 ⟨#[]⟩ ⟨#[]⟩ n
    obtain ⟨E, HE⟩ : ∃ E, Hid (E = eqAB 6 t b n 6 ⟨#[]⟩ ⟨#[]⟩ n) := ⟨_, rfl⟩
    rw [← HE.out] at heq
    obtain ⟨N1, hN1⟩ : ∃ B : Bool, decide ((0 : Int) < n) = B := ⟨_, rfl⟩
    obtain ⟨N2, hN2⟩ : ∃ B : Bool, decide (n ≤ 10000) = B := ⟨_, rfl⟩
    have HR : Hid ((E && (N1 && N2)) = R) := by
      show _ = _
      have : E = (decide (t.size = 0) && decide (b.size = 0)) := by rw [HE.out, ← HE1.out, ← HE2.out]; unfold eqAB; simp <;> rfl
      rw [HRk.out, this, ← hN1, ← hN2, if_neg h1, if_neg h2, if_neg h45, if_pos rfl, ← Bool.decide_and, ← Bool.decide_and, ← Bool.decide_and]
      exact decide_eq_decide.2 (by omega)
    clear HRk HK HE1 HE2 HE h1 h2 h45
    cases E with
    | false =>
      go_enter Try.func11, Try.ntmps11
      go_wp2_with fail
      go_ret
      exact ⟨ret_bool HR.out, by first | exact hbO | exact Below.refl _ _⟩
    | true =>
      cases N1 with
      | false =>
        go_enter Try.func11, Try.ntmps11
        go_wp2_with fail
        go_ret
        exact ⟨ret_bool HR.out, by first | exact hbO | exact Below.refl _ _⟩
      | true =>
        go_enter Try.func11, Try.ntmps11
        go_wp2_with fail
        go_ret
        exact ⟨ret_bool HR.out, by first | exact hbO | exact Below.refl _ _⟩
  by_cases h37 : k = 3 ∨ k = 7
  · have heq : ∀ W, _ := eqActV k t b n k ⟨#[]⟩ ⟨#[]⟩ 0
    obtain ⟨E, HE⟩ : ∃ E, Hid (E = eqAB k t b n k ⟨#[]⟩ ⟨#[]⟩ 0) := ⟨_, rfl⟩
    rw [← HE.out] at heq
    have HR : Hid (E = R) := by
      show _ = _
      have : E = (decide (t.size = 0) && (decide (b.size = 0) && decide (n = 0))) := by rw [HE.out, ← HE1.out, ← HE2.out]; unfold eqAB; simp <;> rfl
      rw [HRk.out, this, if_neg h1, if_neg h2, if_neg h45, if_neg h6, if_pos h37, ← Bool.decide_and, ← Bool.decide_and]
    clear HRk HK HE1 HE2 HE h1 h2 h45 h6
    rcases h37 with rfl | rfl
    all_goals
      go_enter Try.func11, Try.ntmps11
      go_wp2_with fail
      go_ret
      exact ⟨ret_bool HR.out, by first | exact hbO | exact Below.refl _ _⟩
  have HR : Hid (false = R) := by
    show _ = _
    rw [HRk.out, if_neg h1, if_neg h2, if_neg h45, if_neg h6, if_neg h37]
  have b1 : ¬ k = 4 := fun e => h45 (.inl e)
  have b2 : ¬ k = 5 := fun e => h45 (.inr e)
  have b3 : ¬ k = 3 := fun e => h37 (.inl e)
  have b4 : ¬ k = 7 := fun e => h37 (.inr e)
  clear HRk HK HE1 HE2 h45 h37
  go_enter Try.func11, Try.ntmps11
  go_wp2_with fail
  go_ret
  exact ⟨ret_bool HR.out, by first | exact hbO | exact Below.refl _ _⟩
end Go.Proofs.Ytfigkoapebdlfaa
