/- Contracts of the code's Fits: a rule held against a name part by part. -/
import Derived.Test.YtijliddchoehhaaRows
import Derived.Test.YtijliddchoehhaaRuleFits
import Derived.Test.YtijliddchoehhaaBlockAt
import Derived.Test.YtijliddchoehhaaPartsWalk
import Derived.Handy
import Derived.Deep.DeepCutAuto
namespace Go.Proofs.Ytijliddchoehhaa
open Go.RowKit
set_option linter.unusedVariables false

/-- A row without its first text. -/
theorem StrRow.tail {w : World} {g off n c : Nat} {x : ByteArray} {l : List ByteArray} (hn : n = l.length) (h : StrRow w (.slice (some ⟨g, off, none⟩) (n + 1) (n + 1 + c)) (x :: l)) : StrRow w (.slice (some ⟨g, off + 1, none⟩) n (n + c)) l := by
  subst hn
  rcases h with ⟨h, _⟩ | ⟨_, g', off', cap', h1, h2, h3⟩
  · cases h
  · injection h1 with e1 e2 e3
    injection e1 with e1
    injection e1 with e4 e5
    subst e4 e5
    by_cases h0 : l.length = 0
    · have : l = [] := List.eq_nil_of_length_eq_zero h0
      subst this
      exact .inl ⟨rfl, _, _, rfl⟩
    · refine .inr ⟨by omega, g, off + 1, c, rfl, h2, fun i hi => ?_⟩
      have := h3 (i + 1) (by simp; omega)
      rw [show off + 1 + i = off + (i + 1) by omega, this]
      rfl
/-- Two rows and a truth as results. -/
theorem held_result2 {fn : Func} {q r : Tmp} (h : fn.results = #[.cell q 59, .tmp r]) (tmps : Array Value) (W : World) (B : Nat) (a b c : Value)
    (hp : tmps[q]?.getD undef = .pointer (some ⟨B, 0, none⟩)) (hr : tmps[r]?.getD undef = c) (ha : BAt W B [a, b]) : (results fn tmps).run Try.prog W = .ok (.tuple #[.agg #[a, b], c]) W := by
  have c0 := ha.1 0 _ rfl
  have c1 := ha.1 1 _ rfl
  simp [results, h, hp, hr, asAddr, go_sem, c0, c1, Addr.add_lit]
/-- Whether a part of a rule lets a part of a name by. -/
def fit1 (x y : ByteArray) : Bool := decide (x.data.toList = [42]) || decide (x = y)
set_option maxHeartbeats 4000000 in
theorem implPartMore_yes (g off n c g' off' n' c' : Nat) (x y : ByteArray) (rs ps : List ByteArray) (w0 w : World) (hw : Below w0.heap.size w0 w) (hn : n = rs.length) (hn' : n' = ps.length) (hl : n ≤ 1099511627776) (hl' : n' ≤ 1099511627776) (hf : fit1 x y = true)
    (h1 : StrRow w0 (.slice (some ⟨g, off, none⟩) (n + 1) (n + 1 + c)) (x :: rs)) (h2 : StrRow w0 (.slice (some ⟨g', off', none⟩) (n' + 1) (n' + 1 + c')) (y :: ps)) :
    Calls Try.prog 31 #[.agg #[.slice (some ⟨g, off, none⟩) (n + 1) (n + 1 + c), .slice (some ⟨g', off', none⟩) (n' + 1) (n' + 1 + c')]] w fun e w' =>
      ∃ va vb, e = .returned (.tuple #[.agg #[va, vb], .bool true]) ∧ StrRow w0 va rs ∧ StrRow w0 vb ps ∧ Below w.heap.size w w' := by
  have HT1 : Hid (StrRow w0 (.slice (some ⟨g, off + 1, none⟩) n (n + c)) rs) := StrRow.tail hn h1
  have HT2 : Hid (StrRow w0 (.slice (some ⟨g', off' + 1, none⟩) n' (n' + c')) ps) := StrRow.tail hn' h2
  have HZ1 : Hid (n = 0 → ∀ a k, StrRow w0 (.slice a n k) rs) := fun h a k => .inl ⟨List.eq_nil_of_length_eq_zero (by omega), _, _, by rw [h]⟩
  have HZ2 : Hid (n' = 0 → ∀ a k, StrRow w0 (.slice a n' k) ps) := fun h a k => .inl ⟨List.eq_nil_of_length_eq_zero (by omega), _, _, by rw [h]⟩
  obtain ⟨O, hO⟩ : ∃ O, O = (w.alloc (.cells #[.slice (some ⟨g, off, none⟩) (n + 1) (n + 1 + c), .slice (some ⟨g', off', none⟩) (n' + 1) (n' + 1 + c')] 59)).alloc (.cells #[.slice none 0 0, .slice none 0 0] 59) := ⟨_, rfl⟩
  have bO : Below w.heap.size w O := by rw [hO]; exact ((Below.refl _ _).alloc (Nat.le_refl _) _).alloc (by simp) _
  have A0 : BAt O w.heap.size [.slice (some ⟨g, off, none⟩) (n + 1) (n + 1 + c), .slice (some ⟨g', off', none⟩) (n' + 1) (n' + 1 + c')] := by
    rw [hO]
    exact (BAt.new w #[.slice (some ⟨g, off, none⟩) (n + 1) (n + 1 + c), .slice (some ⟨g', off', none⟩) (n' + 1) (n' + 1 + c')] _).alloc _
  have A1 : BAt O (w.heap.size + 1) [.slice none 0 0, .slice none 0 0] := by
    rw [hO]
    have := BAt.new (w.alloc (.cells #[.slice (some ⟨g, off, none⟩) (n + 1) (n + 1 + c), .slice (some ⟨g', off', none⟩) (n' + 1) (n' + 1 + c')] 59)) #[.slice none 0 0, .slice none 0 0] 59
    rw [World.size_alloc] at this
    exact this
  have cx : O.cell? ⟨g, off, none⟩ = some (.string x) := by
    rcases (h1.below hw).below bO with ⟨h, _⟩ | ⟨_, g1, o1, cap1, e1, _, h3⟩
    · cases h
    · injection e1 with e1 _ _
      injection e1 with e1
      injection e1 with e4 e5
      subst e4 e5
      exact h3 0 (by simp)
  have cy : O.cell? ⟨g', off', none⟩ = some (.string y) := by
    rcases (h2.below hw).below bO with ⟨h, _⟩ | ⟨_, g1, o1, cap1, e1, _, h3⟩
    · cases h
    · injection e1 with e1 _ _
      injection e1 with e1
      injection e1 with e4 e5
      subst e4 e5
      exact h3 0 (by simp)
  have hcase : (x.toList == [42]) = true ∨ ((x.toList == [42]) = false ∧ x = y) := by
    rw [lit_eq]
    unfold fit1 at hf
    simp only [Bool.or_eq_true, decide_eq_true_eq] at hf
    by_cases h : x.data.toList = [42]
    · exact .inl (decide_eq_true h)
    · exact .inr ⟨decide_eq_false h, hf.resolve_left h⟩
  have c0 := A0.1 0 _ rfl
  have c1 := A0.1 1 _ rfl
  have r0 := A1.1 0 _ rfl
  have r1 := A1.1 1 _ rfl
  have f1 := A1.2.1
  have hn0 : ((n' : Int) + 1 == 0) = false := beq_eq_false_iff_ne.2 (by omega)
  clear hn hn' hf h1 h2 hw
  go_enter Try.func31, Try.ntmps31
  go_upto_region 1 with fail
  rw [← hO]
  clear hO
  rcases hcase with hx | ⟨hx, rfl⟩
  · skip
    go_quiet (fail)
    go_wp2_with fail
    have s1 : (1 : Int) ≤ (n : Int) + 1 := by omega
    have s2 : (1 : Int) ≤ (n' : Int) + 1 := by omega
    have s3 : (n : Int) + 1 ≤ (n : Int) + 1 + c := by omega
    have s4 : (n' : Int) + 1 ≤ (n' : Int) + 1 + c' := by omega
    by_cases z1 : n + 1 + c = 1
    · obtain ⟨rfl, rfl⟩ : n = 0 ∧ c = 0 := by omega
      have SA := HZ1.out rfl (some ⟨g, off, none⟩) 0
      by_cases z2 : n' + 1 + c' = 1
      · obtain ⟨rfl, rfl⟩ : n' = 0 ∧ c' = 0 := by omega
        have SB := HZ2.out rfl (some ⟨g', off', none⟩) 0
        go_region_with (fail)
        all_goals
          go_wp2_with fail
          have BD := (((below_drewN bO (nq + 1)).setCell (p := ⟨w.heap.size + 1, 0, none⟩) (by simp) (.slice (some ⟨g, off, none⟩) 0 0)).setCell (p := ⟨w.heap.size + 1, 1, none⟩) (by simp) (.slice (some ⟨g', off', none⟩) 0 0))
          exact bodyPost_ret (held_result2 rfl _ _ (w.heap.size + 1) (.slice (some ⟨g, off, none⟩) 0 0) (.slice (some ⟨g', off', none⟩) 0 0) (.bool true) rfl rfl (((A1.below (below_drewN (Below.refl _ _) (nq + 1))).set 0 (by simp) _).set 1 (by simp) _)) rfl ⟨_, _, rfl, SA, SB, BD⟩
      · have SB := HT2.out
        go_region_with (fail)
        all_goals
          go_wp2_with fail
          have BD := (((below_drewN bO (nq + 1)).setCell (p := ⟨w.heap.size + 1, 0, none⟩) (by simp) (.slice (some ⟨g, off, none⟩) 0 0)).setCell (p := ⟨w.heap.size + 1, 1, none⟩) (by simp) (.slice (some ⟨g', (off' + 1), none⟩) n' (n' + c')))
          exact bodyPost_ret (held_result2 rfl _ _ (w.heap.size + 1) (.slice (some ⟨g, off, none⟩) 0 0) (.slice (some ⟨g', (off' + 1), none⟩) n' (n' + c')) (.bool true) rfl rfl (((A1.below (below_drewN (Below.refl _ _) (nq + 1))).set 0 (by simp) _).set 1 (by simp) _)) rfl ⟨_, _, rfl, SA, SB, BD⟩
    · have SA := HT1.out
      by_cases z2 : n' + 1 + c' = 1
      · obtain ⟨rfl, rfl⟩ : n' = 0 ∧ c' = 0 := by omega
        have SB := HZ2.out rfl (some ⟨g', off', none⟩) 0
        go_region_with (fail)
        all_goals
          go_wp2_with fail
          have BD := (((below_drewN bO (nq + 1)).setCell (p := ⟨w.heap.size + 1, 0, none⟩) (by simp) (.slice (some ⟨g, (off + 1), none⟩) n (n + c))).setCell (p := ⟨w.heap.size + 1, 1, none⟩) (by simp) (.slice (some ⟨g', off', none⟩) 0 0))
          exact bodyPost_ret (held_result2 rfl _ _ (w.heap.size + 1) (.slice (some ⟨g, (off + 1), none⟩) n (n + c)) (.slice (some ⟨g', off', none⟩) 0 0) (.bool true) rfl rfl (((A1.below (below_drewN (Below.refl _ _) (nq + 1))).set 0 (by simp) _).set 1 (by simp) _)) rfl ⟨_, _, rfl, SA, SB, BD⟩
      · have SB := HT2.out
        go_region_with (fail)
        all_goals
          go_wp2_with fail
          have BD := (((below_drewN bO (nq + 1)).setCell (p := ⟨w.heap.size + 1, 0, none⟩) (by simp) (.slice (some ⟨g, (off + 1), none⟩) n (n + c))).setCell (p := ⟨w.heap.size + 1, 1, none⟩) (by simp) (.slice (some ⟨g', (off' + 1), none⟩) n' (n' + c')))
          exact bodyPost_ret (held_result2 rfl _ _ (w.heap.size + 1) (.slice (some ⟨g, (off + 1), none⟩) n (n + c)) (.slice (some ⟨g', (off' + 1), none⟩) n' (n' + c')) (.bool true) rfl rfl (((A1.below (below_drewN (Below.refl _ _) (nq + 1))).set 0 (by simp) _).set 1 (by simp) _)) rfl ⟨_, _, rfl, SA, SB, BD⟩
  · skip
    go_quiet (fail)
    go_wp2_with fail
    have s1 : (1 : Int) ≤ (n : Int) + 1 := by omega
    have s2 : (1 : Int) ≤ (n' : Int) + 1 := by omega
    have s3 : (n : Int) + 1 ≤ (n : Int) + 1 + c := by omega
    have s4 : (n' : Int) + 1 ≤ (n' : Int) + 1 + c' := by omega
    by_cases z1 : n + 1 + c = 1
    · obtain ⟨rfl, rfl⟩ : n = 0 ∧ c = 0 := by omega
      have SA := HZ1.out rfl (some ⟨g, off, none⟩) 0
      by_cases z2 : n' + 1 + c' = 1
      · obtain ⟨rfl, rfl⟩ : n' = 0 ∧ c' = 0 := by omega
        have SB := HZ2.out rfl (some ⟨g', off', none⟩) 0
        go_region_with (fail)
        all_goals
          go_wp2_with fail
          have BD := (((below_drewN bO (nq + 1)).setCell (p := ⟨w.heap.size + 1, 0, none⟩) (by simp) (.slice (some ⟨g, off, none⟩) 0 0)).setCell (p := ⟨w.heap.size + 1, 1, none⟩) (by simp) (.slice (some ⟨g', off', none⟩) 0 0))
          exact bodyPost_ret (held_result2 rfl _ _ (w.heap.size + 1) (.slice (some ⟨g, off, none⟩) 0 0) (.slice (some ⟨g', off', none⟩) 0 0) (.bool true) rfl rfl (((A1.below (below_drewN (Below.refl _ _) (nq + 1))).set 0 (by simp) _).set 1 (by simp) _)) rfl ⟨_, _, rfl, SA, SB, BD⟩
      · have SB := HT2.out
        go_region_with (fail)
        all_goals
          go_wp2_with fail
          have BD := (((below_drewN bO (nq + 1)).setCell (p := ⟨w.heap.size + 1, 0, none⟩) (by simp) (.slice (some ⟨g, off, none⟩) 0 0)).setCell (p := ⟨w.heap.size + 1, 1, none⟩) (by simp) (.slice (some ⟨g', (off' + 1), none⟩) n' (n' + c')))
          exact bodyPost_ret (held_result2 rfl _ _ (w.heap.size + 1) (.slice (some ⟨g, off, none⟩) 0 0) (.slice (some ⟨g', (off' + 1), none⟩) n' (n' + c')) (.bool true) rfl rfl (((A1.below (below_drewN (Below.refl _ _) (nq + 1))).set 0 (by simp) _).set 1 (by simp) _)) rfl ⟨_, _, rfl, SA, SB, BD⟩
    · have SA := HT1.out
      by_cases z2 : n' + 1 + c' = 1
      · obtain ⟨rfl, rfl⟩ : n' = 0 ∧ c' = 0 := by omega
        have SB := HZ2.out rfl (some ⟨g', off', none⟩) 0
        go_region_with (fail)
        all_goals
          go_wp2_with fail
          have BD := (((below_drewN bO (nq + 1)).setCell (p := ⟨w.heap.size + 1, 0, none⟩) (by simp) (.slice (some ⟨g, (off + 1), none⟩) n (n + c))).setCell (p := ⟨w.heap.size + 1, 1, none⟩) (by simp) (.slice (some ⟨g', off', none⟩) 0 0))
          exact bodyPost_ret (held_result2 rfl _ _ (w.heap.size + 1) (.slice (some ⟨g, (off + 1), none⟩) n (n + c)) (.slice (some ⟨g', off', none⟩) 0 0) (.bool true) rfl rfl (((A1.below (below_drewN (Below.refl _ _) (nq + 1))).set 0 (by simp) _).set 1 (by simp) _)) rfl ⟨_, _, rfl, SA, SB, BD⟩
      · have SB := HT2.out
        go_region_with (fail)
        all_goals
          go_wp2_with fail
          have BD := (((below_drewN bO (nq + 1)).setCell (p := ⟨w.heap.size + 1, 0, none⟩) (by simp) (.slice (some ⟨g, (off + 1), none⟩) n (n + c))).setCell (p := ⟨w.heap.size + 1, 1, none⟩) (by simp) (.slice (some ⟨g', (off' + 1), none⟩) n' (n' + c')))
          exact bodyPost_ret (held_result2 rfl _ _ (w.heap.size + 1) (.slice (some ⟨g, (off + 1), none⟩) n (n + c)) (.slice (some ⟨g', (off' + 1), none⟩) n' (n' + c')) (.bool true) rfl rfl (((A1.below (below_drewN (Below.refl _ _) (nq + 1))).set 0 (by simp) _).set 1 (by simp) _)) rfl ⟨_, _, rfl, SA, SB, BD⟩
set_option maxHeartbeats 4000000 in
/-- The name has no part more. -/
theorem implPartMore_end (pv : Value) (rs : List ByteArray) (ao : Option Addr) (c : Nat) (w : World) (h : StrRow w pv rs) :
    Calls Try.prog 31 #[.agg #[pv, .slice ao 0 c]] w fun e w' => ∃ (a b : Option Addr) (n1 c1 n2 c2 : Nat), e = .returned (.tuple #[.agg #[.slice a n1 c1, .slice b n2 c2], .bool false]) ∧ Below w.heap.size w w' := by
  obtain ⟨po, pc, rfl⟩ := h.slice
  clear h
  generalize rs.length = n
  obtain ⟨O, hO⟩ : ∃ O, O = (w.alloc (.cells #[(.slice po n pc), (.slice ao 0 c)] 59)).alloc (.cells #[.slice none 0 0, .slice none 0 0] 59) := ⟨_, rfl⟩
  have bO : Below w.heap.size w O := by rw [hO]; exact ((Below.refl _ _).alloc (Nat.le_refl _) _).alloc (by simp) _
  have A0 : BAt O w.heap.size [(.slice po n pc), (.slice ao 0 c)] := by
    rw [hO]
    exact (BAt.new w #[(.slice po n pc), (.slice ao 0 c)] _).alloc _
  have A1 : BAt O (w.heap.size + 1) [.slice none 0 0, .slice none 0 0] := by
    rw [hO]
    have := BAt.new (w.alloc (.cells #[(.slice po n pc), (.slice ao 0 c)] 59)) #[.slice none 0 0, .slice none 0 0] 59
    rw [World.size_alloc] at this
    exact this
  have c0 := A0.1 0 _ rfl
  have c1 := A0.1 1 _ rfl
  have r0 := A1.1 0 _ rfl
  have r1 := A1.1 1 _ rfl
  have f1 := A1.2.1
  go_enter Try.func31, Try.ntmps31
  go_upto_region 1 with fail
  rw [← hO]
  clear hO
  go_quiet (fail)
  go_wp2_with fail
  have BD := (((below_drewN bO nq).setCell (p := ⟨w.heap.size + 1, 0, none⟩) (by simp) (.slice po n pc)).setCell (p := ⟨w.heap.size + 1, 1, none⟩) (by simp) (.slice ao 0 c))
  exact bodyPost_ret (held_result2 rfl _ _ (w.heap.size + 1) (.slice po n pc) (.slice ao 0 c) (.bool false) rfl rfl (((A1.below (below_drewN (Below.refl _ _) nq)).set 0 (by simp) _).set 1 (by simp) _)) rfl ⟨_, _, _, _, _, _, rfl, BD⟩
set_option maxHeartbeats 4000000 in
theorem implPartMore_no (g off n c g' off' n' c' : Nat) (x y : ByteArray) (rs ps : List ByteArray) (w : World) (hl : n ≤ 1099511627776) (hl' : n' ≤ 1099511627776) (hf : fit1 x y = false)
    (h1 : StrRow w (.slice (some ⟨g, off, none⟩) (n + 1) (n + 1 + c)) (x :: rs)) (h2 : StrRow w (.slice (some ⟨g', off', none⟩) (n' + 1) (n' + 1 + c')) (y :: ps)) :
    Calls Try.prog 31 #[.agg #[.slice (some ⟨g, off, none⟩) (n + 1) (n + 1 + c), .slice (some ⟨g', off', none⟩) (n' + 1) (n' + 1 + c')]] w fun e w' =>
      ∃ (a b : Option Addr) (n1 c1 n2 c2 : Nat), e = .returned (.tuple #[.agg #[.slice a n1 c1, .slice b n2 c2], .bool false]) ∧ Below w.heap.size w w' := by
  obtain ⟨O, hO⟩ : ∃ O, O = (w.alloc (.cells #[(.slice (some ⟨g, off, none⟩) (n + 1) (n + 1 + c)), (.slice (some ⟨g', off', none⟩) (n' + 1) (n' + 1 + c'))] 59)).alloc (.cells #[.slice none 0 0, .slice none 0 0] 59) := ⟨_, rfl⟩
  have bO : Below w.heap.size w O := by rw [hO]; exact ((Below.refl _ _).alloc (Nat.le_refl _) _).alloc (by simp) _
  have A0 : BAt O w.heap.size [(.slice (some ⟨g, off, none⟩) (n + 1) (n + 1 + c)), (.slice (some ⟨g', off', none⟩) (n' + 1) (n' + 1 + c'))] := by
    rw [hO]
    exact (BAt.new w #[(.slice (some ⟨g, off, none⟩) (n + 1) (n + 1 + c)), (.slice (some ⟨g', off', none⟩) (n' + 1) (n' + 1 + c'))] _).alloc _
  have A1 : BAt O (w.heap.size + 1) [.slice none 0 0, .slice none 0 0] := by
    rw [hO]
    have := BAt.new (w.alloc (.cells #[(.slice (some ⟨g, off, none⟩) (n + 1) (n + 1 + c)), (.slice (some ⟨g', off', none⟩) (n' + 1) (n' + 1 + c'))] 59)) #[.slice none 0 0, .slice none 0 0] 59
    rw [World.size_alloc] at this
    exact this
  have c0 := A0.1 0 _ rfl
  have c1 := A0.1 1 _ rfl
  have r0 := A1.1 0 _ rfl
  have r1 := A1.1 1 _ rfl
  have f1 := A1.2.1
  have cx : O.cell? ⟨g, off, none⟩ = some (.string x) := by
    rcases h1.below bO with ⟨h, _⟩ | ⟨_, g1, o1, cap1, e1, _, h3⟩
    · cases h
    · injection e1 with e1 _ _
      injection e1 with e1
      injection e1 with e4 e5
      subst e4 e5
      exact h3 0 (by simp)
  have cy : O.cell? ⟨g', off', none⟩ = some (.string y) := by
    rcases h2.below bO with ⟨h, _⟩ | ⟨_, g1, o1, cap1, e1, _, h3⟩
    · cases h
    · injection e1 with e1 _ _
      injection e1 with e1
      injection e1 with e4 e5
      subst e4 e5
      exact h3 0 (by simp)
  unfold fit1 at hf
  simp only [Bool.or_eq_false_iff, decide_eq_false_iff_not] at hf
  have hx : (x.toList == [42]) = false := by rw [lit_eq, decide_eq_false hf.1]
  have hxy := str_ne hf.2
  have hn0 : ((n' : Int) + 1 == 0) = false := beq_eq_false_iff_ne.2 (by omega)
  clear hf h1 h2
  go_enter Try.func31, Try.ntmps31
  go_upto_region 1 with fail
  rw [← hO]
  clear hO
  go_quiet (fail)
  go_wp2_with fail
  have BD := (((below_drewN bO nq).setCell (p := ⟨w.heap.size + 1, 0, none⟩) (by simp) (.slice (some ⟨g, off, none⟩) (n + 1) (n + 1 + c))).setCell (p := ⟨w.heap.size + 1, 1, none⟩) (by simp) (.slice (some ⟨g', off', none⟩) (n' + 1) (n' + 1 + c')))
  exact bodyPost_ret (held_result2 rfl _ _ (w.heap.size + 1) (.slice (some ⟨g, off, none⟩) (n + 1) (n + 1 + c)) (.slice (some ⟨g', off', none⟩) (n' + 1) (n' + 1 + c')) (.bool false) rfl rfl (((A1.below (below_drewN (Below.refl _ _) nq)).set 0 (by simp) _).set 1 (by simp) _)) rfl ⟨_, _, _, _, _, _, rfl, BD⟩
end Go.Proofs.Ytijliddchoehhaa
