/- The contract of the specification's RulesOk. -/
import Derived.Test.YtijliddchoehhaaDoorRows
import Derived.Test.YtijliddchoehhaaDoorRuleSpec
namespace Go.Proofs.YtijliddchoehhaaDoor
open Go.RowKit
set_option linter.unusedVariables false

theorem same_out {a b : RV} : sameB a b = ((a.ex == b.ex) && decide (a.ps = b.ps)) := rfl
theorem newB_of {l : List RV} {i : Nat} (h1 : ruleB (l.getD i rv0) = true) (h2 : ∀ k, k < i → sameB (l.getD k rv0) (l.getD i rv0) = false) : newB l i = true := by
  unfold newB
  rw [show (⟨[], false⟩ : RV) = rv0 from rfl, h1, Bool.true_and]
  exact all_range.2 fun k hk => by rw [h2 k hk]; rfl
theorem newB_rule {l : List RV} {i : Nat} (h : ruleB (l.getD i rv0) = false) : newB l i = false := by
  unfold newB
  rw [show (⟨[], false⟩ : RV) = rv0 from rfl, h]
  rfl
theorem newB_same {l : List RV} {i k : Nat} (hk : k < i) (h : sameB (l.getD k rv0) (l.getD i rv0) = true) : newB l i = false := by
  cases hn : newB l i with
  | false => rfl
  | true =>
    unfold newB at hn
    rw [show (⟨[], false⟩ : RV) = rv0 from rfl] at hn
    simp only [Bool.and_eq_true] at hn
    have := all_range.1 hn.2 k hk
    rw [h] at this
    cases this
theorem rulesB_not {l : List RV} {i : Nat} (hi : i < l.length) (h : newB l i = false) : rulesB l = false := by
  cases hr : rulesB l with
  | false => rfl
  | true =>
    unfold rulesB at hr
    simp only [Bool.and_eq_true] at hr
    have := all_range.1 hr.1 i hi
    rw [h] at this
    cases this
theorem rulesB_all {l : List RV} (h : ∀ i, i < l.length → newB l i = true) : rulesB l = decide (l.length ≤ 60) := by
  unfold rulesB
  rw [all_range.2 h, Bool.true_and]
/-- Sizes of rules. -/
def RSz (l : List RV) : Prop := ∀ r ∈ l, r.ps.length ≤ 2097152 ∧ ∀ x ∈ r.ps, x.size ≤ 1048576
theorem rsz_at {l : List RV} (h : RSz l) {i : Nat} (hi : i < l.length) : (l.getD i rv0).ps.length ≤ 2097152 ∧ ∀ x ∈ (l.getD i rv0).ps, x.size ≤ 1048576 := by
  refine h _ ?_
  rw [List.getD_eq_getElem?_getD, List.getElem?_eq_getElem hi]
  exact List.getElem_mem _
set_option maxHeartbeats 4000000 in
theorem specRulesOk (l : List RV) (v : Value) (w : World) (hl : l.length ≤ 1048576) (hz : RSz l) (h : RuleRow w v l) :
    Calls Tryd.prog 8 #[v] w fun e w' => e = .returned (.bool (rulesB l)) ∧ Below w.heap.size w w' := by
  have HZ : Hid (RSz l) := hz
  clear hz
  rcases h with ⟨rfl, ao, cap, rfl⟩ | ⟨h0, g, off, cap, rfl, hg, hc⟩
  · clear hl HZ
    go_enter Tryd.func8, Tryd.ntmps8
    go_wp2
    refine wp_loop_rounds 1 ?_
    rw [rounds_succ]
    go_wp2
    go_ret
    exact ⟨rfl, Below.refl _ _⟩
  · have HC : Hid (∀ i, i < l.length → ∃ p, w.cell? ⟨g, off + i * 2, none⟩ = some p ∧ StrRow w p (l.getD i rv0).ps ∧ w.cell? ⟨g, off + i * 2 + 1, none⟩ = some (.bool (l.getD i rv0).ex)) := hc
    clear hc
    go_enter Tryd.func8, Tryd.ntmps8
    go_wp2
    go_loopw [3, 4] (fun i j wr => ∃ k : Nat, k ≤ l.length ∧ i = .int .i64 k ∧ Hid (∀ j, j < k → newB l j = true) ∧ Below w.heap.size w wr) (fun i _ _ => l.length - (intOf i).toNat)
    case atStart => exact ⟨0, Nat.zero_le _, rfl, fun j hj => absurd hj (Nat.not_lt_zero _), Below.refl _ _⟩
    case round =>
      obtain ⟨k, hk, rfl, HN, hbel⟩ := hrel
      by_cases hlt : k < l.length
      · obtain ⟨p, c1, c2, c3⟩ := HC.out k hlt
        have c1w := (hbel.cell (p := ⟨g, off + k * 2, none⟩) hg).trans c1
        have c3w := (hbel.cell (p := ⟨g, off + k * 2 + 1, none⟩) hg).trans c3
        have hki : (k : Int) < l.length := by omega
        obtain ⟨hz1, hz2⟩ := rsz_at HZ.out hlt
        have CR : Hid (Calls Tryd.prog 23 #[.agg #[p, .bool (l.getD k rv0).ex]] wr fun e w' => e = .returned (.bool (ruleB (l.getD k rv0))) ∧ Below wr.heap.size wr w') := specRule p (l.getD k rv0).ps (l.getD k rv0).ex wr (by omega) hz2 (c2.below hbel)
        have HNB : Hid (ruleB (l.getD k rv0) = false → newB l k = false) := newB_rule
        have HNT : Hid (ruleB (l.getD k rv0) = true → (∀ j, j < k → sameB (l.getD j rv0) (l.getD k rv0) = false) → newB l k = true) := newB_of
        have HNS : Hid (∀ j, j < k → sameB (l.getD j rv0) (l.getD k rv0) = true → newB l k = false) := fun j hj h => newB_same hj h
        have C1 : Hid (w.cell? ⟨g, off + k * 2, none⟩ = some p) := c1
        have C2 : Hid (StrRow w p (l.getD k rv0).ps) := c2
        clear c1 c2 hz2
        generalize hr : l.getD k rv0 = r at *
        clear hr
        generalize ruleB r = R at CR HNB HNT
        go_wp2_with fail
        refine CR.out.mono ?_
        rintro e w1 ⟨rfl, b1⟩
        have hb1 : Below w.heap.size w w1 := hbel.trans (b1.mono hbel.size)
        clear b1 c1w c3w CR hbel
        cases R with
        | false =>
          have HF : Hid (rulesB l = false) := rulesB_not hlt (HNB.out rfl)
          clear HNB HNT HNS HN
          go_wp2_with fail
          go_ret
          exact ⟨ret_bool HF.out.symm, hb1⟩
        | true =>
          clear HNB
          go_wp2_with fail
          go_loopw [4] (fun i wr => ∃ j : Nat, j ≤ k ∧ i = .int .i64 j ∧ Hid (∀ i, i < j → sameB (l.getD i rv0) r = false) ∧ Below w.heap.size w wr) (fun i _ => k - (intOf i).toNat)
          case atStart => exact ⟨0, Nat.zero_le _, rfl, fun j hj => absurd hj (Nat.not_lt_zero _), hb1⟩
          case round =>
            obtain ⟨j, hj, rfl, HS, hbel⟩ := hrel
            clear hb1
            by_cases hjk : j < k
            · obtain ⟨q, d1, d2, d3⟩ := HC.out j (by omega)
              have hji : (j : Int) < k := by omega
              have hjl : (j : Int) < l.length := by omega
              have c1w := (hbel.cell (p := ⟨g, off + k * 2, none⟩) hg).trans C1.out
              have c3w := (hbel.cell (p := ⟨g, off + k * 2 + 1, none⟩) hg).trans c3
              have d1w := (hbel.cell (p := ⟨g, off + j * 2, none⟩) hg).trans d1
              have d3w := (hbel.cell (p := ⟨g, off + j * 2 + 1, none⟩) hg).trans d3
              obtain ⟨hz3, _⟩ := rsz_at HZ.out (show j < l.length by omega)
              have CS : Hid (∀ n, Calls Tryd.prog 24 #[q, p] (wr.drewN n) fun e w' => e = .returned (.bool (decide ((l.getD j rv0).ps = r.ps))) ∧ ∃ m, w' = (wr.drewN n).drewN m) := fun n => specSameParts _ _ _ _ _ (by omega) (by omega) (d2.below (below_drewN hbel n)) (C2.out.below (below_drewN hbel n))
              have HSJ : Hid (sameB (l.getD j rv0) r = (((l.getD j rv0).ex == r.ex) && decide ((l.getD j rv0).ps = r.ps))) := rfl
              have HNJ : Hid (sameB (l.getD j rv0) r = true → newB l k = false) := HNS.out j hjk
              have HST : Hid (sameB (l.getD j rv0) r = false → ∀ i, i < j + 1 → sameB (l.getD i rv0) r = false) := fun h i hi => by
                by_cases hij : i < j
                · exact HS.out i hij
                · rw [show i = j by omega]; exact h
              clear d1 d2 d3 HS
              generalize sameB (l.getD j rv0) r = S at HSJ HNJ HST
              generalize decide ((l.getD j rv0).ps = r.ps) = D at CS HSJ
              generalize (l.getD j rv0).ex = ej at d3w HSJ
              generalize r.ex = er at c3w c3 HSJ
              have hap : (ej = er ∧ D = true) ∨ (ej = er ∧ D = false) ∨ (ej == er) = false := by
                cases ej <;> cases er <;> cases D <;> simp
              rcases hap with ⟨rfl, rfl⟩ | ⟨rfl, rfl⟩ | hne
              · have HF : Hid (rulesB l = false) := rulesB_not hlt (HNJ.out (HSJ.out.trans (by simp)))
                clear HNJ HSJ HST HNT HNS HN
                go_wp2_with fail
                go_quiet ((go_at_call 24; exact Calls.quiet_of (CS.out _)))
                go_wp2_with fail
                go_ret
                exact ⟨ret_bool HF.out.symm, below_drewN hbel _⟩
              · have HS2 := HST.out (HSJ.out.trans (by simp))
                have HS3 : Hid (∀ i, i < j + 1 → sameB (l.getD i rv0) r = false) := HS2
                clear HNJ HSJ HST HS2
                go_wp2_with fail
                go_quiet ((go_at_call 24; exact Calls.quiet_of (CS.out _)))
                go_wp2_with fail
                go_roundw
                case rel => exact ⟨j + 1, by omega, by go_num, HS3, below_drewN hbel _⟩
                case measure => simp [intOf]; omega
              · have HS2 := HST.out (HSJ.out.trans (by rw [hne]; rfl))
                have HS3 : Hid (∀ i, i < j + 1 → sameB (l.getD i rv0) r = false) := HS2
                clear HNJ HSJ HST HS2
                go_wp2_with fail
                go_quiet ((go_at_call 24; exact Calls.quiet_of (CS.out _)))
                go_wp2_with fail
                go_roundw
                case rel => exact ⟨j + 1, by omega, by go_num, HS3, below_drewN hbel _⟩
                case measure => simp [intOf]; omega
            · have hji : ¬ (j : Int) < k := by omega
              have HN2 : Hid (∀ i, i < k + 1 → newB l i = true) := fun i hi => by
                by_cases hik : i < k
                · exact HN.out i hik
                · rw [show i = k by omega]
                  exact HNT.out trivial (fun i hi => HS.out i (by omega))
              clear HN HNT HS HNS
              go_wp2_with fail
              go_roundw
              case rel => exact ⟨k + 1, by omega, by go_num, HN2, hbel⟩
              case measure => simp [intOf]; omega
      · have hki : ¬ (k : Int) < l.length := by omega
        have HE : Hid (rulesB l = decide (l.length ≤ 60)) := rulesB_all fun i hi => HN.out i (by omega)
        clear HN
        go_wp2
        go_ret
        exact ⟨ret_bool (by rw [HE.out]; simp <;> omega), hbel⟩
end Go.Proofs.YtijliddchoehhaaDoor
