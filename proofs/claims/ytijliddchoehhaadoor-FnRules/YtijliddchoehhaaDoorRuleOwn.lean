/- Rules that a call owns: each row of texts in a block of its own. The laws' marks on them. -/
import Derived.Test.YtijliddchoehhaaDoorRows
import Derived.Test.YtijliddchoehhaaDoorRuleTo
import Derived.Test.YtijliddchoehhaaDoorStrMarks
namespace Go.Proofs.YtijliddchoehhaaDoor
open Go.RowKit
set_option linter.unusedVariables false

/-- Two values that lead to no block in common. -/
def apart (p q : Value) : Prop := ∀ b, p.ownBlock = some b → q.ownBlock ≠ some b
/-- A row of rules that the call owns, no two of its rows in one block. -/
def RuleOwn (w : World) (base : Nat) (v : Value) (l : List RV) : Prop :=
  ∃ (vs : List Value) (P : Nat → Value), w.ownsRow base 32 2 v l.length vs ∧ ∀ i, i < l.length → vs[i * 2]? = some (P i) ∧ vs[i * 2 + 1]? = some (.bool (l.getD i rv0).ex) ∧
    w.ownsRow base 9 1 (P i) (l.getD i rv0).ps.length (scells (l.getD i rv0).ps) ∧ apart (P i) v ∧ ∀ j, j < l.length → j ≠ i → apart (P i) (P j)
theorem RuleOwn.row {w : World} {base : Nat} {v : Value} {l : List RV} (h : RuleOwn w base v l) : RuleRow w v l := by
  obtain ⟨vs, P, h1, h2⟩ := h
  exact RuleRow.of_own h1 fun i hi => ⟨P i, (h2 i hi).1, StrRow.of_own (h2 i hi).2.2.1, (h2 i hi).2.1⟩
theorem RuleOwn.below {w w' : World} {base : Nat} {v : Value} {l : List RV} (h : RuleOwn w base v l) (hb : Below w.heap.size w w') : RuleOwn w' base v l := by
  obtain ⟨vs, P, h1, h2⟩ := h
  exact ⟨vs, P, own_below h1 hb, fun i hi => ⟨(h2 i hi).1, (h2 i hi).2.1, own_below (h2 i hi).2.2.1 hb, (h2 i hi).2.2.2⟩⟩
/-- The number behind the marks of some rules. -/
def kAt (k0 : Nat) (l : List RV) : Nat → Nat
  | 0 => k0
  | i + 1 => kAt k0 l i + (l.getD i rv0).ps.length + 1
def markR (k : Nat) (r : RV) : RV := ⟨marks k r.ps.length, decide ((k + r.ps.length) % 3 = 0)⟩
def markL (k0 : Nat) (l : List RV) : List RV := (List.range l.length).map fun i => markR (kAt k0 l i) (l.getD i rv0)
theorem markL_len (k0 : Nat) (l : List RV) : (markL k0 l).length = l.length := by simp [markL]
theorem markL_at (k0 : Nat) (l : List RV) {i : Nat} (h : i < l.length) : (markL k0 l).getD i rv0 = markR (kAt k0 l i) (l.getD i rv0) := by simp [markL, List.getD, h]
/-- Half marked. -/
def mixL (k0 : Nat) (l : List RV) (k : Nat) : List RV := (List.range l.length).map fun i => if i < k then markR (kAt k0 l i) (l.getD i rv0) else l.getD i rv0
theorem mixL_len (k0 : Nat) (l : List RV) (k : Nat) : (mixL k0 l k).length = l.length := by simp [mixL]
theorem mixL_at (k0 : Nat) (l : List RV) (k : Nat) {i : Nat} (h : i < l.length) : (mixL k0 l k).getD i rv0 = if i < k then markR (kAt k0 l i) (l.getD i rv0) else l.getD i rv0 := by
  unfold mixL
  rw [List.getD_eq_getElem?_getD, List.getElem?_map, List.getElem?_range h]
  rfl
theorem mixL_zero (k0 : Nat) (l : List RV) : mixL k0 l 0 = l := by
  refine List.ext_getElem (by simp [mixL]) fun i h1 h2 => ?_
  simp [mixL, List.getD, h2]
theorem mixL_all (k0 : Nat) (l : List RV) : mixL k0 l l.length = markL k0 l := by
  unfold mixL markL
  refine List.map_congr_left fun i hi => ?_
  rw [if_pos (List.mem_range.1 hi)]
theorem kAt_le (k0 : Nat) (l : List RV) (M : Nat) (h : ∀ r ∈ l, r.ps.length ≤ M) : ∀ i, i ≤ l.length → kAt k0 l i ≤ k0 + i * (M + 1)
  | 0, _ => by simp [kAt]
  | i + 1, hi => by
    have := kAt_le k0 l M h i (by omega)
    have h2 := h (l.getD i rv0) (by
      rw [List.getD_eq_getElem?_getD, List.getElem?_eq_getElem (by omega)]
      exact List.getElem_mem _)
    unfold kAt
    rw [Nat.add_mul]
    omega
theorem kAt_pos (k0 : Nat) (l : List RV) (h : 0 < k0) : ∀ i, 0 < kAt k0 l i
  | 0 => h
  | i + 1 => by unfold kAt; omega
theorem kAt_ge (k0 : Nat) (l : List RV) : ∀ i, k0 ≤ kAt k0 l i
  | 0 => Nat.le_refl _
  | i + 1 => by have := kAt_ge k0 l i; unfold kAt; omega
theorem apart_ne {p v : Value} (h : apart p v) : v.ownBlock = none ∨ v.ownBlock ≠ p.ownBlock := by
  cases hp : p.ownBlock with
  | none =>
    cases hv : v.ownBlock with
    | none => exact .inl rfl
    | some b => exact .inr (by simp)
  | some b => exact .inr (h b hp)
theorem apart_row {p : Value} {g : Nat} {n cap : Nat} (h : apart p (.slice (some ⟨g, 0, none⟩) n cap)) : p.ownBlock = none ∨ p.ownBlock ≠ some g := .inr fun e => h g e rfl
/-- One rule of a row that is owned is marked: its texts, then its truth. -/
theorem RuleOwn.mark {w w1 : World} {base g n cap k k1 : Nat} {l : List RV} {vs : List Value} {P : Nat → Value} (hn : n = l.length) (hk : k < l.length) (h1 : w.ownsRow base 32 2 (.slice (some ⟨g, 0, none⟩) n cap) l.length vs)
    (h2 : ∀ i, i < l.length → vs[i * 2]? = some (P i) ∧ vs[i * 2 + 1]? = some (.bool (l.getD i rv0).ex) ∧ w.ownsRow base 9 1 (P i) (l.getD i rv0).ps.length (scells (l.getD i rv0).ps) ∧ apart (P i) (.slice (some ⟨g, 0, none⟩) n cap) ∧ ∀ j, j < l.length → j ≠ i → apart (P i) (P j))
    (ho : w1.ownsRow base 9 1 (P k) (l.getD k rv0).ps.length (scells (marks k1 (l.getD k rv0).ps.length))) (hg : w.grownBy w1 (P k).ownBlock) (l' : List RV) (hl : l'.length = l.length) (hat : l'.getD k rv0 = markR k1 (l.getD k rv0)) (hot : ∀ i, i < l.length → i ≠ k → l'.getD i rv0 = l.getD i rv0) :
    RuleOwn (w1.setCell ⟨g, k * 2 + 1, none⟩ (.bool (decide ((k1 + (l.getD k rv0).ps.length) % 3 = 0)))) base (.slice (some ⟨g, 0, none⟩) n cap) l' ∧ w1.ownsRow base 32 2 (.slice (some ⟨g, 0, none⟩) n cap) n vs ∧
      w1.grownBy (w1.setCell ⟨g, k * 2 + 1, none⟩ (.bool (decide ((k1 + (l.getD k rv0).ps.length) % 3 = 0)))) (some g) := by
  subst hn
  have o1 := h1.kept hg (apart_ne (h2 k hk).2.2.2.1)
  obtain ⟨S, G⟩ := o1.stored (k * 2 + 1) (.bool (decide ((k1 + (l.getD k rv0).ps.length) % 3 = 0)))
  have hvl : vs.length = l.length * 2 := h1.1
  refine ⟨⟨vs.set (k * 2 + 1) (.bool (decide ((k1 + (l.getD k rv0).ps.length) % 3 = 0))), P, by rw [hl]; exact S, fun i hi => ?_⟩, o1, G⟩
  rw [hl] at hi
  obtain ⟨a1, a2, a3, a4, a5⟩ := h2 i hi
  refine ⟨by rw [List.getElem?_set_ne (by omega)]; exact a1, ?_, ?_, a4, fun j hj hne => a5 j (by omega) hne⟩
  · by_cases hik : i = k
    · subst hik
      rw [List.getElem?_set_self (by omega), hat]
      rfl
    · rw [List.getElem?_set_ne (by omega), hot i hi hik]
      exact a2
  · by_cases hik : i = k
    · subst hik
      rw [hat]
      have : (markR k1 (l.getD i rv0)).ps = marks k1 (l.getD i rv0).ps.length := rfl
      rw [this, marks_length]
      exact ho.kept G (apart_row a4)
    · rw [hot i hi hik]
      exact (a3.kept hg (apart_ne ((h2 k hk).2.2.2.2 i hi hik))).kept G (apart_row a4)
theorem hid_own {w : World} {base : Nat} {v : Value} {l : List RV} (h : RuleOwn w base v l) : Hid (RuleOwn w base v l) := h
set_option maxHeartbeats 4000000 in
theorem markRules (l : List RV) (v : Value) (k0 base : Nat) (w : World) (hk0 : 0 < k0) (hl : l.length ≤ 1048576) (hk : ∀ i, i ≤ l.length → kAt k0 l i ≤ 1000000000) (h : RuleOwn w base v l) :
    Calls Tryd.prog 15 #[v, .int .i64 (k0 : Int)] w fun e w' => e = .returned (.int .i64 ((kAt k0 l l.length : Nat) : Int)) ∧ RuleOwn w' base v (markL k0 l) ∧ Below base w w' := by
  by_cases h0 : l.length = 0
  · obtain rfl : l = [] := List.eq_nil_of_length_eq_zero h0
    have HO : Hid (RuleOwn w base v (markL k0 [])) := h
    obtain ⟨ao, cap, rfl⟩ := h.row.slice
    clear h
    go_enter Tryd.func15, Tryd.ntmps15
    go_wp2
    refine wp_loop_rounds 1 ?_
    rw [rounds_succ]
    go_wp2
    go_ret
    exact ⟨rfl, HO.out, Below.refl _ _⟩
  · obtain ⟨g, cap, rfl⟩ : ∃ g cap, v = .slice (some ⟨g, 0, none⟩) l.length cap := by
      obtain ⟨vs, P, h1, _⟩ := h
      rcases h1.2 with ⟨_, h2⟩ | ⟨g, cap, cur, rfl, _⟩
      · exact absurd h2 h0
      · exact ⟨g, cap, rfl⟩
    have HK : Hid (∀ i, i ≤ l.length → kAt k0 l i ≤ 1000000000) := hk
    clear hk
    go_enter Tryd.func15, Tryd.ntmps15
    go_wp2
    go_loopw [1, 5] (fun a i wr => ∃ k : Nat, k ≤ l.length ∧ i = .int .i64 k ∧ a = .int .i64 ((kAt k0 l k : Nat) : Int) ∧ Hid (RuleOwn wr base (.slice (some ⟨g, 0, none⟩) l.length cap) (mixL k0 l k)) ∧ Below base w wr) (fun _ i _ => l.length - (intOf i).toNat)
    case atStart => exact ⟨0, Nat.zero_le _, rfl, rfl, by rw [mixL_zero]; exact h, Below.refl _ _⟩
    case round =>
      obtain ⟨k, hkl, rfl, rfl, HO, hbel⟩ := hrel
      clear h
      by_cases hlt : k < l.length
      · have hki : (k : Int) < l.length := by omega
        obtain ⟨vs, P, h1, h2⟩ := HO.out
        have hml := mixL_len k0 l k
        have hgk : (mixL k0 l k).getD k rv0 = l.getD k rv0 := by rw [mixL_at k0 l k hlt, if_neg (by omega)]
        obtain ⟨a1, a2, a3, a4, a5⟩ := h2 k (by omega)
        rw [hgk] at a3
        have H1 : wr.ownsRow base 32 2 (.slice (some ⟨g, 0, none⟩) l.length cap) l.length vs := by rw [← hml]; rw [hml]; rw [hml] at h1; exact h1
        have c1 : wr.cell? ⟨g, k * 2, none⟩ = some (P k) := by
          rw [H1.cellAt (k * 2) (by omega)]; exact a1
        have hK := HK.out k hkl
        have hK1 := HK.out (k + 1) (by omega)
        have hks : kAt k0 l (k + 1) = kAt k0 l k + (l.getD k rv0).ps.length + 1 := rfl
        have hkp := kAt_pos k0 l hk0 k
        have CM : Hid (Calls Tryd.prog 41 #[P k, .int .i64 ((kAt k0 l k : Nat) : Int)] wr fun e w' => e = .returned (.int .i64 ((kAt k0 l k + (l.getD k rv0).ps.length : Nat) : Int)) ∧ w'.ownsRow base 9 1 (P k) (l.getD k rv0).ps.length (scells (marks (kAt k0 l k) (l.getD k rv0).ps.length)) ∧ wr.grownBy w' (P k).ownBlock) := markStringS (kAt k0 l k) _ (P k) base _ wr hkp (by omega) a3
        have HM : Hid (∀ w1 : World, w1.ownsRow base 9 1 (P k) (l.getD k rv0).ps.length (scells (marks (kAt k0 l k) (l.getD k rv0).ps.length)) → wr.grownBy w1 (P k).ownBlock →
            RuleOwn (w1.setCell ⟨g, k * 2 + 1, none⟩ (.bool (decide ((kAt k0 l k + (l.getD k rv0).ps.length) % 3 = 0)))) base (.slice (some ⟨g, 0, none⟩) l.length cap) (mixL k0 l (k + 1)) ∧ w1.ownsRow base 32 2 (.slice (some ⟨g, 0, none⟩) l.length cap) l.length vs ∧
            w1.grownBy (w1.setCell ⟨g, k * 2 + 1, none⟩ (.bool (decide ((kAt k0 l k + (l.getD k rv0).ps.length) % 3 = 0)))) (some g)) := fun w1 o1 g1 => by
          have := RuleOwn.mark (w := wr) (w1 := w1) (k := k) (k1 := kAt k0 l k) (l := mixL k0 l k) hml.symm (by omega) h1 h2 (by rw [hgk]; exact o1) g1 (mixL k0 l (k + 1)) (by rw [mixL_len, mixL_len]) (by
            rw [hgk, mixL_at k0 l (k + 1) hlt, if_pos (by omega)]) (fun i hi hne => by
            rw [mixL_len] at hi
            rw [mixL_at k0 l (k + 1) hi, mixL_at k0 l k hi]
            by_cases hik : i < k
            · rw [if_pos (by omega), if_pos hik]
            · rw [if_neg (by omega), if_neg hik])
          rw [hgk] at this
          exact this
        have hbg := (H1.lt g rfl).1
        have hbs : base ≤ wr.heap.size := by have := (H1.lt g rfl).2; omega
        have HPB : Hid (∀ b, (P k).ownBlock = some b → base ≤ b) := fun b hb => (a3.lt b hb).1
        clear a1 a2 a3 a4 a5 h1 h2 H1 hgk hml HO
        have hvl : ∀ w1 : World, w1.ownsRow base 32 2 (.slice (some ⟨g, 0, none⟩) l.length cap) l.length vs → ∃ u, w1.cell? ⟨g, k * 2 + 1, none⟩ = some u := fun w1 h => by
          have : vs.length = l.length * 2 := h.1
          rw [h.cellAt (k * 2 + 1) (by omega)]
          exact ⟨_, List.getElem?_eq_getElem (by omega)⟩
        generalize hKK : kAt k0 l k = K at *
        have HKS : Hid (kAt k0 l (k + 1) = K + (l.getD k rv0).ps.length + 1) := hks
        clear hks
        generalize hNN : (l.getD k rv0).ps.length = N at *
        clear hKK hNN
        obtain ⟨Q, hQ⟩ : ∃ Q, P k = Q := ⟨_, rfl⟩
        rw [hQ] at c1 CM HM HPB
        clear hQ
        go_wp2_with fail
        refine CM.out.mono ?_
        rintro e w1 ⟨rfl, o1, g1⟩
        obtain ⟨RO, ow, G⟩ := HM.out w1 o1 g1
        have HRO := hid_own RO
        have hfz := ow.frozenAt (k * 2 + 1)
        obtain ⟨u, hu⟩ := hvl w1 ow
        have B1 := hbel.grown g1 hbs HPB.out
        have B2 := B1.grown G (by have := g1.size; omega) (fun k hk => by cases hk; exact hbg)
        clear RO ow G o1 g1 B1 hbel CM HM hvl c1
        have hsum : (K : Int) + (N : Int) + 1 ≤ 1000000000 := by have := HKS.out; omega
        have HMOD : Hid ((((K : Int) + (N : Int)) % 3 == 0) = decide ((K + N) % 3 = 0)) := by
          show _ = _
          by_cases h3 : (K + N) % 3 = 0
          · rw [decide_eq_true h3]; simp; omega
          · rw [decide_eq_false h3]; exact beq_eq_false_iff_ne.2 (by omega)
        go_wp2_with fail
        go_roundw
        case rel =>
          rw [HMOD.out]
          exact ⟨k + 1, by omega, by go_num, by rw [HKS.out]; go_num, HRO, B2⟩
        case measure => simp [intOf]; omega
      · have hki : ¬ (k : Int) < l.length := by omega
        have HE : Hid (k = l.length) := by show _ = _; omega
        have HO2 : Hid (RuleOwn wr base (.slice (some ⟨g, 0, none⟩) l.length cap) (markL k0 l)) := by
          have := HO.out
          rw [HE.out, mixL_all] at this
          exact this
        clear HO
        go_wp2_with fail
        go_ret
        exact ⟨by rw [HE.out]; rfl, HO2.out, hbel⟩
theorem held_mod (K N : Nat) : ((((K : Int) + (N : Int)) % 3 == 0) = decide ((K + N) % 3 = 0)) := by
  by_cases h3 : (K + N) % 3 = 0
  · rw [decide_eq_true h3]; simp; omega
  · rw [decide_eq_false h3]; exact beq_eq_false_iff_ne.2 (by omega)
set_option maxHeartbeats 4000000 in
theorem heldRules (l : List RV) (v : Value) (k0 base : Nat) (w : World) (hk0 : 0 < k0) (hl : l.length ≤ 1048576) (hk : ∀ i, i ≤ l.length → kAt k0 l i ≤ 1000000000) (h : RuleOwn w base v (markL k0 l)) :
    Calls Tryd.prog 16 #[v, .int .i64 (k0 : Int)] w fun e w' => e = .returned (.int .i64 ((kAt k0 l l.length : Nat) : Int)) ∧ Below w.heap.size w w' := by
  by_cases h0 : l.length = 0
  · obtain rfl : l = [] := List.eq_nil_of_length_eq_zero h0
    obtain ⟨ao, cap, rfl⟩ := h.row.slice
    clear h
    go_enter Tryd.func16, Tryd.ntmps16
    go_wp2
    refine wp_loop_rounds 1 ?_
    rw [rounds_succ]
    go_wp2
    go_ret
    exact ⟨rfl, Below.refl _ _⟩
  · obtain ⟨vs, P, h1, h2⟩ := h
    rw [markL_len] at h1
    obtain ⟨g, cap, rfl⟩ : ∃ g cap, v = .slice (some ⟨g, 0, none⟩) l.length cap := by
      rcases h1.2 with ⟨_, h2⟩ | ⟨g, cap, cur, rfl, _⟩
      · exact absurd h2 h0
      · exact ⟨g, cap, rfl⟩
    have HK : Hid (∀ i, i ≤ l.length → kAt k0 l i ≤ 1000000000) := hk
    have HA : Hid (∀ i, i < l.length → w.cell? ⟨g, i * 2, none⟩ = some (P i) ∧ w.cell? ⟨g, i * 2 + 1, none⟩ = some (.bool (decide ((kAt k0 l i + (l.getD i rv0).ps.length) % 3 = 0))) ∧ w.ownsRow base 9 1 (P i) (l.getD i rv0).ps.length (scells (marks (kAt k0 l i) (l.getD i rv0).ps.length))) := fun i hi => by
      obtain ⟨a1, a2, a3, _⟩ := h2 i (by rw [markL_len]; exact hi)
      rw [markL_at k0 l hi] at a2 a3
      refine ⟨by rw [h1.cellAt (i * 2) (by omega)]; exact a1, by rw [h1.cellAt (i * 2 + 1) (by omega)]; exact a2, ?_⟩
      have e : (markR (kAt k0 l i) (l.getD i rv0)).ps = marks (kAt k0 l i) (l.getD i rv0).ps.length := rfl
      rw [e, marks_length] at a3
      exact a3
    have hg := (h1.lt g rfl).2
    clear hk h1 h2
    go_enter Tryd.func16, Tryd.ntmps16
    go_wp2
    go_loopw [1, 5] (fun a i wr => ∃ k : Nat, k ≤ l.length ∧ i = .int .i64 k ∧ a = .int .i64 ((kAt k0 l k : Nat) : Int) ∧ Below w.heap.size w wr) (fun _ i _ => l.length - (intOf i).toNat)
    case atStart => exact ⟨0, Nat.zero_le _, rfl, rfl, Below.refl _ _⟩
    case round =>
      obtain ⟨k, hkl, rfl, rfl, hbel⟩ := hrel
      by_cases hlt : k < l.length
      · have hki : (k : Int) < l.length := by omega
        obtain ⟨a1, a2, a3⟩ := HA.out k hlt
        have hK := HK.out k hkl
        have hK1 := HK.out (k + 1) (by omega)
        have hks : kAt k0 l (k + 1) = kAt k0 l k + (l.getD k rv0).ps.length + 1 := rfl
        have hkp := kAt_pos k0 l hk0 k
        have c1 := (hbel.cell (p := ⟨g, k * 2, none⟩) hg).trans a1
        have CH : Hid (Calls Tryd.prog 42 #[P k, .int .i64 ((kAt k0 l k : Nat) : Int)] wr fun e w' => e = .returned (.int .i64 ((kAt k0 l k + (l.getD k rv0).ps.length : Nat) : Int)) ∧ Below wr.heap.size wr w') := heldStringS (kAt k0 l k) _ (P k) base wr hkp (by omega) (own_below a3 hbel)
        clear a3 a1
        generalize hKK : kAt k0 l k = K at *
        have HKS : Hid (kAt k0 l (k + 1) = K + (l.getD k rv0).ps.length + 1) := hks
        clear hks
        generalize hNN : (l.getD k rv0).ps.length = N at *
        clear hKK hNN
        have hm := held_mod K N
        obtain ⟨z, hz⟩ : ∃ z : Int, ((K + N : Nat) : Int) = z := ⟨_, rfl⟩
        rw [hz] at CH
        rw [show (K : Int) + (N : Int) = z by omega] at hm
        have hz0 : 0 ≤ z := by omega
        have hz1 : z ≤ 1000000000 := by have := HKS.out; omega
        have HZ : Hid (((K + N : Nat) : Int) = z) := hz
        clear hz
        generalize decide ((K + N) % 3 = 0) = D at a2 hm
        generalize P k = Q at c1 CH
        have HKZ : Hid (.int .i64 (z + 1) = Value.int .i64 ((kAt k0 l (k + 1) : Nat) : Int)) := by
          show _ = _
          rw [HKS.out]
          congr 1
          have := HZ.out
          omega
        clear HZ HKS hK hK1 hkp
        go_wp2_with fail
        refine CH.out.mono ?_
        rintro e w1 ⟨rfl, b1⟩
        have B1 := hbel.trans (b1.mono hbel.size)
        have c2 := (B1.cell (p := ⟨g, k * 2 + 1, none⟩) hg).trans a2
        clear CH b1 hbel c1
        go_wp2_with fail
        go_roundw
        case rel => exact ⟨k + 1, by omega, by go_num, HKZ.out, B1⟩
        case measure => simp [intOf]; omega
      · have hki : ¬ (k : Int) < l.length := by omega
        have HE : Hid (k = l.length) := by show _ = _; omega
        go_wp2_with fail
        go_ret
        exact ⟨by rw [HE.out]; rfl, hbel⟩
end Go.Proofs.YtijliddchoehhaaDoor
