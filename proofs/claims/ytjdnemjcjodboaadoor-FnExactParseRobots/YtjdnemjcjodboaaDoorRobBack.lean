/- What is read of its own text is the same (chapter 11), plainly. -/
import Derived.Test.YtjdnemjcjodboaaDoorRows
import Derived.Test.YtjdnemjcjodboaaDoorRobPlain
import Derived.Test.YtjdnemjcjodboaaDoorRowStr
namespace Go.Proofs.YtjdnemjcjodboaaDoor
open Go.RowKit
set_option linter.unusedVariables false

theorem robOk_nil : robOk [] := by
  constructor
  · intro p hp; cases hp
  · intro p hp; cases hp
theorem ps_last {ps : List PT} {p : PT} (h : ps.getLast? = some p) : ps = ps.dropLast ++ [p] := by
  have hne : ps ≠ [] := by intro e; rw [e] at h; cases h
  rw [List.getLast?_eq_some_getLast hne] at h
  injection h with h
  rw [← h]
  exact (List.dropLast_concat_getLast hne).symm
theorem robOk_step {ps : List PT} (h : robOk ps) (l : List UInt8) : robOk (stepP ps l) := by
  have hag : ∀ a : List UInt8, agOk ⟨(agL a).toArray⟩ := fun a => ⟨(ag_ag a).1, (ag_ag a).2⟩
  unfold stepP
  split
  · exact h
  · split
    · unfold addAg
      cases hl : ps.getLast? with
      | none =>
        refine ⟨fun p hp => ?_, fun p hp => by cases hp⟩
        rw [List.mem_singleton.1 hp]
        exact ⟨by simp, fun a ha => by rw [List.mem_singleton.1 ha]; exact hag _, fun x hx => by cases hx⟩
      | some q =>
        have e := ps_last hl
        have hq := h.1 q (by rw [e]; simp)
        by_cases hln : q.ln.isEmpty = true
        · show robOk (if q.ln.isEmpty = true then _ else _)
          rw [if_pos hln]
          refine ⟨fun p hp => ?_, fun p hp => ?_⟩
          · rcases List.mem_append.1 hp with hp | hp
            · exact h.1 p ((List.dropLast_sublist ps).subset hp)
            · rw [List.mem_singleton.1 hp]
              refine ⟨by simp, fun a ha => ?_, hq.2.2⟩
              rcases List.mem_append.1 ha with ha | ha
              · exact hq.2.1 a ha
              · rw [List.mem_singleton.1 ha]; exact hag _
          · rw [List.dropLast_concat] at hp
            exact h.2 p hp
        · show robOk (if q.ln.isEmpty = true then _ else _)
          rw [if_neg hln]
          refine ⟨fun p hp => ?_, fun p hp => ?_⟩
          · rcases List.mem_append.1 hp with hp | hp
            · exact h.1 p hp
            · rw [List.mem_singleton.1 hp]
              exact ⟨by simp, fun a ha => by rw [List.mem_singleton.1 ha]; exact hag _, fun x hx => by cases hx⟩
          · rw [List.dropLast_concat] at hp
            rw [e] at hp
            rcases List.mem_append.1 hp with hp | hp
            · exact h.2 p hp
            · rw [List.mem_singleton.1 hp]
              intro e2
              rw [e2] at hln
              exact hln rfl
    · have hadd : ∀ b v, robOk (addLn ps b v) := fun b v => by
        unfold addLn
        cases hl : ps.getLast? with
        | none => exact h
        | some q =>
          have e := ps_last hl
          have hq := h.1 q (by rw [e]; simp)
          by_cases hv : v.isEmpty = true
          · show robOk (if v.isEmpty = true then _ else _)
            rw [if_pos hv]; exact h
          · show robOk (if v.isEmpty = true then _ else _)
            rw [if_neg hv]
            have hvn : v ≠ [] := fun e => hv (by rw [e]; rfl)
            refine ⟨fun p hp => ?_, fun p hp => ?_⟩
            · rcases List.mem_append.1 hp with hp | hp
              · exact h.1 p ((List.dropLast_sublist ps).subset hp)
              · rw [List.mem_singleton.1 hp]
                refine ⟨hq.1, hq.2.1, fun x hx => ?_⟩
                rcases List.mem_append.1 hx with hx | hx
                · exact hq.2.2 x hx
                · rw [List.mem_singleton.1 hx]
                  exact ⟨pat_pos hvn, pat_pat _, pat_chars _⟩
            · rw [List.dropLast_concat] at hp
              exact h.2 p hp
      split
      · exact hadd _ _
      · split
        · exact hadd _ _
        · exact h
theorem robOk_fold : ∀ (ls : List (List UInt8)) {ps : List PT}, robOk ps → robOk (ls.foldl stepP ps)
  | [], _, h => h
  | l :: ls, _, h => robOk_fold ls (robOk_step h l)
theorem rob_ok (l : List UInt8) : robOk (robL l) := robOk_fold _ robOk_nil

theorem spl_rows : ∀ {ls : List (List UInt8)}, (∀ x ∈ ls, ∀ c ∈ x, c ≠ 10) → spl 10 (ls.flatMap fun x => x ++ [10]) = ls ++ [[]]
  | [], _ => rfl
  | x :: ls, h => by
    rw [List.flatMap_cons, List.append_assoc, List.singleton_append, spl_app, spl_rows fun y hy => h y (List.mem_cons_of_mem _ hy), spl_none 10 fun c hc e => h x (by simp) c hc e]
    rfl
theorem noCr_same {l : List UInt8} (h : ∀ c ∈ l, c ≠ 13) : noCr l = l := by
  unfold noCr
  conv => rhs; rw [← List.map_id l]
  refine List.map_congr_left fun c hc => ?_
  rw [if_neg (h c hc)]
  rfl
/-- What a key's line is read az. -/
theorem line_read {k v : List UInt8} (hk : ∀ c ∈ k, c ≠ 35 ∧ c ≠ 58) (hkt : lowerL (Lib.trimS k blanks4) = k) (hv : ∀ c ∈ v, c ≠ 35) (hvt : Lib.trimS (32 :: v) blanks4 = v) :
    hasK (k ++ [58, 32] ++ v) = true ∧ keyL (k ++ [58, 32] ++ v) = k ∧ valL (k ++ [58, 32] ++ v) = v := by
  have h35 : headC 35 (k ++ [58, 32] ++ v) = k ++ [58, 32] ++ v := takeWhile_all fun c hc => by
    unfold notB
    rcases List.mem_append.1 hc with hc | hc
    · rcases List.mem_append.1 hc with hc | hc
      · simpa using (hk c hc).1
      · simp at hc
        rcases hc with rfl | rfl <;> rfl
    · simpa using hv c hc
  have hh : ∀ k r : List UInt8, (∀ c ∈ k, c ≠ 58) → headC 58 (k ++ 58 :: r) = k ∧ restC 58 (k ++ 58 :: r) = 58 :: r := by
    intro k r
    induction k with
    | nil => intro _; exact ⟨rfl, rfl⟩
    | cons a k ih =>
      intro h
      have ha : notB 58 a = true := by unfold notB; simpa using h a (by simp)
      obtain ⟨i1, i2⟩ := ih fun c hc => h c (by simp [hc])
      unfold headC at i1
      unfold restC at i2
      unfold headC restC
      rw [List.cons_append, List.takeWhile_cons, List.dropWhile_cons, if_pos ha, if_pos ha, i1, i2]
      exact ⟨rfl, rfl⟩
  obtain ⟨h1, h2⟩ := hh k (32 :: v) fun c hc => (hk c hc).2
  have e : k ++ [58, 32] ++ v = k ++ 58 :: 32 :: v := by simp
  rw [e] at h35
  unfold hasK keyL valL
  rw [e, h35, h1, h2]
  exact ⟨rfl, hkt, hvt⟩
theorem trim_lead {v : List UInt8} (h : ∀ c ∈ v, c ≠ 32 ∧ c ≠ 9 ∧ c ≠ 10 ∧ c ≠ 13) : Lib.trimS (32 :: v) blanks4 = v := by
  have hc : ∀ c ∈ v, blanks4.contains c = false := fun c hc => by
    obtain ⟨h1, h2, h3, h4⟩ := h c hc
    simp [blanks4, h1, h2, h3, h4]
  cases v with
  | nil => decide +kernel
  | cons x xs =>
    unfold Lib.trimS
    have e1 : Lib.trimRightS (32 :: x :: xs) blanks4 = 32 :: x :: xs := by
      have := Lib.trimRightS_take (32 :: x :: xs) blanks4 (32 :: x :: xs).length (Nat.le_refl _) (fun j y hj hy => by rw [List.getElem?_eq_none (by omega)] at hy; cases hy) (fun y h0 hy => by
        rw [show (32 :: x :: xs).length - 1 = xs.length + 1 by simp, List.getElem?_cons_succ] at hy
        exact hc y (List.mem_of_getElem? hy))
      rwa [List.take_length] at this
    rw [e1]
    have := Lib.trimLeftS_drop (32 :: x :: xs) blanks4 1 (by simp) (fun j y hj hy => by
      obtain rfl : j = 0 := by omega
      injection hy with hy
      rw [← hy]
      rfl) (fun y hy => by
      rw [List.getElem?_cons_succ] at hy
      exact hc y (List.mem_of_getElem? hy))
    rwa [List.drop_succ_cons, List.drop_zero] at this
theorem ag_line {a : ByteArray} (h : agOk a) : hasK (agT a) = true ∧ keyL (agT a) = keyU ∧ valL (agT a) = a.data.toList := by
  have hch : ∀ c ∈ a.data.toList, c.toNat ≠ 10 ∧ c.toNat ≠ 13 ∧ c.toNat ≠ 32 ∧ c.toNat ≠ 9 ∧ c.toNat ≠ 35 ∧ c.toNat ≠ 58 := fun c hc => by
    refine ag_chars c.toNat c.toNat_lt ?_
    rcases h.2 c hc with rfl | h
    · exact .inr rfl
    · exact .inl (by simpa using h)
  refine line_read (by decide) (by decide +kernel) (fun c hc e => (hch c hc).2.2.2.2.1 (by rw [e]; rfl)) (trim_lead fun c hc => ?_)
  have := hch c hc
  exact ⟨fun e => this.2.2.1 (by rw [e]; rfl), fun e => this.2.2.2.1 (by rw [e]; rfl), fun e => this.1 (by rw [e]; rfl), fun e => this.2.1 (by rw [e]; rfl)⟩
theorem ln_line {x : LV} (h : lnOk x) : hasK (lnT x) = true ∧ keyL (lnT x) = (if x.al = true then keyA else keyD) ∧ valL (lnT x) = x.pa.data.toList := by
  have hch : ∀ c ∈ x.pa.data.toList, c.toNat ≠ 10 ∧ c.toNat ≠ 13 ∧ c.toNat ≠ 32 ∧ c.toNat ≠ 9 ∧ c.toNat ≠ 35 := fun c hc => pa_chars c.toNat c.toNat_lt (by simpa using h.2.2 c hc)
  unfold lnT
  cases x.al with
  | true =>
    refine line_read (by decide) (by decide +kernel) (fun c hc e => (hch c hc).2.2.2.2 (by rw [e]; rfl)) (trim_lead fun c hc => ?_)
    have := hch c hc
    exact ⟨fun e => this.2.2.1 (by rw [e]; rfl), fun e => this.2.2.2.1 (by rw [e]; rfl), fun e => this.1 (by rw [e]; rfl), fun e => this.2.1 (by rw [e]; rfl)⟩
  | false =>
    refine line_read (by decide) (by decide +kernel) (fun c hc e => (hch c hc).2.2.2.2 (by rw [e]; rfl)) (trim_lead fun c hc => ?_)
    have := hch c hc
    exact ⟨fun e => this.2.2.1 (by rw [e]; rfl), fun e => this.2.2.2.1 (by rw [e]; rfl), fun e => this.1 (by rw [e]; rfl), fun e => this.2.1 (by rw [e]; rfl)⟩
theorem step_ag {ps : List PT} {a : ByteArray} (h : agOk a) : stepP ps (agT a) = addAg ps a.data.toList := by
  obtain ⟨h1, h2, h3⟩ := ag_line h
  unfold stepP
  rw [if_neg (by rw [h1]; decide), if_pos h2, h3, h.1]
theorem step_ln {ps : List PT} {x : LV} (h : lnOk x) : stepP ps (lnT x) = addLn ps x.al x.pa.data.toList := by
  obtain ⟨h1, h2, h3⟩ := ln_line h
  unfold stepP
  rw [if_neg (by rw [h1]; decide), h2, h3]
  cases x.al with
  | true => rw [if_pos rfl, if_neg (by decide), if_pos rfl]
  | false => rw [if_neg (show ¬ (false = true) by decide), if_neg (by decide), if_neg (by decide), if_pos rfl]
theorem arr_id (a : ByteArray) : (⟨a.data.toList.toArray⟩ : ByteArray) = a := ba_eq.2 (by simp)
/-- Names that come behind those of a part without lines. -/
theorem fold_ags : ∀ (az : List ByteArray) (qs : List PT) (bs : List ByteArray), (∀ a ∈ az, agOk a) → (az.map agT).foldl stepP (qs ++ [⟨bs, []⟩]) = qs ++ [⟨bs ++ az, []⟩]
  | [], qs, bs, _ => by simp
  | a :: az, qs, bs, h => by
    rw [List.map_cons, List.foldl_cons, step_ag (h a (by simp))]
    have e : addAg (qs ++ [⟨bs, []⟩]) a.data.toList = qs ++ [⟨bs ++ [a], []⟩] := by
      unfold addAg
      rw [List.getLast?_concat]
      show (if ([] : List LV).isEmpty = true then _ else _) = _
      rw [if_pos (show ([] : List LV).isEmpty = true from rfl), List.dropLast_concat, arr_id]
    rw [e, fold_ags az qs (bs ++ [a]) fun x hx => h x (by simp [hx])]
    simp
theorem fold_lns : ∀ (xs : List LV) (qs : List PT) (bs : List ByteArray) (ys : List LV), (∀ x ∈ xs, lnOk x) → (xs.map lnT).foldl stepP (qs ++ [⟨bs, ys⟩]) = qs ++ [⟨bs, ys ++ xs⟩]
  | [], qs, bs, ys, _ => by simp
  | x :: xs, qs, bs, ys, h => by
    have hx := h x (by simp)
    rw [List.map_cons, List.foldl_cons, step_ln hx]
    have e : addLn (qs ++ [⟨bs, ys⟩]) x.al x.pa.data.toList = qs ++ [⟨bs, ys ++ [x]⟩] := by
      unfold addLn
      rw [List.getLast?_concat]
      show (if x.pa.data.toList.isEmpty = true then _ else _) = _
      have hne : ¬ x.pa.data.toList.isEmpty = true := fun e => by
        have := hx.1
        rw [List.isEmpty_iff.1 e] at this
        simp at this
      rw [if_neg hne, List.dropLast_concat, hx.2.1, arr_id]
    rw [e, fold_lns xs qs bs (ys ++ [x]) fun y hy => h y (by simp [hy])]
    simp
theorem fold_part {p : PT} {qs : List PT} (h : ptOk p) (hq : ∀ q, qs.getLast? = some q → q.ln ≠ []) : (linesP p).foldl stepP qs = qs ++ [p] := by
  obtain ⟨h1, h2, h3⟩ := h
  obtain ⟨ag, ln⟩ := p
  cases ag with
  | nil => exact absurd rfl h1
  | cons a az =>
    unfold linesP
    rw [List.foldl_append]
    show (ln.map lnT).foldl stepP (((a :: az).map agT).foldl stepP qs) = _
    rw [List.map_cons, List.foldl_cons, step_ag (h2 a (by simp))]
    have e : addAg qs a.data.toList = qs ++ [⟨[a], []⟩] := by
      unfold addAg
      cases hl : qs.getLast? with
      | none =>
        have : qs = [] := by
          cases qs with
          | nil => rfl
          | cons q qs => rw [List.getLast?_cons] at hl; cases hl
        rw [this, arr_id]
        rfl
      | some q =>
        show (if q.ln.isEmpty = true then _ else _) = _
        rw [if_neg (fun e => hq q hl (List.isEmpty_iff.1 e)), arr_id]
    rw [e, fold_ags az qs [a] fun x hx => h2 x (by simp [hx]), fold_lns ln qs _ [] h3]
    simp
theorem fold_parts : ∀ (ps qs : List PT), (∀ p ∈ ps, ptOk p) → (∀ p ∈ ps.dropLast, p.ln ≠ []) → (∀ q, qs.getLast? = some q → ps ≠ [] → q.ln ≠ []) → (ps.flatMap linesP).foldl stepP qs = qs ++ ps
  | [], qs, _, _, _ => by simp
  | p :: ps, qs, h, hd, hq => by
    rw [List.flatMap_cons, List.foldl_append, fold_part (h p (by simp)) (fun q hl => hq q hl (by simp))]
    rw [fold_parts ps (qs ++ [p]) (fun x hx => h x (by simp [hx])) (fun x hx => hd x ?_) (fun q hl hne => ?_)]
    · simp
    · cases ps with
      | nil => cases hx
      | cons y ys => exact List.mem_cons_of_mem _ hx
    · rw [List.getLast?_concat] at hl
      injection hl with hl
      subst hl
      cases ps with
      | nil => exact absurd rfl hne
      | cons y ys => exact hd p (by simp)
/-- What is read of its own text is the same. -/
theorem rob_back {ps : List PT} (h : robOk ps) (hl : (robT ps).length ≤ 20000) : robL (robT ps) = ps := by
  have hch : ∀ x ∈ ps.flatMap linesP, ∀ c ∈ x, c ≠ 10 ∧ c ≠ 13 := fun x hx c hc => by
    obtain ⟨p, hp, hx⟩ := List.mem_flatMap.1 hx
    obtain ⟨_, h2, h3⟩ := h.1 p hp
    have hU : ∀ c ∈ keyU ++ [58, 32], c ≠ 10 ∧ c ≠ 13 := by decide
    have hA : ∀ c ∈ keyA ++ [58, 32], c ≠ 10 ∧ c ≠ 13 := by decide
    have hD : ∀ c ∈ keyD ++ [58, 32], c ≠ 10 ∧ c ≠ 13 := by decide
    unfold linesP at hx
    rcases List.mem_append.1 hx with hx | hx
    · obtain ⟨a, ha, rfl⟩ := List.mem_map.1 hx
      rcases List.mem_append.1 hc with hc | hc
      · exact hU c hc
      · have := ag_chars c.toNat c.toNat_lt (by
          rcases (h2 a ha).2 c hc with rfl | h
          · exact .inr rfl
          · exact .inl (by simpa using h))
        exact ⟨fun e => this.1 (by rw [e]; rfl), fun e => this.2.1 (by rw [e]; rfl)⟩
    · obtain ⟨y, hy, rfl⟩ := List.mem_map.1 hx
      rcases List.mem_append.1 hc with hc | hc
      · cases hal : y.al with
        | true => rw [hal] at hc; exact hA c hc
        | false => rw [hal] at hc; exact hD c hc
      · have := pa_chars c.toNat c.toNat_lt (by simpa using (h3 y hy).2.2 c hc)
        exact ⟨fun e => this.1 (by rw [e]; rfl), fun e => this.2.1 (by rw [e]; rfl)⟩
  unfold robL
  rw [List.take_of_length_le hl, noCr_same, robT, spl_rows fun x hx c hc => (hch x hx c hc).1, List.foldl_append, fold_parts ps [] h.1 h.2 (fun q hl => by cases hl)]
  · rfl
  · intro c hc
    unfold robT at hc
    obtain ⟨x, hx, hc⟩ := List.mem_flatMap.1 hc
    rcases List.mem_append.1 hc with hc | hc
    · exact (hch x hx c hc).2
    · rw [List.mem_singleton.1 hc]; decide
end Go.Proofs.YtjdnemjcjodboaaDoor
