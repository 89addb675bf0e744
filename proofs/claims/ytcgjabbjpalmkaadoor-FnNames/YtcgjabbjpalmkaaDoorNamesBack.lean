/- Plain laws of names: a name's fields are its labels; a name's name is itself; its parts put together are it. -/
import Derived.Test.YtcgjabbjpalmkaaDoorRows
import Derived.Test.YtcgjabbjpalmkaaDoorNamesPlain
import Derived.Test.YtcgjabbjpalmkaaDoorPartsWalk
namespace Go.Proofs.YtcgjabbjpalmkaaDoor
open Go.RowKit

def noDot (l : List UInt8) : Prop := ∀ c ∈ l, c ≠ 46

theorem cut_eq : ∀ {a b r q : List UInt8}, noDot a → noDot b → (r = [] ∨ ∃ t, r = 46 :: t) → (q = [] ∨ ∃ t, q = 46 :: t) → a ++ r = b ++ q → a = b ∧ r = q
  | [], [], r, q, _, _, _, _, h => ⟨rfl, h⟩
  | [], y :: b, r, q, _, hb, hr, _, h => by
    exfalso
    rcases hr with rfl | ⟨t, rfl⟩
    · simp at h
    · simp at h
      exact hb y List.mem_cons_self h.1.symm
  | x :: a, [], r, q, ha, _, _, hq, h => by
    exfalso
    rcases hq with rfl | ⟨t, rfl⟩
    · simp at h
    · simp at h
      exact ha x List.mem_cons_self h.1
  | x :: a, y :: b, r, q, ha, hb, hr, hq, h => by
    simp only [List.cons_append, List.cons.injEq] at h
    obtain ⟨h1, h2⟩ := cut_eq (fun c hc => ha c (List.mem_cons_of_mem _ hc)) (fun c hc => hb c (List.mem_cons_of_mem _ hc)) hr hq h.2
    exact ⟨by rw [h.1, h1], h2⟩

theorem jn_cons (x y : ByteArray) (r : List ByteArray) : jn 46 (x :: y :: r) = x.data.toList ++ 46 :: jn 46 (y :: r) := by
  simp [jn]

theorem data_inj {x y : ByteArray} (h : x.data.toList = y.data.toList) : x = y := by
  apply ByteArray.ext
  exact Array.toList_inj.1 h

theorem jn_inj : ∀ {xs ys : List ByteArray}, xs ≠ [] → ys ≠ [] → (∀ x ∈ xs, noDot x.data.toList) → (∀ y ∈ ys, noDot y.data.toList) → jn 46 xs = jn 46 ys → xs = ys
  | [], _, h, _, _, _, _ => absurd rfl h
  | _ :: _, [], _, h, _, _, _ => absurd rfl h
  | [x], [y], _, _, _, _, h => by
    simp only [jn, List.flatMap_nil, List.append_nil] at h
    rw [data_inj h]
  | [x], y :: z :: r, _, _, hx, hy, h => by
    exfalso
    rw [jn_cons] at h
    have h' : x.data.toList ++ [] = y.data.toList ++ 46 :: jn 46 (z :: r) := by rw [← h]; simp [jn]
    obtain ⟨_, h2⟩ := cut_eq (hx x List.mem_cons_self) (hy y List.mem_cons_self) (.inl rfl) (.inr ⟨_, rfl⟩) h'
    cases h2
  | x :: z :: r, [y], _, _, hx, hy, h => by
    exfalso
    rw [jn_cons] at h
    have h' : x.data.toList ++ 46 :: jn 46 (z :: r) = y.data.toList ++ [] := by rw [h]; simp [jn]
    obtain ⟨_, h2⟩ := cut_eq (hx x List.mem_cons_self) (hy y List.mem_cons_self) (.inr ⟨_, rfl⟩) (.inl rfl) h'
    cases h2
  | x :: z :: r, y :: u :: q, _, _, hx, hy, h => by
    rw [jn_cons, jn_cons] at h
    obtain ⟨h1, h2⟩ := cut_eq (hx x List.mem_cons_self) (hy y List.mem_cons_self) (.inr ⟨_, rfl⟩) (.inr ⟨_, rfl⟩) h
    have h3 : jn 46 (z :: r) = jn 46 (u :: q) := by simpa using h2
    have h4 := jn_inj (by simp) (by simp) (fun a ha => hx a (List.mem_cons_of_mem _ ha)) (fun a ha => hy a (List.mem_cons_of_mem _ ha)) h3
    rw [data_inj h1, h4]

theorem fields_noDot (s : ByteArray) : ∀ k, k ≤ s.size → (fieldsTo s 46 k).2 ≤ k ∧ (∀ x ∈ (fieldsTo s 46 k).1, noDot x.data.toList) ∧ noDot ((s.data.toList.take k).drop (fieldsTo s 46 k).2)
  | 0, _ => by simp [fieldsTo, noDot]
  | k + 1, hk => by
    obtain ⟨h0, h1, h2⟩ := fields_noDot s k (by omega)
    by_cases e : (s[k].toNat : Int) = 46
    · rw [fieldsTo_hit s 46 k (by omega) e]
      refine ⟨Nat.le_refl _, fun x hx => ?_, ?_⟩
      · rcases List.mem_append.1 hx with h | h
        · exact h1 x h
        · rw [List.mem_singleton.1 h, extract_list]
          exact h2
      · simp only
        rw [List.drop_of_length_le (by rw [List.length_take]; omega)]
        intro c hc
        simp at hc
    · rw [fieldsTo_miss s 46 k (by omega) e]
      refine ⟨by omega, h1, ?_⟩
      rw [take_snoc s k (by omega), List.drop_append_of_le_length (by rw [List.length_take]; simp; omega)]
      intro c hc
      rcases List.mem_append.1 hc with h | h
      · exact h2 c h
      · rw [List.mem_singleton.1 h]
        intro h3
        apply e
        rw [h3]
        rfl

theorem fieldsL_noDot (s : ByteArray) : ∀ x ∈ fieldsL s 46, noDot x.data.toList := by
  obtain ⟨_, h1, h2⟩ := fields_noDot s s.size (Nat.le_refl _)
  intro x hx
  unfold fieldsL at hx
  rcases List.mem_append.1 hx with h | h
  · exact h1 x h
  · rw [List.mem_singleton.1 h, extract_list]
    exact h2

theorem lab_noDot {l : List UInt8} (h : labL l = true) : noDot l := fun c hc he => by
  have := labB_parts ((labL_parts h).2.2.2.2 c hc)
  rw [he] at this
  revert this
  decide

theorem fields_jn {ls : List ByteArray} (hne : ls ≠ []) (h : ∀ a ∈ ls, labL a.data.toList = true) : fieldsL ⟨(jn 46 ls).toArray⟩ 46 = ls := by
  refine jn_inj (by intro h0; have := fieldsL_pos ⟨(jn 46 ls).toArray⟩ 46; rw [h0] at this; simp at this) hne (fieldsL_noDot _) (fun x hx => lab_noDot (h x hx)) ?_
  exact fieldsL_join ⟨(jn 46 ls).toArray⟩ 46 (by decide) (by decide)

theorem dropE_labs {ls : List ByteArray} (h : ∀ a ∈ ls, labL a.data.toList = true) : dropE ls = ls := by
  unfold dropE
  refine if_neg fun hh => ?_
  have hl : ls.length - 1 < ls.length := by omega
  have hm : ls.getD (ls.length - 1) ByteArray.empty ∈ ls := by
    rw [List.getD_eq_getElem?_getD, List.getElem?_eq_getElem hl]
    exact List.getElem_mem hl
  have := (labL_parts (h _ hm)).1
  have e : (ls.getD (ls.length - 1) ByteArray.empty).data.toList.length = (ls.getD (ls.length - 1) ByteArray.empty).size := by simp
  omega

/-- What a right name is made of. -/
theorem name_back {s : ByteArray} {n : List UInt8} (h : nameL s = some n) : ∃ ls : List ByteArray, ls ≠ [] ∧ ls.length ≤ 253 ∧ n.length ≤ 253 ∧ (∀ a ∈ ls, labL a.data.toList = true ∧ a.size ≤ 63) ∧ n = jn 46 ls ∧
    nameL ⟨n.toArray⟩ = some n ∧ partsL ⟨n.toArray⟩ = ls.reverse ∧ 0 < n.length := by
  unfold nameL at h
  have hp := dropE_pos (fieldsL_pos s 46)
  generalize dropE (fieldsL s 46) = fs at h hp
  unfold namesL at h
  cases hr : ascs fs with
  | none => rw [hr] at h; cases h
  | some ls =>
    rw [hr] at h
    simp only at h
    split at h
    · rename_i hle
      cases h
      have hl := ascs_len hr
      have hne : ls ≠ [] := by intro h0; rw [h0] at hl; simp at hl; omega
      have hlab := ascs_labs hr
      have hlab1 : ∀ a ∈ ls, labL a.data.toList = true := fun a ha => (hlab a ha).1
      have hf := fields_jn hne hlab1
      have hpos : 0 < (jn 46 ls).length ∧ ls.length ≤ (jn 46 ls).length := by
        have key : ∀ ms : List ByteArray, ms.length ≤ (ms.flatMap fun y => (46 : UInt8) :: y.data.toList).length := by
          intro ms
          induction ms with
          | nil => simp
          | cons m ms ih => rw [List.flatMap_cons, List.length_append, List.length_cons, List.length_cons]; omega
        match ls, hne, hlab1 with
        | x :: xs, _, h1 =>
          have h2 := (labL_parts (h1 x List.mem_cons_self)).1
          have h3 := key xs
          unfold jn
          rw [List.length_append, List.length_cons]
          omega
      refine ⟨ls, hne, by omega, hle, fun a ha => ⟨hlab1 a ha, labs_size hlab a ha⟩, rfl, ?_, ?_, hpos.1⟩
      · unfold nameL
        rw [hf, dropE_labs hlab1]
        exact namesL_yes (ascs_self fun a ha => (hlab a ha).2) hle
      · unfold partsL
        rw [hf, if_neg]
        show ¬ (jn 46 ls).toArray.size = 0
        rw [List.size_toArray]
        omega
    · cases h

/-- One part more ahead. -/
theorem jn_part (ls : List ByteArray) (k : Nat) (hk : k < ls.length) : jn 46 (ls.drop (ls.length - (k + 1))) = (ls.reverse.getD k ByteArray.empty).data.toList ++ (if 0 < k then 46 :: jn 46 (ls.drop (ls.length - k)) else []) := by
  have hi : ls.length - (k + 1) < ls.length := by omega
  have e : ls.reverse.getD k ByteArray.empty = ls[ls.length - (k + 1)] := by
    rw [List.getD_eq_getElem?_getD, List.getElem?_eq_getElem (by rw [List.length_reverse]; exact hk), List.getElem_reverse]
    simp only [Option.getD_some]
    congr 1
    omega
  rw [List.drop_eq_getElem_cons hi, e]
  have e2 : ls.length - (k + 1) + 1 = ls.length - k := by omega
  rw [e2]
  by_cases h0 : 0 < k
  · rw [if_pos h0]
    have hj : ls.length - k < ls.length := by omega
    rw [List.drop_eq_getElem_cons hj, jn_cons]
  · rw [if_neg h0]
    have : k = 0 := by omega
    subst this
    simp [jn]
end Go.Proofs.YtcgjabbjpalmkaaDoor
