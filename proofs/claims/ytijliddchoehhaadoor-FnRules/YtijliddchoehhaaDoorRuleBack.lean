/- Rules that are right come back of their text. -/
import Derived.Test.YtijliddchoehhaaDoorRows
import Derived.Test.YtijliddchoehhaaDoorRulePlain
import Derived.Test.YtijliddchoehhaaDoorFieldSpl
import Derived.Test.YtijliddchoehhaaDoorLowerWalk
import Derived.Test.YtijliddchoehhaaDoorTrimWalk
namespace Go.Proofs.YtijliddchoehhaaDoor
open Go.RowKit
set_option linter.unusedVariables false

/-- A line as it is read. -/
def lineT (x : ByteArray) : ByteArray := ⟨(lowerL (Lib.trimS x.data.toList blanks4)).toArray⟩
def passB (t : ByteArray) : Bool := decide (t.size = 0) || Lib.hasPrefix t.data.toList [47, 47]
def readR (t : ByteArray) : RV := if t.data.toList.head? = some 33 then ⟨partsL (t.extract 1 t.size), true⟩ else ⟨partsL t, false⟩
def parseF : List ByteArray → Nat → List RV → List RV × Int
  | [], _, acc => (acc, -1)
  | x :: xs, i, acc => if passB (lineT x) = true then parseF xs (i + 1) acc else if rulesB (acc ++ [readR (lineT x)]) = true then parseF xs (i + 1) (acc ++ [readR (lineT x)]) else ([], i)
/-- What is read of a text: rules and -1, or none and a line. -/
def parseR (s : ByteArray) : List RV × Int := parseF (fieldsL s 10) 0 []

theorem map_toL_inj : ∀ {a b : List ByteArray}, a.map toL = b.map toL → a = b
  | [], [], _ => rfl
  | [], _ :: _, h => by simp at h
  | _ :: _, [], h => by simp at h
  | x :: xs, y :: ys, h => by
    simp only [List.map_cons, List.cons.injEq] at h
    rw [toL_inj h.1, map_toL_inj h.2]
theorem fields_of {s : ByteArray} {b : UInt8} {fs : List ByteArray} (h : spl b s.data.toList = fs.map toL) : fieldsL s (b.toNat : Int) = fs := by
  have e := fieldsL_spl s b
  rw [h] at e
  exact map_toL_inj e
theorem jn_cons2 (b : UInt8) (x y : ByteArray) (ys : List ByteArray) : jn b (x :: y :: ys) = x.data.toList ++ b :: jn b (y :: ys) := by simp [jn]
theorem jn_spl {b : UInt8} : ∀ {ls : List ByteArray}, ls ≠ [] → (∀ x ∈ ls, ∀ c ∈ x.data.toList, c ≠ b) → spl b (jn b ls) = ls.map toL
  | [], h, _ => absurd rfl h
  | [x], _, h => by
    have e : jn b [x] = x.data.toList := by simp [jn]
    rw [e, spl_none b (h x (by simp))]
    rfl
  | x :: y :: ys, _, h => by
    rw [jn_cons2, spl_app, spl_none b (h x (by simp)), jn_spl (by simp) (fun z hz => h z (List.mem_cons_of_mem _ hz))]
    rfl
/-- The bytes of a rule's line. -/
def rchB (c : UInt8) : Bool := labB c || c == 46 || c == 42 || c == 33
def ruleH (r : RV) : List UInt8 := (if r.ex = true then [33] else []) ++ jn 46 r.ps.reverse
theorem ruleT_H (r : RV) : ruleT r = ruleH r ++ [10] := rfl
theorem part_chars {ex : Bool} {n i : Nat} {p : ByteArray} (h : partB ex n i p = true) : 0 < p.size ∧ ∀ c ∈ p.data.toList, c = 42 ∨ labB c = true := by
  unfold partB at h
  simp only [Bool.or_eq_true, Bool.and_eq_true, decide_eq_true_eq] at h
  have hs : p.data.toList.length = p.size := by simp
  rcases h with h | h
  · rw [h.1.1] at hs
    refine ⟨by simp at hs; omega, fun c hc => ?_⟩
    rw [h.1.1] at hc
    exact .inl (List.mem_singleton.1 hc)
  · obtain ⟨h1, _, _, _, h2⟩ := labL_parts h
    exact ⟨by omega, fun c hc => .inr (h2 c hc)⟩
theorem rule_parts {r : RV} (h : ruleB r = true) : r.ps ≠ [] ∧ ∀ p ∈ r.ps, 0 < p.size ∧ ∀ c ∈ p.data.toList, c = 42 ∨ labB c = true := by
  obtain ⟨⟨h1, _⟩, _, h3⟩ := ruleB_yes h
  refine ⟨fun e => by rw [e] at h1; simp at h1, fun p hp => ?_⟩
  obtain ⟨i, hi, rfl⟩ := List.getElem_of_mem hp
  have := h3 i hi
  rw [List.getD_eq_getElem?_getD, List.getElem?_eq_getElem hi] at this
  exact part_chars this
theorem jn_mem {b : UInt8} {ls : List ByteArray} {c : UInt8} (h : c ∈ jn b ls) : c = b ∨ ∃ x ∈ ls, c ∈ x.data.toList := by
  cases ls with
  | nil => cases h
  | cons x xs =>
    unfold jn at h
    rcases List.mem_append.1 h with h | h
    · exact .inr ⟨x, by simp, h⟩
    · obtain ⟨y, hy, h⟩ := List.mem_flatMap.1 h
      rcases List.mem_cons.1 h with h | h
      · exact .inl h
      · exact .inr ⟨y, List.mem_cons_of_mem _ hy, h⟩
theorem ruleH_chars {r : RV} (h : ruleB r = true) : ∀ c ∈ ruleH r, rchB c = true := by
  intro c hc
  unfold ruleH at hc
  unfold rchB
  simp only [Bool.or_eq_true, beq_iff_eq]
  rcases List.mem_append.1 hc with hc | hc
  · split at hc
    · exact .inr (List.mem_singleton.1 hc)
    · cases hc
  · rcases jn_mem hc with hc | ⟨x, hx, hc⟩
    · exact .inl (.inl (.inr hc))
    · rcases ((rule_parts h).2 x (by simpa using hx)).2 c hc with h1 | h1
      · exact .inl (.inr h1)
      · exact .inl (.inl (.inl h1))
theorem rch_all : ∀ n, n < 256 → rchB (UInt8.ofNat n) = true → n ≠ 10 ∧ n ≠ 32 ∧ n ≠ 9 ∧ n ≠ 13 ∧ n ≠ 47 ∧ ¬ (65 ≤ n ∧ n ≤ 90) := by decide +kernel
theorem rch_no {c : UInt8} (h : rchB c = true) : c.toNat ≠ 10 ∧ c.toNat ≠ 32 ∧ c.toNat ≠ 9 ∧ c.toNat ≠ 13 ∧ c.toNat ≠ 47 ∧ ¬ (65 ≤ c.toNat ∧ c.toNat ≤ 90) := rch_all c.toNat c.toNat_lt (by simpa using h)
theorem low_same {l : List UInt8} (h : ∀ c ∈ l, rchB c = true) : lowerL l = l := by
  unfold lowerL
  conv => rhs; rw [← List.map_id l]
  refine List.map_congr_left fun c hc => ?_
  unfold lowerC
  exact if_neg (rch_no (h c hc)).2.2.2.2.2
theorem trim_same {l : List UInt8} (h : ∀ c ∈ l, rchB c = true) : Lib.trimS l blanks4 = l := by
  have hb : ∀ c ∈ l, ¬ blanks4.contains c = true := fun c hc e => by
    have h1 := rch_no (h c hc)
    have h2 : c ∈ blanks4 := by simpa using e
    unfold blanks4 at h2
    simp only [List.mem_cons, List.not_mem_nil, or_false] at h2
    rcases h2 with rfl | rfl | rfl | rfl
    · exact h1.2.1 rfl
    · exact h1.2.2.1 rfl
    · exact h1.1 rfl
    · exact h1.2.2.2.1 rfl
  unfold Lib.trimS
  have e1 : Lib.trimRightS l blanks4 = l := by
    have := Lib.trimRightS_take l blanks4 l.length (Nat.le_refl _) (fun j x hj hx => by rw [List.getElem?_eq_none (by omega)] at hx; cases hx) (fun x h0 hx => by
      have := hb x (List.mem_of_getElem? hx)
      simpa using this)
    rwa [List.take_length] at this
  rw [e1]
  have := Lib.trimLeftS_drop l blanks4 0 (Nat.zero_le _) (fun j x hj hx => by omega) (fun x hx => by
    have := hb x (List.mem_of_getElem? hx)
    simpa using this)
  rwa [List.drop_zero] at this
theorem mk_size (l : List UInt8) : (⟨l.toArray⟩ : ByteArray).size = l.length := by
  show l.toArray.size = _
  rw [List.size_toArray]
theorem lineT_same {l : List UInt8} (h : ∀ c ∈ l, rchB c = true) : lineT ⟨l.toArray⟩ = ⟨l.toArray⟩ := by
  unfold lineT
  rw [show (⟨l.toArray⟩ : ByteArray).data.toList = l from rfl, trim_same h, low_same h]
theorem parts_back {ls : List ByteArray} (hne : ls ≠ []) (h : ∀ p ∈ ls, 0 < p.size ∧ ∀ c ∈ p.data.toList, c = 42 ∨ labB c = true) : partsL ⟨(jn 46 ls.reverse).toArray⟩ = ls ∧ 0 < (jn 46 ls.reverse).length ∧ (jn 46 ls.reverse).head? ≠ some 33 := by
  have hr : ls.reverse ≠ [] := by simpa using hne
  have hno : ∀ x ∈ ls.reverse, ∀ c ∈ x.data.toList, c ≠ 46 := fun x hx c hc e => by
    rcases (h x (by simpa using hx)).2 c hc with h1 | h1
    · rw [e] at h1; exact absurd h1 (by decide)
    · rw [e] at h1; exact absurd h1 (by decide)
  have hf := fields_of (s := ⟨(jn 46 ls.reverse).toArray⟩) (jn_spl hr hno)
  have hc : ∃ c r, jn 46 ls.reverse = c :: r ∧ (c = 42 ∨ labB c = true) := by
    cases hl : ls.reverse with
    | nil => exact absurd hl hr
    | cons x xs =>
      have hx : x ∈ ls := by
        have : x ∈ ls.reverse := by rw [hl]; simp
        simpa using this
      obtain ⟨h0, h1⟩ := h x hx
      cases hd : x.data.toList with
      | nil =>
        have : x.data.toList.length = x.size := by simp
        rw [hd] at this
        simp at this
        omega
      | cons c r =>
        refine ⟨c, r ++ xs.flatMap fun y => 46 :: y.data.toList, ?_, h1 c (by rw [hd]; simp)⟩
        show x.data.toList ++ xs.flatMap (fun y => 46 :: y.data.toList) = _
        rw [hd]
        rfl
  obtain ⟨c, r, e, hc⟩ := hc
  refine ⟨?_, by rw [e]; simp, ?_⟩
  · unfold partsL
    rw [if_neg (by rw [mk_size, e]; simp)]
    have : fieldsL ⟨(jn 46 ls.reverse).toArray⟩ 46 = ls.reverse := hf
    rw [this, List.reverse_reverse]
  · rw [e]
    intro h1
    simp only [List.head?_cons, Option.some.injEq] at h1
    rw [h1] at hc
    exact absurd hc (by decide)
theorem read_back {r : RV} (h : ruleB r = true) : passB ⟨(ruleH r).toArray⟩ = false ∧ readR ⟨(ruleH r).toArray⟩ = r := by
  obtain ⟨hne, hp⟩ := rule_parts h
  obtain ⟨h1, h2, h3⟩ := parts_back hne hp
  have hch := ruleH_chars h
  have hpos : 0 < (ruleH r).length := by unfold ruleH; rw [List.length_append]; omega
  constructor
  · unfold passB
    rw [mk_size, decide_eq_false (by omega)]
    show (false || Lib.hasPrefix (ruleH r) [47, 47]) = false
    cases hx : Lib.hasPrefix (ruleH r) [47, 47] with
    | false => rfl
    | true =>
      obtain ⟨t, ht⟩ := List.isPrefixOf_iff_prefix.1 hx
      have := hch 47 (by rw [← ht]; simp)
      exact absurd this (by decide)
  · unfold readR
    show (if (ruleH r).head? = some 33 then _ else _) = r
    unfold ruleH
    cases hex : r.ex with
    | true =>
      rw [if_pos rfl, if_pos (show (([33] : List UInt8) ++ jn 46 r.ps.reverse).head? = some (33 : UInt8) from rfl)]
      have e : (⟨([33] ++ jn 46 r.ps.reverse).toArray⟩ : ByteArray).extract 1 (⟨([33] ++ jn 46 r.ps.reverse).toArray⟩ : ByteArray).size = ⟨(jn 46 r.ps.reverse).toArray⟩ := by
        apply toL_inj
        unfold toL
        rw [drop_data]
        rfl
      rw [e, h1, ← hex]
    | false =>
      rw [if_neg (show ¬ (false = true) by decide), List.nil_append, if_neg h3, h1, ← hex]
theorem spl_lines : ∀ {l : List RV}, (∀ r ∈ l, ruleB r = true) → spl 10 (l.flatMap ruleT) = l.map ruleH ++ [[]]
  | [], _ => rfl
  | r :: l, h => by
    rw [List.flatMap_cons, ruleT_H, List.append_assoc, List.singleton_append, spl_app, spl_lines fun x hx => h x (List.mem_cons_of_mem _ hx), spl_none 10 fun c hc e => (rch_no (ruleH_chars (h r (by simp)) c hc)).1 (by rw [e]; rfl)]
    rfl
theorem rules_each {l : List RV} (h : rulesB l = true) : ∀ r ∈ l, ruleB r = true := by
  intro r hr
  obtain ⟨i, hi, rfl⟩ := List.getElem_of_mem hr
  unfold rulesB at h
  simp only [Bool.and_eq_true] at h
  have := all_range.1 h.1 i hi
  unfold newB at this
  simp only [Bool.and_eq_true] at this
  have h1 := this.1
  rwa [List.getD_eq_getElem?_getD, List.getElem?_eq_getElem hi] at h1
theorem parse_lines : ∀ (rs acc : List RV) (i : Nat), (∀ r ∈ rs, ruleB r = true) → (∀ k, rulesB (acc ++ rs.take k) = true) → parseF (rs.map (fun r => (⟨(ruleH r).toArray⟩ : ByteArray)) ++ [⟨#[]⟩]) i acc = (acc ++ rs, -1)
  | [], acc, i, _, _ => by
    show parseF [⟨#[]⟩] i acc = _
    rw [parseF, if_pos (by decide), parseF, List.append_nil]
  | r :: rs, acc, i, h, hk => by
    obtain ⟨h1, h2⟩ := read_back (h r (by simp))
    rw [List.map_cons, List.cons_append, parseF, lineT_same (ruleH_chars (h r (by simp))), if_neg (by rw [h1]; decide), h2]
    have e := hk 1
    rw [List.take_succ_cons, List.take_zero] at e
    rw [if_pos e, parse_lines rs (acc ++ [r]) (i + 1) (fun x hx => h x (List.mem_cons_of_mem _ hx)) (fun k => ?_)]
    · simp
    · have := hk (k + 1)
      rw [List.take_succ_cons] at this
      rw [List.append_assoc]
      exact this
/-- Rules that are right come back of their text. -/
theorem rules_back {l : List RV} (h : rulesB l = true) : parseR ⟨(rulesT l).toArray⟩ = (l, -1) := by
  unfold parseR rulesT
  rw [if_pos h]
  have hs : spl 10 (⟨(l.flatMap ruleT).toArray⟩ : ByteArray).data.toList = (l.map (fun r => (⟨(ruleH r).toArray⟩ : ByteArray)) ++ [(⟨#[]⟩ : ByteArray)]).map toL := by
    show spl 10 (l.flatMap ruleT) = _
    rw [spl_lines (rules_each h), List.map_append, List.map_map]
    rfl
  have hf : fieldsL ⟨(l.flatMap ruleT).toArray⟩ 10 = _ := fields_of hs
  rw [hf]
  exact parse_lines l [] 0 (rules_each h) fun k => rules_take h k
/-- What is read well is right. -/
theorem parseF_right : ∀ (xs : List ByteArray) (i : Nat) (acc : List RV), rulesB acc = true → (∃ l, parseF xs i acc = (l, -1) ∧ rulesB l = true) ∨ ∃ k : Nat, parseF xs i acc = ([], (k : Int))
  | [], i, acc, h => .inl ⟨acc, rfl, h⟩
  | x :: xs, i, acc, h => by
    rw [parseF]
    split
    · exact parseF_right xs (i + 1) acc h
    · split
      · next h2 => exact parseF_right xs (i + 1) _ h2
      · exact .inr ⟨i, rfl⟩
theorem parseR_right (s : ByteArray) : (∃ l, parseR s = (l, -1) ∧ rulesB l = true) ∨ ∃ k : Nat, parseR s = ([], (k : Int)) := parseF_right _ 0 [] (by decide)
theorem parse_ok (s : ByteArray) : rulesB (parseR s).1 = true := by
  rcases parseR_right s with ⟨l, h, hl⟩ | ⟨k, h⟩
  · rw [h]; exact hl
  · rw [h]; exact (by decide : rulesB [] = true)
end Go.Proofs.YtijliddchoehhaaDoor
