/- PunyLen, LabPlain, NamePlain, NamesPlain, EndWalk, GroupsText. -/
import Derived.Test.YtgmfkgeepecknaaGreatDoorQ10
import Derived.Lib.Join
set_option maxHeartbeats 4000000
set_option maxRecDepth 20000
namespace Go.Proofs.YtgmfkgeepecknaaGreatDoor
theorem num_len10 (bias : Nat) : ∀ (F f k q : Nat), q < 10 ^ f → (numF F k bias q).length ≤ f + 1
 | 0, f, k, q, _ => by simp [numF]
 | F + 1, f, k, q, h => by
  obtain ⟨l1, l2⟩ := lim_le k bias
  rw [numF]
  split
  ·simp
  next hq =>
  cases f with
  | zero => simp at h; omega
  | succ f =>
   have h1 : (q - limN k bias) / (36 - limN k bias) < 10 ^ f := by
    rw [Nat.div_lt_iff_lt_mul (by omega)]
    have h2 : 10 ^ f * 10 ≤ 10 ^ f * (36 - limN k bias) := Nat.mul_le_mul_left _ (by omega)
    rw [Nat.pow_succ] at h
    omega
   have := num_len10 bias F f (k + 36) _ h1
   rw [List.length_cons]
   omega
theorem codeV_len9 (basic : Nat) : ∀ (ds : List Nat) (h bias : Nat), (∀ d ∈ ds, d ≤ 67960831) → (codeV basic h bias ds).length ≤ 9 * ds.length
 | [], _, _, _ => by simp [codeV]
 | d :: ds, h, bias, hd => by
  have h1 := codeV_len9 basic ds (h + 1) (adaptN d (h + 1) (h == basic)) (fun x hx => hd x (List.mem_cons_of_mem _ hx))
  have h2 := num_len10 bias 28 8 36 d (by have := hd d (List.mem_cons_self ..); have : (10 : Nat) ^ 8 = 100000000 := (by decide); omega)
  show (numF 28 36 bias d ++ codeV basic (h + 1) (adaptN d (h + 1) (h == basic)) ds).length ≤ 9 * (d :: ds).length
  rw [List.length_append, List.length_cons]
  omega
theorem encC_600 {l : List Nat} (h : encOk l = true) : (encC l).length ≤ 600 := by
 obtain ⟨h1, h2⟩ := encOk_parts h
 have h3 := enc_count l h2 l.length 128 0
 have h4 := codeV_len9 (l.filter (· < 128)).length (encD l l.length 128 0 (l.filter (· < 128)).length) (l.filter (· < 128)).length 72 (enc_le l h1 h2 _ _ _ (by omega))
 have h5 := List.length_filter_le (fun x => decide (x < 128)) l
 unfold encC encV
 rw [List.length_append, List.length_append, List.length_map]
 have h6 : (if 0 < (l.filter (· < 128)).length then [45] else []).length ≤ 1 := by split <;> simp
 have h7 : (l.filter (· < 128)).length = 0 → (if 0 < (l.filter (· < 128)).length then [45] else []).length = 0 := fun h => by rw [if_neg (by omega)]; rfl
 omega
end Go.Proofs.YtgmfkgeepecknaaGreatDoor
namespace Go.Proofs.YtgmfkgeepecknaaGreatDoor
open Go.RowKit
def labB (c : UInt8) : Bool := decide (97 ≤ c.toNat ∧ c.toNat ≤ 122) || decide (48 ≤ c.toNat ∧ c.toNat ≤ 57) || decide (c.toNat = 45)
def labL (l : List UInt8) : Bool := decide (1 ≤ l.length) && decide (l.length ≤ 63) && decide (l.head? ≠ some 45) && decide (l.getLast? ≠ some 45) && l.all labB
theorem labL_parts {l : List UInt8} (h : labL l = true) : 1 ≤ l.length ∧ l.length ≤ 63 ∧ l.head? ≠ some 45 ∧ l.getLast? ≠ some 45 ∧ ∀ c ∈ l, labB c = true := by
 unfold labL at h
 simp only [Bool.and_eq_true, decide_eq_true_eq, List.all_eq_true] at h
 exact ⟨h.1.1.1.1, h.1.1.1.2, h.1.1.2, h.1.2, h.2⟩
theorem labL_of {l : List UInt8} (h1 : 1 ≤ l.length) (h2 : l.length ≤ 63) (h3 : l.head? ≠ some 45) (h4 : l.getLast? ≠ some 45) (h5 : ∀ c ∈ l, labB c = true) : labL l = true := by
 unfold labL
 simp only [Bool.and_eq_true, decide_eq_true_eq, List.all_eq_true]
 exact ⟨⟨⟨⟨h1, h2⟩, h3⟩, h4⟩, h5⟩
theorem labB_parts {c : UInt8} (h : labB c = true) : (97 ≤ c.toNat ∧ c.toNat ≤ 122) ∨ (48 ≤ c.toNat ∧ c.toNat ≤ 57) ∨ c.toNat = 45 := by
 unfold labB at h
 simp only [Bool.or_eq_true, decide_eq_true_eq] at h
 omega
theorem labB_yes {c : UInt8} {d : Nat} (hd : c.toNat = d) (h : (97 ≤ d ∧ d ≤ 122) ∨ (48 ≤ d ∧ d ≤ 57) ∨ d = 45) : labB c = true := by
 unfold labB
 simp only [Bool.or_eq_true, decide_eq_true_eq]
 omega
theorem head_at (s : ByteArray) (h : 0 < s.size) : s.data.toList.head? = some s[0] := by
 have hk : 0 < s.data.toList.length := by simpa using h
 rw [List.head?_eq_getElem?, List.getElem?_eq_getElem hk]
 rfl
theorem last_at (s : ByteArray) (h : 0 < s.size) : s.data.toList.getLast? = some (s[s.size - 1]'(by omega)) := by
 have hk : 0 < s.data.toList.length := by simpa using h
 rw [List.getLast?_eq_getElem?, List.getElem?_eq_getElem (by omega)]
 rfl
theorem lab_size (s : ByteArray) (h : ¬ (1 ≤ s.size ∧ s.size ≤ 63)) : labL s.data.toList = false := by
 refine Bool.eq_false_iff.2 fun hl => h ?_
 obtain ⟨h1, h2, _⟩ := labL_parts hl
 have e : s.data.toList.length = s.size := by simp
 omega
theorem lab_head (s : ByteArray) (h : 0 < s.size) (h0 : s[0].toNat = 45) : labL s.data.toList = false := by
 refine Bool.eq_false_iff.2 fun hl => ?_
 obtain ⟨_, _, h3, _⟩ := labL_parts hl
 exact h3 ((head_at s h).trans (congrArg some (UInt8.toNat_inj.1 (by simpa using h0))))
theorem lab_last (s : ByteArray) (h : 0 < s.size) (h0 : (s[s.size - 1]'(by omega)).toNat = 45) : labL s.data.toList = false := by
 refine Bool.eq_false_iff.2 fun hl => ?_
 obtain ⟨_, _, _, h3, _⟩ := labL_parts hl
 exact h3 ((last_at s h).trans (congrArg some (UInt8.toNat_inj.1 (by simpa using h0))))
theorem lab_byte (s : ByteArray) (k : Nat) (h : k < s.size) (h0 : ¬ ((97 ≤ s[k].toNat ∧ s[k].toNat ≤ 122) ∨ (48 ≤ s[k].toNat ∧ s[k].toNat ≤ 57) ∨ s[k].toNat = 45)) : labL s.data.toList = false := by
 refine Bool.eq_false_iff.2 fun hl => ?_
 obtain ⟨_, _, _, _, h3⟩ := labL_parts hl
 have hm : s[k] ∈ s.data.toList := by
  have : s[k] ∈ s.data := Array.getElem_mem _
  simpa using this
 exact h0 (labB_parts (h3 _ hm))
theorem lab_yes (s : ByteArray) (hr : 1 ≤ s.size ∧ s.size ≤ 63) (h0 : ¬ (s[0]'(by omega)).toNat = 45) (h1 : ¬ (s[s.size - 1]'(by omega)).toNat = 45) (h : ∀ c ∈ s.data.toList.take s.size, labB c = true) : labL s.data.toList = true := by
 have e : s.data.toList.length = s.size := by simp
 rw [take_all s s.size (Nat.le_refl _)] at h
 refine labL_of (by omega) (by omega) (fun hh => h0 ?_) (fun hh => h1 ?_) h
 ·rw [head_at s (by omega)] at hh
  have := Option.some.inj hh
  rw [this]; rfl
 rw [last_at s (by omega)] at hh
 have := Option.some.inj hh
 rw [this]; rfl
theorem lab_take (s : ByteArray) (k : Nat) (h : k < s.size) (d : Nat) (hd : s[k].toNat = d) (hc : (97 ≤ d ∧ d ≤ 122) ∨ (48 ≤ d ∧ d ≤ 57) ∨ d = 45) (h0 : ∀ c ∈ s.data.toList.take k, labB c = true) : ∀ c ∈ s.data.toList.take (k + 1), labB c = true := by
 intro c hm
 rw [take_snoc s k h] at hm
 rcases List.mem_append.1 hm with h2 | h2
 ·exact h0 c h2
 rw [List.mem_singleton.1 h2]
 exact labB_yes hd hc
theorem labIn_yes (x a b : Int) (w : World) (h1 : a ≤ x) (h2 : x ≤ b) :
  Calls Tryz.prog 36 #[.int .i64 x, .int .i64 a, .int .i64 b] w fun e w' => e = .returned (.bool true) ∧ w = w' := by
 go_enter Tryz.func36, Tryz.ntmps36
 go_wp2
 go_ret
 exact ⟨rfl, rfl⟩
theorem labIn_no (x a b : Int) (w : World) (h : x < a ∨ b < x) :
  Calls Tryz.prog 36 #[.int .i64 x, .int .i64 a, .int .i64 b] w fun e w' => e = .returned (.bool false) ∧ w = w' := by
 by_cases h1 : a ≤ x
 ·have h2 : ¬ x ≤ b := by omega
  clear h
  go_enter Tryz.func36, Tryz.ntmps36
  go_wp2
  go_ret
  exact ⟨ret_bool (by simp), rfl⟩
 have h2 : x < a := by omega
 clear h h1
 go_enter Tryz.func36, Tryz.ntmps36
 go_wp2
 go_ret
 exact ⟨rfl, rfl⟩
def xn : List UInt8 := [120, 110, 45, 45]
def isXn (l : List UInt8) : Bool := xn.isPrefixOf l
def nat8 (l : List UInt8) : List Nat := l.map UInt8.toNat
def okA (l : List UInt8) : Bool := labL l && (!(isXn l) || (decC (nat8 (l.drop 4))).isSome)
def asc1 (s : List UInt8) : Option (List UInt8) :=
 if asciiB s = true then some (lowerL s)
 else if (finR ⟨(lowerL s).toArray⟩).1 = s.length ∧ (finR ⟨(lowerL s).toArray⟩).2.length ≤ 60 then some (xn ++ b8 (encC ((finR ⟨(lowerL s).toArray⟩).2.map Int.toNat)))
 else none
def ascL (s : List UInt8) : Option (List UInt8) := match asc1 s with
 | some t => if okA t = true then some t else none
 | none => none
theorem lab_lower {l : List UInt8} (h : ∀ c ∈ l, labB c = true) : lowerL l = l := by
 unfold lowerL
 conv => rhs; rw [← List.map_id l]
 refine List.map_congr_left fun c hc => ?_
 have := labB_parts (h c hc)
 unfold lowerC
 rw [if_neg (by omega)]
 rfl
theorem lab_ascii {l : List UInt8} (h : ∀ c ∈ l, labB c = true) : asciiB l = true := by
 unfold asciiB
 rw [List.all_eq_true]
 intro c hc
 have := labB_parts (h c hc)
 exact decide_eq_true (by omega)
theorem okA_lab {t : List UInt8} (h : okA t = true) : labL t = true := by
 unfold okA at h
 simp only [Bool.and_eq_true] at h
 exact h.1
theorem ascL_ok {s t : List UInt8} (h : ascL s = some t) : okA t = true := by
 unfold ascL at h
 split at h
 ·split at h
  ·rename_i h1; cases h; exact h1
  cases h
 cases h
theorem ascL_of_ok {t : List UInt8} (h : okA t = true) : ascL t = some t := by
 obtain ⟨_, _, _, _, hb⟩ := labL_parts (okA_lab h)
 have e : asc1 t = some t := by
  unfold asc1
  rw [if_pos (lab_ascii hb), lab_lower hb]
 unfold ascL
 rw [e]
 exact if_pos h
theorem ascL_idem {s t : List UInt8} (h : ascL s = some t) : ascL t = some t := ascL_of_ok (ascL_ok h)
theorem ascL_lab {s t : List UInt8} (h : ascL s = some t) : labL t = true := okA_lab (ascL_ok h)
theorem encD_none (l : List Nat) : ∀ (f n d : Nat), (l.filter (· < n)).length = l.length → encD l f n d (l.filter (· < n)).length = []
 | 0, n, d, _ => by rw [encD]
 | f + 1, n, d, h => by
  rw [encD, if_neg (by omega)]
theorem xn_prefix {l : List UInt8} (h : isXn l = true) : l = xn ++ l.drop 4 := by
 unfold isXn at h
 obtain ⟨r, rfl⟩ := List.isPrefixOf_iff_prefix.1 h
 simp [xn]
theorem mem_nat8 {l : List UInt8} {x : Nat} (h : x ∈ nat8 l) : ∃ c ∈ l, c.toNat = x := by
 unfold nat8 at h
 obtain ⟨c, hc, rfl⟩ := List.mem_map.1 h
 exact ⟨c, hc, rfl⟩
theorem dec_lab {t : List UInt8} {l : List Nat} (hx : isXn t = true) (hl : labL t = true) (hd : decC (nat8 (t.drop 4)) = some l) :
  (∃ x ∈ l, 128 ≤ x) ∧ ∀ x ∈ l, ¬ (65 ≤ x ∧ x ≤ 90) := by
 obtain ⟨_, _, _, hlast, hb⟩ := labL_parts hl
 obtain ⟨hok, he⟩ := (dec_iff _ _).1 hd
 have ht := xn_prefix hx
 constructor
 ·apply Classical.byContradiction
  intro hno
  have hall : ∀ x ∈ l, x < 128 := fun x hx => by
   apply Classical.byContradiction
   intro h
   exact hno ⟨x, hx, by omega⟩
  have hf : l.filter (· < 128) = l := List.filter_eq_self.2 fun x hx => decide_eq_true (hall x hx)
  have hv : encV l = [] := by
   unfold encV
   rw [encD_none l l.length 128 0 (by rw [hf])]
   rw [codeV]
  unfold encC at he
  rw [hf, hv, List.map_nil, List.append_nil] at he
  by_cases h0 : 0 < l.length
  ·rw [if_pos h0] at he
   apply hlast
   have h2 : (nat8 (t.drop 4)).getLast? = some 45 := by rw [← he]; simp
   unfold nat8 at h2
   rw [List.getLast?_map] at h2
   cases h3 : (t.drop 4).getLast? with
   | none => rw [h3] at h2; cases h2
   | some c =>
    rw [h3] at h2
    have hc : c.toNat = 45 := by simpa using h2
    have hc' : c = 45 := UInt8.toNat_inj.1 (by simpa using hc)
    subst hc'
    rw [ht, List.getLast?_append, h3]
    rfl
  rw [if_neg h0] at he
  have h2 : nat8 (t.drop 4) = [] := by rw [← he, List.append_nil]; exact List.eq_nil_of_length_eq_zero (by omega)
  have h3 : t.drop 4 = [] := by unfold nat8 at h2; simpa using h2
  apply hlast
  rw [ht, h3]
  rfl
 intro x hxl hx2
 have hm : x ∈ encC l := by
  unfold encC
  rw [List.append_assoc]
  exact List.mem_append_left _ (List.mem_filter.2 ⟨hxl, decide_eq_true (by omega)⟩)
 rw [he] at hm
 obtain ⟨c, hc, hcx⟩ := mem_nat8 hm
 have := labB_parts (hb c (List.mem_of_mem_drop hc))
 omega
theorem low_size (s : ByteArray) : (⟨(lowerL s.data.toList).toArray⟩ : ByteArray).size = s.size := by
 show (lowerL s.data.toList).toArray.size = s.data.size
 rw [List.size_toArray, lowerL, List.length_map]
 rfl
theorem lower_ascii (l : List UInt8) : asciiB (lowerL l) = asciiB l := by
 unfold asciiB lowerL
 rw [List.all_map]
 congr 1
 funext c
 have h := lowerC_toNat c
 by_cases hc : 65 ≤ (c.toNat : Int) ∧ (c.toNat : Int) ≤ 90
 ·rw [if_pos hc] at h
  rw [Function.comp, decide_eq_decide]
  omega
 rw [if_neg hc] at h
 rw [Function.comp, decide_eq_decide]
 omega
theorem asc1_no {s : List UInt8} (h : asciiB s = false) (h2 : ¬ ((finR ⟨(lowerL s).toArray⟩).1 = s.length ∧ (finR ⟨(lowerL s).toArray⟩).2.length ≤ 60)) : ascL s = none := by
 unfold ascL asc1
 rw [if_neg (by rw [h]; decide), if_neg h2]
theorem asc1_yes {s : List UInt8} (h : asciiB s = false) (h2 : (finR ⟨(lowerL s).toArray⟩).1 = s.length ∧ (finR ⟨(lowerL s).toArray⟩).2.length ≤ 60) :
  ascL s = if okA (xn ++ b8 (encC ((finR ⟨(lowerL s).toArray⟩).2.map Int.toNat))) = true then some (xn ++ b8 (encC ((finR ⟨(lowerL s).toArray⟩).2.map Int.toNat))) else none := by
 unfold ascL asc1
 rw [if_neg (by rw [h]; decide), if_pos h2]
theorem asc1_ascii {s : List UInt8} (h : asciiB s = true) : ascL s = if okA (lowerL s) = true then some (lowerL s) else none := by
 unfold ascL asc1
 rw [if_pos h]
def ansS (r : Option (List UInt8)) : Value := match r with
 | some t => .tuple #[.string ⟨t.toArray⟩, .bool true]
 | none => .tuple #[.string ⟨#[]⟩, .bool false]
def ascB (s : ByteArray) : Option ByteArray := match ascL s.data.toList with
 | some t => some ⟨t.toArray⟩
 | none => none
def ascs : List ByteArray → Option (List ByteArray)
 | [] => some []
 | s :: r => match ascB s, ascs r with
  | some a, some b => some (a :: b)
  | _, _ => none
def namesL (fs : List ByteArray) : Option (List UInt8) := match ascs fs with
 | some ls => if (jn 46 ls).length ≤ 253 then some (jn 46 ls) else none
 | none => none
def nameL (s : ByteArray) : Option (List UInt8) := namesL (dropE (fieldsL s 46))
theorem ascs_append (a b : List ByteArray) : ascs (a ++ b) = match ascs a, ascs b with
  | some x, some y => some (x ++ y)
  | _, _ => none := by
 induction a with
 | nil =>
  simp only [List.nil_append, ascs]
  cases ascs b <;> rfl
 | cons s r ih =>
  simp only [List.cons_append, ascs, ih]
  cases ascB s <;> cases ascs r <;> cases ascs b <;> rfl
theorem ascs_len : ∀ {fs ls : List ByteArray}, ascs fs = some ls → ls.length = fs.length
 | [], ls, h => by cases h; rfl
 | s :: r, ls, h => by
  rw [ascs] at h
  cases h1 : ascB s with
  | none => rw [h1] at h; cases h
  | some a =>
   cases h2 : ascs r with
   | none => rw [h1, h2] at h; cases h
   | some b =>
    rw [h1, h2] at h
    cases h
    rw [List.length_cons, List.length_cons, ascs_len h2]
theorem ascs_mem : ∀ {fs ls : List ByteArray}, ascs fs = some ls → ∀ a ∈ ls, ∃ s ∈ fs, ascB s = some a
 | [], ls, h => by cases h; intro a ha; simp at ha
 | s :: r, ls, h => by
  rw [ascs] at h
  cases h1 : ascB s with
  | none => rw [h1] at h; cases h
  | some x =>
   cases h2 : ascs r with
   | none => rw [h1, h2] at h; cases h
   | some b =>
    rw [h1, h2] at h
    cases h
    intro a ha
    rcases List.mem_cons.1 ha with rfl | hb
    ·exact ⟨s, List.mem_cons_self, h1⟩
    obtain ⟨q, hq, e⟩ := ascs_mem h2 a hb
    exact ⟨q, List.mem_cons_of_mem _ hq, e⟩
theorem ascB_lab {s a : ByteArray} (h : ascB s = some a) : labL a.data.toList = true ∧ ascB a = some a := by
 unfold ascB at h
 cases hs : ascL s.data.toList with
 | none => rw [hs] at h; cases h
 | some t =>
  rw [hs] at h
  cases h
  refine ⟨ascL_lab hs, ?_⟩
  unfold ascB
  rw [show (⟨t.toArray⟩ : ByteArray).data.toList = t from rfl, ascL_idem hs]
theorem ascs_labs {fs ls : List ByteArray} (h : ascs fs = some ls) : ∀ a ∈ ls, labL a.data.toList = true ∧ ascB a = some a := fun a ha => by
 obtain ⟨s, _, e⟩ := ascs_mem h a ha
 exact ascB_lab e
theorem ascs_self : ∀ {ls : List ByteArray}, (∀ a ∈ ls, ascB a = some a) → ascs ls = some ls
 | [], _ => rfl
 | a :: r, h => by
  rw [ascs, h a List.mem_cons_self, ascs_self fun b hb => h b (List.mem_cons_of_mem _ hb)]
theorem jn_le (sep : UInt8) (a b : List ByteArray) : (jn sep a).length ≤ (jn sep (a ++ b)).length := by
 cases a with
 | nil => simp [jn]
 | cons x xs => simp [jn, List.flatMap_append]
theorem flat_bound (sep : UInt8) : ∀ (ys : List ByteArray), (∀ a ∈ ys, a.size ≤ 63) → (ys.flatMap fun y => sep :: y.data.toList).length ≤ 64 * ys.length
 | [], _ => by simp
 | y :: ys, hh => by
  have h2 := hh y List.mem_cons_self
  have hy : y.data.toList.length = y.size := by simp
  have h3 := flat_bound sep ys fun a ha => hh a (List.mem_cons_of_mem _ ha)
  rw [List.flatMap_cons, List.length_append, List.length_cons, List.length_cons]
  omega
theorem jn_bound (sep : UInt8) (ls : List ByteArray) (h : ∀ a ∈ ls, a.size ≤ 63) : (jn sep ls).length ≤ 64 * ls.length := by
 cases ls with
 | nil => simp [jn]
 | cons x xs =>
  have h1 := h x List.mem_cons_self
  have hx : x.data.toList.length = x.size := by simp
  have h3 := flat_bound sep xs fun a ha => h a (List.mem_cons_of_mem _ ha)
  unfold jn
  rw [List.length_append, List.length_cons]
  omega
theorem jn_join (ls : List ByteArray) : Lib.join (ls.map (·.data.toList)) [46] = jn 46 ls := by
 cases ls with
 | nil => rfl
 | cons x xs =>
  unfold jn
  induction xs generalizing x with
  | nil => simp [Lib.join, List.intercalate]
  | cons y ys ih =>
   have h := ih y
   simp only [Lib.join, List.intercalate, List.map_cons] at h ⊢
   rw [List.intersperse_cons_cons, List.flatten_cons, List.flatten_cons, h, List.flatMap_cons]
   simp
theorem labs_size {ls : List ByteArray} (h : ∀ a ∈ ls, labL a.data.toList = true ∧ ascB a = some a) : ∀ a ∈ ls, a.size ≤ 63 := fun a ha => by
 have := (labL_parts (h a ha).1).2.1
 simpa using this
theorem namesL_no {fs : List ByteArray} (h : ascs fs = none) : namesL fs = none := by unfold namesL; rw [h]
theorem namesL_big {fs ls : List ByteArray} (h : ascs fs = some ls) (h2 : ¬ (jn 46 ls).length ≤ 253) : namesL fs = none := by unfold namesL; rw [h]; exact if_neg h2
theorem namesL_yes {fs ls : List ByteArray} (h : ascs fs = some ls) (h2 : (jn 46 ls).length ≤ 253) : namesL fs = some (jn 46 ls) := by unfold namesL; rw [h]; exact if_pos h2
def endT (s : ByteArray) : Bool := if hxA s = true then alD 16 (s.extract 2 s.size).data.toList else if s.size = 0 then false else alD 10 s.data.toList
def lastF (s : ByteArray) : ByteArray := s.extract (fieldsTo s 46 s.size).2 s.size
def endL (s : ByteArray) : Bool := endT (lastF s)
theorem lastF_size (s : ByteArray) : (lastF s).size ≤ s.size := by
 unfold lastF
 rw [ByteArray.size_extract]
 omega
theorem lastF_at (s : ByteArray) : (fieldsL s 46).getD ((fieldsL s 46).length - 1) ByteArray.empty = lastF s := by
 unfold fieldsL
 rw [List.length_append, List.length_singleton, Nat.add_sub_cancel, List.getD_eq_getElem?_getD, List.getElem?_append_right (Nat.le_refl _)]
 simp [lastF]
theorem lastF_spl (s : ByteArray) (p tl : List UInt8) (h : s.data.toList = p ++ tl) (hp : p = [] ∨ ∃ q, p = q ++ [46]) (ht : ∀ c ∈ tl, c ≠ 46) : (lastF s).data.toList = tl := by
 have h1 := fieldsL_46 s
 have h2 : ∃ xs, spl 46 s.data.toList = xs ++ [tl] := by
  rw [h]
  rcases hp with rfl | ⟨q, rfl⟩
  ·exact ⟨[], by rw [List.nil_append, spl_none 46 ht]; rfl⟩
  refine ⟨spl 46 q, ?_⟩
  rw [List.append_assoc, List.singleton_append, spl_app, spl_none 46 ht]
 obtain ⟨xs, h2⟩ := h2
 rw [h2] at h1
 unfold fieldsL at h1
 rw [List.map_append, List.map_cons, List.map_nil] at h1
 have h3 := (List.append_inj' h1 rfl).2
 exact (List.cons.inj h3).1
theorem last_dot (s : ByteArray) : ∃ b : Nat, b ≤ s.size ∧ Lib.lastIndexByte s 46 + 1 = (b : Int) ∧ s.extract b s.size = lastF s := by
 have key : ∃ b : Nat, b ≤ s.size ∧ Lib.lastIndexByte s 46 + 1 = (b : Int) ∧ (s.data.toList.take b = [] ∨ ∃ q, s.data.toList.take b = q ++ [46]) ∧ ∀ c ∈ s.data.toList.drop b, c ≠ 46 := by
  rcases Lib.lastIndexByte_spec s 46 with ⟨h1, h2⟩ | ⟨i, h0, h1, h2, h3⟩
  ·refine ⟨0, Nat.zero_le _, by rw [h1]; rfl, .inl (by simp), ?_⟩
   intro c hc e
   rw [List.drop_zero] at hc
   obtain ⟨j, hj, rfl⟩ := List.getElem_of_mem hc
   have hj' : j < s.size := by simpa using hj
   apply h2 j hj'
   rw [getElem!_pos s.data j hj']
   have : s.data[j] = 46 := by simpa using e
   rw [this]; rfl
  refine ⟨i + 1, h0, by rw [h1]; simp, .inr ⟨s.data.toList.take i, ?_⟩, ?_⟩
  ·rw [take_snoc s i h0]
   congr 2
   apply u8_is
   rw [getElem!_pos s.data i h0] at h2
   show s.data[i].toNat = 46
   omega
  intro c hc e
  obtain ⟨j, hj, rfl⟩ := List.getElem_of_mem hc
  rw [List.length_drop] at hj
  have hj' : i + 1 + j < s.size := by simp at hj; omega
  apply h3 (i + 1 + j) (by omega) hj'
  rw [getElem!_pos s.data _ hj']
  have : s.data[i + 1 + j] = 46 := by simpa using e
  rw [this]; rfl
 obtain ⟨b, h1, h2, h3, h4⟩ := key
 refine ⟨b, h1, h2, toL_inj ?_⟩
 show (s.extract b s.size).data.toList = (lastF s).data.toList
 rw [lastF_spl s _ _ (List.take_append_drop b _).symm h3 h4, extract_list, take_all s s.size (Nat.le_refl _)]
theorem implEndsInNumber (s : ByteArray) (w : World) (hs : s.size ≤ 1048576) :
  Calls Tryz.prog 239 #[.string s] w fun e w' => e = .returned (.bool (endL s)) ∧ w = w' := by
 obtain ⟨b, hb, hlb, he⟩ := last_dot s
 have CL : Hid (∀ W, CS 184 #[.string s, .int .u8 46] W (.int .i64 (Lib.lastIndexByte s 46))) := fun W => (Tryz.strings_LastIndexByte s 46 (by omega) W).mono fun e w' h => ⟨h.1, h.2.symm⟩
 have hl0 : Lib.lastIndexByte s 46 = (b : Int) - 1 := by omega
 rw [hl0] at CL
 have hbi : (b : Int) ≤ (s.size : Int) := by omega
 have HT : Hid (endL s = endT (s.extract b s.size)) := by
  show _ = _
  rw [he]
  rfl
 have hts : (s.extract b s.size).size ≤ 1048576 := by rw [ByteArray.size_extract]; omega
 clear hlb hl0 he
 go_enter Tryz.func239, Tryz.ntmps239
 go_wp2_with fail
 refine (CL.out _).mono ?_
 rintro e w' ⟨rfl, rfl⟩
 go_wp2_with fail
 generalize s.extract b s.size = t at HT hts ⊢
 have CP : Hid (∀ W, CS 255 #[.string t] W (.bool (hxA t))) := fun W => implHexAhead t W
 cases hx : hxA t with
 | true =>
  have h2 : 1 < t.size := by
   have h := of_decide_eq_true hx
   exact h.1
  have HZ : Hid (endT t = alD 16 (t.extract 2 t.size).data.toList) := by
   show _ = _
   unfold endT
   rw [if_pos hx]
  have CD : Hid (∀ W, CS 219 #[.string (t.extract 2 t.size), .int .i64 16] W (.bool (alD 16 (t.extract 2 t.size).data.toList))) := fun W => implDigitsAlone _ 16 W (by rw [ByteArray.size_extract]; omega)
  generalize alD 16 (t.extract 2 t.size).data.toList = R at HZ CD
  rw [hx] at CP
  clear hx
  refine (CP.out _).mono ?_
  rintro e w' ⟨rfl, rfl⟩
  go_wp2_with fail
  refine (CD.out _).mono ?_
  rintro e w' ⟨rfl, rfl⟩
  go_wp2_with fail
  go_ret
  exact ⟨by rw [HT.out, HZ.out]; rfl, rfl⟩
 | false =>
  rw [hx] at CP
  by_cases h0 : t.size = 0
  ·have HZ : Hid (endT t = false) := by
    show _ = _
    unfold endT
    rw [hx, if_neg (by decide), if_pos h0]
   have hem := empty_yes h0
   clear hx h0
   refine (CP.out _).mono ?_
   rintro e w' ⟨rfl, rfl⟩
   go_wp2_with fail
   go_ret
   exact ⟨by rw [HT.out, HZ.out]; rfl, rfl⟩
  have HZ : Hid (endT t = alD 10 t.data.toList) := by
   show _ = _
   unfold endT
   rw [hx, if_neg (by decide), if_neg h0]
  have hem := empty_no (by omega : 0 < t.size)
  have CD : Hid (∀ W, CS 219 #[.string t, .int .i64 10] W (.bool (alD 10 t.data.toList))) := fun W => implDigitsAlone _ 10 W hts
  clear hx h0
  refine (CP.out _).mono ?_
  rintro e w' ⟨rfl, rfl⟩
  go_wp2_with fail
  refine (CD.out _).mono ?_
  rintro e w' ⟨rfl, rfl⟩
  go_wp2_with fail
  go_ret
  exact ⟨by rw [HT.out, HZ.out]; rfl, rfl⟩
theorem alD16_drop (s : ByteArray) (k : Nat) (h : k < s.size) : alD 16 (s.data.toList.drop k) = (decide (0 ≤ hexN s[k].toNat) && alD 16 (s.data.toList.drop (k + 1))) := by
 rw [alD_drop s k h]
 congr 1
 have := (hexN_le s[k].toNat).2
 refine decide_eq_decide.2 ⟨fun h => h.1, fun h => ⟨h, ?_⟩⟩
 omega
theorem specAll6 (s : ByteArray) (w : World) (hs : s.size ≤ 1048576) :
  Calls Tryz.prog 117 #[.string s] w fun e w' => e = .returned (.bool (alD 16 s.data.toList)) ∧ w = w' := by
 go_enter Tryz.func117, Tryz.ntmps117
 go_wp2
 go_loop [3] (fun i => ∃ k : Nat, k ≤ s.size ∧ i = .int .i64 k ∧ alD 16 (s.data.toList.drop k) = alD 16 s.data.toList) (fun i => s.size - (intOf i).toNat)
 case atStart => exact ⟨0, Nat.zero_le _, rfl, rfl⟩
 obtain ⟨k, hk, rfl, hf⟩ := hrel
 have HR : Hid (alD 16 (s.data.toList.drop k) = alD 16 s.data.toList) := hf
 clear hf
 by_cases hlt : k < s.size
 ·obtain ⟨d, hd⟩ : ∃ d : Nat, s[k].toNat = d := ⟨_, rfl⟩
  have hd1 : (d : Int) ≤ 255 := by have := s[k].toNat_lt; omega
  have HD : Hid (alD 16 (s.data.toList.drop k) = (decide (0 ≤ hexN d) && alD 16 (s.data.toList.drop (k + 1)))) := by
   show _ = _
   rw [alD16_drop s k hlt, hd]
  obtain ⟨hx1, hx2⟩ := hexN_le d
  have CH : Hid (∀ W, CS 99 #[.int .u8 (d : Int)] W (.int .i64 (hexN d))) := fun W => specHex d W hd1
  generalize hexN d = x at HD CH hx1 hx2
  have hki : (k : Int) < (s.size : Int) := by omega
  by_cases hx0 : x < 0
  ·have HZ : Hid (alD 16 s.data.toList = false) := by
    show _ = _
    rw [← HR.out, HD.out, decide_eq_false (by omega)]
    rfl
   go_wp2_with fail
   refine (CH.out _).mono ?_
   rintro e w' ⟨rfl, rfl⟩
   go_wp2_with fail
   go_ret
   exact ⟨by rw [HZ.out]; rfl, rfl⟩
  have HZ : Hid (alD 16 (s.data.toList.drop (k + 1)) = alD 16 s.data.toList) := by
   show _ = _
   rw [← HR.out, HD.out, decide_eq_true (by omega)]
   rfl
  go_wp2_with fail
  refine (CH.out _).mono ?_
  rintro e w' ⟨rfl, rfl⟩
  go_wp2_with fail
  go_round
  case rel => exact ⟨k + 1, by omega, by go_num, HZ.out⟩
  case measure => simp [intOf]; omega
 have HZ : Hid (alD 16 s.data.toList = true) := by
  show _ = _
  rw [← HR.out, List.drop_of_length_le (by simp; omega)]
  rfl
 have hki : ¬ (k : Int) < (s.size : Int) := by omega
 go_wp2_with fail
 go_ret
 exact ⟨by rw [HZ.out]; rfl, rfl⟩
theorem alD10_drop (s : ByteArray) (k : Nat) (h : k < s.size) : alD 10 (s.data.toList.drop k) = (decide (48 ≤ s[k].toNat ∧ s[k].toNat ≤ 57) && alD 10 (s.data.toList.drop (k + 1))) := by
 rw [alD_drop s k h]
 congr 1
 have := s[k].toNat_lt
 generalize s[k].toNat = c at this
 refine decide_eq_decide.2 ?_
 unfold hexN
 split
 ·omega
 split
 ·omega
 split <;> omega
theorem specEndsInNumber (s : ByteArray) (w : World) (hs : s.size ≤ 1048576) :
  Calls Tryz.prog 73 #[.string s] w fun e w' => e = .returned (.bool (endL s)) ∧ Below w.heap.size w w' := by
 have CF : Hid (Calls Tryz.prog 79 #[.string s, .int .u8 46] w fun e w' => ∃ v, e = .returned v ∧ w'.ownsRow w.heap.size 9 1 v (fieldsL s 46).length (scells (fieldsL s 46)) ∧ Below w.heap.size w w') := specFields s 46 w hs
 have hpos : 0 < (fieldsL s 46).length := by simp [fieldsL]
 have hlen : (fieldsL s 46).length ≤ 1048577 := by
  have := (fieldsTo_le s 46 s.size).2
  simp [fieldsL]; omega
 have hL : (fieldsL s 46).getD ((fieldsL s 46).length - 1) ByteArray.empty = lastF s := lastF_at s
 have hts : (lastF s).size ≤ 1048576 := Nat.le_trans (lastF_size s) hs
 have HT : Hid (endL s = endT (lastF s)) := rfl
 generalize lastF s = t at hL hts HT
 generalize fieldsL s 46 = fs at CF hpos hlen hL
 go_enter Tryz.func73, Tryz.ntmps73
 go_wp2_with fail
 refine CF.out.mono ?_
 rintro e wa ⟨va, rfl, oa, ba⟩
 rcases own_shape oa with ⟨h, _⟩ | ⟨_, g, cap, rfl⟩
 ·omega
 have hc := scell_at oa (fs.length - 1) (by omega)
 rw [hL] at hc
 have hi : ((fs.length : Int) - 1) = ((fs.length - 1 : Nat) : Int) := by omega
 clear oa hL
 cases hx : hxA t with
 | true =>
  obtain ⟨h2, h48, hxx⟩ := of_decide_eq_true hx
  have HZ : Hid (endT t = alD 16 (t.extract 2 t.size).data.toList) := by
   show _ = _
   unfold endT
   rw [if_pos hx]
  have CD : Hid (∀ W, CS 117 #[.string (t.extract 2 t.size)] W (.bool (alD 16 (t.extract 2 t.size).data.toList))) := fun W => specAll6 _ W (by rw [ByteArray.size_extract]; omega)
  generalize alD 16 (t.extract 2 t.size).data.toList = R at HZ CD
  have h1' : 1 < (t.size : Int) := by omega
  obtain ⟨c, hcc⟩ : ∃ c : Nat, t[1].toNat = c := ⟨_, rfl⟩
  rw [hcc] at hxx
  clear hx
  rcases hxx with rfl | rfl
  ·go_wp2_with fail
   refine (CD.out _).mono ?_
   rintro e w' ⟨rfl, rfl⟩
   go_wp2_with fail
   go_ret
   exact ⟨by rw [HT.out, HZ.out]; rfl, ba⟩
  go_wp2_with fail
  refine (CD.out _).mono ?_
  rintro e w' ⟨rfl, rfl⟩
  go_wp2_with fail
  go_ret
  exact ⟨by rw [HT.out, HZ.out]; rfl, ba⟩
 | false =>
  have HZ : Hid (endT t = if t.size = 0 then false else alD 10 t.data.toList) := by
   show _ = _
   unfold endT
   rw [hx, if_neg (by decide)]
  have hno := of_decide_eq_false hx
  clear hx
  by_cases h2 : 1 < t.size
  ·have h1' : 1 < (t.size : Int) := by omega
   obtain ⟨d, hd⟩ : ∃ d : Nat, t[0].toNat = d := ⟨_, rfl⟩
   by_cases hd0 : d = 48
   ·obtain ⟨c, hcc⟩ : ∃ c : Nat, t[1].toNat = c := ⟨_, rfl⟩
    have q1 : ((c : Int) == 120) = false := beq_eq_false_iff_ne.2 (fun e => hno ⟨h2, by omega, .inl (by omega)⟩)
    have q2 : ((c : Int) == 88) = false := beq_eq_false_iff_ne.2 (fun e => hno ⟨h2, by omega, .inr (by omega)⟩)
    subst hd0
    clear hno
    go_wp2_with fail
    clear q1 q2 hd hcc hc hi
    go_loop [5] (fun i => ∃ k : Nat, k ≤ t.size ∧ i = .int .i64 k ∧ alD 10 (t.data.toList.drop k) = alD 10 t.data.toList) (fun i => t.size - (intOf i).toNat)
    case atStart => exact ⟨0, Nat.zero_le _, rfl, rfl⟩
    obtain ⟨k, hk, rfl, hf⟩ := hrel
    have HR : Hid (alD 10 (t.data.toList.drop k) = alD 10 t.data.toList) := hf
    clear hf
    by_cases hlt : k < t.size
    ·obtain ⟨y, hy⟩ : ∃ y : Nat, t[k].toNat = y := ⟨_, rfl⟩
     have hy1 : (y : Int) ≤ 255 := by have := t[k].toNat_lt; omega
     have HD : Hid (alD 10 (t.data.toList.drop k) = (decide (48 ≤ y ∧ y ≤ 57) && alD 10 (t.data.toList.drop (k + 1)))) := by
      show _ = _
      rw [alD10_drop t k hlt, hy]
     have hki : (k : Int) < (t.size : Int) := by omega
     by_cases hin : 48 ≤ y ∧ y ≤ 57
     ·have CI : Hid (∀ W, CS 36 #[.int .i64 (y : Int), .int .i64 48, .int .i64 57] W (.bool true)) := fun W => labIn_yes _ _ _ W (by omega) (by omega)
      have HZ2 : Hid (alD 10 (t.data.toList.drop (k + 1)) = alD 10 t.data.toList) := by
       show _ = _
       rw [← HR.out, HD.out, decide_eq_true hin]
       rfl
      clear hin
      go_wp2_with fail
      refine (CI.out _).mono ?_
      rintro e w' ⟨rfl, rfl⟩
      go_wp2_with fail
      go_round
      case rel => exact ⟨k + 1, by omega, by go_num, HZ2.out⟩
      case measure => simp [intOf]; omega
     have CI : Hid (∀ W, CS 36 #[.int .i64 (y : Int), .int .i64 48, .int .i64 57] W (.bool false)) := fun W => labIn_no _ _ _ W (by omega)
     have HZ2 : Hid (alD 10 t.data.toList = false) := by
      show _ = _
      rw [← HR.out, HD.out, decide_eq_false hin]
      rfl
     have hne : ¬ t.size = 0 := by omega
     clear hin
     go_wp2_with fail
     refine (CI.out _).mono ?_
     rintro e w' ⟨rfl, rfl⟩
     go_wp2_with fail
     go_ret
     exact ⟨by rw [HT.out, HZ.out, if_neg hne, HZ2.out]; rfl, ba⟩
    have HZ2 : Hid (alD 10 t.data.toList = true) := by
     show _ = _
     rw [← HR.out, List.drop_of_length_le (by simp; omega)]
     rfl
    have hki : ¬ (k : Int) < (t.size : Int) := by omega
    by_cases h00 : t.size = 0
    ·have HE : Hid (t.size = 0) := h00
     have hem := empty_yes h00
     clear h00
     go_wp2_with fail
     go_ret
     exact ⟨by rw [HT.out, HZ.out, if_pos HE.out]; rfl, ba⟩
    have HE : Hid (¬ t.size = 0) := h00
    have hem := empty_no (by omega : 0 < t.size)
    clear h00
    go_wp2_with fail
    go_ret
    exact ⟨by rw [HT.out, HZ.out, if_neg HE.out, HZ2.out]; rfl, ba⟩
   have q0 : ((d : Int) == 48) = false := beq_eq_false_iff_ne.2 (by omega)
   clear hno hd0
   go_wp2_with fail
   clear q0 hd hc hi
   go_loop [5] (fun i => ∃ k : Nat, k ≤ t.size ∧ i = .int .i64 k ∧ alD 10 (t.data.toList.drop k) = alD 10 t.data.toList) (fun i => t.size - (intOf i).toNat)
   case atStart => exact ⟨0, Nat.zero_le _, rfl, rfl⟩
   obtain ⟨k, hk, rfl, hf⟩ := hrel
   have HR : Hid (alD 10 (t.data.toList.drop k) = alD 10 t.data.toList) := hf
   clear hf
   by_cases hlt : k < t.size
   ·obtain ⟨y, hy⟩ : ∃ y : Nat, t[k].toNat = y := ⟨_, rfl⟩
    have hy1 : (y : Int) ≤ 255 := by have := t[k].toNat_lt; omega
    have HD : Hid (alD 10 (t.data.toList.drop k) = (decide (48 ≤ y ∧ y ≤ 57) && alD 10 (t.data.toList.drop (k + 1)))) := by
     show _ = _
     rw [alD10_drop t k hlt, hy]
    have hki : (k : Int) < (t.size : Int) := by omega
    by_cases hin : 48 ≤ y ∧ y ≤ 57
    ·have CI : Hid (∀ W, CS 36 #[.int .i64 (y : Int), .int .i64 48, .int .i64 57] W (.bool true)) := fun W => labIn_yes _ _ _ W (by omega) (by omega)
     have HZ2 : Hid (alD 10 (t.data.toList.drop (k + 1)) = alD 10 t.data.toList) := by
      show _ = _
      rw [← HR.out, HD.out, decide_eq_true hin]
      rfl
     clear hin
     go_wp2_with fail
     refine (CI.out _).mono ?_
     rintro e w' ⟨rfl, rfl⟩
     go_wp2_with fail
     go_round
     case rel => exact ⟨k + 1, by omega, by go_num, HZ2.out⟩
     case measure => simp [intOf]; omega
    have CI : Hid (∀ W, CS 36 #[.int .i64 (y : Int), .int .i64 48, .int .i64 57] W (.bool false)) := fun W => labIn_no _ _ _ W (by omega)
    have HZ2 : Hid (alD 10 t.data.toList = false) := by
     show _ = _
     rw [← HR.out, HD.out, decide_eq_false hin]
     rfl
    have hne : ¬ t.size = 0 := by omega
    clear hin
    go_wp2_with fail
    refine (CI.out _).mono ?_
    rintro e w' ⟨rfl, rfl⟩
    go_wp2_with fail
    go_ret
    exact ⟨by rw [HT.out, HZ.out, if_neg hne, HZ2.out]; rfl, ba⟩
   have HZ2 : Hid (alD 10 t.data.toList = true) := by
    show _ = _
    rw [← HR.out, List.drop_of_length_le (by simp; omega)]
    rfl
   have hki : ¬ (k : Int) < (t.size : Int) := by omega
   by_cases h00 : t.size = 0
   ·have HE : Hid (t.size = 0) := h00
    have hem := empty_yes h00
    clear h00
    go_wp2_with fail
    go_ret
    exact ⟨by rw [HT.out, HZ.out, if_pos HE.out]; rfl, ba⟩
   have HE : Hid (¬ t.size = 0) := h00
   have hem := empty_no (by omega : 0 < t.size)
   clear h00
   go_wp2_with fail
   go_ret
   exact ⟨by rw [HT.out, HZ.out, if_neg HE.out, HZ2.out]; rfl, ba⟩
  have h1' : ¬ 1 < (t.size : Int) := by omega
  clear hno
  go_wp2_with fail
  clear hc hi
  go_loop [5] (fun i => ∃ k : Nat, k ≤ t.size ∧ i = .int .i64 k ∧ alD 10 (t.data.toList.drop k) = alD 10 t.data.toList) (fun i => t.size - (intOf i).toNat)
  case atStart => exact ⟨0, Nat.zero_le _, rfl, rfl⟩
  obtain ⟨k, hk, rfl, hf⟩ := hrel
  have HR : Hid (alD 10 (t.data.toList.drop k) = alD 10 t.data.toList) := hf
  clear hf
  by_cases hlt : k < t.size
  ·obtain ⟨y, hy⟩ : ∃ y : Nat, t[k].toNat = y := ⟨_, rfl⟩
   have hy1 : (y : Int) ≤ 255 := by have := t[k].toNat_lt; omega
   have HD : Hid (alD 10 (t.data.toList.drop k) = (decide (48 ≤ y ∧ y ≤ 57) && alD 10 (t.data.toList.drop (k + 1)))) := by
    show _ = _
    rw [alD10_drop t k hlt, hy]
   have hki : (k : Int) < (t.size : Int) := by omega
   by_cases hin : 48 ≤ y ∧ y ≤ 57
   ·have CI : Hid (∀ W, CS 36 #[.int .i64 (y : Int), .int .i64 48, .int .i64 57] W (.bool true)) := fun W => labIn_yes _ _ _ W (by omega) (by omega)
    have HZ2 : Hid (alD 10 (t.data.toList.drop (k + 1)) = alD 10 t.data.toList) := by
     show _ = _
     rw [← HR.out, HD.out, decide_eq_true hin]
     rfl
    clear hin
    go_wp2_with fail
    refine (CI.out _).mono ?_
    rintro e w' ⟨rfl, rfl⟩
    go_wp2_with fail
    go_round
    case rel => exact ⟨k + 1, by omega, by go_num, HZ2.out⟩
    case measure => simp [intOf]; omega
   have CI : Hid (∀ W, CS 36 #[.int .i64 (y : Int), .int .i64 48, .int .i64 57] W (.bool false)) := fun W => labIn_no _ _ _ W (by omega)
   have HZ2 : Hid (alD 10 t.data.toList = false) := by
    show _ = _
    rw [← HR.out, HD.out, decide_eq_false hin]
    rfl
   have hne : ¬ t.size = 0 := by omega
   clear hin
   go_wp2_with fail
   refine (CI.out _).mono ?_
   rintro e w' ⟨rfl, rfl⟩
   go_wp2_with fail
   go_ret
   exact ⟨by rw [HT.out, HZ.out, if_neg hne, HZ2.out]; rfl, ba⟩
  have HZ2 : Hid (alD 10 t.data.toList = true) := by
   show _ = _
   rw [← HR.out, List.drop_of_length_le (by simp; omega)]
   rfl
  have hki : ¬ (k : Int) < (t.size : Int) := by omega
  by_cases h00 : t.size = 0
  ·have HE : Hid (t.size = 0) := h00
   have hem := empty_yes h00
   clear h00
   go_wp2_with fail
   go_ret
   exact ⟨by rw [HT.out, HZ.out, if_pos HE.out]; rfl, ba⟩
  have HE : Hid (¬ t.size = 0) := h00
  have hem := empty_no (by omega : 0 < t.size)
  clear h00
  go_wp2_with fail
  go_ret
  exact ⟨by rw [HT.out, HZ.out, if_neg HE.out, HZ2.out]; rfl, ba⟩
theorem jl_snoc (b : UInt8) : ∀ {l : List (List UInt8)} {x : List UInt8}, l ≠ [] → jl b (l ++ [x]) = jl b l ++ b :: x
 | [], _, h => absurd rfl h
 | [y], x, _ => rfl
 | y :: z :: r, x, _ => by
  have ih := jl_snoc b (l := z :: r) (x := x) (by simp)
  rw [List.cons_append, List.cons_append, jl, jl, ← List.cons_append, ih]
  simp
theorem gt_zero (gs : List Nat) (h : 0 < gs.length) : gtL (gs.take 1) = hex4 (gs.getD 0 0) := by
 cases gs with
 | nil => simp at h
 | cons g r => rfl
theorem gt_succ (gs : List Nat) (k : Nat) (h : k < gs.length) (hk : 0 < k) : gtL (gs.take (k + 1)) = gtL (gs.take k) ++ [58] ++ hex4 (gs.getD k 0) := by
 unfold gtL
 rw [List.take_succ_eq_append_getElem h, List.map_append, List.map_cons, List.map_nil, jl_snoc]
 ·simp [List.getD, h]
 intro e
 have h1 : ((gs.take k).map hex4).length = 0 := by rw [e]; rfl
 rw [List.length_map, List.length_take] at h1
 omega
def GrpAt (w : World) (g off : Nat) (gs : List Nat) : Prop := ∀ j, j < gs.length → w.cell? ⟨g, off + j, none⟩ = some (.int .i64 ((gs.getD j 0 : Nat) : Int))
theorem GrpAt.later {w w' : World} {g off : Nat} {gs : List Nat} (h : GrpAt w g off gs) (hb : Below w.heap.size w w') : GrpAt w' g off gs := fun j hj => cell_later hb (h j hj)
theorem implGroupsText (g off cap : Nat) (gs : List Nat) (w : World) (hl : gs.length ≤ 8) (hg : ∀ x ∈ gs, x < 65536) (hc : GrpAt w g off gs) (hT : Bruijn w) :
  Calls Tryz.prog 168 #[.slice (some ⟨g, off, none⟩) gs.length cap] w fun e w' => e = .returned (.string ⟨(gtL gs).toArray⟩) ∧ Below w.heap.size w w' := by
 have HT : Hid (Bruijn w) := hT
 have HC : Hid (GrpAt w g off gs) := hc
 have HG : Hid (∀ x ∈ gs, x < 65536) := hg
 clear hT hc hg
 go_enter Tryz.func168, Tryz.ntmps168
 go_wp2
 go_loopw [3, 9] (fun b i wr => ∃ k : Nat, k ≤ gs.length ∧ i = .int .i64 k ∧ wr.ownsRow w.heap.size 5 1 b (gtL (gs.take k)).length (bcells (gtL (gs.take k))) ∧ Below w.heap.size w wr)
  (fun _ i _ => gs.length - (intOf i).toNat)
 case atStart => exact ⟨0, Nat.zero_le _, rfl, World.ownsRow_lit w #[] 0 (Nat.le_refl _) (by decide) rfl, (Below.refl _ _).alloc (Nat.le_refl _) _⟩
 obtain ⟨k, hk, rfl, hown, hbel⟩ := hrel
 have hsz := hbel.size
 have HTW : Hid (Bruijn wr) := bruijn_below HT.out hbel
 have hlen : (gtL (gs.take k)).length ≤ 100 := by
  have := (gt_len (gs.take k)).1
  rw [List.length_take] at this
  omega
 by_cases hlt : k < gs.length
 ·have hce := (HC.out.later hbel) k hlt
  have hm : gs.getD k 0 < 65536 := HG.out _ (by
   rw [List.getD_eq_getElem?_getD, List.getElem?_eq_getElem hlt]
   exact List.getElem_mem hlt)
  have HS : Hid (0 < k → gtL (gs.take (k + 1)) = gtL (gs.take k) ++ [58] ++ hex4 (gs.getD k 0)) := fun h => gt_succ gs k hlt h
  have HZ : Hid (k = 0 → gtL (gs.take (k + 1)) = gtL (gs.take k) ++ hex4 (gs.getD k 0)) := fun h => by
   subst h
   rw [gt_zero gs hlt]
   rfl
  have CA : Hid (∀ (v : Value) (l : List UInt8) (W : World), Bruijn W → W.ownsRow w.heap.size 5 1 v l.length (bcells l) → w.heap.size ≤ W.heap.size → l.length ≤ 1000 → Calls Tryz.prog 165 #[v, .int .i64 ((gs.getD k 0 : Nat) : Int), .int .i64 16] W fun e w' => ∃ v', e = .returned v' ∧ w'.ownsRow w.heap.size 5 1 v' (l ++ hex4 (gs.getD k 0)).length (bcells (l ++ hex4 (gs.getD k 0))) ∧ Below w.heap.size W w') := fun v l W a b c d => implAppHex _ _ v l W (by omega) (by omega) a b c d
  obtain ⟨x, hx⟩ : ∃ x : Int, ((gs.getD k 0 : Nat) : Int) = x := ⟨_, rfl⟩
  rw [hx] at hce CA
  have hx0 : 0 ≤ x := by omega
  have hx1 : x < 65536 := by omega
  generalize gs.getD k 0 = y at hx CA HS HZ hm
  clear hx hm
  by_cases h0 : k = 0
  ·subst h0
   rw [Nat.add_zero] at hce
   go_wp2_with fail
   refine (CA.out _ _ _ HTW.out hown hsz (by omega)).mono ?_
   rintro e wb ⟨vb, rfl, o2, b2⟩
   have B2 := hbel.trans b2
   clear hown hbel b2
   go_wp2_with fail
   go_roundw
   case rel =>
    refine ⟨1, by omega, by go_num, ?_, B2⟩
    rw [show gtL (gs.take 1) = gtL (gs.take 0) ++ hex4 y from HZ.out (by trivial)]
    exact o2
   case measure => simp [intOf]; omega
  have hki : 0 < (k : Int) := by omega
  have HS2 : Hid (gtL (gs.take (k + 1)) = gtL (gs.take k) ++ [58] ++ hex4 y) := HS.out (by omega)
  clear HS HZ h0
  go_wp2_with (at_builtin; refine wpList_append_new _ rfl _ _ 22 rfl w.heap.size 5 (.int .u8 0) 1 Tryz.underlying22 Tryz.info5 rfl _ _ _ rfl hown #[.int .u8 58] 1 rfl rfl (by intro u hu; simp at hu; subst hu; rfl) (by omega) (by unfold maxLen; omega) hsz ?_)
  intro v' w1 o3 b3
  have R : w1.ownsRow w.heap.size 5 1 v' (gtL (gs.take k) ++ [58]).length (bcells (gtL (gs.take k) ++ [58])) := by
   rw [bcells_snoc, List.length_append]
   exact o3
  have B3 := hbel.trans b3
  have HT3 : Hid (Bruijn w1) := bruijn_below HT.out B3
  have z3 := B3.size
  have hl3 : (gtL (gs.take k) ++ [58]).length ≤ 1000 := by rw [List.length_append]; simp; omega
  clear o3 b3 hown hbel
  go_wp2_with fail
  refine (CA.out _ _ _ HT3.out R z3 hl3).mono ?_
  rintro e wb ⟨vb, rfl, o2, b2⟩
  have B2 := B3.trans b2
  clear R b2 B3
  go_wp2_with fail
  go_roundw
  case rel =>
   refine ⟨k + 1, by omega, by go_num, ?_, B2⟩
   rw [HS2.out]
   exact o2
  case measure => simp [intOf]; omega
 have he : gs.take k = gs := List.take_of_length_le (by omega)
 rw [he] at hown
 have hcv := run_string_own (P := Tryz.prog) wr 22 9 5 Tryz.underlying22 Tryz.underlying5 Tryz.underlying9 hown
 clear he hlen
 have hki : ¬ (k : Int) < (gs.length : Int) := by omega
 go_wp2_with fail
 go_ret
 exact ⟨rfl, hbel⟩
end Go.Proofs.YtgmfkgeepecknaaGreatDoor
