/- PunyLen, LabPlain, NamePlain, CloneWalk, FieldsWalk, ExtPlain, JoinPlain. -/
import Derived.Test.YtidecdlaeomfoaaGreatQA07
set_option maxHeartbeats 1000000
namespace Go.Proofs.YtidecdlaeomfoaaGreat
theorem num_len10 (bias : Nat) : ∀ (F f k q : Nat), q < 10 ^ f → (numF F k bias q).length ≤ f + 1
 | 0, f, k, q, _ => by simp [numF]
 | F + 1, f, k, q, h => by
  obtain ⟨l1, l2⟩ := lim_le k bias
  rw [numF]
  split
  ·simp
  next hq =>
  cases f with
  | zero => simp at h; omega
  | succ f =>
   have h1 : (q - limN k bias) / (36 - limN k bias) < 10 ^ f := by
    rw [Nat.div_lt_iff_lt_mul (by omega)]
    have h2 : 10 ^ f * 10 ≤ 10 ^ f * (36 - limN k bias) := Nat.mul_le_mul_left _ (by omega)
    rw [Nat.pow_succ] at h
    omega
   have := num_len10 bias F f (k + 36) _ h1
   rw [List.length_cons]
   omega
theorem codeV_len9 (basic : Nat) : ∀ (ds : List Nat) (h bias : Nat), (∀ d ∈ ds, d ≤ 67960831) → (codeV basic h bias ds).length ≤ 9 * ds.length
 | [], _, _, _ => by simp [codeV]
 | d :: ds, h, bias, hd => by
  have h1 := codeV_len9 basic ds (h + 1) (adaptN d (h + 1) (h == basic)) (fun x hx => hd x (List.mem_cons_of_mem _ hx))
  have h2 := num_len10 bias 28 8 36 d (by have := hd d (List.mem_cons_self ..); have : (10 : Nat) ^ 8 = 100000000 := (by decide); omega)
  show (numF 28 36 bias d ++ codeV basic (h + 1) (adaptN d (h + 1) (h == basic)) ds).length ≤ 9 * (d :: ds).length
  rw [List.length_append, List.length_cons]
  omega
theorem encC_600 {l : List Nat} (h : encOk l = true) : (encC l).length ≤ 600 := by
 obtain ⟨h1, h2⟩ := encOk_parts h
 have h3 := enc_count l h2 l.length 128 0
 have h4 := codeV_len9 (l.filter (· < 128)).length (encD l l.length 128 0 (l.filter (· < 128)).length) (l.filter (· < 128)).length 72 (enc_le l h1 h2 _ _ _ (by omega))
 have h5 := List.length_filter_le (fun x => decide (x < 128)) l
 unfold encC encV
 rw [List.length_append, List.length_append, List.length_map]
 have h6 : (if 0 < (l.filter (· < 128)).length then [45] else []).length ≤ 1 := by split <;> simp
 have h7 : (l.filter (· < 128)).length = 0 → (if 0 < (l.filter (· < 128)).length then [45] else []).length = 0 := fun h => by rw [if_neg (by omega)]; rfl
 omega
end Go.Proofs.YtidecdlaeomfoaaGreat
namespace Go.Proofs.YtidecdlaeomfoaaGreat
open Go.RowKit
def labB (c : UInt8) : Bool := decide (97 ≤ c.toNat ∧ c.toNat ≤ 122) || decide (48 ≤ c.toNat ∧ c.toNat ≤ 57) || decide (c.toNat = 45)
def labL (l : List UInt8) : Bool := decide (1 ≤ l.length) && decide (l.length ≤ 63) && decide (l.head? ≠ some 45) && decide (l.getLast? ≠ some 45) && l.all labB
theorem labL_parts {l : List UInt8} (h : labL l = true) : 1 ≤ l.length ∧ l.length ≤ 63 ∧ l.head? ≠ some 45 ∧ l.getLast? ≠ some 45 ∧ ∀ c ∈ l, labB c = true := by
 unfold labL at h
 simp only [Bool.and_eq_true, decide_eq_true_eq, List.all_eq_true] at h
 exact ⟨h.1.1.1.1, h.1.1.1.2, h.1.1.2, h.1.2, h.2⟩
theorem labL_of {l : List UInt8} (h1 : 1 ≤ l.length) (h2 : l.length ≤ 63) (h3 : l.head? ≠ some 45) (h4 : l.getLast? ≠ some 45) (h5 : ∀ c ∈ l, labB c = true) : labL l = true := by
 unfold labL
 simp only [Bool.and_eq_true, decide_eq_true_eq, List.all_eq_true]
 exact ⟨⟨⟨⟨h1, h2⟩, h3⟩, h4⟩, h5⟩
theorem labB_parts {c : UInt8} (h : labB c = true) : (97 ≤ c.toNat ∧ c.toNat ≤ 122) ∨ (48 ≤ c.toNat ∧ c.toNat ≤ 57) ∨ c.toNat = 45 := by
 unfold labB at h
 simp only [Bool.or_eq_true, decide_eq_true_eq] at h
 omega
theorem labB_yes {c : UInt8} {d : Nat} (hd : c.toNat = d) (h : (97 ≤ d ∧ d ≤ 122) ∨ (48 ≤ d ∧ d ≤ 57) ∨ d = 45) : labB c = true := by
 unfold labB
 simp only [Bool.or_eq_true, decide_eq_true_eq]
 omega
theorem head_at (s : ByteArray) (h : 0 < s.size) : s.data.toList.head? = some s[0] := by
 have hk : 0 < s.data.toList.length := by simpa using h
 rw [List.head?_eq_getElem?, List.getElem?_eq_getElem hk]
 rfl
theorem last_at (s : ByteArray) (h : 0 < s.size) : s.data.toList.getLast? = some (s[s.size - 1]'(by omega)) := by
 have hk : 0 < s.data.toList.length := by simpa using h
 rw [List.getLast?_eq_getElem?, List.getElem?_eq_getElem (by omega)]
 rfl
theorem lab_size (s : ByteArray) (h : ¬ (1 ≤ s.size ∧ s.size ≤ 63)) : labL s.data.toList = false := by
 refine Bool.eq_false_iff.2 fun hl => h ?_
 obtain ⟨h1, h2, _⟩ := labL_parts hl
 have e : s.data.toList.length = s.size := by simp
 omega
theorem lab_head (s : ByteArray) (h : 0 < s.size) (h0 : s[0].toNat = 45) : labL s.data.toList = false := by
 refine Bool.eq_false_iff.2 fun hl => ?_
 obtain ⟨_, _, h3, _⟩ := labL_parts hl
 exact h3 ((head_at s h).trans (congrArg some (UInt8.toNat_inj.1 (by simpa using h0))))
theorem lab_last (s : ByteArray) (h : 0 < s.size) (h0 : (s[s.size - 1]'(by omega)).toNat = 45) : labL s.data.toList = false := by
 refine Bool.eq_false_iff.2 fun hl => ?_
 obtain ⟨_, _, _, h3, _⟩ := labL_parts hl
 exact h3 ((last_at s h).trans (congrArg some (UInt8.toNat_inj.1 (by simpa using h0))))
theorem lab_byte (s : ByteArray) (k : Nat) (h : k < s.size) (h0 : ¬ ((97 ≤ s[k].toNat ∧ s[k].toNat ≤ 122) ∨ (48 ≤ s[k].toNat ∧ s[k].toNat ≤ 57) ∨ s[k].toNat = 45)) : labL s.data.toList = false := by
 refine Bool.eq_false_iff.2 fun hl => ?_
 obtain ⟨_, _, _, _, h3⟩ := labL_parts hl
 have hm : s[k] ∈ s.data.toList := by
  have : s[k] ∈ s.data := Array.getElem_mem _
  simpa using this
 exact h0 (labB_parts (h3 _ hm))
theorem lab_yes (s : ByteArray) (hr : 1 ≤ s.size ∧ s.size ≤ 63) (h0 : ¬ (s[0]'(by omega)).toNat = 45) (h1 : ¬ (s[s.size - 1]'(by omega)).toNat = 45) (h : ∀ c ∈ s.data.toList.take s.size, labB c = true) : labL s.data.toList = true := by
 have e : s.data.toList.length = s.size := by simp
 rw [take_all s s.size (Nat.le_refl _)] at h
 refine labL_of (by omega) (by omega) (fun hh => h0 ?_) (fun hh => h1 ?_) h
 ·rw [head_at s (by omega)] at hh
  have := Option.some.inj hh
  rw [this]; rfl
 rw [last_at s (by omega)] at hh
 have := Option.some.inj hh
 rw [this]; rfl
theorem lab_take (s : ByteArray) (k : Nat) (h : k < s.size) (d : Nat) (hd : s[k].toNat = d) (hc : (97 ≤ d ∧ d ≤ 122) ∨ (48 ≤ d ∧ d ≤ 57) ∨ d = 45) (h0 : ∀ c ∈ s.data.toList.take k, labB c = true) : ∀ c ∈ s.data.toList.take (k + 1), labB c = true := by
 intro c hm
 rw [take_snoc s k h] at hm
 rcases List.mem_append.1 hm with h2 | h2
 ·exact h0 c h2
 rw [List.mem_singleton.1 h2]
 exact labB_yes hd hc
theorem labIn_yes (x a b : Int) (w : World) (h1 : a ≤ x) (h2 : x ≤ b) :
  Calls Tryz.prog 18 #[.int .i64 x, .int .i64 a, .int .i64 b] w fun e w' => e = .returned (.bool true) ∧ w = w' := by
 go_enter Tryz.func18, Tryz.ntmps18
 go_wp2
 go_ret
 exact ⟨rfl, rfl⟩
theorem labIn_no (x a b : Int) (w : World) (h : x < a ∨ b < x) :
  Calls Tryz.prog 18 #[.int .i64 x, .int .i64 a, .int .i64 b] w fun e w' => e = .returned (.bool false) ∧ w = w' := by
 by_cases h1 : a ≤ x
 ·have h2 : ¬ x ≤ b := by omega
  clear h
  go_enter Tryz.func18, Tryz.ntmps18
  go_wp2
  go_ret
  exact ⟨ret_bool (by simp), rfl⟩
 have h2 : x < a := by omega
 clear h h1
 go_enter Tryz.func18, Tryz.ntmps18
 go_wp2
 go_ret
 exact ⟨rfl, rfl⟩
def xn : List UInt8 := [120, 110, 45, 45]
def isXn (l : List UInt8) : Bool := xn.isPrefixOf l
def nat8 (l : List UInt8) : List Nat := l.map UInt8.toNat
def okA (l : List UInt8) : Bool := labL l && (!(isXn l) || (decC (nat8 (l.drop 4))).isSome)
def asc1 (s : List UInt8) : Option (List UInt8) :=
 if asciiB s = true then some (lowerL s)
 else if (finR ⟨(lowerL s).toArray⟩).1 = s.length ∧ (finR ⟨(lowerL s).toArray⟩).2.length ≤ 60 then some (xn ++ b8 (encC ((finR ⟨(lowerL s).toArray⟩).2.map Int.toNat)))
 else none
def ascL (s : List UInt8) : Option (List UInt8) := match asc1 s with
 | some t => if okA t = true then some t else none
 | none => none
theorem lab_lower {l : List UInt8} (h : ∀ c ∈ l, labB c = true) : lowerL l = l := by
 unfold lowerL
 conv => rhs; rw [← List.map_id l]
 refine List.map_congr_left fun c hc => ?_
 have := labB_parts (h c hc)
 unfold lowerC
 rw [if_neg (by omega)]
 rfl
theorem lab_ascii {l : List UInt8} (h : ∀ c ∈ l, labB c = true) : asciiB l = true := by
 unfold asciiB
 rw [List.all_eq_true]
 intro c hc
 have := labB_parts (h c hc)
 exact decide_eq_true (by omega)
theorem okA_lab {t : List UInt8} (h : okA t = true) : labL t = true := by
 unfold okA at h
 simp only [Bool.and_eq_true] at h
 exact h.1
theorem ascL_ok {s t : List UInt8} (h : ascL s = some t) : okA t = true := by
 unfold ascL at h
 split at h
 ·split at h
  ·rename_i h1; cases h; exact h1
  cases h
 cases h
theorem ascL_of_ok {t : List UInt8} (h : okA t = true) : ascL t = some t := by
 obtain ⟨_, _, _, _, hb⟩ := labL_parts (okA_lab h)
 have e : asc1 t = some t := by
  unfold asc1
  rw [if_pos (lab_ascii hb), lab_lower hb]
 unfold ascL
 rw [e]
 exact if_pos h
theorem ascL_idem {s t : List UInt8} (h : ascL s = some t) : ascL t = some t := ascL_of_ok (ascL_ok h)
theorem ascL_lab {s t : List UInt8} (h : ascL s = some t) : labL t = true := okA_lab (ascL_ok h)
theorem encD_none (l : List Nat) : ∀ (f n d : Nat), (l.filter (· < n)).length = l.length → encD l f n d (l.filter (· < n)).length = []
 | 0, n, d, _ => by rw [encD]
 | f + 1, n, d, h => by
  rw [encD, if_neg (by omega)]
theorem xn_prefix {l : List UInt8} (h : isXn l = true) : l = xn ++ l.drop 4 := by
 unfold isXn at h
 obtain ⟨r, rfl⟩ := List.isPrefixOf_iff_prefix.1 h
 simp [xn]
theorem mem_nat8 {l : List UInt8} {x : Nat} (h : x ∈ nat8 l) : ∃ c ∈ l, c.toNat = x := by
 unfold nat8 at h
 obtain ⟨c, hc, rfl⟩ := List.mem_map.1 h
 exact ⟨c, hc, rfl⟩
theorem dec_lab {t : List UInt8} {l : List Nat} (hx : isXn t = true) (hl : labL t = true) (hd : decC (nat8 (t.drop 4)) = some l) :
  (∃ x ∈ l, 128 ≤ x) ∧ ∀ x ∈ l, ¬ (65 ≤ x ∧ x ≤ 90) := by
 obtain ⟨_, _, _, hlast, hb⟩ := labL_parts hl
 obtain ⟨hok, he⟩ := (dec_iff _ _).1 hd
 have ht := xn_prefix hx
 constructor
 ·apply Classical.byContradiction
  intro hno
  have hall : ∀ x ∈ l, x < 128 := fun x hx => by
   apply Classical.byContradiction
   intro h
   exact hno ⟨x, hx, by omega⟩
  have hf : l.filter (· < 128) = l := List.filter_eq_self.2 fun x hx => decide_eq_true (hall x hx)
  have hv : encV l = [] := by
   unfold encV
   rw [encD_none l l.length 128 0 (by rw [hf])]
   rw [codeV]
  unfold encC at he
  rw [hf, hv, List.map_nil, List.append_nil] at he
  by_cases h0 : 0 < l.length
  ·rw [if_pos h0] at he
   apply hlast
   have h2 : (nat8 (t.drop 4)).getLast? = some 45 := by rw [← he]; simp
   unfold nat8 at h2
   rw [List.getLast?_map] at h2
   cases h3 : (t.drop 4).getLast? with
   | none => rw [h3] at h2; cases h2
   | some c =>
    rw [h3] at h2
    have hc : c.toNat = 45 := by simpa using h2
    have hc' : c = 45 := UInt8.toNat_inj.1 (by simpa using hc)
    subst hc'
    rw [ht, List.getLast?_append, h3]
    rfl
  rw [if_neg h0] at he
  have h2 : nat8 (t.drop 4) = [] := by rw [← he, List.append_nil]; exact List.eq_nil_of_length_eq_zero (by omega)
  have h3 : t.drop 4 = [] := by unfold nat8 at h2; simpa using h2
  apply hlast
  rw [ht, h3]
  rfl
 intro x hxl hx2
 have hm : x ∈ encC l := by
  unfold encC
  rw [List.append_assoc]
  exact List.mem_append_left _ (List.mem_filter.2 ⟨hxl, decide_eq_true (by omega)⟩)
 rw [he] at hm
 obtain ⟨c, hc, hcx⟩ := mem_nat8 hm
 have := labB_parts (hb c (List.mem_of_mem_drop hc))
 omega
theorem low_size (s : ByteArray) : (⟨(lowerL s.data.toList).toArray⟩ : ByteArray).size = s.size := by
 show (lowerL s.data.toList).toArray.size = s.data.size
 rw [List.size_toArray, lowerL, List.length_map]
 rfl
theorem asc1_no {s : List UInt8} (h : asciiB s = false) (h2 : ¬ ((finR ⟨(lowerL s).toArray⟩).1 = s.length ∧ (finR ⟨(lowerL s).toArray⟩).2.length ≤ 60)) : ascL s = none := by
 unfold ascL asc1
 rw [if_neg (by rw [h]; decide), if_neg h2]
theorem asc1_yes {s : List UInt8} (h : asciiB s = false) (h2 : (finR ⟨(lowerL s).toArray⟩).1 = s.length ∧ (finR ⟨(lowerL s).toArray⟩).2.length ≤ 60) :
  ascL s = if okA (xn ++ b8 (encC ((finR ⟨(lowerL s).toArray⟩).2.map Int.toNat))) = true then some (xn ++ b8 (encC ((finR ⟨(lowerL s).toArray⟩).2.map Int.toNat))) else none := by
 unfold ascL asc1
 rw [if_neg (by rw [h]; decide), if_pos h2]
theorem asc1_ascii {s : List UInt8} (h : asciiB s = true) : ascL s = if okA (lowerL s) = true then some (lowerL s) else none := by
 unfold ascL asc1
 rw [if_pos h]
def ansS (r : Option (List UInt8)) : Value := match r with
 | some t => .tuple #[.string ⟨t.toArray⟩, .bool true]
 | none => .tuple #[.string ⟨#[]⟩, .bool false]

def fieldsTo (s : ByteArray) (b : Int) : Nat → List ByteArray × Nat
 | 0 => ([], 0)
 | k + 1 => if ((s.data.toList.getD k 0).toNat : Int) = b then ((fieldsTo s b k).1 ++ [s.extract (fieldsTo s b k).2 k], k + 1) else fieldsTo s b k
def fieldsL (s : ByteArray) (b : Int) : List ByteArray := (fieldsTo s b s.size).1 ++ [s.extract (fieldsTo s b s.size).2 s.size]
theorem fieldsTo_le (s : ByteArray) (b : Int) (k : Nat) : (fieldsTo s b k).2 ≤ k ∧ (fieldsTo s b k).1.length ≤ k := by
 induction k with
 | zero => simp [fieldsTo]
 | succ k ih =>
  unfold fieldsTo
  split
  ·simp; omega
  omega
theorem getD_at (s : ByteArray) (k : Nat) (h : k < s.size) : s.data.toList.getD k 0 = s[k] := by
 have hk : k < s.data.toList.length := by simpa using h
 rw [List.getD_eq_getElem?_getD, List.getElem?_eq_getElem hk]
 rfl
theorem fieldsTo_hit (s : ByteArray) (b : Int) (k : Nat) (h : k < s.size) (e : (s[k].toNat : Int) = b) : fieldsTo s b (k + 1) = ((fieldsTo s b k).1 ++ [s.extract (fieldsTo s b k).2 k], k + 1) := by
 rw [fieldsTo, getD_at s k h, if_pos e]
theorem fieldsTo_miss (s : ByteArray) (b : Int) (k : Nat) (h : k < s.size) (e : ¬ (s[k].toNat : Int) = b) : fieldsTo s b (k + 1) = fieldsTo s b k := by
 rw [fieldsTo, getD_at s k h, if_neg e]
theorem Tryz.infoStr : (Tryz.prog.info? 9).map (fun i => (i.zero, i.size, i.bytes)) = some (some (.string ⟨#[]⟩), 1, 16) := by kernel_rfl
theorem str_one (s : ByteArray) : ∀ u ∈ #[Value.string s].toList, u.oneCell' = true := by
 intro u hu; simp at hu; subst hu; rfl
theorem fields_end (s : ByteArray) (b : Int) (k : Nat) (hk : k = s.size) {w1 : World} {B : Nat} {v : Value} {e : TypeId}
  (hown : w1.ownsRow B e 1 v ((fieldsTo s b k).1.length + 1) (scells (fieldsTo s b k).1 ++ [.string (s.extract (fieldsTo s b k).2 k)])) :
  w1.ownsRow B e 1 v (fieldsL s b).length (scells (fieldsL s b)) := by
 subst hk
 unfold fieldsL
 rw [scells_snoc, List.length_append]
 exact hown
theorem fields_hit (s : ByteArray) (b : Int) (k : Nat) (hk : k < s.size) (h : (s[k].toNat : Int) = b) {w1 : World} {B : Nat} {v : Value} {e : TypeId}
  (hown : w1.ownsRow B e 1 v ((fieldsTo s b k).1.length + 1) (scells (fieldsTo s b k).1 ++ [.string (s.extract (fieldsTo s b k).2 k)])) :
  w1.ownsRow B e 1 v (fieldsTo s b (k + 1)).1.length (scells (fieldsTo s b (k + 1)).1) := by
 rw [fieldsTo_hit s b k hk h]
 simp only
 rw [scells_snoc, List.length_append]
 exact hown
theorem specFieldsB (s : ByteArray) (b : Int) (w : World) (hs : s.size ≤ 16777216) :
  Calls Tryz.prog 74 #[.string s, .int .u8 b] w fun e w' => ∃ v, e = .returned v ∧ w'.ownsRow w.heap.size 9 1 v (fieldsL s b).length (scells (fieldsL s b)) ∧ Below w.heap.size w w' := by
 go_enter Tryz.func74, Tryz.ntmps74
 go_wp2
 go_loopw [5, 6, 7] (fun v f i wr => ∃ k : Nat, k ≤ s.size + 1 ∧ i = .int .i64 k ∧ (k ≤ s.size → f = .int .i64 (fieldsTo s b k).2 ∧ wr.ownsRow w.heap.size 9 1 v (fieldsTo s b k).1.length (scells (fieldsTo s b k).1)) ∧
   (k = s.size + 1 → wr.ownsRow w.heap.size 9 1 v (fieldsL s b).length (scells (fieldsL s b))) ∧ Below w.heap.size w wr)
  (fun _ _ i _ => s.size + 1 - (intOf i).toNat)
 case atStart => exact ⟨0, Nat.zero_le _, rfl, fun _ => ⟨rfl, World.ownsRow_lit w #[] 0 (Nat.le_refl _) (by decide) rfl⟩, fun h => by omega, (Below.refl _ _).alloc (Nat.le_refl _) _⟩
 obtain ⟨k, hk, rfl, hin, hend, hbel⟩ := hrel
 by_cases hle : k ≤ s.size
 ·obtain ⟨rfl, hown⟩ := hin hle
  clear hend
  have hsz := hbel.size
  obtain ⟨hf1, hf2⟩ := fieldsTo_le s b k
  by_cases heq : k = s.size
  ·have hkk : ((k : Int) == (s.size : Int)) = true := by simp [heq]
   have HE : Hid (k = s.size) := heq
   clear heq
   go_wp2_with (at_builtin; refine wpList_append_new _ rfl _ _ 59 rfl w.heap.size 9 (.string ⟨#[]⟩) 16 Tryz.underlying59 Tryz.infoStr rfl _ _ _ rfl hown #[.string (s.extract (fieldsTo s b k).2 k)] 1 rfl rfl (str_one _) (by omega) (by unfold maxLen; omega) (by omega) ?_)
   intro v' w1 hown' hb1
   have R := fields_end s b k HE.out hown'
   have B1 : Below w.heap.size w w1 := hbel.trans hb1
   clear hown' hb1 hown hbel hin
   go_wp2
   go_roundw
   case rel => exact ⟨k + 1, by omega, by go_num, fun h => by have := HE.out; omega, fun _ => R, B1⟩
   case measure => simp [intOf]; omega
  have hkk : ((k : Int) == (s.size : Int)) = false := by simp; omega
  have hlt : k < s.size := by omega
  clear heq
  by_cases hb : (s[k].toNat : Int) = b
  ·have hbb : ((s[k].toNat : Int) == b) = true := by simp [hb]
   have HB : Hid ((s[k].toNat : Int) = b) := hb
   clear hb
   go_wp2_with (at_builtin; refine wpList_append_new _ rfl _ _ 59 rfl w.heap.size 9 (.string ⟨#[]⟩) 16 Tryz.underlying59 Tryz.infoStr rfl _ _ _ rfl hown #[.string (s.extract (fieldsTo s b k).2 k)] 1 rfl rfl (str_one _) (by omega) (by unfold maxLen; omega) (by omega) ?_)
   intro v' w1 hown' hb1
   have R := fields_hit s b k hlt HB.out hown'
   have B1 : Below w.heap.size w w1 := hbel.trans hb1
   clear hown' hb1 hown hbel hin
   go_wp2
   go_roundw
   case rel => exact ⟨k + 1, by omega, by go_num, fun _ => ⟨by rw [fieldsTo_hit s b k hlt HB.out]; go_num, R⟩, fun h => by omega, B1⟩
   case measure => simp [intOf]; omega
  have hbb : ((s[k].toNat : Int) == b) = false := by simp [hb]
  have HB : Hid (¬ (s[k].toNat : Int) = b) := hb
  clear hb hin
  go_wp2
  go_roundw
  case rel => exact ⟨k + 1, by omega, by go_num, fun _ => ⟨by rw [fieldsTo_miss s b k hlt HB.out], by rw [fieldsTo_miss s b k hlt HB.out]; exact hown⟩, fun h => by omega, hbel⟩
  case measure => simp [intOf]; omega
 have hown := hend (by omega)
 clear hin hend
 go_wp2
 go_ret
 exact ⟨_, rfl, hown, hbel⟩
theorem specFields (s : ByteArray) (b : Int) (w : World) (hs : s.size ≤ 1048576) :
  Calls Tryz.prog 74 #[.string s, .int .u8 b] w fun e w' => ∃ v, e = .returned v ∧ w'.ownsRow w.heap.size 9 1 v (fieldsL s b).length (scells (fieldsL s b)) ∧ Below w.heap.size w w' :=
 specFieldsB s b w (by omega)
theorem extract_list (s : ByteArray) (a b : Nat) : (s.extract a b).data.toList = (s.data.toList.take b).drop a := by
 rw [ByteArray.data_extract, Array.toList_extract, List.drop_take]
theorem take_data (s : ByteArray) (k : Nat) : (s.extract 0 k).data.toList = s.data.toList.take k := by rw [extract_list]; rfl
theorem drop_data (s : ByteArray) (k : Nat) : (s.extract k s.size).data.toList = s.data.toList.drop k := by rw [extract_list, take_all s s.size (Nat.le_refl _)]
theorem mk_data (s : ByteArray) : (⟨s.data.toList.toArray⟩ : ByteArray) = s := by cases s; simp
theorem while_cut {p : UInt8 → Bool} {l : List UInt8} {k : Nat} (h : ∀ c ∈ l.take k, p c = true) : l.takeWhile p = l.take k ++ (l.drop k).takeWhile p ∧ l.dropWhile p = (l.drop k).dropWhile p := by
 induction k generalizing l with
 | zero => simp
 | succ k ih =>
  cases l with
  | nil => simp
  | cons c r =>
   rw [List.take_succ_cons] at h
   have hc := h c (by simp)
   obtain ⟨h1, h2⟩ := ih (l := r) fun x hx => h x (by simp [hx])
   rw [List.takeWhile_cons, List.dropWhile_cons, hc, if_pos rfl, if_pos rfl, h1, h2]
   simp
def jn (sep : UInt8) : List ByteArray → List UInt8
 | [] => []
 | x :: xs => x.data.toList ++ xs.flatMap fun y => sep :: y.data.toList
theorem jn_one (sep : UInt8) (x : ByteArray) : jn sep ([] ++ [x]) = x.data.toList := by simp [jn]
theorem jn_snoc (sep : UInt8) (l : List ByteArray) (x : ByteArray) (h : l ≠ []) : jn sep (l ++ [x]) = jn sep l ++ [sep] ++ x.data.toList := by
 cases l with
 | nil => exact absurd rfl h
 | cons y ys => simp [jn, List.flatMap_append]
theorem fields_join (s : ByteArray) (b : Int) (hb0 : 0 ≤ b) (hb1 : b ≤ 255) : ∀ k, k ≤ s.size →
  (fieldsTo s b k).2 ≤ k ∧ ((fieldsTo s b k).1 = [] → (fieldsTo s b k).2 = 0) ∧ ((fieldsTo s b k).1 ≠ [] → jn (UInt8.ofNat b.toNat) (fieldsTo s b k).1 ++ [UInt8.ofNat b.toNat] = s.data.toList.take (fieldsTo s b k).2)
 | 0, _ => by simp [fieldsTo]
 | k + 1, hk => by
  obtain ⟨h1, h2, h3⟩ := fields_join s b hb0 hb1 k (by omega)
  by_cases e : (s[k].toNat : Int) = b
  ·rw [fieldsTo_hit s b k (by omega) e]
   refine ⟨Nat.le_refl _, fun h => by simp at h, fun _ => ?_⟩
   have hsep : s[k] = UInt8.ofNat b.toNat := by
    rw [← e]; simp
   have hx : (s.extract (fieldsTo s b k).2 k).data.toList = (s.data.toList.take k).drop (fieldsTo s b k).2 := extract_list s _ _
   have hcat : s.data.toList.take (fieldsTo s b k).2 ++ (s.data.toList.take k).drop (fieldsTo s b k).2 = s.data.toList.take k := by
    have := List.take_append_drop (fieldsTo s b k).2 (s.data.toList.take k)
    rw [List.take_take, Nat.min_eq_left h1] at this
    exact this
   simp only
   by_cases hn : (fieldsTo s b k).1 = []
   ·rw [hn, jn_one, hx, h2 hn, take_snoc s k (by omega), hsep]
    simp
   rw [jn_snoc _ _ _ hn, h3 hn, hx, hcat, take_snoc s k (by omega), hsep]
  rw [fieldsTo_miss s b k (by omega) e]
  exact ⟨by omega, h2, h3⟩
theorem fieldsL_join (s : ByteArray) (b : Int) (hb0 : 0 ≤ b) (hb1 : b ≤ 255) : jn (UInt8.ofNat b.toNat) (fieldsL s b) = s.data.toList := by
 obtain ⟨h1, h2, h3⟩ := fields_join s b hb0 hb1 s.size (Nat.le_refl _)
 have hx := extract_list s (fieldsTo s b s.size).2 s.size
 rw [take_all s s.size (Nat.le_refl _)] at hx
 unfold fieldsL
 by_cases hn : (fieldsTo s b s.size).1 = []
 ·rw [hn, jn_one, hx, h2 hn]; rfl
 rw [jn_snoc _ _ _ hn, h3 hn, hx, List.take_append_drop]
theorem fieldsTo_sizes (s : ByteArray) (b : Int) : ∀ k, ∀ x ∈ (fieldsTo s b k).1, x.size ≤ s.size
 | 0, x, hx => by simp [fieldsTo] at hx
 | k + 1, x, hx => by
  rw [fieldsTo] at hx
  split at hx
  ·rcases List.mem_append.1 hx with h | h
   ·exact fieldsTo_sizes s b k x h
   rw [List.mem_singleton.1 h, ByteArray.size_extract]; omega
  exact fieldsTo_sizes s b k x hx
theorem fieldsL_sizes (s : ByteArray) (b : Int) : ∀ x ∈ fieldsL s b, x.size ≤ s.size := by
 intro x hx
 unfold fieldsL at hx
 rcases List.mem_append.1 hx with h | h
 ·exact fieldsTo_sizes s b _ x h
 rw [List.mem_singleton.1 h, ByteArray.size_extract]; omega
theorem btake_snoc (l : List ByteArray) (k : Nat) (h : k < l.length) : l.take (k + 1) = l.take k ++ [l.getD k ByteArray.empty] := by
 rw [List.take_succ_eq_append_getElem h]
 simp [List.getD, h]
end Go.Proofs.YtidecdlaeomfoaaGreat
