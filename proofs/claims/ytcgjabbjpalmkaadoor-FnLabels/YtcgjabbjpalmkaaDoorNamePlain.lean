/- Labels, plainly: what LabelOk, ToAscii and ToUnicode answer, and that a label in letters stays as it is. -/
import Derived.Test.YtcgjabbjpalmkaaDoorRows
import Derived.Test.YtcgjabbjpalmkaaDoorLowerWalk
import Derived.Test.YtcgjabbjpalmkaaDoorAsciiWalk
import Derived.Test.YtcgjabbjpalmkaaDoorRunesBack
import Derived.Test.YtcgjabbjpalmkaaDoorPunyDecWalk
import Derived.Test.YtcgjabbjpalmkaaDoorPunyLen
import Derived.Test.YtcgjabbjpalmkaaDoorLabPlain
namespace Go.Proofs.YtcgjabbjpalmkaaDoor
open Go.RowKit

def xn : List UInt8 := [120, 110, 45, 45]
def isXn (l : List UInt8) : Bool := xn.isPrefixOf l
def nat8 (l : List UInt8) : List Nat := l.map UInt8.toNat
def okA (l : List UInt8) : Bool := labL l && (!(isXn l) || (decC (nat8 (l.drop 4))).isSome)
def asc1 (s : List UInt8) : Option (List UInt8) :=
  if asciiB s = true then some (lowerL s)
  else if (finR ⟨(lowerL s).toArray⟩).1 = s.length ∧ (finR ⟨(lowerL s).toArray⟩).2.length ≤ 60 then some (xn ++ b8 (encC ((finR ⟨(lowerL s).toArray⟩).2.map Int.toNat)))
  else none
def ascL (s : List UInt8) : Option (List UInt8) := match asc1 s with
  | some t => if okA t = true then some t else none
  | none => none
def uniL (s : List UInt8) : Option (List UInt8) :=
  if ascL s = some s then (if isXn s = true then (decC (nat8 (s.drop 4))).map (fun l => encAll (l.map fun (c : Nat) => (c : Int))) else some s) else none

theorem sN_nat8 (s : ByteArray) : sN s = nat8 s.data.toList := rfl

theorem lab_lower {l : List UInt8} (h : ∀ c ∈ l, labB c = true) : lowerL l = l := by
  unfold lowerL
  conv => rhs; rw [← List.map_id l]
  refine List.map_congr_left fun c hc => ?_
  have := labB_parts (h c hc)
  unfold lowerC
  rw [if_neg (by omega)]
  rfl

theorem lab_ascii {l : List UInt8} (h : ∀ c ∈ l, labB c = true) : asciiB l = true := by
  unfold asciiB
  rw [List.all_eq_true]
  intro c hc
  have := labB_parts (h c hc)
  exact decide_eq_true (by omega)

theorem okA_lab {t : List UInt8} (h : okA t = true) : labL t = true := by
  unfold okA at h
  simp only [Bool.and_eq_true] at h
  exact h.1

theorem ascL_ok {s t : List UInt8} (h : ascL s = some t) : okA t = true := by
  unfold ascL at h
  split at h
  · split at h
    · rename_i h1; cases h; exact h1
    · cases h
  · cases h

theorem ascL_of_ok {t : List UInt8} (h : okA t = true) : ascL t = some t := by
  obtain ⟨_, _, _, _, hb⟩ := labL_parts (okA_lab h)
  have e : asc1 t = some t := by
    unfold asc1
    rw [if_pos (lab_ascii hb), lab_lower hb]
  unfold ascL
  rw [e]
  exact if_pos h

theorem ascL_idem {s t : List UInt8} (h : ascL s = some t) : ascL t = some t := ascL_of_ok (ascL_ok h)

theorem ascL_lab {s t : List UInt8} (h : ascL s = some t) : labL t = true := okA_lab (ascL_ok h)

theorem encD_none (l : List Nat) : ∀ (f n d : Nat), (l.filter (· < n)).length = l.length → encD l f n d (l.filter (· < n)).length = []
  | 0, n, d, _ => by rw [encD]
  | f + 1, n, d, h => by
    rw [encD, if_neg (by omega)]

theorem xn_prefix {l : List UInt8} (h : isXn l = true) : l = xn ++ l.drop 4 := by
  unfold isXn at h
  obtain ⟨r, rfl⟩ := List.isPrefixOf_iff_prefix.1 h
  simp [xn]

theorem xn_app (l : List UInt8) : isXn (xn ++ l) = true := by
  unfold isXn
  exact List.isPrefixOf_iff_prefix.2 (List.prefix_append _ _)

theorem mem_nat8 {l : List UInt8} {x : Nat} (h : x ∈ nat8 l) : ∃ c ∈ l, c.toNat = x := by
  unfold nat8 at h
  obtain ⟨c, hc, rfl⟩ := List.mem_map.1 h
  exact ⟨c, hc, rfl⟩

/-- The runes of a coded label: one from 128 on, none of the great letters. -/
theorem dec_lab {t : List UInt8} {l : List Nat} (hx : isXn t = true) (hl : labL t = true) (hd : decC (nat8 (t.drop 4)) = some l) :
    (∃ x ∈ l, 128 ≤ x) ∧ ∀ x ∈ l, ¬ (65 ≤ x ∧ x ≤ 90) := by
  obtain ⟨_, _, _, hlast, hb⟩ := labL_parts hl
  obtain ⟨hok, he⟩ := (dec_iff _ _).1 hd
  have ht := xn_prefix hx
  constructor
  · apply Classical.byContradiction
    intro hno
    have hall : ∀ x ∈ l, x < 128 := fun x hx => by
      apply Classical.byContradiction
      intro h
      exact hno ⟨x, hx, by omega⟩
    have hf : l.filter (· < 128) = l := List.filter_eq_self.2 fun x hx => decide_eq_true (hall x hx)
    have hv : encV l = [] := by
      unfold encV
      rw [encD_none l l.length 128 0 (by rw [hf])]
      rw [codeV]
    unfold encC at he
    rw [hf, hv, List.map_nil, List.append_nil] at he
    by_cases h0 : 0 < l.length
    · rw [if_pos h0] at he
      apply hlast
      have h2 : (nat8 (t.drop 4)).getLast? = some 45 := by rw [← he]; simp
      unfold nat8 at h2
      rw [List.getLast?_map] at h2
      cases h3 : (t.drop 4).getLast? with
      | none => rw [h3] at h2; cases h2
      | some c =>
        rw [h3] at h2
        have hc : c.toNat = 45 := by simpa using h2
        have hc' : c = 45 := UInt8.toNat_inj.1 (by simpa using hc)
        subst hc'
        rw [ht, List.getLast?_append, h3]
        rfl
    · rw [if_neg h0] at he
      have h2 : nat8 (t.drop 4) = [] := by rw [← he, List.append_nil]; exact List.eq_nil_of_length_eq_zero (by omega)
      have h3 : t.drop 4 = [] := by unfold nat8 at h2; simpa using h2
      apply hlast
      rw [ht, h3]
      rfl
  · intro x hxl hx2
    have hm : x ∈ encC l := by
      unfold encC
      rw [List.append_assoc]
      exact List.mem_append_left _ (List.mem_filter.2 ⟨hxl, decide_eq_true (by omega)⟩)
    rw [he] at hm
    obtain ⟨c, hc, hcx⟩ := mem_nat8 hm
    have := labB_parts (hb c (List.mem_of_mem_drop hc))
    omega

theorem b8_nat8 (l : List UInt8) : b8 (nat8 l) = l := by
  unfold b8 nat8
  rw [List.map_map]
  conv => rhs; rw [← List.map_id l]
  exact List.map_congr_left fun c _ => by simp

theorem encOk_Zall {l : List Nat} (h : encOk l = true) : allOk (l.map fun (c : Nat) => (c : Int)) := (encOk_Z.1 h).2

theorem toNat_back (l : List Nat) : (l.map fun (c : Nat) => (c : Int)).map Int.toNat = l := by
  rw [List.map_map]
  conv => rhs; rw [← List.map_id l]
  exact List.map_congr_left fun c _ => by simp

theorem low_size (s : ByteArray) : (⟨(lowerL s.data.toList).toArray⟩ : ByteArray).size = s.size := by
  show (lowerL s.data.toList).toArray.size = s.data.size
  rw [List.size_toArray, lowerL, List.length_map]
  rfl

theorem lower_ascii (l : List UInt8) : asciiB (lowerL l) = asciiB l := by
  unfold asciiB lowerL
  rw [List.all_map]
  congr 1
  funext c
  have h := lowerC_toNat c
  by_cases hc : 65 ≤ (c.toNat : Int) ∧ (c.toNat : Int) ≤ 90
  · rw [if_pos hc] at h
    rw [Function.comp, decide_eq_decide]
    omega
  · rw [if_neg hc] at h
    rw [Function.comp, decide_eq_decide]
    omega

/-- A text that is no text of runes, or of too many, has no label. -/
theorem asc1_no {s : List UInt8} (h : asciiB s = false) (h2 : ¬ ((finR ⟨(lowerL s).toArray⟩).1 = s.length ∧ (finR ⟨(lowerL s).toArray⟩).2.length ≤ 60)) : ascL s = none := by
  unfold ascL asc1
  rw [if_neg (by rw [h]; decide), if_neg h2]
theorem asc1_yes {s : List UInt8} (h : asciiB s = false) (h2 : (finR ⟨(lowerL s).toArray⟩).1 = s.length ∧ (finR ⟨(lowerL s).toArray⟩).2.length ≤ 60) :
    ascL s = if okA (xn ++ b8 (encC ((finR ⟨(lowerL s).toArray⟩).2.map Int.toNat))) = true then some (xn ++ b8 (encC ((finR ⟨(lowerL s).toArray⟩).2.map Int.toNat))) else none := by
  unfold ascL asc1
  rw [if_neg (by rw [h]; decide), if_pos h2]
theorem asc1_ascii {s : List UInt8} (h : asciiB s = true) : ascL s = if okA (lowerL s) = true then some (lowerL s) else none := by
  unfold ascL asc1
  rw [if_pos h]

def ansS (r : Option (List UInt8)) : Value := match r with
  | some t => .tuple #[.string ⟨t.toArray⟩, .bool true]
  | none => .tuple #[.string ⟨#[]⟩, .bool false]

theorem ans_if (b : Bool) (t : List UInt8) : ansS (if b = true then some t else none) = if b = true then .tuple #[.string ⟨t.toArray⟩, .bool true] else .tuple #[.string ⟨#[]⟩, .bool false] := by
  cases b <;> rfl
end Go.Proofs.YtcgjabbjpalmkaaDoor
