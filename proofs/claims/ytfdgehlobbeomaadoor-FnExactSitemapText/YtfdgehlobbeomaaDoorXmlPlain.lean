/- Chapter 13, plainly: escapes and what comes back of them. -/
import Derived.Test.YtfdgehlobbeomaaDoorRows
import Derived.Test.YtfdgehlobbeomaaDoorCutWay
import Derived.Test.YtfdgehlobbeomaaDoorSplPlain
import Derived.Test.YtfdgehlobbeomaaDoorRuneOk
import Derived.Lib.RuneBytes
namespace Go.Proofs.YtfdgehlobbeomaaDoor
open Go.RowKit
set_option linter.unusedVariables false

def nAmp : List UInt8 := [97, 109, 112]
def nLt : List UInt8 := [108, 116]
def nGt : List UInt8 := [103, 116]
def nQuot : List UInt8 := [113, 117, 111, 116]
def nApos : List UInt8 := [97, 112, 111, 115]
/-- The escape of a byte. -/
def escC (c : UInt8) : List UInt8 :=
  if c = 38 then 38 :: (nAmp ++ [59]) else if c = 60 then 38 :: (nLt ++ [59]) else if c = 62 then 38 :: (nGt ++ [59]) else if c = 34 then 38 :: (nQuot ++ [59]) else if c = 39 then 38 :: (nApos ++ [59]) else [c]
/-- The escapes of a text. -/
def escL (l : List UInt8) : List UInt8 := l.flatMap escC
/-- The number that a name with a hash tells. -/
def hashN (n : List UInt8) : Option Nat := match n with
  | 35 :: 120 :: c :: r => numL 16 6 (c :: r)
  | 35 :: c :: r => numL 10 7 (c :: r)
  | _ => none
/-- What a name between & and ; stands for. -/
def nameR (n : List UInt8) : Option Nat :=
  if n = nAmp then some 38 else if n = nLt then some 60 else if n = nGt then some 62 else if n = nQuot then some 34 else if n = nApos then some 39 else match hashN n with
    | some r => if 0 < r ∧ r ≤ 1114111 ∧ (r < 55296 ∨ 57343 < r) then some r else none
    | none => none
theorem name_ok {n : List UInt8} {r : Nat} (h : nameR n = some r) : 0 < r ∧ runeOk (r : Int) := by
  unfold nameR at h
  split at h
  · cases h; exact ⟨by decide, by decide, by decide, .inl (by decide)⟩
  split at h
  · cases h; exact ⟨by decide, by decide, by decide, .inl (by decide)⟩
  split at h
  · cases h; exact ⟨by decide, by decide, by decide, .inl (by decide)⟩
  split at h
  · cases h; exact ⟨by decide, by decide, by decide, .inl (by decide)⟩
  split at h
  · cases h; exact ⟨by decide, by decide, by decide, .inl (by decide)⟩
  split at h
  · split at h
    · rename_i hr
      cases h
      refine ⟨hr.1, ?_⟩
      unfold runeOk
      omega
    · cases h
  · cases h
/-- What comes back of escapes; so many bytes at most are looked at. -/
def unE : Nat → List UInt8 → Option (List UInt8)
  | 0, _ => some []
  | _, [] => some []
  | n + 1, c :: r => if c = 38 then (if r.contains 59 = true then (match nameR (upB 59 r) with
      | some x => (unE n (behB 59 r)).map fun t => Lib.encodeRune (x : Int) ++ t
      | none => none) else none) else (unE n r).map fun t => c :: t
/-- What comes back of escapes. -/
def unF (l : List UInt8) : Option (List UInt8) := unE l.length l
theorem beh_len (r : List UInt8) : (behB 59 r).length ≤ r.length := by
  unfold behB
  rw [List.length_drop]
  have := (List.dropWhile_sublist (fun x => x != 59) (l := r)).length_le
  omega
theorem unE_fuel : ∀ (n m : Nat) (l : List UInt8), l.length ≤ n → l.length ≤ m → unE n l = unE m l
  | 0, m, l, h, _ => by
    have : l = [] := List.eq_nil_of_length_eq_zero (by omega)
    subst this
    cases m <;> rfl
  | n + 1, 0, l, _, h => by
    have : l = [] := List.eq_nil_of_length_eq_zero (by omega)
    subst this
    rfl
  | n + 1, m + 1, [], _, _ => rfl
  | n + 1, m + 1, c :: r, h1, h2 => by
    have hb := beh_len r
    simp only [List.length_cons] at h1 h2
    rw [unE, unE, unE_fuel n m r (by omega) (by omega), unE_fuel n m (behB 59 r) (by omega) (by omega)]
theorem unF_nil : unF [] = some [] := rfl
theorem unF_byte {c : UInt8} (h : c ≠ 38) (r : List UInt8) : unF (c :: r) = (unF r).map fun t => c :: t := by
  unfold unF
  rw [List.length_cons, unE, if_neg h]
theorem unF_amp (r : List UInt8) : unF (38 :: r) = if r.contains 59 = true then (match nameR (upB 59 r) with
      | some x => (unF (behB 59 r)).map fun t => Lib.encodeRune (x : Int) ++ t
      | none => none) else none := by
  unfold unF
  rw [List.length_cons, unE, if_pos rfl, unE_fuel r.length (behB 59 r).length (behB 59 r) (beh_len r) (Nat.le_refl _)]
theorem up_app {n r : List UInt8} (h : 59 ∉ n) : upB 59 (n ++ 59 :: r) = n ∧ behB 59 (n ++ 59 :: r) = r ∧ (n ++ 59 :: r).contains 59 = true := by
  unfold upB behB
  refine ⟨?_, ?_, by simp⟩
  · rw [List.takeWhile_append_of_pos (fun a ha => bne_iff_ne.2 fun e => h (by rw [← e]; exact ha))]
    simp
  · rw [List.dropWhile_append_of_pos (fun a ha => bne_iff_ne.2 fun e => h (by rw [← e]; exact ha))]
    simp
theorem un_name {n : List UInt8} {x : Nat} (h : 59 ∉ n) (hn : nameR n = some x) (r : List UInt8) : unF (38 :: (n ++ 59 :: r)) = (unF r).map fun t => Lib.encodeRune (x : Int) ++ t := by
  obtain ⟨h1, h2, h3⟩ := up_app (r := r) h
  rw [unF_amp, h3, if_pos rfl, h1, hn, h2]
theorem esc_one (c : UInt8) (r : List UInt8) : unF (escC c ++ r) = (unF r).map fun t => c :: t := by
  unfold escC
  split
  · rename_i h; subst h
    rw [List.cons_append, List.append_assoc]
    exact un_name (n := nAmp) (by decide) rfl r
  split
  · rename_i h; subst h
    rw [List.cons_append, List.append_assoc]
    exact un_name (n := nLt) (by decide) rfl r
  split
  · rename_i h; subst h
    rw [List.cons_append, List.append_assoc]
    exact un_name (n := nGt) (by decide) rfl r
  split
  · rename_i h; subst h
    rw [List.cons_append, List.append_assoc]
    exact un_name (n := nQuot) (by decide) rfl r
  split
  · rename_i h; subst h
    rw [List.cons_append, List.append_assoc]
    exact un_name (n := nApos) (by decide) rfl r
  · rename_i h _ _ _ _
    exact unF_byte h r
/-- A text comes back of its escapes. -/
theorem un_esc : ∀ l : List UInt8, unF (escL l) = some l
  | [] => rfl
  | c :: l => by
    unfold escL
    rw [List.flatMap_cons, esc_one]
    show ((unF (escL l)).map _) = _
    rw [un_esc l]
    rfl
theorem esc_len (l : List UInt8) : (escL l).length ≤ 6 * l.length := by
  induction l with
  | nil => exact Nat.le_refl _
  | cons c l ih =>
    unfold escL at ih ⊢
    rw [List.flatMap_cons, List.length_append, List.length_cons]
    have : (escC c).length ≤ 6 := by
      unfold escC
      split
      · decide
      split
      · decide
      split
      · decide
      split
      · decide
      split
      · decide
      · exact (by decide : 1 ≤ 6)
    omega
/-- Escapes have no marks. -/
theorem esc_free (l : List UInt8) : ∀ c ∈ escL l, c ≠ 60 ∧ c ≠ 62 ∧ c ≠ 34 := by
  intro c hc
  obtain ⟨x, _, hx⟩ := List.mem_flatMap.1 hc
  unfold escC at hx
  revert hx
  split
  · intro h; clear hc; revert c; decide
  split
  · intro h; clear hc; revert c; decide
  split
  · intro h; clear hc; revert c; decide
  split
  · intro h; clear hc; revert c; decide
  split
  · intro h; clear hc; revert c; decide
  · rename_i h1 h2 h3 h4 _
    intro h
    rw [List.mem_singleton.1 h]
    exact ⟨h2, h3, h4⟩
end Go.Proofs.YtfdgehlobbeomaaDoor
