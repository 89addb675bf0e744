/- Chapter 13, plainly: marks, and the tokens of a text. -/
import Derived.Test.YtjdmmmohaiiocaaDoorRows
import Derived.Test.YtjdmmmohaiiocaaDoorXmlPlain
import Derived.Test.YtjdmmmohaiiocaaDoorTokRow
import Derived.Test.YtjdmmmohaiiocaaDoorLetWalk
import Derived.Lib.IndexMore
namespace Go.Proofs.YtjdmmmohaiiocaaDoor
open Go.RowKit
set_option linter.unusedVariables false

/-- A byte of a name. -/
def nmB (c : UInt8) : Bool := letterZ (c.toNat : Int) || decide (48 ≤ c.toNat ∧ c.toNat ≤ 57) || amongL [58, 95, 45, 46] (c.toNat : Int)
def blkB (c : UInt8) : Bool := decide (c.toNat = 32) || decide (c.toNat = 9) || decide (c.toNat = 10) || decide (c.toNat = 13)
/-- How long the name is that a text begins with; none: 0. -/
def nameN (r : List UInt8) : Nat := if ((r.take 41).takeWhile nmB).length = 41 then 0 else ((r.take 41).takeWhile nmB).length
/-- What is read of a mark: tokens, how many bytes, a code. -/
structure MR where
  ts : List TV
  n : Nat
  code : Nat
def noMR (code : Nat) : MR := ⟨[], 0, code⟩
def shMR (k : Nat) (m : MR) : MR := ⟨m.ts, k + m.n, m.code⟩
/-- The place behind it. -/
def nxt (at_ : Nat) (m : MR) : Int := if m.code = 0 then ((at_ + m.n : Nat) : Int) else 0
def bytesV (l : List UInt8) : ByteArray := ⟨l.toArray⟩
/-- Behind what begins up to a mark. -/
def skipR (r m : List UInt8) : MR := if Lib.index r m = -1 then noMR 1 else ⟨[], (Lib.index r m).toNat + m.length, 0⟩
def cdataR (r : List UInt8) : MR := if Lib.index r [93, 93, 62] = -1 then noMR 1 else if Lib.index r [93, 93, 62] = 0 then ⟨[], 3, 0⟩ else ⟨[⟨3, bytesV (r.take (Lib.index r [93, 93, 62]).toNat)⟩], (Lib.index r [93, 93, 62]).toNat + 3, 0⟩
def closeE (r : List UInt8) : Nat := nameN r + ((r.drop (nameN r)).takeWhile blkB).length
def closeR (r : List UInt8) : MR := if closeE r = r.length then noMR 1 else if nameN r = 0 ∨ r[closeE r]? ≠ some 62 then noMR 2 else ⟨[⟨2, bytesV (r.take (nameN r))⟩], closeE r + 1, 0⟩
def nxQ (q c : UInt8) : UInt8 := if q = 0 ∧ (c = 34 ∨ c = 39) then c else if q = c then 0 else q
/-- How far it is to the mark's end, with this quote open. -/
def scQ : UInt8 → List UInt8 → Nat
  | _, [] => 0
  | q, c :: t => if q = 0 ∧ c = 62 then 0 else 1 + scQ (nxQ q c) t
def openE (r : List UInt8) : Nat := nameN r + scQ 0 (r.drop (nameN r))
def openM (r : List UInt8) : List UInt8 := (r.take (openE r)).drop (nameN r)
def badM (m : List UInt8) : Bool := match m with
  | [] => false
  | c :: t => decide (c :: t ≠ [47]) && !blkB c
def openR (r : List UInt8) : MR := if openE r = r.length then noMR 1 else if nameN r = 0 ∨ badM (openM r) = true then noMR 2 else
  ⟨⟨1, bytesV (r.take (nameN r))⟩ :: (if (openM r).getLast? = some 47 then [⟨2, bytesV (r.take (nameN r))⟩] else []), openE r + 1, 0⟩
/-- What begins with a mark. -/
def markR (r : List UInt8) : MR :=
  if Lib.hasPrefix r [60, 33, 45, 45] = true then shMR 4 (skipR (r.drop 4) [45, 45, 62])
  else if Lib.hasPrefix r [60, 63] = true then shMR 2 (skipR (r.drop 2) [63, 62])
  else if Lib.hasPrefix r [60, 33, 91, 67, 68, 65, 84, 65, 91] = true then shMR 9 (cdataR (r.drop 9))
  else if Lib.hasPrefix r [60, 47] = true then shMR 2 (closeR (r.drop 2))
  else shMR 1 (openR (r.drop 1))
/-- One step: tokens, how many bytes, a code. -/
def stepR (r : List UInt8) : MR := if r.head? = some 60 then markR r else match unF (upB 60 r) with
  | some t => ⟨[⟨3, bytesV t⟩], (upB 60 r).length, 0⟩
  | none => noMR 2
/-- The tokens of a text behind those that were read; so many steps at most. -/
def tokF : Nat → List TV → List UInt8 → List TV × Nat
  | 0, acc, _ => (acc, 0)
  | _, acc, [] => (acc, 0)
  | n + 1, acc, c :: r => if (stepR (c :: r)).code ≠ 0 then ([], (stepR (c :: r)).code) else if 3000 < (acc ++ (stepR (c :: r)).ts).length then ([], 3) else tokF n (acc ++ (stepR (c :: r)).ts) ((c :: r).drop (stepR (c :: r)).n)
def toksL (l : List UInt8) : List TV × Nat := tokF l.length [] l
theorem nameN_le (r : List UInt8) : nameN r ≤ r.length ∧ nameN r ≤ 40 := by
  have h1 := (List.takeWhile_sublist nmB (l := r.take 41)).length_le
  rw [List.length_take] at h1
  unfold nameN
  split <;> omega
theorem scQ_le : ∀ (l : List UInt8) (q : UInt8), scQ q l ≤ l.length
  | [], q => Nat.le_refl _
  | c :: t, q => by
    rw [scQ]
    split
    · exact Nat.zero_le _
    · have := scQ_le t (nxQ q c)
      rw [List.length_cons]
      omega
theorem openE_le (r : List UInt8) : openE r ≤ r.length := by
  unfold openE
  have h1 := scQ_le (r.drop (nameN r)) 0
  rw [List.length_drop] at h1
  have := (nameN_le r).1
  omega
theorem closeE_le (r : List UInt8) : closeE r ≤ r.length := by
  unfold closeE
  have h1 := (List.takeWhile_sublist blkB (l := r.drop (nameN r))).length_le
  rw [List.length_drop] at h1
  have := (nameN_le r).1
  omega
theorem skip_le (r m : List UInt8) : (skipR r m).n ≤ r.length := by
  unfold skipR
  split
  · exact Nat.zero_le _
  · rename_i h
    have h0 := Lib.index_ge r m
    have := Lib.index_room r m (by omega)
    show (Lib.index r m).toNat + m.length ≤ _
    omega
theorem cdata_le (r : List UInt8) : (cdataR r).n ≤ r.length := by
  unfold cdataR
  split
  · exact Nat.zero_le _
  · rename_i h
    have h0 := Lib.index_ge r [93, 93, 62]
    have h1 := Lib.index_room r [93, 93, 62] (by omega)
    have h2 : ([93, 93, 62] : List UInt8).length = 3 := rfl
    rw [h2] at h1
    split
    · show 3 ≤ _; omega
    · show (Lib.index r [93, 93, 62]).toNat + 3 ≤ _
      omega
theorem close_le (r : List UInt8) : (closeR r).n ≤ r.length := by
  have := closeE_le r
  unfold closeR
  split
  · exact Nat.zero_le _
  split
  · exact Nat.zero_le _
  · show closeE r + 1 ≤ _
    omega
theorem open_le (r : List UInt8) : (openR r).n ≤ r.length := by
  have := openE_le r
  unfold openR
  split
  · exact Nat.zero_le _
  split
  · exact Nat.zero_le _
  · show openE r + 1 ≤ _
    omega
theorem pre_len {r m : List UInt8} (h : Lib.hasPrefix r m = true) : m.length ≤ r.length := by
  unfold Lib.hasPrefix at h
  exact (List.isPrefixOf_iff_prefix.1 h).length_le
/-- A mark takes at least one byte, and no more than there are. -/
theorem mark_le {r : List UInt8} (h : r ≠ []) : 1 ≤ (markR r).n ∧ (markR r).n ≤ r.length := by
  have hl : 0 < r.length := List.length_pos_iff.2 h
  unfold markR
  split
  · rename_i h1
    have h2 := pre_len h1
    have h3 := skip_le (r.drop 4) [45, 45, 62]
    rw [List.length_drop] at h3
    have h4 : ([60, 33, 45, 45] : List UInt8).length = 4 := rfl
    show 1 ≤ 4 + _ ∧ 4 + _ ≤ _
    omega
  split
  · rename_i h1
    have h2 := pre_len h1
    have h3 := skip_le (r.drop 2) [63, 62]
    rw [List.length_drop] at h3
    have h4 : ([60, 63] : List UInt8).length = 2 := rfl
    show 1 ≤ 2 + _ ∧ 2 + _ ≤ _
    omega
  split
  · rename_i h1
    have h2 := pre_len h1
    have h3 := cdata_le (r.drop 9)
    rw [List.length_drop] at h3
    have h4 : ([60, 33, 91, 67, 68, 65, 84, 65, 91] : List UInt8).length = 9 := rfl
    show 1 ≤ 9 + _ ∧ 9 + _ ≤ _
    omega
  split
  · rename_i h1
    have h2 := pre_len h1
    have h3 := close_le (r.drop 2)
    rw [List.length_drop] at h3
    have h4 : ([60, 47] : List UInt8).length = 2 := rfl
    show 1 ≤ 2 + _ ∧ 2 + _ ≤ _
    omega
  · have h3 := open_le (r.drop 1)
    rw [List.length_drop] at h3
    show 1 ≤ 1 + _ ∧ 1 + _ ≤ _
    omega
theorem step_le {r : List UInt8} (h : r ≠ []) (hc : (stepR r).code = 0) : 1 ≤ (stepR r).n ∧ (stepR r).n ≤ r.length := by
  unfold stepR at hc ⊢
  split
  · exact mark_le h
  · rename_i h1
    rw [if_neg h1] at hc
    split
    · show 1 ≤ (upB 60 r).length ∧ (upB 60 r).length ≤ _
      refine ⟨?_, (List.takeWhile_sublist _).length_le⟩
      cases r with
      | nil => exact absurd rfl h
      | cons c t =>
        have hc2 : c ≠ 60 := fun e => h1 (by rw [e]; rfl)
        unfold upB
        rw [List.takeWhile_cons, if_pos (bne_iff_ne.2 hc2), List.length_cons]
        omega
    · rename_i h2
      rw [h2] at hc
      cases hc
theorem tokF_fuel : ∀ (n m : Nat) (acc : List TV) (l : List UInt8), l.length ≤ n → l.length ≤ m → tokF n acc l = tokF m acc l
  | 0, m, acc, l, h, _ => by
    have : l = [] := List.eq_nil_of_length_eq_zero (by omega)
    subst this
    cases m <;> rfl
  | n + 1, 0, acc, l, _, h => by
    have : l = [] := List.eq_nil_of_length_eq_zero (by omega)
    subst this
    rfl
  | n + 1, m + 1, acc, [], _, _ => rfl
  | n + 1, m + 1, acc, c :: r, h1, h2 => by
    rw [tokF, tokF]
    split
    · rfl
    · rename_i hc
      split
      · rfl
      · have hs := step_le (r := c :: r) (by simp) (by omega)
        exact tokF_fuel n m _ _ (by rw [List.length_drop]; omega) (by rw [List.length_drop]; omega)
/-- The tokens of what is left, behind those that were read. -/
def tokG (acc : List TV) (l : List UInt8) : List TV × Nat := tokF l.length acc l
theorem tokG_nil (acc : List TV) : tokG acc [] = (acc, 0) := rfl
theorem tokG_bad {acc : List TV} {l : List UInt8} (h : l ≠ []) (hc : (stepR l).code ≠ 0) : tokG acc l = ([], (stepR l).code) := by
  unfold tokG
  cases l with
  | nil => exact absurd rfl h
  | cons c r => rw [List.length_cons, tokF, if_pos hc]
theorem tokG_many {acc : List TV} {l : List UInt8} (h : l ≠ []) (hc : (stepR l).code = 0) (hm : 3000 < (acc ++ (stepR l).ts).length) : tokG acc l = ([], 3) := by
  unfold tokG
  cases l with
  | nil => exact absurd rfl h
  | cons c r => rw [List.length_cons, tokF, if_neg (by rw [hc]; simp), if_pos hm]
theorem tokG_next {acc : List TV} {l : List UInt8} (h : l ≠ []) (hc : (stepR l).code = 0) (hm : ¬ 3000 < (acc ++ (stepR l).ts).length) : tokG acc l = tokG (acc ++ (stepR l).ts) (l.drop (stepR l).n) := by
  have hs := step_le h hc
  unfold tokG
  cases l with
  | nil => exact absurd rfl h
  | cons c r =>
    rw [List.length_cons, tokF, if_neg (by rw [hc]; simp), if_neg hm]
    rw [List.length_cons] at hs
    exact tokF_fuel _ _ _ _ (by rw [List.length_drop, List.length_cons]; omega) (Nat.le_refl _)
end Go.Proofs.YtjdmmmohaiiocaaDoor
