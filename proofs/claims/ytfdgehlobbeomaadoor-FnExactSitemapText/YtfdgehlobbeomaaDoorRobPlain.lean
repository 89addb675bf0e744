/- What a site forbids, plainly: names, patterns, what is read of a text, and its text. -/
import Derived.Test.YtfdgehlobbeomaaDoorRows
import Derived.Test.YtfdgehlobbeomaaDoorPctPlain
import Derived.Test.YtfdgehlobbeomaaDoorLowerWalk
import Derived.Test.YtfdgehlobbeomaaDoorTrimWalk
import Derived.Test.YtfdgehlobbeomaaDoorSplPlain
namespace Go.Proofs.YtfdgehlobbeomaaDoor
open Go.RowKit
set_option linter.unusedVariables false

def agB (c : UInt8) : Bool := letterN c.toNat || decide (c = 95) || decide (c = 45)
def agL (l : List UInt8) : List UInt8 := if l.head? = some 42 then [42] else lowerL (l.takeWhile agB)
def patL (l : List UInt8) : List UInt8 := plL 2 l
structure LV where
  al : Bool
  pa : ByteArray
structure PT where
  ag : List ByteArray
  ln : List LV
def pt0 : PT := ⟨[], []⟩
def lv0 : LV := ⟨false, ByteArray.empty⟩
def notB (b c : UInt8) : Bool := c != b
def headC (b : UInt8) (l : List UInt8) : List UInt8 := l.takeWhile (notB b)
def restC (b : UInt8) (l : List UInt8) : List UInt8 := l.dropWhile (notB b)
def keyU : List UInt8 := [117, 115, 101, 114, 45, 97, 103, 101, 110, 116]
def keyA : List UInt8 := [97, 108, 108, 111, 119]
def keyD : List UInt8 := [100, 105, 115, 97, 108, 108, 111, 119]
def keyL (l : List UInt8) : List UInt8 := lowerL (Lib.trimS (headC 58 (headC 35 l)) blanks4)
def valL (l : List UInt8) : List UInt8 := Lib.trimS (restC 58 (headC 35 l)).tail blanks4
def hasK (l : List UInt8) : Bool := !(restC 58 (headC 35 l)).isEmpty
def addAg (ps : List PT) (a : List UInt8) : List PT := match ps.getLast? with
  | none => [⟨[⟨a.toArray⟩], []⟩]
  | some p => if p.ln.isEmpty = true then ps.dropLast ++ [⟨p.ag ++ [⟨a.toArray⟩], p.ln⟩] else ps ++ [⟨[⟨a.toArray⟩], []⟩]
def addLn (ps : List PT) (b : Bool) (v : List UInt8) : List PT := match ps.getLast? with
  | none => ps
  | some p => if v.isEmpty = true then ps else ps.dropLast ++ [⟨p.ag, p.ln ++ [⟨b, ⟨(patL v).toArray⟩⟩]⟩]
/-- What one line does to the parts that were read. -/
def stepP (ps : List PT) (l : List UInt8) : List PT :=
  if hasK l = false then ps else if keyL l = keyU then addAg ps (agL (valL l)) else if keyL l = keyA then addLn ps true (valL l) else if keyL l = keyD then addLn ps false (valL l) else ps
def noCr (l : List UInt8) : List UInt8 := l.map fun c => if c = 13 then 10 else c
def robL (l : List UInt8) : List PT := (spl 10 (noCr (l.take 20000))).foldl stepP []
def agT (a : ByteArray) : List UInt8 := keyU ++ [58, 32] ++ a.data.toList
def lnT (x : LV) : List UInt8 := (if x.al = true then keyA else keyD) ++ [58, 32] ++ x.pa.data.toList
def linesP (p : PT) : List (List UInt8) := p.ag.map agT ++ p.ln.map lnT
def robT (ps : List PT) : List UInt8 := (ps.flatMap linesP).flatMap fun x => x ++ [10]

/-- A name, and a pattern, as they are read. -/
def agOk (a : ByteArray) : Prop := agL a.data.toList = a.data.toList ∧ ∀ c ∈ a.data.toList, c = 42 ∨ agB c = true
def paB (c : UInt8) : Bool := keepN 2 c.toNat || decide (c = 37)
def lnOk (x : LV) : Prop := 0 < x.pa.data.toList.length ∧ patL x.pa.data.toList = x.pa.data.toList ∧ ∀ c ∈ x.pa.data.toList, paB c = true
def ptOk (p : PT) : Prop := p.ag ≠ [] ∧ (∀ a ∈ p.ag, agOk a) ∧ ∀ x ∈ p.ln, lnOk x
def robOk (ps : List PT) : Prop := (∀ p ∈ ps, ptOk p) ∧ ∀ p ∈ ps.dropLast, p.ln ≠ []

theorem ag_chars : ∀ n, n < 256 → (agB (UInt8.ofNat n) = true ∨ n = 42) → n ≠ 10 ∧ n ≠ 13 ∧ n ≠ 32 ∧ n ≠ 9 ∧ n ≠ 35 ∧ n ≠ 58 := by decide +kernel
theorem pa_chars : ∀ n, n < 256 → paB (UInt8.ofNat n) = true → n ≠ 10 ∧ n ≠ 13 ∧ n ≠ 32 ∧ n ≠ 9 ∧ n ≠ 35 := by decide +kernel
theorem low_idem (l : List UInt8) : lowerL (lowerL l) = lowerL l := by
  unfold lowerL
  rw [List.map_map]
  refine List.map_congr_left fun c _ => ?_
  have : ∀ n, n < 256 → lowerC (lowerC (UInt8.ofNat n)) = lowerC (UInt8.ofNat n) := by decide +kernel
  have h := this c.toNat c.toNat_lt
  simpa using h
theorem ag_low : ∀ n, n < 256 → agB (UInt8.ofNat n) = true → agB (lowerC (UInt8.ofNat n)) = true ∧ lowerC (UInt8.ofNat n) ≠ 42 := by decide +kernel
theorem ag_lowB {c : UInt8} (h : agB c = true) : agB (lowerC c) = true ∧ lowerC c ≠ 42 := by
  have := ag_low c.toNat c.toNat_lt (by simpa using h)
  simpa using this
theorem takeWhile_all {f : UInt8 → Bool} : ∀ {l : List UInt8}, (∀ c ∈ l, f c = true) → l.takeWhile f = l
  | [], _ => rfl
  | c :: l, h => by
    rw [List.takeWhile_cons, if_pos (h c (by simp)), takeWhile_all fun x hx => h x (by simp [hx])]
theorem dropWhile_all {f : UInt8 → Bool} : ∀ {l : List UInt8}, (∀ c ∈ l, f c = true) → l.dropWhile f = []
  | [], _ => rfl
  | c :: l, h => by
    rw [List.dropWhile_cons, if_pos (h c (by simp)), dropWhile_all fun x hx => h x (by simp [hx])]
theorem mem_takeWhile {f : UInt8 → Bool} : ∀ {l : List UInt8} {c : UInt8}, c ∈ l.takeWhile f → f c = true
  | [], c, h => by cases h
  | x :: l, c, h => by
    rw [List.takeWhile_cons] at h
    split at h
    · rename_i hx
      rcases List.mem_cons.1 h with rfl | h
      · exact hx
      · exact mem_takeWhile h
    · cases h
/-- A name that was read is read again. -/
theorem ag_ag (l : List UInt8) : agL (agL l) = agL l ∧ ∀ c ∈ agL l, c = 42 ∨ agB c = true := by
  unfold agL
  by_cases h : l.head? = some 42
  · rw [if_pos h]
    exact ⟨rfl, fun c hc => .inl (by simpa using hc)⟩
  · rw [if_neg h]
    have hc : ∀ c ∈ lowerL (l.takeWhile agB), agB c = true ∧ c ≠ 42 := fun c hc => by
      unfold lowerL at hc
      obtain ⟨d, hd, rfl⟩ := List.mem_map.1 hc
      exact ag_lowB (mem_takeWhile hd)
    refine ⟨?_, fun c hc' => .inr (hc c hc').1⟩
    rw [if_neg, takeWhile_all fun c hc' => (hc c hc').1, low_idem]
    intro e
    cases hl : lowerL (l.takeWhile agB) with
    | nil => rw [hl] at e; cases e
    | cons x xs =>
      rw [hl] at e
      injection e with e
      exact (hc x (by rw [hl]; simp)).2 e
theorem put_pa (c : UInt8) : ∀ x ∈ putB c, paB x = true := by
  have hd : ∀ n, n < 16 → paB (digU n) = true := by decide +kernel
  intro x hx
  unfold putB at hx
  simp at hx
  rcases hx with rfl | rfl | rfl
  · rfl
  · exact hd _ (by have := c.toNat_lt; omega)
  · exact hd _ (by omega)
theorem pat_chars (l : List UInt8) : ∀ c ∈ patL l, paB c = true := by
  unfold patL
  refine tok_ind (fun l => ∀ c ∈ plL 2 l, paB c = true) (fun c hc => by cases hc) ?_ ?_ l
  · intro a b c r h ih x hx
    rw [pl_pct _ _ _ _ _ h] at hx
    rcases List.mem_append.1 hx with hx | hx
    · unfold freeB at hx
      split at hx
      · rename_i hf
        rw [List.mem_singleton.1 hx]
        unfold paB
        rw [keep_free (by decide) hf]
        rfl
      · exact put_pa _ x hx
    · exact ih x hx
  · intro a r h ih x hx
    rw [pl_byte _ _ _ h] at hx
    rcases List.mem_append.1 hx with hx | hx
    · unfold keptB at hx
      split at hx
      · rename_i hf
        rw [List.mem_singleton.1 hx]
        unfold paB
        rw [hf]
        rfl
      · exact put_pa _ x hx
    · exact ih x hx
theorem pat_pat (l : List UInt8) : patL (patL l) = patL l := pl_pl 2 (by decide) l
theorem pat_pos {l : List UInt8} (h : l ≠ []) : 0 < (patL l).length := by
  have key : ∀ l, l = [] ∨ 0 < (plL 2 l).length := by
    refine tok_ind _ (.inl rfl) ?_ ?_
    · intro a b c r h _
      right
      rw [pl_pct _ _ _ _ _ h, List.length_append]
      have := free_len (UInt8.ofNat (pctV a.toNat b.toNat c.toNat).toNat)
      omega
    · intro a r h _
      right
      rw [pl_byte _ _ _ h, List.length_append]
      have := kept_len 2 a
      omega
  exact (key l).resolve_left h
end Go.Proofs.YtfdgehlobbeomaaDoor
