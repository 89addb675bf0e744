/- Plain laws of chapter 2, of no program: what is kept, percents, their reading; a text part by part. -/
import Derived.Test.YtfigkoapebdlfaaBase
namespace Go.Proofs.Ytfigkoapebdlfaa
open Go.RowKit

def letterN (c : Nat) : Bool := decide (97 ≤ c ∧ c ≤ 122) || decide (65 ≤ c ∧ c ≤ 90)
def digitN (c : Nat) : Bool := decide (48 ≤ c ∧ c ≤ 57)
def plainT (c : Nat) : Bool := decide (c = 45 ∨ c = 46 ∨ c = 95 ∨ c = 126)
def freeN (c : Nat) : Bool := letterN c || digitN c || plainT c
def markN (c : Nat) : Bool := decide (c = 33 ∨ c = 36 ∨ c = 38 ∨ c = 39 ∨ c = 40 ∨ c = 41 ∨ c = 42 ∨ c = 43 ∨ c = 44 ∨ c = 59 ∨ c = 61 ∨ c = 58 ∨ c = 64)
def keepN (set : Int) (c : Nat) : Bool := decide (1 ≤ set ∧ set ≤ 3) && (freeN c || markN c || (decide (c = 47) && decide (set ≠ 3)) || (decide (c = 63) && decide (set = 2)))
def keepZ (set c : Int) : Bool := decide (0 ≤ c) && keepN set c.toNat

/-- The number of a hex digit, or -1. -/
def hexN (c : Nat) : Int := if 48 ≤ c ∧ c ≤ 57 then (c : Int) - 48 else if 97 ≤ c ∧ c ≤ 102 then (c : Int) - 87 else if 65 ≤ c ∧ c ≤ 70 then (c : Int) - 55 else -1
/-- A hex digit of a number below 16. -/
def digU (n : Nat) : UInt8 := UInt8.ofNat (if n < 10 then 48 + n else 55 + n)
/-- A byte as its percent. -/
def putB (c : UInt8) : List UInt8 := [37, digU (c.toNat / 16), digU (c.toNat % 16)]
/-- What three bytes tell, or -1. -/
def pctV (a b c : Nat) : Int := if a = 37 ∧ 0 ≤ hexN b ∧ 0 ≤ hexN c then hexN b * 16 + hexN c else -1
/-- What the head of a text tells, or -1. -/
def pctHd : List UInt8 → Int
  | a :: b :: c :: _ => pctV a.toNat b.toNat c.toNat
  | _ => -1

theorem hexN_le (c : Nat) : -1 ≤ hexN c ∧ hexN c ≤ 15 := by
  unfold hexN
  split
  · omega
  · split
    · omega
    · split <;> omega

theorem pctV_le (a b c : Nat) : -1 ≤ pctV a b c ∧ pctV a b c ≤ 255 := by
  have h1 := hexN_le b
  have h2 := hexN_le c
  unfold pctV
  split <;> omega

/-- A text part by part: a percent by f of its byte, another byte by g. -/
def tokL {α : Type} (f g : UInt8 → List α) : List UInt8 → List α
  | a :: b :: c :: r => if 0 ≤ pctV a.toNat b.toNat c.toNat then f (UInt8.ofNat (pctV a.toNat b.toNat c.toNat).toNat) ++ tokL f g r else g a ++ tokL f g (b :: c :: r)
  | [a, b] => g a ++ g b
  | [a] => g a
  | [] => []

theorem tok_nil {α : Type} (f g : UInt8 → List α) : tokL f g [] = [] := rfl
theorem tok_pct {α : Type} (f g : UInt8 → List α) (a b c : UInt8) (r : List UInt8) (h : 0 ≤ pctV a.toNat b.toNat c.toNat) :
    tokL f g (a :: b :: c :: r) = f (UInt8.ofNat (pctV a.toNat b.toNat c.toNat).toNat) ++ tokL f g r := by
  rw [tokL, if_pos h]
theorem tok_byte {α : Type} (f g : UInt8 → List α) (a : UInt8) (r : List UInt8) (h : pctHd (a :: r) < 0) : tokL f g (a :: r) = g a ++ tokL f g r := by
  match r, h with
  | [], _ => simp [tokL]
  | [b], _ => simp [tokL]
  | b :: c :: r, h =>
    have h' : ¬ 0 ≤ pctV a.toNat b.toNat c.toNat := by have h2 : pctV a.toNat b.toNat c.toNat < 0 := h; omega
    rw [tokL, if_neg h']

theorem hd_no (a : UInt8) (r : List UInt8) (h : a.toNat ≠ 37) : pctHd (a :: r) < 0 := by
  match r with
  | [] => simp [pctHd]
  | [b] => simp [pctHd]
  | b :: c :: r => simp [pctHd, pctV, h]

theorem tok_ind (P : List UInt8 → Prop) (h0 : P []) (h1 : ∀ a b c r, 0 ≤ pctV a.toNat b.toNat c.toNat → P r → P (a :: b :: c :: r)) (h2 : ∀ a r, pctHd (a :: r) < 0 → P r → P (a :: r)) : ∀ l, P l
  | [] => h0
  | [a] => h2 a [] (by simp [pctHd]) h0
  | [a, b] => h2 a [b] (by simp [pctHd]) (h2 b [] (by simp [pctHd]) h0)
  | a :: b :: c :: r =>
    if h : 0 ≤ pctV a.toNat b.toNat c.toNat then h1 a b c r h (tok_ind P h0 h1 h2 r)
    else h2 a (b :: c :: r) (by show pctV a.toNat b.toNat c.toNat < 0; omega) (tok_ind P h0 h1 h2 (b :: c :: r))

theorem put_all : ∀ n, n < 256 → pctV 37 (digU (n / 16)).toNat (digU (n % 16)).toNat = (n : Int) := by decide +kernel
theorem pctV_put (c : UInt8) : pctV (37 : UInt8).toNat (digU (c.toNat / 16)).toNat (digU (c.toNat % 16)).toNat = (c.toNat : Int) := put_all c.toNat c.toNat_lt

theorem tok_put {α : Type} (f g : UInt8 → List α) (c : UInt8) (r : List UInt8) : tokL f g (putB c ++ r) = f c ++ tokL f g r := by
  have h := pctV_put c
  show tokL f g (37 :: digU (c.toNat / 16) :: digU (c.toNat % 16) :: r) = _
  rw [tok_pct f g _ _ _ _ (by rw [h]; omega), h]
  simp

def unL : List UInt8 → List UInt8 := tokL (fun c => [c]) (fun a => [a])
def freeB (c : UInt8) : List UInt8 := if freeN c.toNat then [c] else putB c
def keptB (set : Int) (c : UInt8) : List UInt8 := if keepN set c.toNat then [c] else putB c
def plL (set : Int) : List UInt8 → List UInt8 := tokL freeB (keptB set)
def okT (set : Int) : List UInt8 → List Bool := tokL (fun _ => []) (fun a => [keepN set a.toNat])
def okL (set : Int) (l : List UInt8) : Bool := (okT set l).all id
def pcL (set : Int) (l : List UInt8) : List UInt8 := l.flatMap (keptB set)

theorem keep37 (set : Int) : keepN set 37 = false := by
  simp [keepN, freeN, letterN, digitN, plainT, markN]
theorem keep_ne {set : Int} {c : Nat} (h : keepN set c = true) : c ≠ 37 := by
  intro e
  rw [e, keep37] at h
  cases h
theorem free_ne {c : Nat} (h : freeN c = true) : c ≠ 37 := by
  intro e
  subst e
  revert h
  decide
theorem keep_free {set : Int} {c : Nat} (hs : 1 ≤ set ∧ set ≤ 3) (h : freeN c = true) : keepN set c = true := by
  simp [keepN, hs, h]
theorem keep_out {set : Int} {c : Nat} (hs : ¬ (1 ≤ set ∧ set ≤ 3)) : keepN set c = false := by
  unfold keepN
  rw [decide_eq_false hs]
  rfl
theorem free_lt {c : Nat} (h : freeN c = true) : c < 128 := by
  simp [freeN, letterN, digitN, plainT] at h
  omega
theorem keep_lt {set : Int} {c : Nat} (h : keepN set c = true) : c < 128 := by
  simp [keepN, freeN, letterN, digitN, plainT, markN] at h
  omega

/-- A kept byte, or a percent, at the head. -/
theorem tok_kept {α : Type} (f g : UInt8 → List α) (set : Int) (c : UInt8) (r : List UInt8) : tokL f g (keptB set c ++ r) = (if keepN set c.toNat then g c else f c) ++ tokL f g r := by
  unfold keptB
  split
  · next h => exact tok_byte f g c r (hd_no c r (keep_ne h))
  · exact tok_put f g c r
theorem tok_free {α : Type} (f g : UInt8 → List α) (c : UInt8) (r : List UInt8) : tokL f g (freeB c ++ r) = (if freeN c.toNat then g c else f c) ++ tokL f g r := by
  unfold freeB
  split
  · next h => exact tok_byte f g c r (hd_no c r (free_ne h))
  · exact tok_put f g c r

theorem pc_cons (set : Int) (a : UInt8) (l : List UInt8) : pcL set (a :: l) = keptB set a ++ pcL set l := by simp [pcL]

theorem un_pc (set : Int) (l : List UInt8) : unL (pcL set l) = l := by
  induction l with
  | nil => rfl
  | cons a l ih =>
    rw [pc_cons]
    unfold unL at ih ⊢
    rw [tok_kept, ih]
    split <;> rfl
theorem ok_pc (set : Int) (l : List UInt8) : okL set (pcL set l) = true := by
  induction l with
  | nil => rfl
  | cons a l ih =>
    rw [pc_cons]
    unfold okL okT at ih ⊢
    rw [tok_kept, List.all_append, ih]
    split
    · next h => simp [h]
    · rfl
theorem kept_len (set : Int) (c : UInt8) : 1 ≤ (keptB set c).length ∧ (keptB set c).length ≤ 3 := by
  unfold keptB
  split <;> simp [putB]
theorem free_len (c : UInt8) : 1 ≤ (freeB c).length ∧ (freeB c).length ≤ 3 := by
  unfold freeB
  split <;> simp [putB]
theorem pc_len (set : Int) (l : List UInt8) : l.length ≤ (pcL set l).length ∧ (pcL set l).length ≤ 3 * l.length := by
  induction l with
  | nil => simp [pcL]
  | cons a l ih =>
    rw [pc_cons, List.length_append, List.length_cons]
    have := kept_len set a
    omega
theorem pc_len_out (set : Int) (hs : ¬ (1 ≤ set ∧ set ≤ 3)) (l : List UInt8) : (pcL set l).length = 3 * l.length := by
  induction l with
  | nil => rfl
  | cons a l ih =>
    rw [pc_cons, List.length_append, List.length_cons, ih]
    have : keptB set a = putB a := by unfold keptB; rw [keep_out hs]; rfl
    rw [this]
    simp [putB]; omega
theorem dig_ascii : ∀ n, n < 16 → (digU n).toNat < 128 := by decide +kernel
theorem put_ascii (c : UInt8) : ∀ b ∈ putB c, b.toNat < 128 := by
  intro b hb
  have hc := c.toNat_lt
  unfold putB at hb
  simp at hb
  rcases hb with rfl | rfl | rfl
  · decide
  · exact dig_ascii _ (by omega)
  · exact dig_ascii _ (by omega)
theorem pc_ascii (set : Int) (l : List UInt8) : ∀ b ∈ pcL set l, b.toNat < 128 := by
  intro b hb
  obtain ⟨a, _, ha⟩ := List.mem_flatMap.1 hb
  unfold keptB at ha
  split at ha
  · next h => rw [List.mem_singleton.1 ha]; exact keep_lt h
  · exact put_ascii a b ha

theorem pl_pct (set : Int) (a b c : UInt8) (r : List UInt8) (h : 0 ≤ pctV a.toNat b.toNat c.toNat) : plL set (a :: b :: c :: r) = freeB (UInt8.ofNat (pctV a.toNat b.toNat c.toNat).toNat) ++ plL set r := tok_pct _ _ a b c r h
theorem pl_byte (set : Int) (a : UInt8) (r : List UInt8) (h : pctHd (a :: r) < 0) : plL set (a :: r) = keptB set a ++ plL set r := tok_byte _ _ a r h
theorem un_pct (a b c : UInt8) (r : List UInt8) (h : 0 ≤ pctV a.toNat b.toNat c.toNat) : unL (a :: b :: c :: r) = UInt8.ofNat (pctV a.toNat b.toNat c.toNat).toNat :: unL r := tok_pct _ _ a b c r h
theorem un_byte (a : UInt8) (r : List UInt8) (h : pctHd (a :: r) < 0) : unL (a :: r) = a :: unL r := tok_byte _ _ a r h

theorem un_pl (set : Int) (l : List UInt8) : unL (plL set l) = unL l := by
  induction l using tok_ind with
  | h0 => rfl
  | h1 a b c r h ih =>
    rw [pl_pct set a b c r h, un_pct a b c r h, ← ih]
    unfold unL
    rw [tok_free]
    split <;> rfl
  | h2 a r h ih =>
    rw [pl_byte set a r h, un_byte a r h, ← ih]
    unfold unL
    rw [tok_kept]
    split <;> rfl
theorem ok_pl (set : Int) (hs : 1 ≤ set ∧ set ≤ 3) (l : List UInt8) : okL set (plL set l) = true := by
  induction l using tok_ind with
  | h0 => rfl
  | h1 a b c r h ih =>
    rw [pl_pct set a b c r h]
    generalize UInt8.ofNat (pctV a.toNat b.toNat c.toNat).toNat = d
    unfold okL okT at ih ⊢
    rw [tok_free, List.all_append, ih]
    split
    · next h => simp [keep_free hs h]
    · rfl
  | h2 a r h ih =>
    rw [pl_byte set a r h]
    unfold okL okT at ih ⊢
    rw [tok_kept, List.all_append, ih]
    split
    · next h => simp [h]
    · rfl
theorem pl_pl (set : Int) (hs : 1 ≤ set ∧ set ≤ 3) (l : List UInt8) : plL set (plL set l) = plL set l := by
  induction l using tok_ind with
  | h0 => rfl
  | h1 a b c r h ih =>
    rw [pl_pct set a b c r h]
    generalize UInt8.ofNat (pctV a.toNat b.toNat c.toNat).toNat = d
    have e : plL set (freeB d ++ plL set r) = (if freeN d.toNat then keptB set d else freeB d) ++ plL set (plL set r) := tok_free _ _ d _
    rw [e, ih]
    congr 1
    split
    · next h => unfold keptB freeB; rw [keep_free hs h, h]
    · rfl
  | h2 a r h ih =>
    rw [pl_byte set a r h]
    have e : plL set (keptB set a ++ plL set r) = (if keepN set a.toNat then keptB set a else freeB a) ++ plL set (plL set r) := tok_kept _ _ set a _
    rw [e, ih]
    congr 1
    split
    · rfl
    · next h =>
      have hf : freeN a.toNat = false := by
        cases hx : freeN a.toNat with
        | false => rfl
        | true => exact absurd (keep_free hs hx) h
      unfold keptB freeB
      rw [hf]
      simp [h]
theorem pl_len (set : Int) (l : List UInt8) : (plL set l).length ≤ 3 * l.length := by
  induction l using tok_ind with
  | h0 => simp [plL, tokL]
  | h1 a b c r h ih =>
    rw [pl_pct set a b c r h, List.length_append]
    have := free_len (UInt8.ofNat (pctV a.toNat b.toNat c.toNat).toNat)
    simp only [List.length_cons]
    omega
  | h2 a r h ih =>
    rw [pl_byte set a r h, List.length_append]
    have := kept_len set a
    simp only [List.length_cons]
    omega
theorem un_len (l : List UInt8) : (unL l).length ≤ l.length := by
  induction l using tok_ind with
  | h0 => simp [unL, tokL]
  | h1 a b c r h ih => rw [un_pct a b c r h]; simp only [List.length_cons]; omega
  | h2 a r h ih => rw [un_byte a r h]; simp only [List.length_cons]; omega

/-! At a place of a text. -/
def pctAt (s : ByteArray) (k : Nat) : Int := pctHd (s.data.toList.drop k)

theorem drop_at (s : ByteArray) (k : Nat) (h : k < s.size) : s.data.toList.drop k = s[k] :: s.data.toList.drop (k + 1) := by
  have hk : k < s.data.toList.length := by simpa using h
  rw [List.drop_eq_getElem_cons hk]
  rfl
theorem pctAt_in (s : ByteArray) (k : Nat) (h : k + 2 < s.size) : pctAt s k = pctV s[k].toNat s[k + 1].toNat s[k + 2].toNat := by
  unfold pctAt
  rw [drop_at s k (by omega), drop_at s (k + 1) (by omega), drop_at s (k + 2) (by omega)]
  rfl
theorem pctAt_out (s : ByteArray) (k : Nat) (h : s.size ≤ k + 2) : pctAt s k = -1 := by
  unfold pctAt
  have hl : (s.data.toList.drop k).length ≤ 2 := by
    rw [List.length_drop]
    have : s.data.toList.length = s.size := by simp
    omega
  match s.data.toList.drop k, hl with
  | [], _ => rfl
  | [_], _ => rfl
  | [_, _], _ => rfl
theorem pctAt_le (s : ByteArray) (k : Nat) : -1 ≤ pctAt s k ∧ pctAt s k ≤ 255 := by
  by_cases h : k + 2 < s.size
  · rw [pctAt_in s k h]; exact pctV_le _ _ _
  · rw [pctAt_out s k (by omega)]; omega
theorem pctAt_lt {s : ByteArray} {k : Nat} (h : 0 ≤ pctAt s k) : k + 2 < s.size := by
  rcases Nat.lt_or_ge (k + 2) s.size with h1 | h1
  · exact h1
  · rw [pctAt_out s k h1] at h; omega

theorem tok_hit {α : Type} (f g : UInt8 → List α) (s : ByteArray) (k : Nat) (h : 0 ≤ pctAt s k) : tokL f g (s.data.toList.drop k) = f (UInt8.ofNat (pctAt s k).toNat) ++ tokL f g (s.data.toList.drop (k + 3)) := by
  have hk := pctAt_lt h
  rw [pctAt_in s k hk] at h ⊢
  rw [drop_at s k (by omega), drop_at s (k + 1) (by omega), drop_at s (k + 2) (by omega)]
  exact tok_pct f g _ _ _ _ h
theorem tok_miss {α : Type} (f g : UInt8 → List α) (s : ByteArray) (k : Nat) (hk : k < s.size) (h : pctAt s k < 0) : tokL f g (s.data.toList.drop k) = g s[k] ++ tokL f g (s.data.toList.drop (k + 1)) := by
  unfold pctAt at h
  rw [drop_at s k hk] at h ⊢
  exact tok_byte f g _ _ h
theorem tok_end {α : Type} (f g : UInt8 → List α) (s : ByteArray) (k : Nat) (hk : s.size ≤ k) : tokL f g (s.data.toList.drop k) = [] := by
  rw [List.drop_of_length_le (by simpa using hk)]
  rfl
end Go.Proofs.Ytfigkoapebdlfaa
