/- Plain laws, of no program: a text cut at a byte; numbers of digits to a base. -/
import Derived.Test.YtfdgehlobbeomaaDoorPctPlain
namespace Go.Proofs.YtfdgehlobbeomaaDoor
open Go.RowKit

/-- The texts between the bytes b. -/
def spl (b : UInt8) : List UInt8 → List (List UInt8)
  | [] => [[]]
  | c :: r => if c = b then [] :: spl b r else match spl b r with
    | [] => [[c]]
    | x :: xs => (c :: x) :: xs

theorem spl_snoc (b : UInt8) : ∀ l, ∃ xs y, spl b l = xs ++ [y] ∧ ∀ c, spl b (l ++ [c]) = if c = b then xs ++ [y, []] else xs ++ [y ++ [c]]
  | [] => ⟨[], [], rfl, fun c => by
      by_cases h : c = b
      · simp [spl, h]
      · simp [spl, h]⟩
  | d :: r => by
    obtain ⟨xs, y, h1, h2⟩ := spl_snoc b r
    by_cases hd : d = b
    · refine ⟨[] :: xs, y, by simp [spl, hd, h1], fun c => ?_⟩
      rw [List.cons_append, spl, if_pos hd, h2 c]
      split <;> simp
    · cases xs with
      | nil =>
        refine ⟨[], d :: y, by simp [spl, hd, h1], fun c => ?_⟩
        rw [List.cons_append, spl, if_neg hd, h2 c]
        by_cases hc : c = b <;> simp [hc]
      | cons x xs =>
        refine ⟨(d :: x) :: xs, y, by simp [spl, hd, h1], fun c => ?_⟩
        rw [List.cons_append, spl, if_neg hd, h2 c]
        by_cases hc : c = b <;> simp [hc]

theorem spl_cut (b : UInt8) {l xs : List _} {y : List UInt8} (h : spl b l = xs ++ [y]) (c : UInt8) : spl b (l ++ [c]) = if c = b then xs ++ [y, []] else xs ++ [y ++ [c]] := by
  obtain ⟨xs', y', h1, h2⟩ := spl_snoc b l
  have e := h.symm.trans h1
  obtain ⟨e1, e2⟩ := List.append_inj' e rfl
  cases e2
  subst e1
  exact h2 c

theorem spl_none (b : UInt8) : ∀ {l : List UInt8}, (∀ c ∈ l, c ≠ b) → spl b l = [l]
  | [], _ => rfl
  | c :: r, h => by
    rw [spl, if_neg (h c List.mem_cons_self), spl_none b (fun d hd => h d (List.mem_cons_of_mem _ hd))]

theorem spl_app (b : UInt8) (m : List UInt8) : ∀ l, spl b (l ++ b :: m) = spl b l ++ spl b m
  | [] => by simp [spl]
  | c :: r => by
    rw [List.cons_append, spl, spl, spl_app b m r]
    split
    · simp
    · obtain ⟨xs, y, h, _⟩ := spl_snoc b r
      rw [h]
      cases xs <;> simp

/-- Texts put together with a byte b between them. -/
def jl (b : UInt8) : List (List UInt8) → List UInt8
  | [] => []
  | [x] => x
  | x :: y :: r => x ++ b :: jl b (y :: r)

theorem jl_spl (b : UInt8) : ∀ l, jl b (spl b l) = l
  | [] => rfl
  | c :: r => by
    have ih := jl_spl b r
    obtain ⟨xs, y, h, _⟩ := spl_snoc b r
    by_cases hc : c = b
    · rw [spl, if_pos hc]
      rw [h] at ih ⊢
      cases xs with
      | nil => simp [jl] at ih ⊢; exact ⟨hc.symm, ih⟩
      | cons x xs => simp [jl] at ih ⊢; exact ⟨hc.symm, ih⟩
    · rw [spl, if_neg hc]
      rw [h] at ih ⊢
      cases xs with
      | nil => simp [jl] at ih ⊢; exact ih
      | cons x xs => cases xs <;> simp [jl] at ih ⊢ <;> exact ih

theorem spl_jl (b : UInt8) : ∀ {fs : List (List UInt8)}, fs ≠ [] → (∀ x ∈ fs, ∀ c ∈ x, c ≠ b) → spl b (jl b fs) = fs
  | [], h, _ => absurd rfl h
  | [x], _, h => spl_none b (h x List.mem_cons_self)
  | x :: y :: r, _, h => by
    rw [jl, spl_app, spl_none b (h x List.mem_cons_self), spl_jl b (by simp) (fun z hz => h z (List.mem_cons_of_mem _ hz))]
    rfl

/-- A row of digits to a base, behind the number n. -/
def digF (base : Nat) : Nat → List UInt8 → Option Nat
  | n, [] => some n
  | n, c :: r => if 0 ≤ hexN c.toNat ∧ hexN c.toNat < (base : Int) then digF base (n * base + (hexN c.toNat).toNat) r else none
/-- A row of at most so many of them. -/
def numL (base most : Nat) (l : List UInt8) : Option Nat := if l.length ≤ most then digF base 0 l else none

/-- A number below 1000 to ten. -/
def dec3 (v : Nat) : List UInt8 := if v < 10 then [UInt8.ofNat (48 + v)] else if v < 100 then [UInt8.ofNat (48 + v / 10), UInt8.ofNat (48 + v % 10)] else [UInt8.ofNat (48 + v / 100), UInt8.ofNat (48 + v / 10 % 10), UInt8.ofNat (48 + v % 10)]
/-- A part of an address of four, strictly. -/
def str1 (l : List UInt8) : Option Nat := if l.isEmpty then none else match numL 10 3 l with
  | none => none
  | some v => if 255 < v ∨ 1 < l.length ∧ l.head? = some 48 then none else some v
/-- What stands behind a nought. -/
def loose0 : List UInt8 → Option Nat
  | [] => numL 8 11 []
  | d :: q => if d = 120 ∨ d = 88 then numL 16 8 q else numL 8 11 (d :: q)
/-- A part of an address of four, loosely. -/
def looseP : List UInt8 → Option Nat
  | [] => none
  | c :: r => if c = 48 then loose0 r else numL 10 10 (c :: r)

theorem str1_dec : ∀ v, v < 256 → str1 (dec3 v) = some v := by decide +kernel
theorem looseP_dec : ∀ v, v < 256 → looseP (dec3 v) = some v := by decide +kernel
theorem dec3_no : ∀ v, v < 256 → ∀ c ∈ dec3 v, 48 ≤ c.toNat ∧ c.toNat ≤ 57 := by decide +kernel
theorem dec3_ne : ∀ v, v < 256 → dec3 v ≠ [] := by decide +kernel
theorem dec3_len (v : Nat) : (dec3 v).length ≤ 3 := by unfold dec3; split; simp; split <;> simp

def dgU (i : Nat) : UInt8 := UInt8.ofNat (48 + i)
def fitB (l : List UInt8) : Bool := match str1 l with
  | none => true
  | some v => decide (v < 256) && decide (l = dec3 v)
theorem fit1 : ∀ i, i < 10 → fitB [dgU i] = true := by decide +kernel
theorem fit2 : ∀ i, i < 10 → ∀ j, j < 10 → fitB [dgU i, dgU j] = true := by decide +kernel
theorem fit3 : ∀ i, i < 10 → ∀ j, j < 10 → ∀ k, k < 10 → fitB [dgU i, dgU j, dgU k] = true := by decide +kernel

theorem hex_ten {c : UInt8} (h : 0 ≤ hexN c.toNat ∧ hexN c.toNat < ((10 : Nat) : Int)) : ∃ i, i < 10 ∧ c = dgU i := by
  unfold hexN at h
  refine ⟨c.toNat - 48, ?_, ?_⟩
  · split at h
    · omega
    · split at h
      · omega
      · split at h <;> omega
  · unfold dgU
    have : 48 + (c.toNat - 48) = c.toNat := by
      split at h
      · omega
      · split at h
        · omega
        · split at h <;> omega
    rw [this, UInt8.ofNat_toNat]

theorem digF_all {base : Nat} : ∀ {l : List UInt8} {n v : Nat}, digF base n l = some v → ∀ c ∈ l, 0 ≤ hexN c.toNat ∧ hexN c.toNat < (base : Int)
  | [], _, _, _, c, hc => by simp at hc
  | d :: r, n, v, h, c, hc => by
    rw [digF] at h
    split at h
    · rename_i hd
      rcases List.mem_cons.1 hc with rfl | hc
      · exact hd
      · exact digF_all h c hc
    · cases h

theorem fit_of {l : List UInt8} {v : Nat} (h : str1 l = some v) (hb : fitB l = true) : v < 256 ∧ l = dec3 v := by
  unfold fitB at hb
  rw [h] at hb
  simpa using hb

theorem str1_iff {l : List UInt8} {v : Nat} (h : str1 l = some v) : v < 256 ∧ l = dec3 v := by
  refine fit_of h ?_
  unfold str1 at h
  split at h
  · cases h
  · rename_i he
    unfold numL at h
    by_cases h3 : l.length ≤ 3
    · rw [if_pos h3] at h
      cases hd : digF 10 0 l with
      | none => rw [hd] at h; cases h
      | some x =>
        have hall := digF_all hd
        match l, h3, he, hall with
        | [], _, he, _ => simp at he
        | [a], _, _, hall =>
          obtain ⟨i, hi, rfl⟩ := hex_ten (hall a (by simp))
          exact fit1 i hi
        | [a, b], _, _, hall =>
          obtain ⟨i, hi, rfl⟩ := hex_ten (hall a (by simp))
          obtain ⟨j, hj, rfl⟩ := hex_ten (hall b (by simp))
          exact fit2 i hi j hj
        | [a, b, c], _, _, hall =>
          obtain ⟨i, hi, rfl⟩ := hex_ten (hall a (by simp))
          obtain ⟨j, hj, rfl⟩ := hex_ten (hall b (by simp))
          obtain ⟨k, hk, rfl⟩ := hex_ten (hall c (by simp))
          exact fit3 i hi j hj k hk
        | _ :: _ :: _ :: _ :: _, h3, _, _ => simp at h3
    · rw [if_neg h3] at h
      cases h

/-- The parts one behind another, each a byte. -/
def stF : Nat → List (List UInt8) → Option Nat
  | n, [] => some n
  | n, x :: r => match str1 x with
    | none => none
    | some v => stF (n * 256 + v) r
def p4 (l : List UInt8) : Option Nat := if (spl 46 l).length = 4 then stF 0 (spl 46 l) else none
def ip4L (n : Nat) : List UInt8 := dec3 (n / 16777216) ++ 46 :: (dec3 (n / 65536 % 256) ++ 46 :: (dec3 (n / 256 % 256) ++ 46 :: dec3 (n % 256)))

theorem ip4_jl (n : Nat) : ip4L n = jl 46 [dec3 (n / 16777216), dec3 (n / 65536 % 256), dec3 (n / 256 % 256), dec3 (n % 256)] := rfl

theorem dec3_46 {v : Nat} (hv : v < 256) : ∀ c ∈ dec3 v, c ≠ 46 := by
  intro c hc h
  have := dec3_no v hv c hc
  rw [h] at this
  exact absurd this.1 (by decide)

theorem ip4_spl {n : Nat} (h : n < 4294967296) : spl 46 (ip4L n) = [dec3 (n / 16777216), dec3 (n / 65536 % 256), dec3 (n / 256 % 256), dec3 (n % 256)] := by
  rw [ip4_jl]
  refine spl_jl 46 (by simp) ?_
  intro x hx
  simp only [List.mem_cons, List.not_mem_nil, or_false] at hx
  rcases hx with rfl | rfl | rfl | rfl <;> exact dec3_46 (by omega)

theorem p4_ip4 {n : Nat} (h : n < 4294967296) : p4 (ip4L n) = some n := by
  unfold p4
  rw [ip4_spl h, if_pos (by simp)]
  simp only [stF]
  rw [str1_dec _ (by omega), str1_dec _ (by omega), str1_dec _ (by omega), str1_dec _ (by omega)]
  simp only
  congr 1
  omega

theorem p4_some {l : List UInt8} {n : Nat} (h : p4 l = some n) : n < 4294967296 ∧ l = ip4L n := by
  unfold p4 at h
  split at h
  · rename_i h4
    have hj := jl_spl 46 l
    generalize spl 46 l = fs at h h4 hj
    match fs, h4 with
    | [a, b, c, d], _ =>
      simp only [stF] at h
      cases ha : str1 a with
      | none => rw [ha] at h; cases h
      | some x =>
        rw [ha] at h
        simp only at h
        cases hb : str1 b with
        | none => rw [hb] at h; cases h
        | some y =>
          rw [hb] at h
          simp only at h
          cases hc : str1 c with
          | none => rw [hc] at h; cases h
          | some z =>
            rw [hc] at h
            simp only at h
            cases hd : str1 d with
            | none => rw [hd] at h; cases h
            | some u =>
              rw [hd] at h
              simp only [Option.some.injEq] at h
              obtain ⟨h1, rfl⟩ := str1_iff ha
              obtain ⟨h2, rfl⟩ := str1_iff hb
              obtain ⟨h3, rfl⟩ := str1_iff hc
              obtain ⟨h5, rfl⟩ := str1_iff hd
              refine ⟨by omega, ?_⟩
              rw [← hj, ip4_jl, ← h]
              congr 5 <;> congr 1 <;> omega
  · cases h

/-- What is read loosely of parts: n is the number of those ahead, room how many numbers the bytes that are left can tell. -/
def loF : Nat → Nat → List (List UInt8) → Option Nat
  | _, _, [] => none
  | n, room, [x] => match looseP x with
    | none => none
    | some v => if v < room then some (n * room + v) else none
  | n, room, x :: y :: r => match looseP x with
    | none => none
    | some v => if v < 256 then loF (n * 256 + v) (room / 256) (y :: r) else none
def lo4 (fs : List (List UInt8)) : Option Nat := if fs.length ≤ 4 then loF 0 4294967296 fs else none

theorem loF_lt : ∀ {fs : List (List UInt8)} {n room m : Nat}, loF n room fs = some m → m < (n + 1) * room
  | [], _, _, _, h => by cases h
  | [x], n, room, m, h => by
    rw [loF] at h
    cases hx : looseP x with
    | none => rw [hx] at h; cases h
    | some v =>
      rw [hx] at h
      simp only at h
      split at h
      · cases h
        rw [Nat.add_mul, Nat.one_mul]
        omega
      · cases h
  | x :: y :: r, n, room, m, h => by
    rw [loF] at h
    cases hx : looseP x with
    | none => rw [hx] at h; cases h
    | some v =>
      rw [hx] at h
      simp only at h
      split at h
      · rename_i hv
        have ih := loF_lt h
        refine Nat.lt_of_lt_of_le ih ?_
        have h1 : (n * 256 + v + 1) * (room / 256) ≤ (n * 256 + 256) * (room / 256) := Nat.mul_le_mul_right _ (by omega)
        have h2 : (n * 256 + 256) * (room / 256) = (n + 1) * (256 * (room / 256)) := by rw [← Nat.mul_assoc, Nat.add_mul n 1 256, Nat.one_mul]
        have h3 : 256 * (room / 256) ≤ room := Nat.mul_div_le room 256
        exact Nat.le_trans h1 (h2 ▸ Nat.mul_le_mul_left _ h3)
      · cases h

theorem lo4_lt {fs : List (List UInt8)} {m : Nat} (h : lo4 fs = some m) : m < 4294967296 := by
  unfold lo4 at h
  split at h
  · have := loF_lt h
    omega
  · cases h

theorem lo4_ip4 {n : Nat} (h : n < 4294967296) : lo4 (spl 46 (ip4L n)) = some n := by
  rw [ip4_spl h]
  unfold lo4
  rw [if_pos (by simp)]
  simp only [loF]
  rw [looseP_dec _ (by omega), looseP_dec _ (by omega), looseP_dec _ (by omega), looseP_dec _ (by omega)]
  simp only
  rw [if_pos (by omega), if_pos (by omega), if_pos (by omega), if_pos (by omega)]
  congr 1
  omega
end Go.Proofs.YtfdgehlobbeomaaDoor
