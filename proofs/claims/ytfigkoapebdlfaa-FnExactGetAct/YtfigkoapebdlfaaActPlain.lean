/- Plain laws, of no program: acts, their bytes, and what is read of bytes. -/
import Derived.Test.YtfigkoapebdlfaaBytPlain
namespace Go.Proofs.Ytfigkoapebdlfaa
open Go.RowKit
set_option linter.unusedVariables false

/-- An act: its kind, its text, its body, its number. -/
structure AV where
  k : Int
  t : ByteArray
  b : ByteArray
  n : Int

def av0 : AV := ⟨0, ByteArray.empty, ByteArray.empty, 0⟩

/-- What ActOk answers. -/
def actB (a : AV) : Bool :=
  if a.k = 1 then decide (0 < a.t.size ∧ a.t.size ≤ 2000 ∧ a.b.size = 0 ∧ 0 ≤ a.n ∧ a.n ≤ 1000)
  else if a.k = 2 then decide (0 < a.t.size ∧ a.t.size ≤ 2000 ∧ a.b.size ≤ 2000 ∧ 1 ≤ a.n ∧ a.n ≤ 1000000)
  else if a.k = 4 ∨ a.k = 5 then decide (0 < a.t.size ∧ a.t.size ≤ 2000 ∧ a.b.size = 0 ∧ a.n = 0)
  else if a.k = 6 then decide (a.t.size = 0 ∧ a.b.size = 0 ∧ 1 ≤ a.n ∧ a.n ≤ 10000)
  else if a.k = 3 ∨ a.k = 7 then decide (a.t.size = 0 ∧ a.b.size = 0 ∧ a.n = 0)
  else false

/-- What is right is small. -/
theorem actB_le {a : AV} (h : actB a = true) : 0 ≤ a.k ∧ a.k ≤ 7 ∧ 0 ≤ a.n ∧ a.n ≤ 1000000 ∧ a.t.size ≤ 2000 ∧ a.b.size ≤ 2000 := by
  unfold actB at h
  split at h
  · have := of_decide_eq_true h; omega
  split at h
  · have := of_decide_eq_true h; omega
  split at h
  · have := of_decide_eq_true h; omega
  split at h
  · have := of_decide_eq_true h; omega
  split at h
  · have := of_decide_eq_true h; omega
  · cases h

/-- The bytes of an act, right or not. -/
def rawL (a : AV) : List UInt8 := numL a.k ++ (numL a.n ++ (numL a.t.size ++ (a.t.data.toList ++ (numL a.b.size ++ a.b.data.toList))))

/-- What PutAct answers. -/
def actL (a : AV) : List UInt8 := if actB a then rawL a else []

theorem rawL_len (a : AV) : (rawL a).length ≤ 20 + a.t.size + a.b.size ∧ 4 ≤ (rawL a).length := by
  have h1 := numL_len a.k
  have h2 := numL_len a.n
  have h3 := numL_len a.t.size
  have h4 := numL_len a.b.size
  have e1 : a.t.data.toList.length = a.t.size := rfl
  have e2 : a.b.data.toList.length = a.b.size := rfl
  unfold rawL
  simp only [List.length_append]
  omega

theorem actL_len (a : AV) : (actL a).length ≤ 4020 := by
  unfold actL
  split
  · rename_i h
    have := actB_le h
    have := (rawL_len a).1
    omega
  · exact Nat.zero_le _

def numO : Option (Nat × Nat) → Nat
  | none => 0
  | some (n, _) => n
def posO : Option (Nat × Nat) → Nat
  | none => 0
  | some (_, q) => q
/-- A piece's bytes, and the place behind it. -/
def txtO (l : List UInt8) : Option (Nat × Nat) → ByteArray
  | none => ByteArray.empty
  | some (q, n) => ⟨(partL l q n).toArray⟩
def endO : Option (Nat × Nat) → Nat
  | none => 0
  | some (q, n) => q + n

/-- What is read of bytes, one behind the other. -/
def g1 (l : List UInt8) := getL l 0
def g2 (l : List UInt8) := getL l (posO (g1 l))
def g3 (l : List UInt8) := pieceL l (posO (g2 l))
def g4 (l : List UInt8) := pieceL l (endO (g3 l))
def readA (l : List UInt8) : AV := ⟨numO (g1 l), txtO l (g3 l), txtO l (g4 l), numO (g2 l)⟩

/-- What GetAct answers. -/
def getAct (l : List UInt8) : Option AV := if actB (readA l) = true ∧ rawL (readA l) = l then some (readA l) else none

theorem raw_get (a : AV) (h : actB a = true) : g1 (rawL a) = some (a.k.toNat, (numL a.k).length) ∧ g2 (rawL a) = some (a.n.toNat, (numL a.k ++ numL a.n).length)
    ∧ g3 (rawL a) = some ((numL a.k ++ numL a.n).length + (numL a.t.size).length, a.t.size)
    ∧ g4 (rawL a) = some ((numL a.k ++ (numL a.n ++ (numL a.t.size ++ a.t.data.toList))).length + (numL a.b.size).length, a.b.size) := by
  obtain ⟨h1, h2, h3, h4, h5, h6⟩ := actB_le h
  have e1 : g1 (rawL a) = some (a.k.toNat, (numL a.k).length) := by
    have := getL_numL [] (numL a.n ++ (numL a.t.size ++ (a.t.data.toList ++ (numL a.b.size ++ a.b.data.toList)))) a.k
    simp only [List.nil_append, List.length_nil, Nat.zero_add] at this
    have hk : numC a.k = a.k.toNat := by unfold numC; rw [if_neg (by omega), if_neg (by omega)]
    rw [hk] at this
    exact this
  have e2 : g2 (rawL a) = some (a.n.toNat, (numL a.k ++ numL a.n).length) := by
    unfold g2
    rw [e1]
    have := getL_numL (numL a.k) (numL a.t.size ++ (a.t.data.toList ++ (numL a.b.size ++ a.b.data.toList))) a.n
    have hk : numC a.n = a.n.toNat := by unfold numC; rw [if_neg (by omega), if_neg (by omega)]
    rw [hk] at this
    rw [List.length_append]
    exact this
  have s1 : a.t.data.toList.length = a.t.size := rfl
  have s2 : a.b.data.toList.length = a.b.size := rfl
  have e3 : g3 (rawL a) = some ((numL a.k ++ numL a.n).length + (numL a.t.size).length, a.t.size) := by
    unfold g3
    rw [e2]
    have := pieceL_back (numL a.k ++ numL a.n) a.t.data.toList (numL a.b.size ++ a.b.data.toList) (by omega)
    rw [List.append_assoc] at this
    exact this
  refine ⟨e1, e2, e3, ?_⟩
  unfold g4
  rw [e3]
  have := pieceL_back (numL a.k ++ (numL a.n ++ (numL a.t.size ++ a.t.data.toList))) a.b.data.toList [] (by omega)
  simp only [List.append_nil, List.append_assoc] at this
  have hp : endO (some ((numL a.k ++ numL a.n).length + (numL a.t.size).length, a.t.size)) = (numL a.k ++ (numL a.n ++ (numL a.t.size ++ a.t.data.toList))).length := by
    show _ + _ + _ = _
    simp only [List.length_append, s1]
    omega
  rw [hp]
  exact this

/-- An act that is right comes back of its bytes. -/
theorem get_put (a : AV) (h : actB a = true) : getAct (rawL a) = some a := by
  obtain ⟨e1, e2, e3, e4⟩ := raw_get a h
  obtain ⟨h1, h2, h3, h4, h5, h6⟩ := actB_le h
  have s1 : a.t.data.toList.length = a.t.size := rfl
  have s2 : a.b.data.toList.length = a.b.size := rfl
  have hr : readA (rawL a) = a := by
    unfold readA
    rw [e1, e2, e3, e4]
    have t1 : txtO (rawL a) (some ((numL a.k ++ numL a.n).length + (numL a.t.size).length, a.t.size)) = a.t := by
      show (⟨(partL _ _ _).toArray⟩ : ByteArray) = a.t
      have := partL_mid (numL a.k ++ (numL a.n ++ numL a.t.size)) a.t.data.toList (numL a.b.size ++ a.b.data.toList)
      simp only [List.append_assoc, s1] at this
      unfold rawL
      rw [show (numL a.k ++ numL a.n).length + (numL a.t.size).length = (numL a.k ++ (numL a.n ++ numL a.t.size)).length by simp only [List.length_append]; omega, this]
    have t2 : txtO (rawL a) (some ((numL a.k ++ (numL a.n ++ (numL a.t.size ++ a.t.data.toList))).length + (numL a.b.size).length, a.b.size)) = a.b := by
      show (⟨(partL _ _ _).toArray⟩ : ByteArray) = a.b
      have := partL_mid (numL a.k ++ (numL a.n ++ (numL a.t.size ++ (a.t.data.toList ++ numL a.b.size)))) a.b.data.toList []
      simp only [List.append_assoc, List.append_nil, s2] at this
      unfold rawL
      rw [show (numL a.k ++ (numL a.n ++ (numL a.t.size ++ a.t.data.toList))).length + (numL a.b.size).length = (numL a.k ++ (numL a.n ++ (numL a.t.size ++ (a.t.data.toList ++ numL a.b.size)))).length by simp only [List.length_append]; omega, this]
    rw [t1, t2]
    show AV.mk _ _ _ _ = a
    obtain ⟨k, t, b, n⟩ := a
    show AV.mk (numO (some (k.toNat, _)) : Int) t b (numO (some (n.toNat, _)) : Int) = _
    have q1 : ((numO (some (k.toNat, (numL k).length)) : Nat) : Int) = k := by show ((k.toNat : Nat) : Int) = k; have : 0 ≤ k := h1; omega
    have q2 : ((numO (some (n.toNat, (numL k ++ numL n).length)) : Nat) : Int) = n := by show ((n.toNat : Nat) : Int) = n; have : 0 ≤ n := h3; omega
    rw [q1, q2]
  unfold getAct
  rw [hr, if_pos ⟨h, rfl⟩]

theorem get_some {l : List UInt8} {a : AV} (h : getAct l = some a) : actB a = true ∧ rawL a = l := by
  unfold getAct at h
  split at h
  · rename_i hc
    cases h
    exact hc
  · cases h

theorem pow_pos128 (k : Nat) : 0 < 128 ^ k := Nat.pow_pos (by omega)

/-- What is read as a number are its groups, told in the one way. -/
theorem getA_canon : ∀ (f k acc : Nat) (l : List UInt8) {n q : Nat}, getA (f + 1) k acc l = some (n, q) →
    ∃ m, n = acc + m * 128 ^ k ∧ (0 < k → 0 < m) ∧ k < q ∧ l = numF f m ++ l.drop (q - k)
  | f, k, acc, [], n, q, h => by cases h
  | f, k, acc, c :: r, n, q, h => by
    have hc := c.toNat_lt
    rw [getA] at h
    split at h
    · rename_i h1
      cases f with
      | zero => cases h
      | succ f =>
        obtain ⟨m, e1, e2, e3, e4⟩ := getA_canon f (k + 1) _ r h
        have hm := e2 (Nat.succ_pos k)
        refine ⟨c.toNat % 128 + m * 128, ?_, fun _ => by omega, by omega, ?_⟩
        · rw [e1, pow_step, Nat.add_mul, ← Nat.mul_assoc]
          have : m * 128 ^ k * 128 = m * 128 * 128 ^ k := by rw [Nat.mul_assoc, Nat.mul_comm (128 ^ k) 128, ← Nat.mul_assoc]
          omega
        · rw [numF, if_neg (by omega), show (c.toNat % 128 + m * 128) % 128 = c.toNat % 128 by omega, show (c.toNat % 128 + m * 128) / 128 = m by omega]
          have hcc : UInt8.ofNat (128 + c.toNat % 128) = c := by
            apply UInt8.toNat_inj.1
            rw [ofNat_toNat (by omega)]
            omega
          rw [hcc, show q - k = (q - (k + 1)) + 1 by omega, List.drop_succ_cons, List.cons_append, ← e4]
    · split at h
      · cases h
      · rename_i h1 h2
        obtain ⟨rfl, rfl⟩ : acc + c.toNat % 128 * 128 ^ k = n ∧ k + 1 = q := by simpa using h
        refine ⟨c.toNat, by rw [Nat.mod_eq_of_lt (by omega)], fun hk => by omega, by omega, ?_⟩
        have hcc : UInt8.ofNat c.toNat = c := by simp
        have e : numF f c.toNat = [c] := by
          cases f with
          | zero => rw [numF, hcc]
          | succ f => rw [numF, if_pos (by omega), hcc]
        rw [e, show k + 1 - k = 1 by omega]
        rfl

theorem getL_canon {l : List UInt8} {p n q : Nat} (h : getL l (p : Int) = some (n, q)) : l.drop p = numL n ++ l.drop q ∧ p < q := by
  have hle := (getL_le h).1
  unfold getL at h
  split at h
  · cases h
  · rename_i hc
    rw [Int.toNat_natCast] at h
    cases hg : getA 5 0 0 (l.drop p) with
    | none => rw [hg] at h; cases h
    | some r =>
      obtain ⟨n', q'⟩ := r
      rw [hg] at h
      obtain ⟨rfl, rfl⟩ : n' = n ∧ p + q' = q := by simpa using h
      obtain ⟨m, e1, _, e3, e4⟩ := getA_canon 4 0 0 (l.drop p) hg
      have : m = n' := by rw [e1]; simp
      subst this
      refine ⟨?_, by omega⟩
      rw [List.drop_drop, Nat.sub_zero] at e4
      unfold numL
      rw [numC_nat hle]
      exact e4

theorem pieceL_canon {l : List UInt8} {p q n : Nat} (h : pieceL l (p : Int) = some (q, n)) : l.drop p = numL n ++ (partL l q n ++ l.drop (q + n)) ∧ p < q ∧ q + n ≤ l.length := by
  have hle := pieceL_le h
  unfold pieceL at h
  cases hg : getL l (p : Int) with
  | none => rw [hg] at h; cases h
  | some r =>
    obtain ⟨n', q'⟩ := r
    rw [hg] at h
    dsimp only at h
    split at h
    · cases h
    · obtain ⟨rfl, rfl⟩ : q' = q ∧ n' = n := by simpa using h
      obtain ⟨e1, e2⟩ := getL_canon hg
      refine ⟨?_, e2, hle⟩
      rw [e1]
      congr 1
      unfold partL
      rw [← List.drop_drop, List.take_append_drop]

/-- The specification's own way. -/
def specG (l : List UInt8) : Bool := (g1 l).isSome && (g2 l).isSome && (g3 l).isSome && (g4 l).isSome && decide (endO (g4 l) = l.length) && actB (readA l)

theorem spec_get (l : List UInt8) : getAct l = if specG l then some (readA l) else none := by
  by_cases hs : specG l = true
  · rw [if_pos hs]
    unfold specG at hs
    simp only [Bool.and_eq_true, decide_eq_true_eq] at hs
    obtain ⟨⟨⟨⟨⟨s1, s2⟩, s3⟩, s4⟩, s5⟩, s6⟩ := hs
    unfold getAct
    rw [if_pos]
    refine ⟨s6, ?_⟩
    cases h1 : g1 l with
    | none => rw [h1] at s1; cases s1
    | some r1 =>
    cases h2 : g2 l with
    | none => rw [h2] at s2; cases s2
    | some r2 =>
    cases h3 : g3 l with
    | none => rw [h3] at s3; cases s3
    | some r3 =>
    cases h4 : g4 l with
    | none => rw [h4] at s4; cases s4
    | some r4 =>
    obtain ⟨n1, q1⟩ := r1
    obtain ⟨n2, q2⟩ := r2
    obtain ⟨q3, n3⟩ := r3
    obtain ⟨q4, n4⟩ := r4
    have k1 := h1
    have k2 := h2
    have k3 := h3
    have k4 := h4
    unfold g1 at k1
    unfold g2 at k2
    rw [h1] at k2
    unfold g3 at k3
    rw [h2] at k3
    unfold g4 at k4
    rw [h3] at k4
    obtain ⟨c1, _⟩ := getL_canon (p := 0) k1
    obtain ⟨c2, _⟩ := getL_canon (p := q1) k2
    obtain ⟨c3, _, l3⟩ := pieceL_canon (p := q2) k3
    obtain ⟨c4, _, l4⟩ := pieceL_canon (p := q3 + n3) k4
    rw [h4] at s5
    have s5 : q4 + n4 = l.length := s5
    have p3 := partL_len l3
    have p4 := partL_len l4
    unfold readA rawL
    rw [h1, h2, h3, h4]
    show numL (n1 : Nat) ++ (numL (n2 : Nat) ++ (numL ((partL l q3 n3).toArray.size : Nat) ++ (partL l q3 n3 ++ (numL ((partL l q4 n4).toArray.size : Nat) ++ partL l q4 n4)))) = l
    rw [show (partL l q3 n3).toArray.size = n3 from p3, show (partL l q4 n4).toArray.size = n4 from p4]
    rw [s5, List.drop_length, List.append_nil] at c4
    rw [c4] at c3
    rw [c3] at c2
    rw [c2] at c1
    exact c1.symm
  · rw [if_neg hs]
    unfold getAct
    rw [if_neg]
    rintro ⟨ha, hr⟩
    apply hs
    obtain ⟨e1, e2, e3, e4⟩ := raw_get (readA l) ha
    rw [hr] at e1 e2 e3 e4
    unfold specG
    rw [e1, e2, e3, e4, ha]
    simp only [Option.isSome_some, Bool.true_and, Bool.and_true, decide_eq_true_eq]
    show _ + _ = _
    have s1 : (readA l).t.data.toList.length = (readA l).t.size := rfl
    have s2 : (readA l).b.data.toList.length = (readA l).b.size := rfl
    have hl := congrArg List.length hr
    unfold rawL at hl
    simp only [List.length_append, s1, s2] at hl ⊢
    omega

/-- What PutActs answers. -/
def actsL (l : List AV) : List UInt8 := l.flatMap fun a => if actB a then frameL (rawL a) else []

theorem actsL_snoc (l : List AV) (a : AV) : actsL (l ++ [a]) = actsL l ++ (if actB a then frameL (rawL a) else []) := by
  unfold actsL
  rw [List.flatMap_append]
  simp

theorem frameL_len (l : List UInt8) : (frameL l).length ≤ l.length + 9 := by
  have := numL_len l.length
  unfold frameL
  simp only [List.length_append, fourL_len]
  omega

theorem actsL_len : ∀ l : List AV, (actsL l).length ≤ 4040 * l.length
  | [] => Nat.le_refl _
  | a :: l => by
    have ih := actsL_len l
    have h1 : (if actB a then frameL (rawL a) else []).length ≤ 4040 := by
      split
      · rename_i h
        have := actB_le h
        have := (rawL_len a).1
        have := frameL_len (rawL a)
        omega
      · exact Nat.zero_le _
    have e : actsL (a :: l) = (if actB a then frameL (rawL a) else []) ++ actsL l := by unfold actsL; rw [List.flatMap_cons]
    rw [e, List.length_append, List.length_cons]
    omega

/-- The act of the frame that begins at p, and the place behind it. -/
def stepA (l : List UInt8) (p : Int) : Option (AV × Nat) :=
  match unfL l p with
  | none => none
  | some (q, n) => match getAct (partL l q n) with
    | none => none
    | some a => some (a, q + n + 4)

/-- What ReadActs answers, f frames at most. -/
def readF : Nat → List UInt8 → Nat → List AV → List AV × Nat
  | 0, _, p, acc => (acc, p)
  | f + 1, l, p, acc => match stepA l p with
    | none => (acc, p)
    | some (a, q) => readF f l q (acc ++ [a])
def readL (l : List UInt8) : List AV × Nat := readF (l.length + 1) l 0 []

theorem unfL_le {l : List UInt8} {p : Int} {q n : Nat} (h : unfL l p = some (q, n)) : 0 ≤ p ∧ p < q ∧ q + n + 4 ≤ l.length := by
  unfold unfL at h
  cases hp : pieceL l p with
  | none => rw [hp] at h; cases h
  | some r =>
    obtain ⟨q', n'⟩ := r
    rw [hp] at h
    dsimp only at h
    split at h
    · rename_i hf
      obtain ⟨rfl, rfl⟩ : q' = q ∧ n' = n := by simpa using h
      have hl := congrArg List.length hf
      rw [fourL_len] at hl
      unfold partL at hl
      rw [List.length_take, List.length_drop] at hl
      unfold pieceL at hp
      cases hg : getL l p with
      | none => rw [hg] at hp; cases hp
      | some r2 =>
        obtain ⟨n2, q2⟩ := r2
        have := getL_le hg
        rw [hg] at hp
        dsimp only at hp
        split at hp
        · cases hp
        · obtain ⟨rfl, rfl⟩ : q2 = q' ∧ n2 = n' := by simpa using hp
          omega
    · cases h

theorem stepA_le {l : List UInt8} {p : Nat} {a : AV} {q : Nat} (h : stepA l p = some (a, q)) : p + 5 ≤ q ∧ q ≤ l.length := by
  unfold stepA at h
  cases hu : unfL l p with
  | none => rw [hu] at h; cases h
  | some r =>
    obtain ⟨q', n⟩ := r
    have := unfL_le hu
    rw [hu] at h
    dsimp only at h
    cases hg : getAct (partL l q' n) with
    | none => rw [hg] at h; cases h
    | some b =>
      rw [hg] at h
      obtain ⟨_, rfl⟩ : b = a ∧ q' + n + 4 = q := by simpa using h
      omega

theorem readF_more : ∀ (f : Nat) (l : List UInt8) (p : Nat) (acc : List AV), l.length + 1 ≤ f + p → readF (f + 1) l p acc = readF f l p acc
  | 0, l, p, acc, h => by
    have : stepA l p = none := by
      cases hs : stepA l p with
      | none => rfl
      | some r => obtain ⟨a, q⟩ := r; have := stepA_le hs; omega
    show (match stepA l p with | none => _ | some (a, q) => _) = _
    rw [this]
    rfl
  | f + 1, l, p, acc, h => by
    show (match stepA l p with | none => (acc, p) | some (a, q) => readF (f + 1) l q (acc ++ [a])) = (match stepA l p with | none => (acc, p) | some (a, q) => readF f l q (acc ++ [a]))
    cases hs : stepA l p with
    | none => rfl
    | some r =>
      obtain ⟨a, q⟩ := r
      have := stepA_le hs
      exact readF_more f l q _ (by omega)

theorem readF_next {l : List UInt8} {p : Nat} {acc : List AV} {a : AV} {q : Nat} (h : stepA l p = some (a, q)) : readF (l.length + 1) l p acc = readF (l.length + 1) l q (acc ++ [a]) := by
  have hq := stepA_le h
  rw [← readF_more (l.length + 1) l q _ (by omega)]
  have e : readF (l.length + 1 + 1) l p acc = readF (l.length + 1) l q (acc ++ [a]) := by
    show (match stepA l p with | none => (acc, p) | some (a, q) => readF (l.length + 1) l q (acc ++ [a])) = _
    rw [h]
  rw [readF_more (l.length + 1) l q _ (by omega), ← e, readF_more (l.length + 1) l p _ (by omega)]

theorem readF_stop {l : List UInt8} {p : Nat} {acc : List AV} (h : stepA l p = none) : readF (l.length + 1) l p acc = (acc, p) := by
  show (match stepA l p with | none => (acc, p) | some (a, q) => readF l.length l q (acc ++ [a])) = _
  rw [h]

theorem readF_len : ∀ (f : Nat) (l : List UInt8) (p : Nat) (acc : List AV) , 5 * acc.length ≤ p → p ≤ l.length → 5 * (readF f l p acc).1.length ≤ l.length ∧ (readF f l p acc).2 ≤ l.length
  | 0, l, p, acc, h, hp => ⟨Nat.le_trans h hp, hp⟩
  | f + 1, l, p, acc, h, hp => by
    show 5 * (match stepA l p with | none => (acc, p) | some (a, q) => readF f l q (acc ++ [a])).1.length ≤ _ ∧ (match stepA l p with | none => (acc, p) | some (a, q) => readF f l q (acc ++ [a])).2 ≤ _
    cases hs : stepA l p with
    | none => exact ⟨Nat.le_trans h hp, hp⟩
    | some r =>
      obtain ⟨a, q⟩ := r
      have := stepA_le hs
      exact readF_len f l q _ (by simp; omega) this.2

theorem readL_len (l : List UInt8) : (readL l).1.length ≤ l.length ∧ (readL l).2 ≤ l.length := by
  have := readF_len (l.length + 1) l 0 [] (Nat.le_refl _) (Nat.zero_le _)
  exact ⟨by have := this.1; unfold readL; omega, this.2⟩
end Go.Proofs.Ytfigkoapebdlfaa
