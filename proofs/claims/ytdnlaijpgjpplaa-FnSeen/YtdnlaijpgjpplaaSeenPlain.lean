/- What was seen, plainly: the order of keys, lists that rise, two merged, the first of each key. -/
import Derived.Test.YtdnlaijpgjpplaaEntRow
import Derived.Lib.Bytealg
namespace Go.Proofs.Ytdnlaijpgjpplaa
open Go.RowKit
set_option linter.unusedVariables false

theorem bl_irrefl : ∀ a : List UInt8, Op.bytesLess a a = false
  | [] => rfl
  | x :: a => by
    rw [Op.bytesLess, bl_irrefl a]
    simp
theorem bl_trans : ∀ {a b c : List UInt8}, Op.bytesLess a b = true → Op.bytesLess b c = true → Op.bytesLess a c = true
  | [], [], c, h, _ => by simp [Op.bytesLess] at h
  | [], y :: b, [], _, h => by simp [Op.bytesLess] at h
  | [], y :: b, z :: c, _, _ => by simp [Op.bytesLess]
  | x :: a, [], c, h, _ => by simp [Op.bytesLess] at h
  | x :: a, y :: b, [], _, h => by simp [Op.bytesLess] at h
  | x :: a, y :: b, z :: c, h1, h2 => by
    rw [Op.bytesLess, Bool.or_eq_true, Bool.and_eq_true, decide_eq_true_eq, beq_iff_eq] at *
    rcases h1 with h1 | ⟨rfl, h1⟩
    · rcases h2 with h2 | ⟨rfl, h2⟩
      · exact .inl (UInt8.lt_trans h1 h2)
      · exact .inl h1
    · rcases h2 with h2 | ⟨rfl, h2⟩
      · exact .inl h2
      · exact .inr ⟨rfl, bl_trans h1 h2⟩
theorem bl_tri : ∀ {a b : List UInt8}, Op.bytesLess a b = false → Op.bytesLess b a = false → a = b
  | [], [], _, _ => rfl
  | [], y :: b, h, _ => by simp [Op.bytesLess] at h
  | x :: a, [], _, h => by simp [Op.bytesLess] at h
  | x :: a, y :: b, h1, h2 => by
    rw [Op.bytesLess, Bool.or_eq_false_iff, Bool.and_eq_false_iff, decide_eq_false_iff_not] at h1 h2
    have e : x = y := UInt8.le_antisymm (UInt8.not_lt.1 h2.1) (UInt8.not_lt.1 h1.1)
    subst e
    rcases h1.2 with h | h
    · simp at h
    · rcases h2.2 with k | k
      · simp at k
      · rw [bl_tri h k]
theorem bl_asym {a b : List UInt8} (h : Op.bytesLess a b = true) : Op.bytesLess b a = false := by
  cases e : Op.bytesLess b a with
  | false => rfl
  | true => have := bl_trans h e; rw [bl_irrefl] at this; cases this
theorem cmp_neg : ∀ (a b : List UInt8), (Lib.compareBytes a b < 0) ↔ Op.bytesLess a b = true
  | [], [] => by simp [Lib.compareBytes, Op.bytesLess]
  | [], y :: b => by simp [Lib.compareBytes, Op.bytesLess]
  | x :: a, [] => by simp [Lib.compareBytes, Op.bytesLess]
  | x :: a, y :: b => by
    rw [Lib.compareBytes, Op.bytesLess, Bool.or_eq_true, Bool.and_eq_true, decide_eq_true_eq, beq_iff_eq]
    by_cases h1 : x < y
    · simp [h1]
    · by_cases h2 : y < x
      · have : x ≠ y := fun e => by subst e; exact h1 h2
        simp [h1, h2, this]
      · have e : x = y := UInt8.le_antisymm (UInt8.not_lt.1 h2) (UInt8.not_lt.1 h1)
        subst e
        simp [h1, cmp_neg a b]
theorem cmp_zero : ∀ (a b : List UInt8), Lib.compareBytes a b = 0 ↔ a = b
  | [], [] => by simp [Lib.compareBytes]
  | [], y :: b => by simp [Lib.compareBytes]
  | x :: a, [] => by simp [Lib.compareBytes]
  | x :: a, y :: b => by
    rw [Lib.compareBytes]
    by_cases h1 : x < y
    · have : x ≠ y := fun e => by subst e; exact UInt8.lt_irrefl _ h1
      simp [h1, this]
    · by_cases h2 : y < x
      · have : x ≠ y := fun e => by subst e; exact h1 h2
        simp [h1, h2, this]
      · have e : x = y := UInt8.le_antisymm (UInt8.not_lt.1 h2) (UInt8.not_lt.1 h1)
        subst e
        simp [h1, cmp_zero a b]
/-- The order of two marks by their keys. -/
def kl (x y : EV) : Bool := Op.bytesLess x.s.toList y.s.toList
def kcmp (x y : EV) : Int := Lib.compareBytes x.s.data.toList y.s.data.toList
theorem baL (b : ByteArray) : b.toList = b.data.toList := ByteArray.toList_eq b
theorem kcmp_neg (x y : EV) : kcmp x y < 0 ↔ kl x y = true := by unfold kcmp kl; rw [baL, baL]; exact cmp_neg _ _
theorem kcmp_zero (x y : EV) : kcmp x y = 0 ↔ x.s.toList = y.s.toList := by unfold kcmp; rw [baL, baL]; exact cmp_zero _ _
theorem kl_irrefl (x : EV) : kl x x = false := bl_irrefl _
theorem kl_trans {x y z : EV} (h1 : kl x y = true) (h2 : kl y z = true) : kl x z = true := bl_trans h1 h2
theorem kl_asym {x y : EV} (h : kl x y = true) : kl y x = false := bl_asym h
theorem kl_le_lt {x y z : EV} (h1 : kl y x = false) (h2 : kl y z = true) : kl x z = true := by
  cases e : kl x y with
  | true => exact kl_trans e h2
  | false => have : x.s.toList = y.s.toList := bl_tri e h1; unfold kl at *; rw [this]; exact h2
theorem kl_lt_le {x y z : EV} (h1 : kl x y = true) (h2 : kl z y = false) : kl x z = true := by
  cases e : kl y z with
  | true => exact kl_trans h1 e
  | false => have : y.s.toList = z.s.toList := bl_tri e h2; unfold kl at *; rw [← this]; exact h1
theorem kl_le_le {x y z : EV} (h1 : kl y x = false) (h2 : kl z y = false) : kl z x = false := by
  cases e : kl z x with
  | false => rfl
  | true => have := kl_lt_le e h1; rw [h2] at this; cases this
def Srt (l : List EV) : Prop := l.Pairwise fun x y => kl y x = false
def Asc (l : List EV) : Prop := l.Pairwise fun x y => kl x y = true
/-- Two sorted rows as one, the first one's ahead of those that are alike. -/
def smg (X Y : List EV) : List EV := List.merge X Y fun x y => !kl y x
theorem smg_nil (X : List EV) : smg X [] = X := by unfold smg; rw [List.merge_right]
theorem nil_smg (Y : List EV) : smg [] Y = Y := by unfold smg; rw [List.nil_merge]
theorem smg_yes {x y : EV} {X Y : List EV} (h : kl y x = true) : smg (x :: X) (y :: Y) = y :: smg (x :: X) Y := by unfold smg; rw [List.cons_merge_cons]; simp [h]
theorem smg_no {x y : EV} {X Y : List EV} (h : kl y x = false) : smg (x :: X) (y :: Y) = x :: smg X (y :: Y) := by unfold smg; rw [List.cons_merge_cons]; simp [h]
theorem smg_len (X Y : List EV) : (smg X Y).length = X.length + Y.length := by unfold smg; rw [List.length_merge]
theorem smg_split : ∀ (X1 X2 Y1 Y2 : List EV), (∀ x ∈ X1, ∀ y ∈ Y2, kl y x = false) → (∀ y ∈ Y1, ∀ x ∈ X2, kl y x = true) → smg (X1 ++ X2) (Y1 ++ Y2) = smg X1 Y1 ++ smg X2 Y2
  | [], X2, [], Y2, _, _ => by rw [List.nil_append, List.nil_append, nil_smg, List.nil_append]
  | [], X2, y :: Y1, Y2, h1, h2 => by
    have ih := smg_split [] X2 Y1 Y2 h1 (fun z hz => h2 z (List.mem_cons_of_mem _ hz))
    rw [List.nil_append, nil_smg] at ih
    rw [List.nil_append, nil_smg, List.cons_append]
    cases X2 with
    | nil => rw [nil_smg, nil_smg]; rfl
    | cons x X2 => rw [smg_yes (h2 y (List.mem_cons_self) x (List.mem_cons_self)), ih]; rfl
  | x :: X1, X2, [], Y2, h1, h2 => by
    have ih := smg_split X1 X2 [] Y2 (fun z hz => h1 z (List.mem_cons_of_mem _ hz)) h2
    rw [List.nil_append, smg_nil] at ih
    rw [List.nil_append, smg_nil, List.cons_append]
    cases Y2 with
    | nil => rw [smg_nil, smg_nil]; rfl
    | cons y Y2 => rw [smg_no (h1 x (List.mem_cons_self) y (List.mem_cons_self)), ih]; rfl
  | x :: X1, X2, y :: Y1, Y2, h1, h2 => by
    cases e : kl y x with
    | true =>
      have ih := smg_split (x :: X1) X2 Y1 Y2 h1 (fun z hz => h2 z (List.mem_cons_of_mem _ hz))
      rw [List.cons_append, List.cons_append, smg_yes e, smg_yes e, ← List.cons_append, ih]; rfl
    | false =>
      have ih := smg_split X1 X2 (y :: Y1) Y2 (fun z hz => h1 z (List.mem_cons_of_mem _ hz)) h2
      rw [List.cons_append, List.cons_append, smg_no e, smg_no e, ← List.cons_append, ih]; rfl
theorem smg_one (x : EV) (Y1 Y2 : List EV) (h1 : ∀ y ∈ Y1, kl y x = true) (h2 : ∀ y ∈ Y2, kl y x = false) : smg [x] (Y1 ++ Y2) = Y1 ++ x :: Y2 := by
  have e1 := smg_split [] [x] Y1 Y2 (fun x hx => by cases hx) (fun y hy z hz => by rw [List.mem_singleton.1 hz]; exact h1 y hy)
  have e2 := smg_split [x] [] [] Y2 (fun z hz y hy => by rw [List.mem_singleton.1 hz]; exact h2 y hy) (fun y hy => by cases hy)
  rw [List.nil_append, nil_smg] at e1
  rw [List.append_nil, List.nil_append, smg_nil, nil_smg] at e2
  rw [e1, e2]; rfl
theorem smg_last (y : EV) (X1 X2 : List EV) (h1 : ∀ x ∈ X1, kl y x = false) (h2 : ∀ x ∈ X2, kl y x = true) : smg (X1 ++ X2) [y] = X1 ++ y :: X2 := by
  have e1 := smg_split X1 X2 [] [y] (fun x hx z hz => by rw [List.mem_singleton.1 hz]; exact h1 x hx) (fun y hy => by cases hy)
  have e2 := smg_split [] X2 [y] [] (fun x hx => by cases hx) (fun z hz x hx => by rw [List.mem_singleton.1 hz]; exact h2 x hx)
  rw [List.nil_append, smg_nil] at e1
  rw [List.nil_append, List.append_nil, smg_nil, nil_smg] at e2
  rw [e1, e2]; rfl
theorem mem_smg {z : EV} {X Y : List EV} : z ∈ smg X Y ↔ z ∈ X ∨ z ∈ Y := by unfold smg; exact List.mem_merge
theorem srt_cons {x : EV} {l : List EV} : Srt (x :: l) ↔ (∀ y ∈ l, kl y x = false) ∧ Srt l := List.pairwise_cons
theorem asc_cons {x : EV} {l : List EV} : Asc (x :: l) ↔ (∀ y ∈ l, kl x y = true) ∧ Asc l := List.pairwise_cons
theorem srt_app {X Y : List EV} : Srt (X ++ Y) ↔ Srt X ∧ Srt Y ∧ ∀ x ∈ X, ∀ y ∈ Y, kl y x = false := List.pairwise_append
theorem asc_srt {l : List EV} (h : Asc l) : Srt l := h.imp fun h => kl_asym h
theorem srt_smg : ∀ {X Y : List EV}, Srt X → Srt Y → Srt (smg X Y)
  | [], Y, _, h => by rw [nil_smg]; exact h
  | x :: X, [], h, _ => by rw [smg_nil]; exact h
  | x :: X, y :: Y, h1, h2 => by
    obtain ⟨a1, a2⟩ := srt_cons.1 h1
    obtain ⟨b1, b2⟩ := srt_cons.1 h2
    cases e : kl y x with
    | true =>
      rw [smg_yes e]
      refine srt_cons.2 ⟨fun z hz => ?_, srt_smg h1 b2⟩
      rcases mem_smg.1 hz with h | h
      · rcases List.mem_cons.1 h with rfl | h
        · exact kl_asym e
        · exact kl_le_le (kl_asym e) (a1 z h)
      · exact b1 z h
    | false =>
      rw [smg_no e]
      refine srt_cons.2 ⟨fun z hz => ?_, srt_smg a2 h2⟩
      rcases mem_smg.1 hz with h | h
      · exact a1 z h
      · rcases List.mem_cons.1 h with rfl | h
        · exact e
        · exact kl_le_le e (b1 z h)
/-- The first mark of a key. -/
def fd (k : List UInt8) (l : List EV) : Option EV := l.find? fun x => x.s.toList == k
theorem fd_nil (k : List UInt8) : fd k [] = none := rfl
theorem fd_yes {k : List UInt8} {x : EV} {l : List EV} (h : x.s.toList = k) : fd k (x :: l) = some x := by unfold fd; rw [List.find?_cons]; simp [h]
theorem fd_no {k : List UInt8} {x : EV} {l : List EV} (h : x.s.toList ≠ k) : fd k (x :: l) = fd k l := by
  unfold fd
  rw [List.find?_cons, beq_eq_false_iff_ne.2 h]
theorem fd_app (k : List UInt8) (X Y : List EV) : fd k (X ++ Y) = (fd k X).or (fd k Y) := by unfold fd; exact List.find?_append
theorem fd_none {k : List UInt8} {l : List EV} : fd k l = none ↔ ∀ x ∈ l, x.s.toList ≠ k := by unfold fd; rw [List.find?_eq_none]; exact ⟨fun h x hx e => h x hx (beq_iff_eq.2 e), fun h x hx e => h x hx (beq_iff_eq.1 e)⟩
theorem fd_some {k : List UInt8} {l : List EV} {x : EV} (h : fd k l = some x) : x ∈ l ∧ x.s.toList = k := ⟨List.mem_of_find?_eq_some h, beq_iff_eq.1 (List.find?_some (p := fun x : EV => x.s.toList == k) h)⟩
theorem fd_smg (k : List UInt8) : ∀ {X Y : List EV}, Srt X → Srt Y → fd k (smg X Y) = fd k (X ++ Y)
  | [], Y, _, _ => by rw [nil_smg]; rfl
  | x :: X, [], _, _ => by rw [smg_nil, List.append_nil]
  | x :: X, y :: Y, h1, h2 => by
    obtain ⟨a1, a2⟩ := srt_cons.1 h1
    obtain ⟨b1, b2⟩ := srt_cons.1 h2
    cases e : kl y x with
    | true =>
      rw [smg_yes e]
      have ih := fd_smg k h1 b2
      by_cases hk : y.s.toList = k
      · have hn : fd k (x :: X) = none := fd_none.2 fun z hz hzk => by
          have : kl y z = true := by
            rcases List.mem_cons.1 hz with rfl | h
            · exact e
            · exact kl_lt_le e (a1 z h)
          unfold kl at this
          rw [hk, hzk, bl_irrefl] at this
          cases this
        rw [fd_yes hk, fd_app, hn, fd_yes hk]
        rfl
      · rw [fd_no hk, ih, fd_app, fd_app, fd_no hk]
    | false =>
      rw [smg_no e]
      have ih := fd_smg k a2 h2
      by_cases hk : x.s.toList = k
      · rw [fd_yes hk, List.cons_append, fd_yes hk]
      · rw [fd_no hk, List.cons_append, fd_no hk, ih]
/-- Rising lists that have the same of each key are the same. -/
theorem asc_ext : ∀ {X Y : List EV}, Asc X → Asc Y → (∀ k, fd k X = fd k Y) → X = Y
  | [], [], _, _, _ => rfl
  | [], y :: Y, _, _, h => by have := h y.s.toList; rw [fd_yes rfl] at this; cases this
  | x :: X, [], _, _, h => by have := h x.s.toList; rw [fd_yes rfl] at this; cases this
  | x :: X, y :: Y, h1, h2, h => by
    obtain ⟨a1, a2⟩ := asc_cons.1 h1
    obtain ⟨b1, b2⟩ := asc_cons.1 h2
    have hxy : x.s.toList = y.s.toList := by
      refine bl_tri ?_ ?_
      · cases e : Op.bytesLess x.s.toList y.s.toList with
        | false => rfl
        | true =>
          have := h x.s.toList
          rw [fd_yes rfl] at this
          obtain ⟨hm, hk⟩ := fd_some this.symm
          rcases List.mem_cons.1 hm with rfl | hm
          · rw [bl_irrefl] at e; cases e
          · have h3 := b1 x hm
            have h4 := bl_trans e h3
            rw [bl_irrefl] at h4; cases h4
      · cases e : Op.bytesLess y.s.toList x.s.toList with
        | false => rfl
        | true =>
          have := h y.s.toList
          rw [fd_yes rfl] at this
          obtain ⟨hm, hk⟩ := fd_some this
          rcases List.mem_cons.1 hm with rfl | hm
          · rw [bl_irrefl] at e; cases e
          · have h3 := a1 y hm
            have h4 := bl_trans e h3
            rw [bl_irrefl] at h4; cases h4
    have he : x = y := by
      have := h x.s.toList
      rw [fd_yes rfl, fd_yes hxy.symm] at this
      injection this
    subst he
    have ht : X = Y := asc_ext a2 b2 fun k => by
      by_cases hk : x.s.toList = k
      · have e1 : fd k X = none := fd_none.2 fun z hz hzk => by
          have := a1 z hz
          unfold kl at this
          rw [hzk, hk, bl_irrefl] at this; cases this
        have e2 : fd k Y = none := fd_none.2 fun z hz hzk => by
          have := b1 z hz
          unfold kl at this
          rw [hzk, hk, bl_irrefl] at this; cases this
        rw [e1, e2]
      · have := h k
        rwa [fd_no hk, fd_no hk] at this
    rw [ht]
end Go.Proofs.Ytdnlaijpgjpplaa
