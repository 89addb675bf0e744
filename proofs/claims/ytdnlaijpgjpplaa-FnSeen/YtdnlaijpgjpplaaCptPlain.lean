/- The first of each key of a sorted row. -/
import Derived.Test.YtdnlaijpgjpplaaSeenPlain
namespace Go.Proofs.Ytdnlaijpgjpplaa
set_option linter.unusedVariables false

def ske (x y : EV) : Bool := x.s.toList == y.s.toList
/-- Of those alike that stand side by side the first. -/
def cptF : EV → List EV → List EV
  | _, [] => []
  | p, y :: l => if ske y p then cptF y l else y :: cptF y l
def cpt : List EV → List EV
  | [] => []
  | x :: l => x :: cptF x l
theorem cptF_snoc : ∀ (l : List EV) (p x y : EV), cptF p ((l ++ [x]) ++ [y]) = cptF p (l ++ [x]) ++ (if ske y x then [] else [y])
  | [], p, x, y => by
    simp only [List.nil_append, List.cons_append, cptF]
    split <;> (split <;> rfl)
  | z :: l, p, x, y => by
    have ih := cptF_snoc l z x y
    simp only [List.cons_append, cptF] at ih ⊢
    split
    · exact ih
    · rw [ih]; rfl
theorem cpt_snoc (l : List EV) (x y : EV) : cpt ((l ++ [x]) ++ [y]) = cpt (l ++ [x]) ++ (if ske y x then [] else [y]) := by
  cases l with
  | nil =>
    simp only [List.nil_append, List.cons_append, cpt, cptF]
    all_goals (first | rfl | (split <;> rfl))
  | cons z l =>
    have := cptF_snoc l z x y
    simp only [List.cons_append, cpt] at this ⊢
    rw [this]
theorem cpt_take (l : List EV) (k : Nat) (h : k + 1 < l.length) : cpt (l.take (k + 2)) = cpt (l.take (k + 1)) ++ (if ske (l.getD (k + 1) ev0) (l.getD k ev0) then [] else [l.getD (k + 1) ev0]) := by
  have e1 : l.take (k + 1) = l.take k ++ [l.getD k ev0] := by
    rw [List.take_succ_eq_append_getElem (by omega), List.getD_eq_getElem?_getD, List.getElem?_eq_getElem (show k < l.length by omega)]; rfl
  have e2 : l.take (k + 2) = l.take (k + 1) ++ [l.getD (k + 1) ev0] := by
    rw [List.take_succ_eq_append_getElem h, List.getD_eq_getElem?_getD, List.getElem?_eq_getElem h]; rfl
  rw [e2, e1]
  exact cpt_snoc _ _ _
theorem cptF_len : ∀ (l : List EV) (p : EV), (cptF p l).length ≤ l.length
  | [], _ => Nat.le_refl _
  | y :: l, p => by
    have := cptF_len l y
    unfold cptF
    split
    · simp only [List.length_cons]; omega
    · simp only [List.length_cons]; omega
theorem cpt_len (l : List EV) : (cpt l).length ≤ l.length := by
  cases l with
  | nil => exact Nat.le_refl _
  | cons x l => have := cptF_len l x; simp only [cpt, List.length_cons]; omega
theorem cptF_mem : ∀ (l : List EV) (p z : EV), z ∈ cptF p l → z ∈ l
  | [], _, _, h => h
  | y :: l, p, z, h => by
    unfold cptF at h
    split at h
    · exact List.mem_cons_of_mem _ (cptF_mem l y z h)
    · rcases List.mem_cons.1 h with rfl | h
      · exact List.mem_cons_self
      · exact List.mem_cons_of_mem _ (cptF_mem l y z h)
theorem ske_iff {x y : EV} : ske x y = true ↔ x.s.toList = y.s.toList := beq_iff_eq
theorem ske_no {x y : EV} (h : ske x y = false) : x.s.toList ≠ y.s.toList := by unfold ske at h; exact beq_eq_false_iff_ne.1 h
/-- Behind p, what is kept lies above p. -/
theorem cptF_asc : ∀ (l : List EV) (p : EV), Srt (p :: l) → Asc (p :: cptF p l)
  | [], p, _ => asc_cons.2 ⟨(fun _ h => by cases h), List.Pairwise.nil⟩
  | y :: l, p, h => by
    obtain ⟨h1, h2⟩ := srt_cons.1 h
    have ih := cptF_asc l y h2
    have hyp := h1 y List.mem_cons_self
    unfold cptF
    cases e : ske y p with
    | true =>
      rw [if_pos rfl]
      obtain ⟨a1, a2⟩ := asc_cons.1 ih
      refine asc_cons.2 ⟨fun z hz => ?_, a2⟩
      have := a1 z hz
      unfold kl at *
      rw [← ske_iff.1 e]; exact this
    | false =>
      rw [if_neg (by decide)]
      have hlt : kl p y = true := by
        cases e2 : kl p y with
        | true => rfl
        | false => exact absurd (bl_tri hyp e2) (ske_no e)
      refine asc_cons.2 ⟨fun z hz => ?_, ih⟩
      rcases List.mem_cons.1 hz with rfl | hz
      · exact hlt
      · exact kl_trans hlt ((asc_cons.1 ih).1 z hz)
theorem cpt_asc {l : List EV} (h : Srt l) : Asc (cpt l) := by
  cases l with
  | nil => exact List.Pairwise.nil
  | cons x l => exact cptF_asc l x h
theorem cptF_fd (k : List UInt8) : ∀ (l : List EV) (p : EV), Srt (p :: l) → p.s.toList ≠ k → fd k (cptF p l) = fd k l
  | [], _, _, _ => rfl
  | y :: l, p, h, hp => by
    obtain ⟨h1, h2⟩ := srt_cons.1 h
    unfold cptF
    cases e : ske y p with
    | true =>
      have hy : y.s.toList ≠ k := by rw [ske_iff.1 e]; exact hp
      rw [if_pos rfl, cptF_fd k l y h2 hy, fd_no hy]
    | false =>
      rw [if_neg (by decide)]
      by_cases hy : y.s.toList = k
      · rw [fd_yes hy, fd_yes hy]
      · rw [fd_no hy, fd_no hy, cptF_fd k l y h2 hy]
theorem cpt_fd (k : List UInt8) {l : List EV} (h : Srt l) : fd k (cpt l) = fd k l := by
  cases l with
  | nil => rfl
  | cons x l =>
    unfold cpt
    by_cases hx : x.s.toList = k
    · rw [fd_yes hx, fd_yes hx]
    · rw [fd_no hx, fd_no hx, cptF_fd k l x h hx]
/-- Of each key the first mark, rising. -/
def canon : List EV → List EV
  | [] => []
  | x :: l => cpt (smg [x] (canon l))
theorem canon_asc : ∀ l : List EV, Asc (canon l)
  | [] => List.Pairwise.nil
  | x :: l => cpt_asc (srt_smg (srt_cons.2 ⟨(fun _ h => by cases h), List.Pairwise.nil⟩) (asc_srt (canon_asc l)))
theorem canon_fd (k : List UInt8) : ∀ l : List EV, fd k (canon l) = fd k l
  | [] => rfl
  | x :: l => by
    have h1 : Srt [x] := srt_cons.2 ⟨(fun _ h => by cases h), List.Pairwise.nil⟩
    have h2 := asc_srt (canon_asc l)
    unfold canon
    rw [cpt_fd k (srt_smg h1 h2), fd_smg k h1 h2, fd_app, canon_fd k l, ← fd_app]
    rfl
theorem canon_len : ∀ l : List EV, (canon l).length ≤ l.length
  | [] => Nat.le_refl _
  | x :: l => by
    have h1 := cpt_len (smg [x] (canon l))
    rw [smg_len] at h1
    have h2 := canon_len l
    unfold canon
    simp only [List.length_cons, List.length_nil] at *
    omega
theorem canon_eq {l L : List EV} (h1 : Asc L) (h2 : ∀ k, fd k L = fd k l) : L = canon l := asc_ext h1 (canon_asc l) fun k => by rw [h2, canon_fd]
theorem canon_sort {l L : List EV} (h1 : Srt L) (h2 : ∀ k, fd k L = fd k l) : cpt L = canon l := canon_eq (cpt_asc h1) fun k => by rw [cpt_fd k h1, h2]
theorem canon_mem {l : List EV} {x : EV} (h : x ∈ canon l) : x ∈ l := by
  have : fd x.s.toList (canon l) = some x := by
    have ha := canon_asc l
    generalize canon l = c at h ha
    induction c with
    | nil => cases h
    | cons y c ih =>
      obtain ⟨a1, a2⟩ := asc_cons.1 ha
      rcases List.mem_cons.1 h with rfl | h
      · exact fd_yes rfl
      · have := a1 x h
        rw [fd_no (fun e => by unfold kl at this; rw [e, bl_irrefl] at this; cases this)]
        exact ih h a2
  rw [canon_fd] at this
  exact (fd_some this).1
end Go.Proofs.Ytdnlaijpgjpplaa
