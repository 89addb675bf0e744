/- Two rising rows merged, step by step. -/
import Derived.Test.YtdnlaijpgjpplaaCptPlain
namespace Go.Proofs.Ytdnlaijpgjpplaa
set_option linter.unusedVariables false

/-- What is merged so far of A and B, with C and D still to come. -/
structure MI (A B C D out : List EV) : Prop where
  asc : Asc out
  fnd : ∀ k, fd k out = fd k (A ++ B)
  sep : ∀ y, y ∈ A ++ B → ∀ x, x ∈ C ++ D → kl y x = true
theorem asc_fd {l : List EV} (h : Asc l) {x : EV} (hx : x ∈ l) : fd x.s.toList l = some x := by
  induction l with
  | nil => cases hx
  | cons y l ih =>
    obtain ⟨a1, a2⟩ := asc_cons.1 h
    rcases List.mem_cons.1 hx with rfl | hx
    · exact fd_yes rfl
    · have := a1 x hx
      rw [fd_no (fun e => by unfold kl at this; rw [e, bl_irrefl] at this; cases this)]
      exact ih a2 hx
theorem MI.mem {A B C D out : List EV} (h : MI A B C D out) {z : EV} (hz : z ∈ out) : z ∈ A ++ B := by
  have := asc_fd h.asc hz
  rw [h.fnd] at this
  exact (fd_some this).1
theorem asc_snoc {l : List EV} {x : EV} (h : Asc l) (hx : ∀ z ∈ l, kl z x = true) : Asc (l ++ [x]) :=
  List.pairwise_append.2 ⟨h, List.pairwise_singleton _ _, fun a ha b hb => by rw [List.mem_singleton.1 hb]; exact hx a ha⟩
theorem kl_ne {y x : EV} (h : kl y x = true) : y.s.toList ≠ x.s.toList := fun e => by unfold kl at h; rw [e, bl_irrefl] at h; cases h
theorem MI.first {A B C D out : List EV} {x : EV} (h : MI A B (x :: C) D out) (hc : ∀ z ∈ C, kl x z = true) (hd : ∀ z ∈ D, kl x z = true) : MI (A ++ [x]) B C D (out ++ [x]) := by
  refine ⟨asc_snoc h.asc fun z hz => h.sep z (h.mem hz) x (by simp), fun k => ?_, fun y hy z hz => ?_⟩
  · rw [fd_app, h.fnd, fd_app, List.append_assoc, fd_app k A, fd_app k [x]]
    by_cases hk : x.s.toList = k
    · have hB : fd k B = none := fd_none.2 fun y hy e => kl_ne (h.sep y (List.mem_append_right _ hy) x (by simp)) (e.trans hk.symm)
      rw [hB]; simp
    · have hx : fd k [x] = none := by rw [fd_no hk]; rfl
      rw [hx]; simp
  · have hz' : z ∈ (x :: C) ++ D := by
      rcases List.mem_append.1 hz with hz | hz
      · exact List.mem_append_left _ (List.mem_cons_of_mem _ hz)
      · exact List.mem_append_right _ hz
    rcases List.mem_append.1 hy with hy | hy
    · rcases List.mem_append.1 hy with hy | hy
      · exact h.sep y (List.mem_append_left _ hy) z hz'
      · rw [List.mem_singleton.1 hy]
        rcases List.mem_append.1 hz with hz | hz
        · exact hc z hz
        · exact hd z hz
    · exact h.sep y (List.mem_append_right _ hy) z hz'
theorem MI.second {A B C D out : List EV} {x : EV} (h : MI A B C (x :: D) out) (hc : ∀ z ∈ C, kl x z = true) (hd : ∀ z ∈ D, kl x z = true) : MI A (B ++ [x]) C D (out ++ [x]) := by
  refine ⟨asc_snoc h.asc fun z hz => h.sep z (h.mem hz) x (by simp), fun k => ?_, fun y hy z hz => ?_⟩
  · rw [fd_app, h.fnd, ← fd_app, List.append_assoc]
  · have hz' : z ∈ C ++ (x :: D) := by
      rcases List.mem_append.1 hz with hz | hz
      · exact List.mem_append_left _ hz
      · exact List.mem_append_right _ (List.mem_cons_of_mem _ hz)
    rcases List.mem_append.1 hy with hy | hy
    · exact h.sep y (List.mem_append_left _ hy) z hz'
    · rcases List.mem_append.1 hy with hy | hy
      · exact h.sep y (List.mem_append_right _ hy) z hz'
      · rw [List.mem_singleton.1 hy]
        rcases List.mem_append.1 hz with hz | hz
        · exact hc z hz
        · exact hd z hz
theorem MI.both {A B C D out : List EV} {x y : EV} (h : MI A B (x :: C) (y :: D) out) (he : x.s.toList = y.s.toList) (hc : ∀ z ∈ C, kl x z = true) (hd : ∀ z ∈ D, kl y z = true) : MI (A ++ [x]) (B ++ [y]) C D (out ++ [x]) := by
  have hd' : ∀ z ∈ D, kl x z = true := fun z hz => by have := hd z hz; unfold kl at *; rw [he]; exact this
  have hc' : ∀ z ∈ C, kl y z = true := fun z hz => by have := hc z hz; unfold kl at *; rw [← he]; exact this
  refine ⟨asc_snoc h.asc fun z hz => h.sep z (h.mem hz) x (by simp), fun k => ?_, fun u hu z hz => ?_⟩
  · rw [fd_app, h.fnd, fd_app, List.append_assoc, fd_app k A, fd_app k [x], fd_app k B]
    by_cases hk : x.s.toList = k
    · have hB : fd k B = none := fd_none.2 fun u hu e => kl_ne (h.sep u (List.mem_append_right _ hu) x (by simp)) (e.trans hk.symm)
      have hX : fd k [x] = some x := fd_yes hk
      rw [hB, hX]; simp
    · have hx : fd k [x] = none := by rw [fd_no hk]; rfl
      have hy : fd k [y] = none := by rw [fd_no (fun e => hk (he.trans e))]; rfl
      rw [hx, hy]; simp
  · have hz' : z ∈ (x :: C) ++ (y :: D) := by
      rcases List.mem_append.1 hz with hz | hz
      · exact List.mem_append_left _ (List.mem_cons_of_mem _ hz)
      · exact List.mem_append_right _ (List.mem_cons_of_mem _ hz)
    have hbig : ∀ v, v = x ∨ v = y → kl v z = true := fun v hv => by
      rcases hv with rfl | rfl
      · rcases List.mem_append.1 hz with hz | hz
        · exact hc z hz
        · exact hd' z hz
      · rcases List.mem_append.1 hz with hz | hz
        · exact hc' z hz
        · exact hd z hz
    rcases List.mem_append.1 hu with hu | hu
    · rcases List.mem_append.1 hu with hu | hu
      · exact h.sep u (List.mem_append_left _ hu) z hz'
      · exact hbig u (.inl (List.mem_singleton.1 hu))
    · rcases List.mem_append.1 hu with hu | hu
      · exact h.sep u (List.mem_append_right _ hu) z hz'
      · exact hbig u (.inr (List.mem_singleton.1 hu))
theorem MI.done {a b out : List EV} (h : MI a b [] [] out) : out = canon (a ++ b) := canon_eq h.asc h.fnd
theorem canon_canon (A B : List EV) : canon (canon A ++ B) = canon (A ++ B) := canon_eq (canon_asc _) fun k => by rw [canon_fd, fd_app, canon_fd, ← fd_app]
theorem canon_id {l : List EV} (h : Asc l) : canon l = l := (canon_eq h fun _ => rfl).symm
end Go.Proofs.Ytdnlaijpgjpplaa
