/- What stands while the laws ask queues. -/
import Derived.Test.YtcjblhiihgdljaaRows
import Derived.Test.YtcjblhiihgdljaaSchOkI2
import Derived.Test.YtcjblhiihgdljaaSitMark2
import Derived.Test.YtcjblhiihgdljaaSitSz
import Derived.Test.YtcjblhiihgdljaaBase
namespace Go.Proofs.Ytcjblhiihgdljaa
open Go.RowKit
set_option linter.unusedVariables false

theorem waits_len {si : List SiteV} {le : List LsV} (h : sumSit si + sumLs le ≤ 1048576) : si.length + (waitL si).length + le.length ≤ 1048576 := by
  rw [waitL_len]
  have key : ∀ n, psum (fun i => (si.getD i sitv0).w.length) n ≤ psum (fun i => szSit (si.getD i sitv0)) n := by
    intro n
    induction n with
    | zero => exact Nat.le_refl _
    | succ n ih =>
      show psum _ n + (si.getD n sitv0).w.length ≤ psum _ n + szSit (si.getD n sitv0)
      have : (si.getD n sitv0).w.length ≤ szSit (si.getD n sitv0) := by unfold szSit sumWt; omega
      omega
  have := key si.length
  unfold sumSit sumLs at h
  omega
theorem kSch_len (si : List SiteV) (le : List LsV) : kSch si le = 1 + 2 * si.length + 3 * (waitL si).length + 4 * le.length := by
  unfold kSch kSit
  rw [waitL_len]
  have key : ∀ n, psum (fun j => 2 + 3 * (si.getD j sitv0).w.length) n = 2 * n + 3 * psum (fun i => (si.getD i sitv0).w.length) n := by
    intro n
    induction n with
    | zero => rfl
    | succ n ih =>
      show psum _ n + (2 + 3 * (si.getD n sitv0).w.length) = 2 * (n + 1) + 3 * (psum _ n + (si.getD n sitv0).w.length)
      rw [ih]; omega
  rw [key]
  omega
theorem few_of {si : List SiteV} {M : Nat} (hM : M ≤ 1073741824) (h : si.length + (waitL si).length ≤ M) : SitFew si := by
  refine ⟨by omega, fun i hi => ?_⟩
  have := psum_at (fun i => (si.getD i sitv0).w.length) hi
  rw [waitL_len] at h
  omega
theorem sch_sz {si : List SiteV} {le : List LsV} (h : sumSit si + sumLs le ≤ 1048576) : SitFew si ∧ le.length ≤ 1048576 ∧ si.length ≤ 1048576 ∧ kSch si le ≤ 1000000000 ∧ (waitL si).length ≤ 1048576 := by
  have := waits_len h
  refine ⟨few_of (M := 1048576) (by omega) (by omega), by omega, by omega, ?_, by omega⟩
  rw [kSch_len]
  omega
structure ScSt (U W : World) (D2 B3 D3 : Nat) (d sp nw sq : Int) (p2 q2 : Value) (xi : List SiteV) (xl : List LsV) (d' sp' nw' sq' : Int) (p3 q3 : Value) (gi : List SiteV) (gl : List LsV) : Prop where
  b : Below U.heap.size U W
  x : SchOwn W U.heap.size D2 p2 q2 xi xl
  g : SchOwn W B3 D3 p3 q3 gi gl
  a2 : BAt W D2 [.int .i64 d, .int .i64 sp, .int .i64 nw, .int .i64 sq, p2, q2]
  a3 : BAt W D3 [.int .i64 d', .int .i64 sp', .int .i64 nw', .int .i64 sq', p3, q3]
  l1 : U.heap.size ≤ D2
  l2 : D2 < B3
  l3 : B3 ≤ D3
  l4 : D3 < W.heap.size
section
variable {U W W' : World} {D2 B3 D3 : Nat} {d sp nw sq d' sp' nw' sq' : Int} {p2 q2 p3 q3 : Value} {xi gi xi' gi' : List SiteV} {xl gl xl' gl' : List LsV}
theorem ScSt.below (h : ScSt U W D2 B3 D3 d sp nw sq p2 q2 xi xl d' sp' nw' sq' p3 q3 gi gl) (hb : Below W.heap.size W W') : ScSt U W' D2 B3 D3 d sp nw sq p2 q2 xi xl d' sp' nw' sq' p3 q3 gi gl := by
  have := h.l1; have := h.l2; have := h.l3; have := h.l4
  exact ⟨h.b.trans (hb.mono h.b.size), h.x.below (by omega) hb, h.g.below (by omega) hb, h.a2.below hb, h.a3.below hb, h.l1, h.l2, h.l3, Nat.lt_of_lt_of_le h.l4 hb.size⟩
theorem ScSt.markX (h : ScSt U W D2 B3 D3 d sp nw sq p2 q2 xi xl d' sp' nw' sq' p3 q3 gi gl) (ho : Only U.heap.size D2 W W') (hs : SchOwn W' U.heap.size D2 p2 q2 xi' xl') : ScSt U W' D2 B3 D3 d sp nw sq p2 q2 xi' xl' d' sp' nw' sq' p3 q3 gi gl := by
  have := h.l1; have := h.l2; have := h.l3; have := h.l4
  exact ⟨h.b.trans (ho.below h.b.size), hs, h.g.same (Nat.le_refl _) fun b h1 h2 => ho.block b (by omega) (by omega), h.a2.same ho.size (ho.block _ (by omega) (by omega)), h.a3.same ho.size (ho.block _ (by omega) (by omega)), h.l1, h.l2, h.l3, Nat.lt_of_lt_of_le h.l4 ho.size⟩
theorem ScSt.markG (h : ScSt U W D2 B3 D3 d sp nw sq p2 q2 xi xl d' sp' nw' sq' p3 q3 gi gl) (ho : Only B3 D3 W W') (hs : SchOwn W' B3 D3 p3 q3 gi' gl') : ScSt U W' D2 B3 D3 d sp nw sq p2 q2 xi xl d' sp' nw' sq' p3 q3 gi' gl' := by
  have := h.l1; have := h.l2; have := h.l3; have := h.l4
  exact ⟨h.b.trans ((ho.below (by omega)).mono (by omega)), h.x.same (Nat.le_refl _) fun b h1 h2 => ho.block b (by omega) (by omega), hs, h.a2.same ho.size (ho.block _ (by omega) (by omega)), h.a3.same ho.size (ho.block _ (by omega) (by omega)), h.l1, h.l2, h.l3, Nat.lt_of_lt_of_le h.l4 ho.size⟩
theorem ScSt.new {wd U2 we U3 : World} (hx : SchOwn wd U.heap.size wd.heap.size p2 q2 xi xl) (bx : Below U.heap.size U wd) (h2 : U2 = wd.alloc (.cells #[.int .i64 d, .int .i64 sp, .int .i64 nw, .int .i64 sq, p2, q2] 31)) (hg : SchOwn we U2.heap.size we.heap.size p3 q3 gi gl) (bg : Below U2.heap.size U2 we) (h3 : U3 = we.alloc (.cells #[.int .i64 d', .int .i64 sp', .int .i64 nw', .int .i64 sq', p3, q3] 31)) :
    ScSt U U3 wd.heap.size U2.heap.size we.heap.size d sp nw sq p2 q2 xi xl d' sp' nw' sq' p3 q3 gi gl := by
  have b2 : Below wd.heap.size wd U2 := by rw [h2]; exact (Below.refl _ _).alloc (Nat.le_refl _) _
  have b3 : Below we.heap.size we U3 := by rw [h3]; exact (Below.refl _ _).alloc (Nat.le_refl _) _
  have z2 : U2.heap.size = wd.heap.size + 1 := by rw [h2]; simp
  have z3 : U3.heap.size = we.heap.size + 1 := by rw [h3]; simp
  have s1 := bx.size; have s2 := bg.size
  have A2 : BAt U2 wd.heap.size [.int .i64 d, .int .i64 sp, .int .i64 nw, .int .i64 sq, p2, q2] := by rw [h2]; exact BAt.new wd #[.int .i64 d, .int .i64 sp, .int .i64 nw, .int .i64 sq, p2, q2] _
  have A3 : BAt U3 we.heap.size [.int .i64 d', .int .i64 sp', .int .i64 nw', .int .i64 sq', p3, q3] := by rw [h3]; exact BAt.new we #[.int .i64 d', .int .i64 sp', .int .i64 nw', .int .i64 sq', p3, q3] _
  exact ⟨((bx.trans (b2.mono s1)).trans (bg.mono (by omega))).trans (b3.mono (by omega)), ((hx.below (Nat.le_refl _) b2).below (by omega) bg).below (by omega) b3, hg.below (Nat.le_refl _) b3, (A2.below bg).below b3, A3, s1, by omega, s2, by omega⟩
end
/-- What stands while the laws ask a row of numbers that comes of queues. -/
structure RpSt (U W : World) (D B3 A0 : Nat) (d sp nw sq : Int) (p2 q2 : Value) (xi : List SiteV) (xl : List LsV) (va vb : Value) (n : Nat) (xs ys : List Value) : Prop where
  b : Below U.heap.size U W
  x : SchOwn W U.heap.size D p2 q2 xi xl
  a2 : BAt W D [.int .i64 d, .int .i64 sp, .int .i64 nw, .int .i64 sq, p2, q2]
  ra : W.ownsRow A0 3 1 va n xs
  rb : W.ownsRow B3 3 1 vb n ys
  ta : ∀ b, va.ownBlock = some b → b < U.heap.size
  l1 : U.heap.size ≤ D
  l2 : D < B3
  l3 : B3 ≤ W.heap.size
section
variable {U W W' : World} {D B3 A0 : Nat} {d sp nw sq : Int} {p2 q2 va vb : Value} {xi xi' : List SiteV} {xl xl' : List LsV} {n : Nat} {xs ys ys' : List Value}
theorem RpSt.below (h : RpSt U W D B3 A0 d sp nw sq p2 q2 xi xl va vb n xs ys) (hb : Below W.heap.size W W') : RpSt U W' D B3 A0 d sp nw sq p2 q2 xi xl va vb n xs ys := by
  have := h.l1; have := h.l2; have := h.l3; have := h.b.size
  exact ⟨h.b.trans (hb.mono h.b.size), h.x.below (by omega) hb, h.a2.below hb, own_below h.ra hb, own_below h.rb hb, h.ta, h.l1, h.l2, Nat.le_trans h.l3 hb.size⟩
theorem RpSt.markX (h : RpSt U W D B3 A0 d sp nw sq p2 q2 xi xl va vb n xs ys) (ho : Only U.heap.size D W W') (hs : SchOwn W' U.heap.size D p2 q2 xi' xl') : RpSt U W' D B3 A0 d sp nw sq p2 q2 xi' xl' va vb n xs ys := by
  have := h.l1; have := h.l2; have := h.l3; have := h.b.size
  exact ⟨h.b.trans (ho.below h.b.size), hs, h.a2.same ho.size (ho.block _ (by omega) (by omega)), own_at h.ra fun b hb => ho.block b (by have := h.ta b hb; omega) (.inl (h.ta b hb)), own_at h.rb fun b hb => ho.block b (h.rb.lt b hb).2 (.inr (by have := (h.rb.lt b hb).1; omega)), h.ta, h.l1, h.l2, Nat.le_trans h.l3 ho.size⟩
theorem RpSt.markB (h : RpSt U W D B3 A0 d sp nw sq p2 q2 xi xl va vb n xs ys) (hg : W.grownBy W' vb.ownBlock) (hs : W'.ownsRow B3 3 1 vb n ys') : RpSt U W' D B3 A0 d sp nw sq p2 q2 xi xl va vb n xs ys' := by
  have := h.l1; have := h.l2; have := h.l3; have := h.b.size
  have hne : ∀ b, b < B3 → vb.ownBlock ≠ some b := fun b hb e => by have := (h.rb.lt b e).1; omega
  exact ⟨h.b.grown hg h.b.size fun x hx => by (have := (h.rb.lt x hx).1; omega), h.x.same (Nat.le_refl _) fun b h1 h2 => hg.block b (by omega) (fun e => hne b (by omega) e.symm), h.a2.same hg.size (hg.block _ (by omega) (fun e => hne D (by omega) e.symm)), own_at h.ra fun b hb => hg.block b (by have := h.ta b hb; omega) (fun e => hne b (by have := h.ta b hb; omega) e.symm), hs, h.ta, h.l1, h.l2, Nat.le_trans h.l3 hg.size⟩
end
end Go.Proofs.Ytcjblhiihgdljaa
