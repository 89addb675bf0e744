/- What stands while the laws ask what was seen, pressed or put. -/
import Derived.Test.YtocgdbinfmdkcaaRows
import Derived.Test.YtocgdbinfmdkcaaPressPlain
import Derived.Test.YtocgdbinfmdkcaaMrkMark2
import Derived.Test.YtocgdbinfmdkcaaSeenSz
namespace Go.Proofs.Ytocgdbinfmdkcaa
open Go.RowKit
set_option linter.unusedVariables false

structure PrSt (U W : World) (D2 B3 D3 : Nat) (p2 q2 p3 q3 : Value) (xm : List EV) (xl : List (List EV)) (gm : List EV) (gl : List (List EV)) : Prop where
  b : Below U.heap.size U W
  x : SnOwn W U.heap.size D2 p2 q2 xm xl
  g : SnOwn W B3 D3 p3 q3 gm gl
  a2 : BAt W D2 [p2, q2]
  a3 : BAt W D3 [p3, q3]
  l1 : U.heap.size ≤ D2
  l2 : D2 < B3
  l3 : B3 ≤ D3
  l4 : D3 < W.heap.size
theorem PrSt.below {U W W' : World} {D2 B3 D3 : Nat} {p2 q2 p3 q3 : Value} {xm gm : List EV} {xl gl : List (List EV)} (h : PrSt U W D2 B3 D3 p2 q2 p3 q3 xm xl gm gl) (hb : Below W.heap.size W W') : PrSt U W' D2 B3 D3 p2 q2 p3 q3 xm xl gm gl := by
  have := h.l1; have := h.l2; have := h.l3; have := h.l4
  exact ⟨h.b.trans (hb.mono h.b.size), h.x.below (by omega) hb, h.g.below (by omega) hb, h.a2.below hb, h.a3.below hb, h.l1, h.l2, h.l3, Nat.lt_of_lt_of_le h.l4 hb.size⟩
theorem PrSt.markX {U W W' : World} {D2 B3 D3 : Nat} {p2 q2 p3 q3 : Value} {xm gm xm' : List EV} {xl gl xl' : List (List EV)} (h : PrSt U W D2 B3 D3 p2 q2 p3 q3 xm xl gm gl) (ho : Only U.heap.size D2 W W') (hs : SnOwn W' U.heap.size D2 p2 q2 xm' xl') : PrSt U W' D2 B3 D3 p2 q2 p3 q3 xm' xl' gm gl := by
  have := h.l1; have := h.l2; have := h.l3; have := h.l4
  exact ⟨h.b.trans (ho.below h.b.size), hs, h.g.same fun b h1 h2 => ho.block b (by omega) (by omega), h.a2.same ho.size (ho.block _ (by omega) (by omega)), h.a3.same ho.size (ho.block _ (by omega) (by omega)), h.l1, h.l2, h.l3, Nat.lt_of_lt_of_le h.l4 ho.size⟩
theorem PrSt.markG {U W W' : World} {D2 B3 D3 : Nat} {p2 q2 p3 q3 : Value} {xm gm gm' : List EV} {xl gl gl' : List (List EV)} (h : PrSt U W D2 B3 D3 p2 q2 p3 q3 xm xl gm gl) (ho : Only B3 D3 W W') (hs : SnOwn W' B3 D3 p3 q3 gm' gl') : PrSt U W' D2 B3 D3 p2 q2 p3 q3 xm xl gm' gl' := by
  have := h.l1; have := h.l2; have := h.l3; have := h.l4
  exact ⟨h.b.trans ((ho.below (by omega)).mono (by omega)), h.x.same fun b h1 h2 => ho.block b (by omega) (by omega), hs, h.a2.same ho.size (ho.block _ (by omega) (by omega)), h.a3.same ho.size (ho.block _ (by omega) (by omega)), h.l1, h.l2, h.l3, Nat.lt_of_lt_of_le h.l4 ho.size⟩
theorem PrSt.new {U wd U2 we U3 : World} {p2 q2 p3 q3 : Value} {xm gm : List EV} {xl gl : List (List EV)} (hx : SnOwn wd U.heap.size wd.heap.size p2 q2 xm xl) (bx : Below U.heap.size U wd) (h2 : U2 = wd.alloc (.cells #[p2, q2] 27)) (hg : SnOwn we U2.heap.size we.heap.size p3 q3 gm gl) (bg : Below U2.heap.size U2 we) (h3 : U3 = we.alloc (.cells #[p3, q3] 27)) :
    PrSt U U3 wd.heap.size U2.heap.size we.heap.size p2 q2 p3 q3 xm xl gm gl := by
  have b2 : Below wd.heap.size wd U2 := by rw [h2]; exact (Below.refl _ _).alloc (Nat.le_refl _) _
  have b3 : Below we.heap.size we U3 := by rw [h3]; exact (Below.refl _ _).alloc (Nat.le_refl _) _
  have z2 : U2.heap.size = wd.heap.size + 1 := by rw [h2]; simp
  have z3 : U3.heap.size = we.heap.size + 1 := by rw [h3]; simp
  have s1 := bx.size; have s2 := bg.size
  have A2 : BAt U2 wd.heap.size [p2, q2] := by rw [h2]; exact BAt.new wd #[p2, q2] _
  have A3 : BAt U3 we.heap.size [p3, q3] := by rw [h3]; exact BAt.new we #[p3, q3] _
  exact ⟨((bx.trans (b2.mono s1)).trans (bg.mono (by omega))).trans (b3.mono (by omega)), ((hx.below (Nat.le_refl _) b2).below (by omega) bg).below (by omega) b3, hg.below (Nat.le_refl _) b3, (A2.below bg).below b3, A3, s1, by omega, s2, by omega⟩
theorem seen_lens {m : List EV} {ll : List (List EV)} (h : sumEn m + sumR ll ≤ 1048576) : m.length + ll.flatten.length ≤ 1048576 := by
  have h1 := psum_flat ll
  have key : ∀ n, psum (fun i => (ll.getD i []).length) n ≤ psum (fun i => sumEn (ll.getD i [])) n := by
    intro n
    induction n with
    | zero => exact Nat.le_refl _
    | succ n ih =>
      show psum _ n + (ll.getD n []).length ≤ psum _ n + sumEn (ll.getD n [])
      have : (ll.getD n []).length ≤ sumEn (ll.getD n []) := by unfold sumEn; omega
      omega
  have := key ll.length
  unfold sumEn sumR at h
  omega
theorem kS_flat (m : List EV) (ll : List (List EV)) : kS m ll = 1 + 2 * m.length + 2 * ll.flatten.length := by
  unfold kS kR
  rw [psum_flat]
theorem press_sz {m : List EV} {ll : List (List EV)} (h : sumEn m + sumR ll ≤ 1048576) : (pressM m ll).length ≤ 1048576 ∧ (pressL m ll).length ≤ 1048576 ∧ (∀ i, i < (pressL m ll).length → ((pressL m ll).getD i []).length ≤ 1048576) ∧ kS m ll ≤ 1000000000 ∧ kS (pressM m ll) (pressL m ll) ≤ 1000000000 := by
  obtain ⟨h1, h2, h3⟩ := seen_sz h
  have h4 := seen_lens h
  have hk : kS m ll ≤ 1000000000 := by rw [kS_flat]; omega
  have hc := canon_len (m ++ ll.flatten)
  rw [List.length_append] at hc
  unfold pressM pressL
  cases sokS m ll with
  | false => exact ⟨h1, h2, h3, hk, hk⟩
  | true =>
    rw [if_pos rfl, if_pos rfl]
    by_cases h0 : (canon (m ++ ll.flatten)).length = 0
    · rw [if_pos h0]
      exact ⟨Nat.zero_le _, Nat.zero_le _, fun i hi => absurd hi (Nat.not_lt_zero _), hk, by rw [kS_flat]; simp⟩
    · rw [if_neg h0]
      refine ⟨Nat.zero_le _, by simp, fun i hi => ?_, hk, ?_⟩
      · obtain rfl : i = 0 := by simp at hi; exact hi
        show (canon (m ++ ll.flatten)).length ≤ _
        omega
      · rw [kS_flat]; simp; omega
theorem seen_rz {m : List EV} {ll : List (List EV)} (h : sumEn m + sumR ll ≤ 1048576) : ∀ x, x ∈ m ++ ll.flatten → x.s.size ≤ 1048576 := fun x hx => by
  obtain ⟨h1, h2⟩ := seen_key h
  rcases List.mem_append.1 hx with hx | hx
  · obtain ⟨i, hi, rfl⟩ := List.getElem_of_mem hx
    have := h1 i hi
    rwa [List.getD_eq_getElem?_getD, List.getElem?_eq_getElem hi] at this
  · obtain ⟨l, hl, hx⟩ := List.mem_flatten.1 hx
    obtain ⟨i, hi, rfl⟩ := List.getElem_of_mem hl
    obtain ⟨j, hj, rfl⟩ := List.getElem_of_mem hx
    have e : ll.getD i [] = ll[i] := by rw [List.getD_eq_getElem?_getD, List.getElem?_eq_getElem hi]; rfl
    have := h2 i hi j (by rw [e]; exact hj)
    rwa [e, List.getD_eq_getElem?_getD, List.getElem?_eq_getElem hj] at this
end Go.Proofs.Ytocgdbinfmdkcaa
