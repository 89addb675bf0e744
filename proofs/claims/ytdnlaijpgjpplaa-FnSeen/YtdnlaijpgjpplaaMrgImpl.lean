/- The contract of the code's merged, at marks by their keys. -/
import Derived.Test.YtdnlaijpgjpplaaRows
import Derived.Test.YtdnlaijpgjpplaaSrtStab
import Derived.Test.YtdnlaijpgjpplaaCptImpl
import Derived.Test.YtdnlaijpgjpplaaCatImpl
import Derived.Test.YtdnlaijpgjpplaaPressPlain
namespace Go.Proofs.Ytdnlaijpgjpplaa
open Go.RowKit
set_option linter.unusedVariables false

def rsM (ll : List (List EV)) : List (Nat × List Value) := ll.map fun l => (l.length, ecells l)
theorem rsM_at (ll : List (List EV)) (i : Nat) (h : i < ll.length) : (rsM ll).getD i (0, []) = ((ll.getD i []).length, ecells (ll.getD i [])) := by
  unfold rsM
  rw [List.getD_eq_getElem?_getD, List.getElem?_map, List.getElem?_eq_getElem h, List.getD_eq_getElem?_getD, List.getElem?_eq_getElem h]
  rfl
theorem rsM_len (ll : List (List EV)) : (rsM ll).length = ll.length := by unfold rsM; rw [List.length_map]
theorem totN_rsM (ll : List (List EV)) : totN (rsM ll) = ll.flatten.length := by
  unfold totN
  rw [rsM_len, ← psum_flat]
  exact psum_ext fun i hi => by rw [rsM_at ll i hi]
theorem ecells_flat : ∀ ll : List (List EV), (ll.map ecells).flatten = ecells ll.flatten
  | [] => rfl
  | l :: ll => by rw [List.map_cons, List.flatten_cons, List.flatten_cons, ecells_append, ecells_flat ll]
theorem totV_rsM (ll : List (List EV)) : totV (rsM ll) = ecells ll.flatten := by
  unfold totV rsM
  rw [List.map_map, ← ecells_flat]
  rfl
theorem RunRow.rrow {w : World} {v : Value} {ll : List (List EV)} (h : RunRow w v ll) : RRow w v 2 (rsM ll) := by
  rcases h with ⟨rfl, ao, cap, rfl⟩ | ⟨h0, g, off, cap, h1, h2, h3⟩
  · exact .inl ⟨rfl, _, _, rfl⟩
  · refine .inr ⟨by rw [rsM_len]; exact h0, g, off, cap, by rw [rsM_len]; exact h1, h2, fun i hi => ?_⟩
    rw [rsM_len] at hi
    obtain ⟨x, a1, a2⟩ := h3 i hi
    rw [rsM_at ll i hi]
    exact ⟨x, a1, a2.crow⟩
set_option maxHeartbeats 2000000 in
theorem implSortNil (W : World) : Calls Try.prog 41 #[.slice none 0 0, .func (.func 30) #[] #[]] W fun e w' => e = .returned (.tuple #[]) ∧ W = w' := by
  have CI : Hid (∀ (W : World), Calls Try.prog 52 #[.slice none 0 0, .int .i64 0, .int .i64 0, .func (.func 30) #[] #[]] W fun e w' => e = .returned (.tuple #[]) ∧ W = w') := fun W => by
    go_enter Try.func52, Try.ntmps52
    go_wp2
    refine wp_loop_rounds 1 ?_
    rw [rounds_succ]
    go_wp2
    go_end0
    exact ⟨rfl, rfl⟩
  have CS : Hid (∀ (W : World), Calls Try.prog 50 #[.slice none 0 0, .int .i64 0, .func (.func 30) #[] #[]] W fun e w' => e = .returned (.tuple #[]) ∧ W = w') := fun W => by
    go_enter Try.func50, Try.ntmps50
    go_wp2
    refine wp_loop_rounds 1 ?_
    rw [rounds_succ]
    go_wp2_with fail
    refine (CI.out _).mono ?_
    rintro e w1 ⟨rfl, rfl⟩
    go_wp2
    refine wp_loop_rounds 1 ?_
    rw [rounds_succ]
    go_wp2
    go_end0
    exact ⟨rfl, rfl⟩
  go_enter Try.func41, Try.ntmps41
  go_wp2_with fail
  refine (CS.out _).mono ?_
  rintro e w1 ⟨rfl, rfl⟩
  go_wp2_with fail
  go_end0
  exact ⟨rfl, rfl⟩
set_option maxHeartbeats 2000000 in
theorem implCompactNil (W : World) (fv : Value) : Calls Try.prog 42 #[.slice none 0 0, fv] W fun e w' => e = .returned (.slice none 0 0) ∧ W = w' := by
  go_enter Try.func42, Try.ntmps42
  go_wp2_with fail
  go_ret
  exact ⟨rfl, rfl⟩
set_option maxRecDepth 100000 in
set_option maxHeartbeats 4000000 in
theorem implMerged (ll : List (List EV)) (v : Value) (w : World) (hr : ll.length ≤ 1048576) (ht : ll.flatten.length ≤ 262144) (h : RunRow w v ll) :
    Calls Try.prog 29 #[.func (.func 30) #[] #[], v] w fun e w' => ∃ v', e = .returned v' ∧ EntRow w' v' (canon ll.flatten) ∧ Below w.heap.size w w' := by
  obtain ⟨O, hO⟩ : ∃ O, O = w.alloc (.cells #[.func (.func 30) #[] #[]] 54) := ⟨_, rfl⟩
  have bO : Below w.heap.size w O := by rw [hO]; exact (Below.refl _ _).alloc (Nat.le_refl _) _
  have AO : BAt O w.heap.size [.func (.func 30) #[] #[]] := by rw [hO]; exact BAt.new w #[.func (.func 30) #[] #[]] _
  have CC : Hid (Calls Try.prog 40 #[v] O fun e w' => ∃ v', e = .returned v' ∧ w'.ownsRow O.heap.size 35 2 v' ll.flatten.length (ecells ll.flatten) ∧ Below O.heap.size O w') := by
    have := implConcatM (rsM ll) v O (by rw [rsM_len]; exact hr) (by rw [totN_rsM]; omega) (h.below bO).rrow
    rwa [totN_rsM, totV_rsM] at this
  obtain ⟨va, vc, rfl⟩ := h.slice
  clear h
  have hBO := AO.2.2
  go_enter Try.func29, Try.ntmps29
  go_upto_region 1 with fail
  rw [← hO]
  clear hO
  go_wp2_with fail
  refine CC.out.mono ?_
  rintro e w1 ⟨v1, rfl, o1, b1⟩
  have B1 := bO.trans (b1.mono bO.size)
  have A1 := AO.below b1
  have c1 := A1.1 0 _ rfl
  have hB1 := A1.2.2
  rcases o1.2 with ⟨hv, hn0⟩ | ⟨g, cap, cur, hv, hgb, hrest⟩
  · have hz : ll.flatten = [] := List.eq_nil_of_length_eq_zero hn0
    have HR : Hid (canon ll.flatten = []) := hidM (by rw [hz]; rfl)
    subst hv
    clear o1 CC hz hn0
    go_wp2_with fail
    refine (implSortNil _).mono ?_
    rintro e w2 ⟨rfl, rfl⟩
    go_wp2_with fail
    refine (implCompactNil _ _).mono ?_
    rintro e w3 ⟨rfl, rfl⟩
    go_wp2_with fail
    go_ret
    exact ⟨_, rfl, by rw [HR.out]; exact .inl ⟨rfl, _, _, rfl⟩, B1⟩
  · subst hv
    have hgB : w.heap.size ≠ g := by have := bO.size; omega
    have CS := hidM (implSortStable w1 w1 O.heap.size g ll.flatten.length cap ll.flatten ht ⟨rfl, o1, World.grownBy.refl _ _⟩)
    have CP : Hid (∀ W L, MRw w1 W O.heap.size g ll.flatten.length cap L → Calls Try.prog 42 #[.slice (some ⟨g, 0, none⟩) ll.flatten.length cap, .func (.func 43) #[] #[.pointer (some ⟨w.heap.size, 0, none⟩)]] W fun e w' => ∃ v', e = .returned v' ∧ EntRow w' v' (cpt L) ∧ w1.grownBy w' (some g)) := fun W L h => implCompact w1 W O.heap.size g ll.flatten.length cap w.heap.size L ht hgB hB1 c1 h
    have hOg : O.heap.size ≤ g := hgb
    have HN : Hid (∀ L, Srt L → (∀ k, fd k L = fd k ll.flatten) → cpt L = canon ll.flatten) := fun L h1 h2 => canon_sort h1 h2
    clear o1 hrest CC hgb
    generalize ll.flatten.length = N at *
    go_wp2_with fail
    refine CS.out.mono ?_
    rintro e w2 ⟨rfl, L, m2, s2, f2⟩
    have HE := hidM (HN.out L s2 f2)
    have CP2 := hidM (CP.out w2 L m2)
    clear CS CP HN m2 s2 f2
    go_wp2_with fail
    refine CP2.out.mono ?_
    rintro e w3 ⟨v3, rfl, r3, g3⟩
    have HR : Hid (EntRow w3 v3 (canon ll.flatten)) := hidM (by rw [← HE.out]; exact r3)
    have B3 : Below w.heap.size w w3 := B1.grown g3 B1.size (fun b hb => by injection hb with hb; subst hb; have := bO.size; omega)
    clear r3 g3 CP2
    go_wp2_with fail
    go_ret
    exact ⟨_, rfl, HR.out, B3⟩
end Go.Proofs.Ytdnlaijpgjpplaa
