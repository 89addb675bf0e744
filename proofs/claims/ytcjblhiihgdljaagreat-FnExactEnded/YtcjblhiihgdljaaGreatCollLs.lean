/- slices.AppendSeq, Collect and SortedFunc, at the leases of a map. -/
import Derived.Test.YtcjblhiihgdljaaGreatRows
import Derived.Test.YtcjblhiihgdljaaGreatValIter
import Derived.Test.YtcjblhiihgdljaaGreatLsRow
namespace Go.Proofs.YtcjblhiihgdljaaGreat
open Go.RowKit Go.Shelf Go.Maps Go.Sort
attribute [local go_sem] Oper.semAt_some
set_option linter.unusedVariables false
set_option linter.unusedSimpArgs false

theorem vbox_keep {W V : World} {row : Option Nat} {b : Nat} {t : TypeId} {v : Value} (h : Boxed W b t v) (hg : W.grownBy V row) (hr : ∀ r, row = some r → ∃ o : Obj, W.heap[r]? = some o ∧ o.isCells = false) : Boxed V b t v := by
  refine h.kept hg fun e => ?_
  obtain ⟨o, ho, hc⟩ := hr b e.symm
  rw [show W.heap[b]? = _ from h] at ho
  cases ho
  cases hc
theorem vrow_keep {W V : World} {row : Option Nat} {B : Nat} {e : TypeId} {z : Nat} {v : Value} {n : Nat} {xs : List Value} (h : W.ownsRow B e z v n xs) (hg : W.grownBy V row) (hr : ∀ r, row = some r → ∃ o : Obj, W.heap[r]? = some o ∧ o.isCells = false) : V.ownsRow B e z v n xs := by
  refine h.kept hg ?_
  rcases h.2 with ⟨rfl, _⟩ | ⟨g, cap, cur, rfl, _, hgb, _⟩
  · exact .inl rfl
  · refine .inr fun e' => ?_
    obtain ⟨o, ho, hc⟩ := hr g (by simpa [Value.ownBlock] using e'.symm)
    rw [hgb] at ho
    cases ho
    cases hc
theorem vbelow_keep {B b : Nat} {w W V : World} {row : Option Nat} (h : Below B w W) (hg : W.grownBy V row) (hB : B ≤ b) (hs : B ≤ w.heap.size) (hr : ∀ r, row = some r → b ≤ r ∧ ∃ o : Obj, W.heap[r]? = some o ∧ o.isCells = false) : Below B w V :=
  h.grown hg (Nat.le_trans hs h.size) (fun k e => Nat.le_trans hB (hr k e).1)
/-- What stands between two rounds: the row so far. -/
def LcI (B : Nat) (w : World) (pre : List LsV) (W : World) : Prop := ∃ v, Boxed W B 25 v ∧ W.ownsRow B 51 4 v pre.length (lscells pre) ∧ Below B w W
theorem lcI_own {B b : Nat} {w : World} (hB : B ≤ b) (hs : B ≤ w.heap.size) : OwnFrom b (LcI B w) := by
  rintro pre W V row ⟨v, h1, h2, h3⟩ hg hr
  exact ⟨v, vbox_keep h1 hg (fun r e => (hr r e).2), vrow_keep h2 hg (fun r e => (hr r e).2), vbelow_keep h3 hg hB hs hr⟩
def Ls4 (W : World) (Bx : Nat) (x : LsV) : Prop := W.heap[Bx]? = some (.cells #[.string x.k, .string x.s, .int .i64 x.p, .int .i64 x.u] 51 (0, 0))
theorem ls4_keep {W V : World} {row : Option Nat} {b : Nat} {x : LsV} (h : Ls4 W b x) (hg : W.grownBy V row) (hr : ∀ r, row = some r → ∃ o : Obj, W.heap[r]? = some o ∧ o.isCells = false) : Ls4 V b x := by
  refine (hg.block b (Array.getElem?_eq_some_iff.1 h).1 fun e => ?_).trans h
  obtain ⟨o, ho, hc⟩ := hr b e.symm
  rw [show W.heap[b]? = _ from h] at ho
  cases ho
  cases hc
theorem ls_news (W : World) (x : LsV) : ∀ (j : Nat) (u : Value), ([.string x.k, .string x.s, .int .i64 x.p, .int .i64 x.u] : List Value)[j]? = some u → (W.alloc (.cells #[.string x.k, .string x.s, .int .i64 x.p, .int .i64 x.u] 51)).cell? ((⟨W.heap.size, 0, none⟩ : Addr).add j) = some u := fun j u h => by
  rw [Addr.add_lit, Nat.zero_add, World.cell?_alloc_at _ _ _ _ rfl]
  simpa using h
theorem ls_one (x : LsV) : ∀ u ∈ ([.string x.k, .string x.s, .int .i64 x.p, .int .i64 x.u] : List Value), u.oneCell' = true := fun u hu => by
  simp at hu
  rcases hu with rfl | rfl | rfl | rfl <;> rfl
/-- A row of leases that the call owns, in whatever order. -/
def PermR (w : World) (le : List LsV) (e : Ending) (w' : World) : Prop := ∃ (xs : List LsV) (v : Value), e = .returned v ∧ xs.Perm le ∧ w'.ownsRow w.heap.size 51 4 v xs.length (lscells xs) ∧ Below w.heap.size w w'
set_option maxRecDepth 100000 in
set_option maxHeartbeats 4000000 in
theorem implAppSeq (n : Nat) (hn : 3 ≤ n) (Bm b N : Nat) (le : List LsV) (w : World) (hN : N ≤ 1048576) (hBm : Bm < w.heap.size) (hm : w.cell? ⟨Bm, 0, none⟩ = some (.map (some b))) (hL : LMapO w b N le) (hnd : (le.map kB).Nodup) :
    CallsIn Fence.wide n Tryz.prog 187 #[.slice none 0 0, .func (.func 157) #[] #[.pointer (some ⟨Bm, 0, none⟩)]] w fun e w' => PermR w le e w' := by
  have h1 : 1 ≤ n := by omega
  refine callsIn_of_wp_marks Tryz.func187 rfl trivial ?_ rfl
  simp only [Tryz.ntmps187, List.size_toArray, List.length_cons, List.length_nil, Nat.reduceAdd, Nat.reduceSub, Array.replicate_succ, Array.replicate_zero, List.push_toArray, List.append_toArray, List.nil_append, List.cons_append]
  gi_wp2
  obtain ⟨W0, hW0⟩ : ∃ W0, w.alloc (.cells #[.slice none 0 0] 25) = W0 := ⟨_, rfl⟩
  have hs0 : W0.heap.size = w.heap.size + 1 := by rw [← hW0]; simp
  have hb0 : Below w.heap.size w W0 := by rw [← hW0]; exact (Below.refl _ w).alloc (Nat.le_refl _) _
  have F0 : LcI w.heap.size w [] W0 := ⟨_, by rw [← hW0]; exact Boxed.new w _ _, World.ownsRow_nil _ _ _ _, hb0⟩
  have hmW : W0.cell? ⟨Bm, 0, none⟩ = some (.map (some b)) := (hb0.cell (p := ⟨Bm, 0, none⟩) hBm).trans hm
  have hLW := hL.below hb0
  rw [hW0]
  clear hW0 hL
  have hs0i : w.heap.size + 1 ≤ W0.heap.size := Nat.le_of_eq hs0.symm
  clear hs0
  refine wpIn_rangeFunc_ownH rfl h1 (gf := 157) (lb := #[.pointer (some ⟨Bm, 0, none⟩)]) rfl trivial (enters_of Tryz.func157 (by kernel_rfl) rfl)
    (implVals1 (n - 1) (by omega) Bm b N le W0 (by omega) hmW hLW hnd) walksK_t walksK_b (Below.refl _ _) (fun _ => rfl)
    (LcI w.heap.size w) (fun _ _ _ => False) (lcI_own (by omega) (Nat.le_refl _)) (fun c s W V row h => h.elim) F0
    (fun x a' W => ∃ Bx, w.heap.size < Bx ∧ Ls4 W Bx x ∧ a' = { tmps := #[.slice none 0 0, .func (.func 157) #[] #[.pointer (some ⟨Bm, 0, none⟩)], .pointer (some ⟨w.heap.size, 0, none⟩), undef, .slice none 0 0, .pointer (some ⟨Bx, 0, none⟩), .func (.func 157) #[] #[.pointer (some ⟨Bm, 0, none⟩)], lsA x, undef, undef, undef, undef, undef], defers := [] })
    (fun x a' _ W V row ⟨Bx, h1, h2, h3⟩ hg hr => ⟨Bx, h1, ls4_keep h2 hg (fun r e => (hr r e).2), h3⟩) ?assign ?body ?done ?stop
  case assign =>
    rintro l pre x W K hi hK
    have hWl : w.heap.size < W.heap.size := by
      obtain ⟨v, h, _⟩ := hi
      exact h.lt
    dsimp only [lsA]
    gi_wp2
    exact hK _ _ ((KeepsOthers.alloc _ _).from _) (KeepsWalks.alloc _ _) ((lcI_own (b := W0.heap.size) (by omega) (Nat.le_refl _)).alloc _ hi) ⟨W.heap.size, hWl, World.alloc_heap_new W _, rfl⟩
  case body =>
    rintro l pre x a' W hl ⟨r, hr⟩ ⟨v, c1, c2, hbel⟩ ⟨Bx, hBx, t2, rfl⟩ hlt
    have hBW : w.heap.size ≤ W.heap.size := by have := c1.lt; omega
    have hpl : pre.length < 1048576 := by omega
    clear hr hl hlt
    have e1 := c1.cell
    have f1 := c1.frozen
    have d0 : W.cell? ⟨Bx, 0, none⟩ = some (.string x.k) := by simp [World.cell?, show W.heap[Bx]? = _ from t2]
    have d1 : W.cell? ⟨Bx, 1, none⟩ = some (.string x.s) := by simp [World.cell?, show W.heap[Bx]? = _ from t2]
    have d2 : W.cell? ⟨Bx, 2, none⟩ = some (.int .i64 x.p) := by simp [World.cell?, show W.heap[Bx]? = _ from t2]
    have d3 : W.cell? ⟨Bx, 3, none⟩ = some (.int .i64 x.u) := by simp [World.cell?, show W.heap[Bx]? = _ from t2]
    obtain ⟨i0, hi, hz0, hz1, hz2⟩ := info_parts Tryz.infoLs
    have hown := c2.alloc (.cells #[.string x.k, .string x.s, .int .i64 x.p, .int .i64 x.u] 51)
    gi_wp2_with (gi_at_builtin; refine wpListIn_append_own_at _ rfl _ _ 25 rfl w.heap.size 51 i0 (.agg #[.string ⟨#[]⟩, .string ⟨#[]⟩, .int .i64 0, .int .i64 0]) 4 48 Tryz.underlying25 hi hz0 hz1 hz2 rfl (by decide) _ _ _ rfl hown ⟨W.heap.size, 0, none⟩ 1 1 [.string x.k, .string x.s, .int .i64 x.p, .int .i64 x.u] rfl rfl (ls_news W x) (ls_one x) (by unfold maxLen; omega) (by omega) (by simp; omega) ?_; intro v' w1 hown' hgrow _ hat; obtain ⟨g', cap', rfl⟩ := ownsRow_succ hown'; obtain ⟨a1, a2, a3, a4, a5⟩ := c1.appended (by decide) c2 hBW (Nat.le_refl _) hown' hgrow; have q1 := a1.cell; have q2 := a1.frozen)
    refine ⟨a4.from _, a4.walks, _, a2, ?_, hbel.trans a5⟩
    rw [List.length_append, lscells_append]
    exact a3
  case done =>
    rintro D xs W hD hS ⟨v, c1, c2, hbel⟩ hK
    have e1 := c1.cell
    gi_wp2
    refine ⟨by simp, .inl ⟨_, _, rfl, run_takeDeferred hK, ?_⟩⟩
    exact ⟨_, results_tmp rfl _ _ _, xs, v, rfl, hS, ownsRow_putObj c2 _ hK rfl, hbel.trans (belowK_b (w := W0) (by omega) W D _ _ hD hK rfl rfl)⟩
  case stop => exact fun D c pre W hD hS h => h.elim
set_option maxHeartbeats 1000000 in
theorem implColl (n : Nat) (hn : 4 ≤ n) (Bm b N : Nat) (le : List LsV) (w : World) (hN : N ≤ 1048576) (hBm : Bm < w.heap.size) (hm : w.cell? ⟨Bm, 0, none⟩ = some (.map (some b))) (hL : LMapO w b N le) (hnd : (le.map kB).Nodup) :
    CallsIn Fence.wide n Tryz.prog 155 #[.func (.func 157) #[] #[.pointer (some ⟨Bm, 0, none⟩)]] w fun e w' => PermR w le e w' := by
  refine callsIn_of_wp Tryz.func155 rfl trivial ?_ rfl
  simp only [Tryz.ntmps155, List.size_toArray, List.length_cons, List.length_nil, Nat.reduceAdd, Nat.reduceSub, Array.replicate_succ, Array.replicate_zero, List.push_toArray, List.append_toArray, List.nil_append, List.cons_append]
  gi_wp2_with fail
  refine ⟨trivial, fun _ => by omega, ?_⟩
  refine (implAppSeq (n - 1) (by omega) Bm b N le w hN hBm hm hL hnd).mono ?_
  rintro e w' ⟨xs, v, rfl, h1, h2, h3⟩
  gi_wp2
  go_ret
  exact ⟨xs, v, rfl, h1, h2, h3⟩
end Go.Proofs.YtcjblhiihgdljaaGreat
