/- The draw of a Seen that may not be right: l15Any. -/
import Derived.Test.YtdnlaijpgjpplaaRows
import Derived.Test.YtdnlaijpgjpplaaSeenDraw3
import Derived.Test.YtdnlaijpgjpplaaSeenPutP
import Derived.Deep.RegionHeld3
namespace Go.Proofs.Ytdnlaijpgjpplaa
open Go.RowKit
set_option linter.unusedVariables false
set_option linter.unusedSimpArgs false

/-- What stands while it is drawn: the cursor, the result's cells, the box D5 with its two rows. -/
structure AnS (w W : World) (D B : Nat) (ao : Option Addr) (len cap D5 : Nat) (v5 v6 : Value) (m : List EV) (ll : List (List EV)) (vs : List Value) : Prop where
  c : Cur D B ao len cap W
  g : w.grownBy W (some B)
  r : W.heap[w.heap.size]? = some (.cells #[.slice none 0 0, .slice none 0 0] 27 (0, 0))
  d : W.heap[D5]? = some (.cells #[v5, v6] 27 (0, 0))
  o5 : W.ownsRow w.heap.size 35 2 v5 m.length (ecells m)
  o6 : W.ownsRow w.heap.size 24 1 v6 ll.length vs
  e6 : OEl W w.heap.size vs ll
  ap : APt v5 vs
  b : B < w.heap.size
  z : w.heap.size < D5

theorem AnS.step {w W W' : World} {D B : Nat} {ao : Option Addr} {len cap D5 : Nat} {v5 v6 : Value} {m : List EV} {ll : List (List EV)} {vs : List Value} (h : AnS w W D B ao len cap D5 v5 v6 m ll vs) (hc : Cur D B ao len cap W') (g : W.grownBy W' (some B)) : AnS w W' D B ao len cap D5 v5 v6 m ll vs := by
  obtain ⟨i, hh, hB, _⟩ := h.c
  have hb := h.b
  have hz := h.z
  have hs : ∀ k, k < W.heap.size → k ≠ B → W'.heap[k]? = W.heap[k]? := fun k h1 h2 => g.block k h1 (fun e => h2 (by injection e))
  exact ⟨hc, grow_trans h.g g, (hs _ (Array.getElem?_eq_some_iff.1 h.r).1 (by omega)).trans h.r, (hs _ (Array.getElem?_eq_some_iff.1 h.d).1 (by omega)).trans h.d, own_far h.o5 hB (by decide) hs, own_far h.o6 hB (by decide) hs, h.e6.far hB (by decide) hs, h.ap, hb, hz⟩

theorem AnS.alloc {w W : World} {D B : Nat} {ao : Option Addr} {len cap D5 : Nat} {v5 v6 : Value} {m : List EV} {ll : List (List EV)} {vs : List Value} (h : AnS w W D B ao len cap D5 v5 v6 m ll vs) (o : Obj) : AnS w (W.alloc o) D B ao len cap D5 v5 v6 m ll vs := by
  have bb : Below W.heap.size W (W.alloc o) := (Below.refl _ _).alloc (Nat.le_refl _) o
  exact ⟨h.c.alloc o, grow_alloc h.g o, (bb.block _ (Array.getElem?_eq_some_iff.1 h.r).1).trans h.r, (bb.block _ (Array.getElem?_eq_some_iff.1 h.d).1).trans h.d, own_below h.o5 bb, own_below h.o6 bb, h.e6.below bb, h.ap, h.b, h.z⟩

/-- What l15Any answers. -/
def DrawnY (D B : Nat) (ao : Option Addr) (len cap : Nat) (w w' : World) (e : Ending) : Prop :=
  ∃ a5 c5 a6 c6 m ll vs, Sml m ll ∧ e = .returned (.agg #[.slice a5 m.length c5, .slice a6 ll.length c6]) ∧ w'.ownsRow w.heap.size 35 2 (.slice a5 m.length c5) m.length (ecells m) ∧ w'.ownsRow w.heap.size 24 1 (.slice a6 ll.length c6) ll.length vs ∧ OEl w' w.heap.size vs ll ∧ Cur D B ao len cap w' ∧ w.grownBy w' (some B)

/-- What is left to do behind the box. -/
structure AnF (w W : World) (D B : Nat) (ao : Option Addr) (len cap D5 : Nat) (v5 v6 : Value) (m : List EV) (ll : List (List EV)) (vs : List Value) : Prop where
  c : Cur D B ao len cap W
  g : w.grownBy W (some B)
  r : W.heap[w.heap.size]? = some (.cells #[.slice none 0 0, .slice none 0 0] 27 (0, 0))
  d : W.heap[D5]? = some (.cells #[v5, v6] 27 (0, 0))
  o5 : W.ownsRow w.heap.size 35 2 v5 m.length (ecells m)
  o6 : W.ownsRow w.heap.size 24 1 v6 ll.length vs
  e6 : OEl W w.heap.size vs ll
  z : w.heap.size < D5

theorem AnS.fin {w W : World} {D B : Nat} {ao : Option Addr} {len cap D5 : Nat} {v5 v6 : Value} {m : List EV} {ll : List (List EV)} {vs : List Value} (h : AnS w W D B ao len cap D5 v5 v6 m ll vs) : AnF w W D B ao len cap D5 v5 v6 m ll vs := ⟨h.c, h.g, h.r, h.d, h.o5, h.o6, h.e6, h.z⟩

/-- A mark appended to the row of marks, and the row stored into the box. -/
theorem AnS.mark {w W W' : World} {D B : Nat} {ao : Option Addr} {len cap D5 : Nat} {v5 v6 v7 : Value} {m m' : List EV} {ll : List (List EV)} {vs : List Value} (h : AnS w W D B ao len cap D5 v5 v6 m ll vs) (ho : W'.ownsRow w.heap.size 35 2 v7 m'.length (ecells m')) (g : W.grownBy W' v5.ownBlock) :
    AnF w (W'.setCell ⟨D5, 0, none⟩ v7) D B ao len cap D5 v7 v6 m' ll vs := by
  have hz := h.z
  have hbz := h.b
  have hlt : ∀ b, v5.ownBlock = some b → w.heap.size ≤ b := fun b hb => (h.o5.lt b hb).1
  have hty : ∀ b, v5.ownBlock = some b → ∃ cur f, W.heap[b]? = some (.cells cur 35 f) := fun b hb => own_ty h.o5 hb
  have keep : ∀ k, k < W.heap.size → v5.ownBlock ≠ some k → W'.heap[k]? = W.heap[k]? := fun k h1 h2 => g.block k h1 (fun e => h2 e.symm)
  have hR : W'.heap[w.heap.size]? = some (.cells #[.slice none 0 0, .slice none 0 0] 27 (0, 0)) := (keep _ (Array.getElem?_eq_some_iff.1 h.r).1 (fun e => by
    obtain ⟨cur, f, hc⟩ := hty _ e
    rw [h.r] at hc
    injection hc with hc
    injection hc with _ h9
    exact absurd h9 (by decide))).trans h.r
  have hD : W'.heap[D5]? = some (.cells #[v5, v6] 27 (0, 0)) := (keep _ (Array.getElem?_eq_some_iff.1 h.d).1 (fun e => by
    obtain ⟨cur, f, hc⟩ := hty _ e
    rw [h.d] at hc
    injection hc with hc
    injection hc with _ h9
    exact absurd h9 (by decide))).trans h.d
  have hs : ∀ k, k < W'.heap.size → k ≠ D5 → (W'.setCell ⟨D5, 0, none⟩ v7).heap[k]? = W'.heap[k]? := fun k _ hk => Below.heap_setCell _ _ _ _ hk
  have o6' : W'.ownsRow w.heap.size 24 1 v6 ll.length vs := own_at h.o6 fun b hb => keep b (h.o6.lt b hb).2 (fun e => by
    obtain ⟨cur, f, hc⟩ := hty _ e
    obtain ⟨cur2, f2, hc2⟩ := own_ty h.o6 hb
    rw [hc2] at hc
    injection hc with hc
    injection hc with _ h9
    exact absurd h9 (by decide))
  have e6' : OEl W' w.heap.size vs ll := fun i hi => by
    obtain ⟨y, a1, a2⟩ := h.e6 i hi
    exact ⟨y, a1, own_at a2 fun b hb => keep b (a2.lt b hb).2 (h.ap i y b a1 hb)⟩
  have hB : v5.ownBlock ≠ some B := fun e => by have := hlt B e; omega
  have hle := h.c.le
  have hcl := h.c.lt
  have hDB : B ≠ D5 := by omega
  refine ⟨h.c.keep ((hs B (Nat.lt_of_lt_of_le hcl g.size) hDB).trans (keep B hcl hB)) (fun k hk => (hs k (by have := g.size; omega) (by omega)).trans (keep k (by omega) (fun e => by have := hlt k e; omega))), ⟨g.os.trans h.g.os, g.tape.trans h.g.tape, g.output.trans h.g.output, by have h1 := g.size; have h2 := h.g.size; simp [World.setCell]; omega, fun k hk hkB => ?_⟩, (hs _ (Array.getElem?_eq_some_iff.1 hR).1 (by omega)).trans hR, heap_setCell_same _ D5 0 _ _ _ hD, own_far ho hD (by decide) hs, own_far o6' hD (by decide) hs, e6'.far hD (by decide) hs, hz⟩
  have h2 := h.g.size
  exact ((hs k (by have := g.size; omega) (by omega)).trans (keep k (by omega) (fun e => by have := hlt k e; omega))).trans (h.g.block k hk hkB)

theorem AnS.box {w W W' : World} {D B : Nat} {ao : Option Addr} {len cap D5 : Nat} {v5 v6 : Value} {m : List EV} {ll : List (List EV)} {vs : List Value} (h : AnS w W D B ao len cap D5 v5 v6 m ll vs) (g : W.grownBy W' v5.ownBlock) :
    W'.heap[D5]? = some (.cells #[v5, v6] 27 (0, 0)) := (g.block _ (Array.getElem?_eq_some_iff.1 h.d).1 (fun e => by
    obtain ⟨cur, f, hc⟩ := own_ty h.o5 e.symm
    rw [h.d] at hc
    injection hc with hc
    injection hc with _ h9
    exact absurd h9 (by decide))).trans h.d

/-- An empty run appended to the row of runs, and the row stored into the box. -/
theorem AnS.run {w W W' : World} {D B : Nat} {ao : Option Addr} {len cap D5 : Nat} {v5 v6 v7 y : Value} {m : List EV} {ll : List (List EV)} {vs : List Value} (h : AnS w W D B ao len cap D5 v5 v6 m ll vs) (hy : W.ownsRow w.heap.size 35 2 y 0 []) (ho : W'.ownsRow w.heap.size 24 1 v7 (ll.length + 1) (vs ++ [y])) (g : W.grownBy W' v6.ownBlock) :
    W'.heap[D5]? = some (.cells #[v5, v6] 27 (0, 0)) ∧ AnF w (W'.setCell ⟨D5, 1, none⟩ v7) D B ao len cap D5 v5 v7 m (ll ++ [[]]) (vs ++ [y]) := by
  have hz := h.z
  have hbz := h.b
  have hlt : ∀ b, v6.ownBlock = some b → w.heap.size ≤ b := fun b hb => (h.o6.lt b hb).1
  have hty : ∀ b, v6.ownBlock = some b → ∃ cur f, W.heap[b]? = some (.cells cur 24 f) := fun b hb => own_ty h.o6 hb
  have keep : ∀ k, k < W.heap.size → v6.ownBlock ≠ some k → W'.heap[k]? = W.heap[k]? := fun k h1 h2 => g.block k h1 (fun e => h2 e.symm)
  have notS : ∀ b cs f, W.heap[b]? = some (.cells cs 27 f) → v6.ownBlock ≠ some b := fun b cs f h1 e => by
    obtain ⟨cur, f2, hc⟩ := hty _ e
    rw [h1] at hc
    injection hc with hc
    injection hc with _ h9
    exact absurd h9 (by decide)
  have notM : ∀ b cs f, W.heap[b]? = some (.cells cs 35 f) → v6.ownBlock ≠ some b := fun b cs f h1 e => by
    obtain ⟨cur, f2, hc⟩ := hty _ e
    rw [h1] at hc
    injection hc with hc
    injection hc with _ h9
    exact absurd h9 (by decide)
  have hR : W'.heap[w.heap.size]? = some (.cells #[.slice none 0 0, .slice none 0 0] 27 (0, 0)) := (keep _ (Array.getElem?_eq_some_iff.1 h.r).1 (notS _ _ _ h.r)).trans h.r
  have hD : W'.heap[D5]? = some (.cells #[v5, v6] 27 (0, 0)) := (keep _ (Array.getElem?_eq_some_iff.1 h.d).1 (notS _ _ _ h.d)).trans h.d
  have hs : ∀ k, k < W'.heap.size → k ≠ D5 → (W'.setCell ⟨D5, 1, none⟩ v7).heap[k]? = W'.heap[k]? := fun k _ hk => Below.heap_setCell _ _ _ _ hk
  have mk : ∀ {v : Value} {n : Nat} {xs : List Value}, W.ownsRow w.heap.size 35 2 v n xs → W'.ownsRow w.heap.size 35 2 v n xs := fun h1 => own_at h1 fun b hb => by
    obtain ⟨cur, f, hc⟩ := own_ty h1 hb
    exact keep b (h1.lt b hb).2 (notM b cur f hc)
  have e6' : OEl W' w.heap.size vs ll := fun i hi => by
    obtain ⟨y, a1, a2⟩ := h.e6 i hi
    exact ⟨y, a1, mk a2⟩
  have hlv : vs.length = ll.length := by
    have := h.o6.1
    simpa using this
  have e7 : OEl W' w.heap.size (vs ++ [y]) (ll ++ [[]]) := by
    have := OEl.last e6' (n := ll.length) (y := y) (l := []) (by omega) (Nat.le_refl _) (mk hy)
    rwa [List.take_length, ← hlv, List.take_length] at this
  have hB : v6.ownBlock ≠ some B := fun e => by have := hlt B e; omega
  have hle := h.c.le
  have hcl := h.c.lt
  have hDB : B ≠ D5 := by omega
  refine ⟨hD, h.c.keep ((hs B (Nat.lt_of_lt_of_le hcl g.size) hDB).trans (keep B hcl hB)) (fun k hk => (hs k (by have := g.size; omega) (by omega)).trans (keep k (by omega) (fun e => by have := hlt k e; omega))), ⟨g.os.trans h.g.os, g.tape.trans h.g.tape, g.output.trans h.g.output, by have h1 := g.size; have h2 := h.g.size; simp [World.setCell]; omega, fun k hk hkB => ?_⟩, (hs _ (Array.getElem?_eq_some_iff.1 hR).1 (by omega)).trans hR, heap_setCell_same _ D5 1 _ _ _ hD, own_far (mk h.o5) hD (by decide) hs, ?_, e7.far hD (by decide) hs, hz⟩
  · have h2 := h.g.size
    exact ((hs k (by have := g.size; omega) (by omega)).trans (keep k (by omega) (fun e => by have := hlt k e; omega))).trans (h.g.block k hk hkB)
  · rw [List.length_append, List.length_singleton]
    exact own_far ho hD (by decide) hs

theorem drawnY_of {D B : Nat} {ao : Option Addr} {len cap : Nat} {w w' : World} {a5 a6 : Option Addr} {n5 c5 n6 c6 : Nat} {m : List EV} {ll : List (List EV)} {vs : List Value} (h5 : m.length = n5) (h6 : ll.length = n6) (hs : Sml m ll)
    (o5 : w'.ownsRow w.heap.size 35 2 (.slice a5 n5 c5) m.length (ecells m)) (o6 : w'.ownsRow w.heap.size 24 1 (.slice a6 n6 c6) ll.length vs) (e6 : OEl w' w.heap.size vs ll) (c : Cur D B ao len cap w') (g : w.grownBy w' (some B)) :
    DrawnY D B ao len cap w w' (.returned (.agg #[.slice a5 n5 c5, .slice a6 n6 c6])) := by
  subst h5 h6
  exact ⟨a5, c5, a6, c6, m, ll, vs, hs, rfl, o5, o6, e6, c, g⟩

set_option maxRecDepth 100000 in
set_option maxHeartbeats 4000000 in
theorem l15Any (most : Int) (D B : Nat) (ao : Option Addr) (len cap : Nat) (w : World) (h0 : 0 < most) (h50 : most ≤ 50) (hcur : Cur D B ao len cap w) :
    Calls Try.prog 17 #[.pointer (some ⟨B, 0, none⟩), .int .i64 most] w fun e w' => DrawnY D B ao len cap w w' e := by
  have hB := hcur.lt
  obtain ⟨i0, hi, hi0, hi1, hi2⟩ := info_parts Try.infoMk
  obtain ⟨O, hO⟩ : ∃ O, O = w.alloc (.cells #[.slice none 0 0, .slice none 0 0] 27) := ⟨_, rfl⟩
  have CO : Hid (Cur D B ao len cap O) := hidM (by rw [hO]; exact hcur.alloc _)
  have GO : Hid (w.grownBy O (some B)) := hidM (by rw [hO]; exact World.grownBy_alloc w _ (some B))
  have hzO : O.heap.size = w.heap.size + 1 := by rw [hO]; simp
  have HR : O.heap[w.heap.size]? = some (.cells #[.slice none 0 0, .slice none 0 0] 27 (0, 0)) := by rw [hO]; exact heap_alloc_new w _
  clear hcur
  go_enter Try.func17, Try.ntmps17
  go_upto_region 1 with fail
  rw [← hO]
  clear hO
  go_wp2_with fail
  refine (l15Draw most _ _ _ _ _ _ h0 h50 CO.out).mono ?_
  rintro e wb ⟨v5, v6, m, ll, vs, hr, rfl, o5, o6, e6, ap, cb, gb⟩
  have hzb := gb.size
  obtain ⟨U, hU⟩ : ∃ U, U = wb.alloc (.cells #[v5, v6] 27) := ⟨_, rfl⟩
  have hRb : wb.heap[w.heap.size]? = some (.cells #[.slice none 0 0, .slice none 0 0] 27 (0, 0)) := (gb.block w.heap.size (by omega) (fun e => by injection e; omega)).trans HR
  have bU : Below wb.heap.size wb U := by rw [hU]; exact (Below.refl _ _).alloc (Nat.le_refl _) _
  have SU : Hid (AnS w U D B ao len cap wb.heap.size v5 v6 m ll vs) := hidM ⟨by rw [hU]; exact cb.alloc _, by rw [hU]; exact grow_alloc (grow_trans GO.out gb) _, (bU.block _ (by omega)).trans hRb, by rw [hU]; exact heap_alloc_new wb _, own_below (own_wide1 o5 (by omega)) bU, own_below (own_wide1 o6 (by omega)) bU, (e6.wide (show w.heap.size ≤ O.heap.size by omega)).below bU, ap, hB, by omega⟩
  obtain ⟨a5, c5, hv5⟩ := (EntRow.of_own' o5).slice
  obtain ⟨a6, c6, hv6⟩ := (e6.row o6).slice
  subst hv5 hv6
  have HR := hidM hr
  have hm8 := (Sml.of hr).lm
  have hl4 := (Sml.of hr).lr
  clear o5 o6 e6 ap cb gb hr hRb bU CO GO
  generalize hDD : wb.heap.size = DD at *
  go_upto_region 2 with fail
  rw [← hU]
  clear hU
  go_wp2_with fail
  refine (l1Below 14 _ _ _ _ _ _ (by omega) (by omega) SU.out.c).mono ?_
  rintro e wc ⟨x, hx0, hx1, rfl, cc, gc⟩
  have SC := hidM (SU.out.step cc gc)
  clear SU cc gc
  by_cases h0 : x = 0
  · subst h0
    go_upto_region 4 with fail
    refine wp_region_held_drew (S := fun _ => True) (by kernel_rfl) trivial (fun _ => ?_)
    refine wpAnyH_take (i := 0) (v := ?_) rfl (by kernel_rfl) (by kernel_rfl) (by kernel_rfl) (fun _ _ _ h => h) (Or.inl ⟨by rfl, fun W hW => ?_⟩) trivial ?_
    rotate_left
    · clear hW
      go_simp
      try with_reducible rfl
    simp only [Act.put, List.getElem_toArray, List.getElem_cons_zero, List.getElem_cons_succ, List.setIfInBounds_toArray, List.set_cons_zero, List.set_cons_succ]
    refine wpAnyH_take (i := 2) (v := ?_) rfl (by kernel_rfl) (by kernel_rfl) (by kernel_rfl) (fun _ _ _ h => h) (Or.inl ⟨by rfl, fun W hW => ?_⟩) trivial ?_
    rotate_left
    · clear hW
      go_simp
      try with_reducible rfl
    simp only [Act.put, List.getElem_toArray, List.getElem_cons_zero, List.getElem_cons_succ, List.setIfInBounds_toArray, List.set_cons_zero, List.set_cons_succ]
    refine wpAnyH_take (i := 4) (v := ?_) rfl (by kernel_rfl) (by kernel_rfl) (by kernel_rfl) (fun _ _ _ h => h) (Or.inl ⟨by rfl, fun W hW => ?_⟩) trivial ?_
    rotate_left
    · clear hW
      go_simp
      try with_reducible rfl
    simp only [Act.put, List.getElem_toArray, List.getElem_cons_zero, List.getElem_cons_succ, List.setIfInBounds_toArray, List.set_cons_zero, List.set_cons_succ]
    have SX : Hid (AnS w wc.drew D B ao len cap DD (.slice a5 m.length c5) (.slice a6 ll.length c6) m ll vs) := hidM ⟨SC.out.c, ⟨SC.out.g.os, SC.out.g.tape, SC.out.g.output, SC.out.g.size, SC.out.g.block⟩, SC.out.r, SC.out.d, SC.out.o5, SC.out.o6, SC.out.e6, SC.out.ap, SC.out.b, SC.out.z⟩
    clear SC
    refine wpAnyH_ready (rs := [1, 3]) (by kernel_rfl) (by simp) (AllReadyH.cons rfl (fun K hK => ?_) (AllReadyH.cons rfl (fun K hK => ?_) AllReadyH.nil))
    · have q0 : wc.drew.cell? ⟨DD, 0, none⟩ = some (.slice a5 m.length c5) := by rw [cell_of_row wc.drew _ _ _ _ (0, 0) SX.out.d]; rfl
      go_simp
      refine hK.out _ _ trivial (fun _ => ?_)
      clear hK K q0
      refine wpAnyH_ready (rs := [3]) (by kernel_rfl) (by simp) (AllReadyH.cons rfl (fun K hK => ?_) AllReadyH.nil)
      go_simp
      refine (l15Key _ _ _ _ _ _ SX.out.c).mono ?_
      rintro e w4 ⟨z, hz1, hz3, rfl, c4, g4⟩
      have S4 := hidM (SX.out.step c4 g4)
      refine hK.out _ _ trivial (fun _ => ?_)
      clear hK K SX c4 g4
      refine wpAnyH_ready (rs := [5]) (by kernel_rfl) (by simp) (AllReadyH.cons rfl (fun K hK => ?_) AllReadyH.nil)
      go_simp
      refine (l1Below 5 _ _ _ _ _ _ (by omega) (by omega) S4.out.c).mono ?_
      rintro e w5 ⟨y, hy0, hy1, rfl, c5', g5⟩
      have S5 := hidM (S4.out.step c5' g5)
      refine hK.out _ _ trivial (fun _ => ?_)
      clear hK K S4 c5' g5
      refine wpAnyH_take (i := 6) (v := ?_) rfl (by kernel_rfl) (by kernel_rfl) (by kernel_rfl) (fun _ _ _ h => h) (Or.inl ⟨by rfl, fun W hW => ?_⟩) trivial ?_
      rotate_left
      · clear hW
        go_simp
        try with_reducible rfl
      simp only [Act.put, List.getElem_toArray, List.getElem_cons_zero, List.getElem_cons_succ, List.setIfInBounds_toArray, List.set_cons_zero, List.set_cons_succ]
      refine wpAnyH_ready (rs := [7]) (by kernel_rfl) (by simp) (AllReadyH.cons rfl (fun K hK => ?_) AllReadyH.nil)
      go_simp
      refine hK.out _ _ trivial (fun _ => ?_)
      clear hK K
      have S6 := hidM (S5.out.alloc (.cells #[.string z, .int .i64 y] 35))
      refine wpAnyH_ready (rs := [8]) (by kernel_rfl) (by simp) (AllReadyH.cons rfl (fun K hK => ?_) AllReadyH.nil)
      rw [if_pos (by rfl)]
      refine wp_append_own _ (.tmp 14) (.tmp 20) 24 rfl w.heap.size 35 i0 (.agg #[.string ⟨#[]⟩, .int .i64 0]) 2 24 Try.underlying24 hi hi0 hi1 hi2 rfl (by decide) (.slice a5 m.length c5) m.length (ecells m) rfl S6.out.o5 ⟨w5.heap.size, 0, none⟩ 1 1 [.string z, .int .i64 y] rfl rfl (fun q u hq => by rw [Addr.add_lit, Nat.zero_add, World.cell?_alloc_at _ _ _ _ rfl]; simpa using hq) (by intro u hu; simp at hu; rcases hu with rfl | rfl <;> rfl) (by unfold maxLen; omega) (by omega) (S6.out.g.size) ?_
      intro v' W2 o2 g2 _
      have o3 : W2.ownsRow w.heap.size 35 2 v' (m ++ [(⟨y, z⟩ : EV)]).length (ecells (m ++ [(⟨y, z⟩ : EV)])) := by
        rw [List.length_append, ecells_append]
        exact o2
      obtain ⟨g', cp', rfl⟩ : ∃ g' cp', v' = .slice (some ⟨g', 0, none⟩) (m.length + 1) cp' := by
        rcases o2.2 with ⟨_, h⟩ | ⟨g, cp, cur, rfl, _⟩
        · omega
        · exact ⟨g, cp, rfl⟩
      have hd2 := S6.out.box g2
      have F := hidM (S6.out.mark o3 g2)
      refine hK.out _ _ trivial (fun _ => ?_)
      clear hK K o2 g2 o3 S6
      simp only [Act.put, List.getElem_toArray, List.getElem_cons_zero, List.getElem_cons_succ, List.setIfInBounds_toArray, List.set_cons_zero, List.set_cons_succ]
      refine wpAnyH_take (i := 9) (v := ?_) rfl (by kernel_rfl) (by kernel_rfl) (by kernel_rfl) (fun _ _ _ h => h) (Or.inl ⟨by rfl, fun W hW => ?_⟩) trivial ?_
      rotate_left
      · clear hW
        go_simp
        try with_reducible rfl
      simp only [Act.put, List.getElem_toArray, List.getElem_cons_zero, List.getElem_cons_succ, List.setIfInBounds_toArray, List.set_cons_zero, List.set_cons_succ]
      refine wpAnyH_ready (rs := [10]) (by kernel_rfl) (by simp) (AllReadyH.cons rfl (fun K hK => ?_) AllReadyH.nil)
      have q0 : W2.cell? ⟨DD, 0, none⟩ = some (.slice a5 m.length c5) := by rw [cell_of_row W2 _ _ _ _ (0, 0) hd2]; rfl
      have f0 : W2.frozen? ⟨DD, 0, none⟩ = false := frozen_of_row _ _ _ _ _ hd2
      go_simp
      refine hK.out _ _ trivial (fun _ => ?_)
      clear hK K q0 f0 hd2
      refine wpAnyH_done (by kernel_rfl) ?_ _
      have HSM := hidM (Sml.mark HR.out ⟨y, z⟩ (show z.size ≤ 2000 by omega))
      have hlm : (m ++ [(⟨y, z⟩ : EV)]).length = m.length + 1 := by simp
      clear S5
      obtain ⟨WG, hWG⟩ : ∃ WG, WG = (W2.setCell ⟨DD, 0, none⟩ (.slice (some ⟨g', 0, none⟩) (m.length + 1) cp')) := ⟨_, rfl⟩
      rw [← hWG] at F ⊢
      clear hWG
      have hRw := F.out.r
      obtain ⟨hsZ, AZ⟩ := two_set (.slice (some ⟨g', 0, none⟩) (m.length + 1) cp') (.slice a6 ll.length c6) hRw
      have r0 : WG.cell? ⟨w.heap.size, 0, none⟩ = some (.slice none 0 0) := by rw [cell_of_row WG _ _ _ _ (0, 0) hRw]; rfl
      have r1 : WG.cell? ⟨w.heap.size, 1, none⟩ = some (.slice none 0 0) := by rw [cell_of_row WG _ _ _ _ (0, 0) hRw]; rfl
      have f0 : WG.frozen? ⟨w.heap.size, 0, none⟩ = false := frozen_of_row _ _ _ _ _ hRw
      have f1 : WG.frozen? ⟨w.heap.size, 1, none⟩ = false := frozen_of_row _ _ _ _ _ hRw
      have d0 : WG.cell? ⟨DD, 0, none⟩ = some (.slice (some ⟨g', 0, none⟩) (m.length + 1) cp') := by rw [cell_of_row WG _ _ _ _ (0, 0) F.out.d]; rfl
      have d1 : WG.cell? ⟨DD, 1, none⟩ = some (.slice a6 ll.length c6) := by rw [cell_of_row WG _ _ _ _ (0, 0) F.out.d]; rfl
      have OF := hidM (own_far F.out.o5 hRw (by decide) hsZ)
      have NF := hidM (own_far F.out.o6 hRw (by decide) hsZ)
      have EF := hidM (F.out.e6.far hRw (by decide) hsZ)
      have hle := F.out.c.le
      have hlt := F.out.c.lt
      have hgs := F.out.g.size
      have CF := hidM (F.out.c.keep (hsZ B (by omega) (by omega)) (fun k hk => hsZ k (by omega) (by omega)))
      have GF : Hid (w.grownBy ((WG.setCell ⟨w.heap.size, 0, none⟩ (.slice (some ⟨g', 0, none⟩) (m.length + 1) cp')).setCell ⟨w.heap.size, 1, none⟩ (.slice a6 ll.length c6)) (some B)) := hidM (by
        have ga := put_grown WG w.heap.size 0 (.slice (some ⟨g', 0, none⟩) (m.length + 1) cp')
        have gb := put_grown (WG.setCell ⟨w.heap.size, 0, none⟩ (.slice (some ⟨g', 0, none⟩) (m.length + 1) cp')) w.heap.size 1 (.slice a6 ll.length c6)
        refine ⟨(gb.os.trans ga.os).trans F.out.g.os, (gb.tape.trans ga.tape).trans F.out.g.tape, (gb.output.trans ga.output).trans F.out.g.output, by have h1 := ga.size; have h2 := gb.size; omega, fun k hk hkB => ?_⟩
        exact (hsZ k (by omega) (by omega)).trans (F.out.g.block k hk hkB))
      clear F hsZ hRw
      go_wp2_with fail
      refine bodyPost_ret (seen_resultS rfl _ _ w.heap.size _ _ rfl AZ) rfl ?_
      exact drawnY_of hlm rfl HSM.out OF.out NF.out EF.out CF.out GF.out
    · go_simp
      refine (l15Key _ _ _ _ _ _ SX.out.c).mono ?_
      rintro e w4 ⟨z, hz1, hz3, rfl, c4, g4⟩
      have S4 := hidM (SX.out.step c4 g4)
      refine hK.out _ _ trivial (fun _ => ?_)
      clear hK K SX c4 g4
      refine wpAnyH_ready (rs := [1, 5]) (by kernel_rfl) (by simp) (AllReadyH.cons rfl (fun K hK => ?_) (AllReadyH.cons rfl (fun K hK => ?_) AllReadyH.nil))
      · have q0 : w4.cell? ⟨DD, 0, none⟩ = some (.slice a5 m.length c5) := by rw [cell_of_row w4 _ _ _ _ (0, 0) S4.out.d]; rfl
        go_simp
        refine hK.out _ _ trivial (fun _ => ?_)
        clear hK K q0
        refine wpAnyH_ready (rs := [5]) (by kernel_rfl) (by simp) (AllReadyH.cons rfl (fun K hK => ?_) AllReadyH.nil)
        go_simp
        refine (l1Below 5 _ _ _ _ _ _ (by omega) (by omega) S4.out.c).mono ?_
        rintro e w5 ⟨y, hy0, hy1, rfl, c5', g5⟩
        have S5 := hidM (S4.out.step c5' g5)
        refine hK.out _ _ trivial (fun _ => ?_)
        clear hK K S4 c5' g5
        refine wpAnyH_take (i := 6) (v := ?_) rfl (by kernel_rfl) (by kernel_rfl) (by kernel_rfl) (fun _ _ _ h => h) (Or.inl ⟨by rfl, fun W hW => ?_⟩) trivial ?_
        rotate_left
        · clear hW
          go_simp
          try with_reducible rfl
        simp only [Act.put, List.getElem_toArray, List.getElem_cons_zero, List.getElem_cons_succ, List.setIfInBounds_toArray, List.set_cons_zero, List.set_cons_succ]
        refine wpAnyH_ready (rs := [7]) (by kernel_rfl) (by simp) (AllReadyH.cons rfl (fun K hK => ?_) AllReadyH.nil)
        go_simp
        refine hK.out _ _ trivial (fun _ => ?_)
        clear hK K
        have S6 := hidM (S5.out.alloc (.cells #[.string z, .int .i64 y] 35))
        refine wpAnyH_ready (rs := [8]) (by kernel_rfl) (by simp) (AllReadyH.cons rfl (fun K hK => ?_) AllReadyH.nil)
        rw [if_pos (by rfl)]
        refine wp_append_own _ (.tmp 14) (.tmp 20) 24 rfl w.heap.size 35 i0 (.agg #[.string ⟨#[]⟩, .int .i64 0]) 2 24 Try.underlying24 hi hi0 hi1 hi2 rfl (by decide) (.slice a5 m.length c5) m.length (ecells m) rfl S6.out.o5 ⟨w5.heap.size, 0, none⟩ 1 1 [.string z, .int .i64 y] rfl rfl (fun q u hq => by rw [Addr.add_lit, Nat.zero_add, World.cell?_alloc_at _ _ _ _ rfl]; simpa using hq) (by intro u hu; simp at hu; rcases hu with rfl | rfl <;> rfl) (by unfold maxLen; omega) (by omega) (S6.out.g.size) ?_
        intro v' W2 o2 g2 _
        have o3 : W2.ownsRow w.heap.size 35 2 v' (m ++ [(⟨y, z⟩ : EV)]).length (ecells (m ++ [(⟨y, z⟩ : EV)])) := by
          rw [List.length_append, ecells_append]
          exact o2
        obtain ⟨g', cp', rfl⟩ : ∃ g' cp', v' = .slice (some ⟨g', 0, none⟩) (m.length + 1) cp' := by
          rcases o2.2 with ⟨_, h⟩ | ⟨g, cp, cur, rfl, _⟩
          · omega
          · exact ⟨g, cp, rfl⟩
        have hd2 := S6.out.box g2
        have F := hidM (S6.out.mark o3 g2)
        refine hK.out _ _ trivial (fun _ => ?_)
        clear hK K o2 g2 o3 S6
        simp only [Act.put, List.getElem_toArray, List.getElem_cons_zero, List.getElem_cons_succ, List.setIfInBounds_toArray, List.set_cons_zero, List.set_cons_succ]
        refine wpAnyH_take (i := 9) (v := ?_) rfl (by kernel_rfl) (by kernel_rfl) (by kernel_rfl) (fun _ _ _ h => h) (Or.inl ⟨by rfl, fun W hW => ?_⟩) trivial ?_
        rotate_left
        · clear hW
          go_simp
          try with_reducible rfl
        simp only [Act.put, List.getElem_toArray, List.getElem_cons_zero, List.getElem_cons_succ, List.setIfInBounds_toArray, List.set_cons_zero, List.set_cons_succ]
        refine wpAnyH_ready (rs := [10]) (by kernel_rfl) (by simp) (AllReadyH.cons rfl (fun K hK => ?_) AllReadyH.nil)
        have q0 : W2.cell? ⟨DD, 0, none⟩ = some (.slice a5 m.length c5) := by rw [cell_of_row W2 _ _ _ _ (0, 0) hd2]; rfl
        have f0 : W2.frozen? ⟨DD, 0, none⟩ = false := frozen_of_row _ _ _ _ _ hd2
        go_simp
        refine hK.out _ _ trivial (fun _ => ?_)
        clear hK K q0 f0 hd2
        refine wpAnyH_done (by kernel_rfl) ?_ _
        have HSM := hidM (Sml.mark HR.out ⟨y, z⟩ (show z.size ≤ 2000 by omega))
        have hlm : (m ++ [(⟨y, z⟩ : EV)]).length = m.length + 1 := by simp
        clear S5
        obtain ⟨WG, hWG⟩ : ∃ WG, WG = (W2.setCell ⟨DD, 0, none⟩ (.slice (some ⟨g', 0, none⟩) (m.length + 1) cp')) := ⟨_, rfl⟩
        rw [← hWG] at F ⊢
        clear hWG
        have hRw := F.out.r
        obtain ⟨hsZ, AZ⟩ := two_set (.slice (some ⟨g', 0, none⟩) (m.length + 1) cp') (.slice a6 ll.length c6) hRw
        have r0 : WG.cell? ⟨w.heap.size, 0, none⟩ = some (.slice none 0 0) := by rw [cell_of_row WG _ _ _ _ (0, 0) hRw]; rfl
        have r1 : WG.cell? ⟨w.heap.size, 1, none⟩ = some (.slice none 0 0) := by rw [cell_of_row WG _ _ _ _ (0, 0) hRw]; rfl
        have f0 : WG.frozen? ⟨w.heap.size, 0, none⟩ = false := frozen_of_row _ _ _ _ _ hRw
        have f1 : WG.frozen? ⟨w.heap.size, 1, none⟩ = false := frozen_of_row _ _ _ _ _ hRw
        have d0 : WG.cell? ⟨DD, 0, none⟩ = some (.slice (some ⟨g', 0, none⟩) (m.length + 1) cp') := by rw [cell_of_row WG _ _ _ _ (0, 0) F.out.d]; rfl
        have d1 : WG.cell? ⟨DD, 1, none⟩ = some (.slice a6 ll.length c6) := by rw [cell_of_row WG _ _ _ _ (0, 0) F.out.d]; rfl
        have OF := hidM (own_far F.out.o5 hRw (by decide) hsZ)
        have NF := hidM (own_far F.out.o6 hRw (by decide) hsZ)
        have EF := hidM (F.out.e6.far hRw (by decide) hsZ)
        have hle := F.out.c.le
        have hlt := F.out.c.lt
        have hgs := F.out.g.size
        have CF := hidM (F.out.c.keep (hsZ B (by omega) (by omega)) (fun k hk => hsZ k (by omega) (by omega)))
        have GF : Hid (w.grownBy ((WG.setCell ⟨w.heap.size, 0, none⟩ (.slice (some ⟨g', 0, none⟩) (m.length + 1) cp')).setCell ⟨w.heap.size, 1, none⟩ (.slice a6 ll.length c6)) (some B)) := hidM (by
          have ga := put_grown WG w.heap.size 0 (.slice (some ⟨g', 0, none⟩) (m.length + 1) cp')
          have gb := put_grown (WG.setCell ⟨w.heap.size, 0, none⟩ (.slice (some ⟨g', 0, none⟩) (m.length + 1) cp')) w.heap.size 1 (.slice a6 ll.length c6)
          refine ⟨(gb.os.trans ga.os).trans F.out.g.os, (gb.tape.trans ga.tape).trans F.out.g.tape, (gb.output.trans ga.output).trans F.out.g.output, by have h1 := ga.size; have h2 := gb.size; omega, fun k hk hkB => ?_⟩
          exact (hsZ k (by omega) (by omega)).trans (F.out.g.block k hk hkB))
        clear F hsZ hRw
        go_wp2_with fail
        refine bodyPost_ret (seen_resultS rfl _ _ w.heap.size _ _ rfl AZ) rfl ?_
        exact drawnY_of hlm rfl HSM.out OF.out NF.out EF.out CF.out GF.out
      · go_simp
        refine (l1Below 5 _ _ _ _ _ _ (by omega) (by omega) S4.out.c).mono ?_
        rintro e w5 ⟨y, hy0, hy1, rfl, c5', g5⟩
        have S5 := hidM (S4.out.step c5' g5)
        refine hK.out _ _ trivial (fun _ => ?_)
        clear hK K S4 c5' g5
        refine wpAnyH_take (i := 6) (v := ?_) rfl (by kernel_rfl) (by kernel_rfl) (by kernel_rfl) (fun _ _ _ h => h) (Or.inl ⟨by rfl, fun W hW => ?_⟩) trivial ?_
        rotate_left
        · clear hW
          go_simp
          try with_reducible rfl
        simp only [Act.put, List.getElem_toArray, List.getElem_cons_zero, List.getElem_cons_succ, List.setIfInBounds_toArray, List.set_cons_zero, List.set_cons_succ]
        refine wpAnyH_ready (rs := [1, 7]) (by kernel_rfl) (by simp) (AllReadyH.cons rfl (fun K hK => ?_) (AllReadyH.cons rfl (fun K hK => ?_) AllReadyH.nil))
        · have q0 : w5.cell? ⟨DD, 0, none⟩ = some (.slice a5 m.length c5) := by rw [cell_of_row w5 _ _ _ _ (0, 0) S5.out.d]; rfl
          go_simp
          refine hK.out _ _ trivial (fun _ => ?_)
          clear hK K q0
          refine wpAnyH_ready (rs := [7]) (by kernel_rfl) (by simp) (AllReadyH.cons rfl (fun K hK => ?_) AllReadyH.nil)
          go_simp
          refine hK.out _ _ trivial (fun _ => ?_)
          clear hK K
          have S6 := hidM (S5.out.alloc (.cells #[.string z, .int .i64 y] 35))
          refine wpAnyH_ready (rs := [8]) (by kernel_rfl) (by simp) (AllReadyH.cons rfl (fun K hK => ?_) AllReadyH.nil)
          rw [if_pos (by rfl)]
          refine wp_append_own _ (.tmp 14) (.tmp 20) 24 rfl w.heap.size 35 i0 (.agg #[.string ⟨#[]⟩, .int .i64 0]) 2 24 Try.underlying24 hi hi0 hi1 hi2 rfl (by decide) (.slice a5 m.length c5) m.length (ecells m) rfl S6.out.o5 ⟨w5.heap.size, 0, none⟩ 1 1 [.string z, .int .i64 y] rfl rfl (fun q u hq => by rw [Addr.add_lit, Nat.zero_add, World.cell?_alloc_at _ _ _ _ rfl]; simpa using hq) (by intro u hu; simp at hu; rcases hu with rfl | rfl <;> rfl) (by unfold maxLen; omega) (by omega) (S6.out.g.size) ?_
          intro v' W2 o2 g2 _
          have o3 : W2.ownsRow w.heap.size 35 2 v' (m ++ [(⟨y, z⟩ : EV)]).length (ecells (m ++ [(⟨y, z⟩ : EV)])) := by
            rw [List.length_append, ecells_append]
            exact o2
          obtain ⟨g', cp', rfl⟩ : ∃ g' cp', v' = .slice (some ⟨g', 0, none⟩) (m.length + 1) cp' := by
            rcases o2.2 with ⟨_, h⟩ | ⟨g, cp, cur, rfl, _⟩
            · omega
            · exact ⟨g, cp, rfl⟩
          have hd2 := S6.out.box g2
          have F := hidM (S6.out.mark o3 g2)
          refine hK.out _ _ trivial (fun _ => ?_)
          clear hK K o2 g2 o3 S6
          simp only [Act.put, List.getElem_toArray, List.getElem_cons_zero, List.getElem_cons_succ, List.setIfInBounds_toArray, List.set_cons_zero, List.set_cons_succ]
          refine wpAnyH_take (i := 9) (v := ?_) rfl (by kernel_rfl) (by kernel_rfl) (by kernel_rfl) (fun _ _ _ h => h) (Or.inl ⟨by rfl, fun W hW => ?_⟩) trivial ?_
          rotate_left
          · clear hW
            go_simp
            try with_reducible rfl
          simp only [Act.put, List.getElem_toArray, List.getElem_cons_zero, List.getElem_cons_succ, List.setIfInBounds_toArray, List.set_cons_zero, List.set_cons_succ]
          refine wpAnyH_ready (rs := [10]) (by kernel_rfl) (by simp) (AllReadyH.cons rfl (fun K hK => ?_) AllReadyH.nil)
          have q0 : W2.cell? ⟨DD, 0, none⟩ = some (.slice a5 m.length c5) := by rw [cell_of_row W2 _ _ _ _ (0, 0) hd2]; rfl
          have f0 : W2.frozen? ⟨DD, 0, none⟩ = false := frozen_of_row _ _ _ _ _ hd2
          go_simp
          refine hK.out _ _ trivial (fun _ => ?_)
          clear hK K q0 f0 hd2
          refine wpAnyH_done (by kernel_rfl) ?_ _
          have HSM := hidM (Sml.mark HR.out ⟨y, z⟩ (show z.size ≤ 2000 by omega))
          have hlm : (m ++ [(⟨y, z⟩ : EV)]).length = m.length + 1 := by simp
          clear S5
          obtain ⟨WG, hWG⟩ : ∃ WG, WG = (W2.setCell ⟨DD, 0, none⟩ (.slice (some ⟨g', 0, none⟩) (m.length + 1) cp')) := ⟨_, rfl⟩
          rw [← hWG] at F ⊢
          clear hWG
          have hRw := F.out.r
          obtain ⟨hsZ, AZ⟩ := two_set (.slice (some ⟨g', 0, none⟩) (m.length + 1) cp') (.slice a6 ll.length c6) hRw
          have r0 : WG.cell? ⟨w.heap.size, 0, none⟩ = some (.slice none 0 0) := by rw [cell_of_row WG _ _ _ _ (0, 0) hRw]; rfl
          have r1 : WG.cell? ⟨w.heap.size, 1, none⟩ = some (.slice none 0 0) := by rw [cell_of_row WG _ _ _ _ (0, 0) hRw]; rfl
          have f0 : WG.frozen? ⟨w.heap.size, 0, none⟩ = false := frozen_of_row _ _ _ _ _ hRw
          have f1 : WG.frozen? ⟨w.heap.size, 1, none⟩ = false := frozen_of_row _ _ _ _ _ hRw
          have d0 : WG.cell? ⟨DD, 0, none⟩ = some (.slice (some ⟨g', 0, none⟩) (m.length + 1) cp') := by rw [cell_of_row WG _ _ _ _ (0, 0) F.out.d]; rfl
          have d1 : WG.cell? ⟨DD, 1, none⟩ = some (.slice a6 ll.length c6) := by rw [cell_of_row WG _ _ _ _ (0, 0) F.out.d]; rfl
          have OF := hidM (own_far F.out.o5 hRw (by decide) hsZ)
          have NF := hidM (own_far F.out.o6 hRw (by decide) hsZ)
          have EF := hidM (F.out.e6.far hRw (by decide) hsZ)
          have hle := F.out.c.le
          have hlt := F.out.c.lt
          have hgs := F.out.g.size
          have CF := hidM (F.out.c.keep (hsZ B (by omega) (by omega)) (fun k hk => hsZ k (by omega) (by omega)))
          have GF : Hid (w.grownBy ((WG.setCell ⟨w.heap.size, 0, none⟩ (.slice (some ⟨g', 0, none⟩) (m.length + 1) cp')).setCell ⟨w.heap.size, 1, none⟩ (.slice a6 ll.length c6)) (some B)) := hidM (by
            have ga := put_grown WG w.heap.size 0 (.slice (some ⟨g', 0, none⟩) (m.length + 1) cp')
            have gb := put_grown (WG.setCell ⟨w.heap.size, 0, none⟩ (.slice (some ⟨g', 0, none⟩) (m.length + 1) cp')) w.heap.size 1 (.slice a6 ll.length c6)
            refine ⟨(gb.os.trans ga.os).trans F.out.g.os, (gb.tape.trans ga.tape).trans F.out.g.tape, (gb.output.trans ga.output).trans F.out.g.output, by have h1 := ga.size; have h2 := gb.size; omega, fun k hk hkB => ?_⟩
            exact (hsZ k (by omega) (by omega)).trans (F.out.g.block k hk hkB))
          clear F hsZ hRw
          go_wp2_with fail
          refine bodyPost_ret (seen_resultS rfl _ _ w.heap.size _ _ rfl AZ) rfl ?_
          exact drawnY_of hlm rfl HSM.out OF.out NF.out EF.out CF.out GF.out
        · go_simp
          refine hK.out _ _ trivial (fun _ => ?_)
          clear hK K
          have S6 := hidM (S5.out.alloc (.cells #[.string z, .int .i64 y] 35))
          refine wpAnyH_ready (rs := [1]) (by kernel_rfl) (by simp) (AllReadyH.cons rfl (fun K hK => ?_) AllReadyH.nil)
          have q0 : (w5.alloc (.cells #[.string z, .int .i64 y] 35)).cell? ⟨DD, 0, none⟩ = some (.slice a5 m.length c5) := by rw [cell_of_row (w5.alloc (.cells #[.string z, .int .i64 y] 35)) _ _ _ _ (0, 0) S6.out.d]; rfl
          go_simp
          refine hK.out _ _ trivial (fun _ => ?_)
          clear hK K q0
          refine wpAnyH_ready (rs := [8]) (by kernel_rfl) (by simp) (AllReadyH.cons rfl (fun K hK => ?_) AllReadyH.nil)
          rw [if_pos (by rfl)]
          refine wp_append_own _ (.tmp 14) (.tmp 20) 24 rfl w.heap.size 35 i0 (.agg #[.string ⟨#[]⟩, .int .i64 0]) 2 24 Try.underlying24 hi hi0 hi1 hi2 rfl (by decide) (.slice a5 m.length c5) m.length (ecells m) rfl S6.out.o5 ⟨w5.heap.size, 0, none⟩ 1 1 [.string z, .int .i64 y] rfl rfl (fun q u hq => by rw [Addr.add_lit, Nat.zero_add, World.cell?_alloc_at _ _ _ _ rfl]; simpa using hq) (by intro u hu; simp at hu; rcases hu with rfl | rfl <;> rfl) (by unfold maxLen; omega) (by omega) (S6.out.g.size) ?_
          intro v' W2 o2 g2 _
          have o3 : W2.ownsRow w.heap.size 35 2 v' (m ++ [(⟨y, z⟩ : EV)]).length (ecells (m ++ [(⟨y, z⟩ : EV)])) := by
            rw [List.length_append, ecells_append]
            exact o2
          obtain ⟨g', cp', rfl⟩ : ∃ g' cp', v' = .slice (some ⟨g', 0, none⟩) (m.length + 1) cp' := by
            rcases o2.2 with ⟨_, h⟩ | ⟨g, cp, cur, rfl, _⟩
            · omega
            · exact ⟨g, cp, rfl⟩
          have hd2 := S6.out.box g2
          have F := hidM (S6.out.mark o3 g2)
          refine hK.out _ _ trivial (fun _ => ?_)
          clear hK K o2 g2 o3 S6
          simp only [Act.put, List.getElem_toArray, List.getElem_cons_zero, List.getElem_cons_succ, List.setIfInBounds_toArray, List.set_cons_zero, List.set_cons_succ]
          refine wpAnyH_take (i := 9) (v := ?_) rfl (by kernel_rfl) (by kernel_rfl) (by kernel_rfl) (fun _ _ _ h => h) (Or.inl ⟨by rfl, fun W hW => ?_⟩) trivial ?_
          rotate_left
          · clear hW
            go_simp
            try with_reducible rfl
          simp only [Act.put, List.getElem_toArray, List.getElem_cons_zero, List.getElem_cons_succ, List.setIfInBounds_toArray, List.set_cons_zero, List.set_cons_succ]
          refine wpAnyH_ready (rs := [10]) (by kernel_rfl) (by simp) (AllReadyH.cons rfl (fun K hK => ?_) AllReadyH.nil)
          have q0 : W2.cell? ⟨DD, 0, none⟩ = some (.slice a5 m.length c5) := by rw [cell_of_row W2 _ _ _ _ (0, 0) hd2]; rfl
          have f0 : W2.frozen? ⟨DD, 0, none⟩ = false := frozen_of_row _ _ _ _ _ hd2
          go_simp
          refine hK.out _ _ trivial (fun _ => ?_)
          clear hK K q0 f0 hd2
          refine wpAnyH_done (by kernel_rfl) ?_ _
          have HSM := hidM (Sml.mark HR.out ⟨y, z⟩ (show z.size ≤ 2000 by omega))
          have hlm : (m ++ [(⟨y, z⟩ : EV)]).length = m.length + 1 := by simp
          clear S5
          obtain ⟨WG, hWG⟩ : ∃ WG, WG = (W2.setCell ⟨DD, 0, none⟩ (.slice (some ⟨g', 0, none⟩) (m.length + 1) cp')) := ⟨_, rfl⟩
          rw [← hWG] at F ⊢
          clear hWG
          have hRw := F.out.r
          obtain ⟨hsZ, AZ⟩ := two_set (.slice (some ⟨g', 0, none⟩) (m.length + 1) cp') (.slice a6 ll.length c6) hRw
          have r0 : WG.cell? ⟨w.heap.size, 0, none⟩ = some (.slice none 0 0) := by rw [cell_of_row WG _ _ _ _ (0, 0) hRw]; rfl
          have r1 : WG.cell? ⟨w.heap.size, 1, none⟩ = some (.slice none 0 0) := by rw [cell_of_row WG _ _ _ _ (0, 0) hRw]; rfl
          have f0 : WG.frozen? ⟨w.heap.size, 0, none⟩ = false := frozen_of_row _ _ _ _ _ hRw
          have f1 : WG.frozen? ⟨w.heap.size, 1, none⟩ = false := frozen_of_row _ _ _ _ _ hRw
          have d0 : WG.cell? ⟨DD, 0, none⟩ = some (.slice (some ⟨g', 0, none⟩) (m.length + 1) cp') := by rw [cell_of_row WG _ _ _ _ (0, 0) F.out.d]; rfl
          have d1 : WG.cell? ⟨DD, 1, none⟩ = some (.slice a6 ll.length c6) := by rw [cell_of_row WG _ _ _ _ (0, 0) F.out.d]; rfl
          have OF := hidM (own_far F.out.o5 hRw (by decide) hsZ)
          have NF := hidM (own_far F.out.o6 hRw (by decide) hsZ)
          have EF := hidM (F.out.e6.far hRw (by decide) hsZ)
          have hle := F.out.c.le
          have hlt := F.out.c.lt
          have hgs := F.out.g.size
          have CF := hidM (F.out.c.keep (hsZ B (by omega) (by omega)) (fun k hk => hsZ k (by omega) (by omega)))
          have GF : Hid (w.grownBy ((WG.setCell ⟨w.heap.size, 0, none⟩ (.slice (some ⟨g', 0, none⟩) (m.length + 1) cp')).setCell ⟨w.heap.size, 1, none⟩ (.slice a6 ll.length c6)) (some B)) := hidM (by
            have ga := put_grown WG w.heap.size 0 (.slice (some ⟨g', 0, none⟩) (m.length + 1) cp')
            have gb := put_grown (WG.setCell ⟨w.heap.size, 0, none⟩ (.slice (some ⟨g', 0, none⟩) (m.length + 1) cp')) w.heap.size 1 (.slice a6 ll.length c6)
            refine ⟨(gb.os.trans ga.os).trans F.out.g.os, (gb.tape.trans ga.tape).trans F.out.g.tape, (gb.output.trans ga.output).trans F.out.g.output, by have h1 := ga.size; have h2 := gb.size; omega, fun k hk hkB => ?_⟩
            exact (hsZ k (by omega) (by omega)).trans (F.out.g.block k hk hkB))
          clear F hsZ hRw
          go_wp2_with fail
          refine bodyPost_ret (seen_resultS rfl _ _ w.heap.size _ _ rfl AZ) rfl ?_
          exact drawnY_of hlm rfl HSM.out OF.out NF.out EF.out CF.out GF.out
  · by_cases h1 : x = 1
    · subst h1
      have q1 : wc.cell? ⟨DD, 1, none⟩ = some (.slice a6 ll.length c6) := by rw [cell_of_row wc _ _ _ _ (0, 0) SC.out.d]; rfl
      have SE := hidM (SC.out.alloc (.cells #[] 35))
      have OE : Hid ((wc.alloc (.cells #[] 35)).ownsRow w.heap.size 35 2 (.slice (some ⟨wc.heap.size, 0, none⟩) 0 0) 0 []) := hidM (World.ownsRow_lit wc #[] 0 SC.out.g.size (Nat.zero_le _) rfl)
      go_wp2_with (at_builtin; refine wpList_append_newAt _ rfl _ _ 25 rfl w.heap.size 24 (.slice none 0 0) 24 Try.underlying25 Try.infoRw rfl _ _ _ rfl SE.out.o6 #[.slice (some ⟨wc.heap.size, 0, none⟩) 0 0] 1 rfl (by first | rfl | (rw [World.size_alloc]; rfl)) (by intro u hu; simp at hu; rw [hu]; rfl) (by omega) (by unfold maxLen; omega) SE.out.g.size ?_)
      intro v7 w7 n7 g7 _
      obtain ⟨hd2, F⟩ := SE.out.run OE.out n7 g7
      have F := hidM F
      obtain ⟨a7, c7, rfl⟩ : ∃ a7 c7, v7 = .slice a7 (ll.length + 1) c7 := by
        rcases n7.2 with ⟨h, h2⟩ | ⟨gg, cap, cur, h, _⟩
        · exact absurd h2 (by omega)
        · exact ⟨_, _, h⟩
      have HSM := hidM (Sml.run HR.out)
      have hll : (ll ++ [([] : List EV)]).length = ll.length + 1 := by simp
      have q2 : w7.cell? ⟨DD, 1, none⟩ = some (.slice a6 ll.length c6) := by rw [cell_of_row w7 _ _ _ _ (0, 0) hd2]; rfl
      have f2 : w7.frozen? ⟨DD, 1, none⟩ = false := frozen_of_row _ _ _ _ _ hd2
      clear SC SE OE n7 g7 q1
      go_upto_region 7 with fail
      clear q2 f2 hd2
      obtain ⟨WG, hWG⟩ : ∃ WG, WG = (w7.setCell ⟨DD, 1, none⟩ (.slice a7 (ll.length + 1) c7)) := ⟨_, rfl⟩
      rw [← hWG] at F ⊢
      clear hWG
      have hRw := F.out.r
      obtain ⟨hsZ, AZ⟩ := two_set (.slice a5 m.length c5) (.slice a7 (ll.length + 1) c7) hRw
      have r0 : WG.cell? ⟨w.heap.size, 0, none⟩ = some (.slice none 0 0) := by rw [cell_of_row WG _ _ _ _ (0, 0) hRw]; rfl
      have r1 : WG.cell? ⟨w.heap.size, 1, none⟩ = some (.slice none 0 0) := by rw [cell_of_row WG _ _ _ _ (0, 0) hRw]; rfl
      have f0 : WG.frozen? ⟨w.heap.size, 0, none⟩ = false := frozen_of_row _ _ _ _ _ hRw
      have f1 : WG.frozen? ⟨w.heap.size, 1, none⟩ = false := frozen_of_row _ _ _ _ _ hRw
      have d0 : WG.cell? ⟨DD, 0, none⟩ = some (.slice a5 m.length c5) := by rw [cell_of_row WG _ _ _ _ (0, 0) F.out.d]; rfl
      have d1 : WG.cell? ⟨DD, 1, none⟩ = some (.slice a7 (ll.length + 1) c7) := by rw [cell_of_row WG _ _ _ _ (0, 0) F.out.d]; rfl
      have OF := hidM (own_far F.out.o5 hRw (by decide) hsZ)
      have NF := hidM (own_far F.out.o6 hRw (by decide) hsZ)
      have EF := hidM (F.out.e6.far hRw (by decide) hsZ)
      have hle := F.out.c.le
      have hlt := F.out.c.lt
      have hgs := F.out.g.size
      have CF := hidM (F.out.c.keep (hsZ B (by omega) (by omega)) (fun k hk => hsZ k (by omega) (by omega)))
      have GF : Hid (w.grownBy ((WG.setCell ⟨w.heap.size, 0, none⟩ (.slice a5 m.length c5)).setCell ⟨w.heap.size, 1, none⟩ (.slice a7 (ll.length + 1) c7)) (some B)) := hidM (by
        have ga := put_grown WG w.heap.size 0 (.slice a5 m.length c5)
        have gb := put_grown (WG.setCell ⟨w.heap.size, 0, none⟩ (.slice a5 m.length c5)) w.heap.size 1 (.slice a7 (ll.length + 1) c7)
        refine ⟨(gb.os.trans ga.os).trans F.out.g.os, (gb.tape.trans ga.tape).trans F.out.g.tape, (gb.output.trans ga.output).trans F.out.g.output, by have h1 := ga.size; have h2 := gb.size; omega, fun k hk hkB => ?_⟩
        exact (hsZ k (by omega) (by omega)).trans (F.out.g.block k hk hkB))
      clear F hsZ hRw
      go_wp2_with fail
      refine bodyPost_ret (seen_resultS rfl _ _ w.heap.size _ _ rfl AZ) rfl ?_
      exact drawnY_of rfl hll HSM.out OF.out NF.out EF.out CF.out GF.out
    · have HSM := hidM (Sml.of HR.out)
      have F := hidM SC.out.fin
      clear SC
      go_upto_region 7 with fail
      obtain ⟨WG, hWG⟩ : ∃ WG, WG = wc := ⟨_, rfl⟩
      rw [← hWG] at F ⊢
      clear hWG
      have hRw := F.out.r
      obtain ⟨hsZ, AZ⟩ := two_set (.slice a5 m.length c5) (.slice a6 ll.length c6) hRw
      have r0 : WG.cell? ⟨w.heap.size, 0, none⟩ = some (.slice none 0 0) := by rw [cell_of_row WG _ _ _ _ (0, 0) hRw]; rfl
      have r1 : WG.cell? ⟨w.heap.size, 1, none⟩ = some (.slice none 0 0) := by rw [cell_of_row WG _ _ _ _ (0, 0) hRw]; rfl
      have f0 : WG.frozen? ⟨w.heap.size, 0, none⟩ = false := frozen_of_row _ _ _ _ _ hRw
      have f1 : WG.frozen? ⟨w.heap.size, 1, none⟩ = false := frozen_of_row _ _ _ _ _ hRw
      have d0 : WG.cell? ⟨DD, 0, none⟩ = some (.slice a5 m.length c5) := by rw [cell_of_row WG _ _ _ _ (0, 0) F.out.d]; rfl
      have d1 : WG.cell? ⟨DD, 1, none⟩ = some (.slice a6 ll.length c6) := by rw [cell_of_row WG _ _ _ _ (0, 0) F.out.d]; rfl
      have OF := hidM (own_far F.out.o5 hRw (by decide) hsZ)
      have NF := hidM (own_far F.out.o6 hRw (by decide) hsZ)
      have EF := hidM (F.out.e6.far hRw (by decide) hsZ)
      have hle := F.out.c.le
      have hlt := F.out.c.lt
      have hgs := F.out.g.size
      have CF := hidM (F.out.c.keep (hsZ B (by omega) (by omega)) (fun k hk => hsZ k (by omega) (by omega)))
      have GF : Hid (w.grownBy ((WG.setCell ⟨w.heap.size, 0, none⟩ (.slice a5 m.length c5)).setCell ⟨w.heap.size, 1, none⟩ (.slice a6 ll.length c6)) (some B)) := hidM (by
        have ga := put_grown WG w.heap.size 0 (.slice a5 m.length c5)
        have gb := put_grown (WG.setCell ⟨w.heap.size, 0, none⟩ (.slice a5 m.length c5)) w.heap.size 1 (.slice a6 ll.length c6)
        refine ⟨(gb.os.trans ga.os).trans F.out.g.os, (gb.tape.trans ga.tape).trans F.out.g.tape, (gb.output.trans ga.output).trans F.out.g.output, by have h1 := ga.size; have h2 := gb.size; omega, fun k hk hkB => ?_⟩
        exact (hsZ k (by omega) (by omega)).trans (F.out.g.block k hk hkB))
      clear F hsZ hRw
      go_wp2_with fail
      refine bodyPost_ret (seen_resultS rfl _ _ w.heap.size _ _ rfl AZ) rfl ?_
      exact drawnY_of rfl rfl HSM.out OF.out NF.out EF.out CF.out GF.out
end Go.Proofs.Ytdnlaijpgjpplaa
