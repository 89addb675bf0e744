/- The draw of a Seen, a key and a state: DrawSeenPut. -/
import Derived.Test.YtdnlaijpgjpplaaRows
import Derived.Test.YtdnlaijpgjpplaaSeenAny
import Derived.Test.YtdnlaijpgjpplaaSeenDraw3
import Derived.Deep.RegionHeld3
namespace Go.Proofs.Ytdnlaijpgjpplaa
open Go.RowKit
set_option linter.unusedVariables false
set_option linter.unusedSimpArgs false

/-- What stands while a key and a state are drawn. -/
structure PtS (w W : World) (D B : Nat) (ao : Option Addr) (len cap DD : Nat) (v5 v6 : Value) (m : List EV) (ll : List (List EV)) (vs : List Value) : Prop where
  c : Cur D B ao len cap W
  b : Below w.heap.size w W
  r : W.heap[w.heap.size]? = some (.cells #[.slice none 0 0, .slice none 0 0] 27 (0, 0))
  d : W.heap[DD]? = some (.cells #[v5, v6] 27 (0, 0))
  o5 : W.ownsRow w.heap.size 35 2 v5 m.length (ecells m)
  o6 : W.ownsRow w.heap.size 24 1 v6 ll.length vs
  e6 : OEl W w.heap.size vs ll
  hb : w.heap.size < B
  hd : w.heap.size < DD
  ne : DD ≠ B

theorem PtS.step {w W W' : World} {D B : Nat} {ao : Option Addr} {len cap DD : Nat} {v5 v6 : Value} {m : List EV} {ll : List (List EV)} {vs : List Value} (h : PtS w W D B ao len cap DD v5 v6 m ll vs) (hc : Cur D B ao len cap W') (g : W.grownBy W' (some B)) : PtS w W' D B ao len cap DD v5 v6 m ll vs := by
  obtain ⟨i, hh, hB, _⟩ := h.c
  have hb := h.hb
  have hs : ∀ k, k < W.heap.size → k ≠ B → W'.heap[k]? = W.heap[k]? := fun k h1 h2 => g.block k h1 (fun e => h2 (by injection e))
  exact ⟨hc, h.b.grown g h.b.size (fun k hk => by cases hk; omega), (hs _ (Array.getElem?_eq_some_iff.1 h.r).1 (by omega)).trans h.r, (hs _ (Array.getElem?_eq_some_iff.1 h.d).1 h.ne).trans h.d, own_far h.o5 hB (by decide) hs, own_far h.o6 hB (by decide) hs, h.e6.far hB (by decide) hs, hb, h.hd, h.ne⟩

theorem PtS.alloc {w W : World} {D B : Nat} {ao : Option Addr} {len cap DD : Nat} {v5 v6 : Value} {m : List EV} {ll : List (List EV)} {vs : List Value} (h : PtS w W D B ao len cap DD v5 v6 m ll vs) (o : Obj) : PtS w (W.alloc o) D B ao len cap DD v5 v6 m ll vs := by
  have bb : Below W.heap.size W (W.alloc o) := (Below.refl _ _).alloc (Nat.le_refl _) o
  exact ⟨h.c.alloc o, h.b.trans (bb.mono h.b.size), (bb.block _ (Array.getElem?_eq_some_iff.1 h.r).1).trans h.r, (bb.block _ (Array.getElem?_eq_some_iff.1 h.d).1).trans h.d, own_below h.o5 bb, own_below h.o6 bb, h.e6.below bb, h.hb, h.hd, h.ne⟩

theorem PtS.drew {w W : World} {D B : Nat} {ao : Option Addr} {len cap DD : Nat} {v5 v6 : Value} {m : List EV} {ll : List (List EV)} {vs : List Value} (h : PtS w W D B ao len cap DD v5 v6 m ll vs) : PtS w W.drew D B ao len cap DD v5 v6 m ll vs :=
  ⟨h.c, ⟨h.b.os, h.b.tape, h.b.output, h.b.size, h.b.block⟩, h.r, h.d, h.o5, h.o6, h.e6, h.hb, h.hd, h.ne⟩

theorem PtS.c0 {w W : World} {D B : Nat} {ao : Option Addr} {len cap DD : Nat} {v5 v6 : Value} {m : List EV} {ll : List (List EV)} {vs : List Value} (h : PtS w W D B ao len cap DD v5 v6 m ll vs) : W.cell? ⟨DD, 0, none⟩ = some v5 := by rw [cell_of_row W _ _ _ _ (0, 0) h.d]; rfl
theorem PtS.c1 {w W : World} {D B : Nat} {ao : Option Addr} {len cap DD : Nat} {v5 v6 : Value} {m : List EV} {ll : List (List EV)} {vs : List Value} (h : PtS w W D B ao len cap DD v5 v6 m ll vs) : W.cell? ⟨DD, 1, none⟩ = some v6 := by rw [cell_of_row W _ _ _ _ (0, 0) h.d]; rfl

/-- What DrawSeenPut answers. -/
def DrawnP (w w' : World) (e : Ending) : Prop :=
  ∃ a5 c5 a6 c6 m ll, ∃ key : ByteArray, ∃ st : Int, Sml m ll ∧ key.size ≤ 3 ∧ 0 ≤ st ∧ st ≤ 4 ∧ e = .returned (.tuple #[.agg #[.slice a5 m.length c5, .slice a6 ll.length c6], .string key, .int .i64 st]) ∧ EntRow w' (.slice a5 m.length c5) m ∧ RunRow w' (.slice a6 ll.length c6) ll ∧ Below w.heap.size w w'

/-- What is stored into the result's cell. -/
theorem PtS.fin {w W : World} {D B : Nat} {ao : Option Addr} {len cap DD : Nat} {v5 v6 : Value} {m : List EV} {ll : List (List EV)} {vs : List Value} (h : PtS w W D B ao len cap DD v5 v6 m ll vs) :
    BAt ((W.setCell ⟨w.heap.size, 0, none⟩ v5).setCell ⟨w.heap.size, 1, none⟩ v6) w.heap.size [v5, v6] ∧ EntRow ((W.setCell ⟨w.heap.size, 0, none⟩ v5).setCell ⟨w.heap.size, 1, none⟩ v6) v5 m ∧ RunRow ((W.setCell ⟨w.heap.size, 0, none⟩ v5).setCell ⟨w.heap.size, 1, none⟩ v6) v6 ll ∧ Below w.heap.size w ((W.setCell ⟨w.heap.size, 0, none⟩ v5).setCell ⟨w.heap.size, 1, none⟩ v6) := by
  obtain ⟨hsZ, AZ⟩ := two_set v5 v6 h.r
  exact ⟨AZ, EntRow.of_own' (own_far h.o5 h.r (by decide) hsZ), (h.e6.far h.r (by decide) hsZ).row (own_far h.o6 h.r (by decide) hsZ), (h.b.setCell (Nat.le_refl _) _).setCell (Nat.le_refl _) _⟩

/-- A Seen, a text and a number as results. -/
theorem seen_result3 {fn : Func} {q r t : Tmp} (h : fn.results = #[.cell q 27, .tmp r, .tmp t]) (tmps : Array Value) (W : World) (B : Nat) (a b c d : Value)
    (hp : tmps[q]?.getD undef = .pointer (some ⟨B, 0, none⟩)) (hr : tmps[r]?.getD undef = c) (ht : tmps[t]?.getD undef = d) (ha : BAt W B [a, b]) : (results fn tmps).run Try.prog W = .ok (.tuple #[.agg #[a, b], c, d]) W := by
  have c0 := ha.1 0 _ rfl
  have c1 := ha.1 1 _ rfl
  simp [results, h, hp, hr, ht, asAddr, go_sem, c0, c1, Addr.add_lit]

set_option maxRecDepth 100000 in
set_option maxHeartbeats 4000000 in
theorem drawSeenPut (ao : Option Addr) (len cap : Nat) (w : World) (hl : len ≤ 1048576) (hcode : CodeRow w.heap.size w ao len) :
    Calls Try.prog 6 #[.slice ao len cap] w fun e w' => DrawnP w w' e := by
  obtain ⟨O, hO⟩ : ∃ O, O = w.alloc (.cells #[.slice none 0 0, .slice none 0 0] 27) := ⟨_, rfl⟩
  have bO : Below w.heap.size w O := by rw [hO]; exact (Below.refl _ _).alloc (Nat.le_refl _) _
  have hzO : O.heap.size = w.heap.size + 1 := by rw [hO]; simp
  have HR : O.heap[w.heap.size]? = some (.cells #[.slice none 0 0, .slice none 0 0] 27 (0, 0)) := by rw [hO]; exact heap_alloc_new w _
  have HC := hidM (hcode.later bO)
  clear hcode
  go_enter Try.func6, Try.ntmps6
  go_upto_region 1 with fail
  rw [← hO]
  clear hO
  go_wp2_with fail
  refine (l1New _ _ _ _ hl HC.out).mono ?_
  rintro e wa ⟨B, rfl, hB, ca, ba⟩
  have CA : Hid (Cur O.heap.size B ao len cap wa) := ca
  clear ca
  go_wp2_with fail
  refine (l1Size15 _ _ _ 40 _ hl (by omega) (by omega)).mono ?_
  rintro e w1 ⟨z, hz0, hz1, rfl, rfl⟩
  go_wp2_with fail
  refine (l15Any z _ _ _ _ _ _ hz0 (by omega) CA.out).mono ?_
  rintro e wb ⟨a5, c5, a6, c6, m, ll, vs, hsm, rfl, o5, o6, e6, cb, gb⟩
  have HSM := hidM hsm
  have hza := ba.size
  have hzb := gb.size
  have hBw := CA.out.lt
  have hRb : wb.heap[w.heap.size]? = some (.cells #[.slice none 0 0, .slice none 0 0] 27 (0, 0)) := ((gb.block w.heap.size (by omega) (fun e => by injection e; omega)).trans (ba.block w.heap.size (by omega))).trans HR
  obtain ⟨U, hU⟩ : ∃ U, U = wb.alloc (.cells #[.slice a5 m.length c5, .slice a6 ll.length c6] 27) := ⟨_, rfl⟩
  have bU : Below wb.heap.size wb U := by rw [hU]; exact (Below.refl _ _).alloc (Nat.le_refl _) _
  have Bb : Below O.heap.size O wb := ba.grown gb ba.size (fun k hk => by cases hk; exact hB)
  have Bw : Below w.heap.size w wb := bO.trans (Bb.mono bO.size)
  have SU : Hid (PtS w U O.heap.size B ao len cap wb.heap.size (.slice a5 m.length c5) (.slice a6 ll.length c6) m ll vs) := hidM ⟨by rw [hU]; exact cb.alloc _, Bw.trans (bU.mono (by omega)), (bU.block _ (by omega)).trans hRb, by rw [hU]; exact heap_alloc_new wb _, own_below (own_wide1 o5 (by omega)) bU, own_below (own_wide1 o6 (by omega)) bU, (e6.wide (show w.heap.size ≤ wa.heap.size by omega)).below bU, by omega, by omega, by omega⟩
  clear o5 o6 e6 cb gb hsm hRb bU Bb Bw CA ba HC HR bO
  generalize hDD : wb.heap.size = DD at *
  go_upto_region 3 with fail
  rw [← hU]
  clear hU
  go_wp2_with fail
  refine (l15Key _ _ _ _ _ _ SU.out.c).mono ?_
  rintro e wc ⟨key, hk1, hk3, rfl, cc, gc⟩
  have SC := hidM (SU.out.step cc gc)
  clear SU cc gc
  go_wp2_with fail
  refine (l1Once 20 _ _ _ _ _ _ (by omega) (by omega) SC.out.c).mono ?_
  rintro e wd ⟨b, rfl, cd, gd⟩
  have SD := hidM (SC.out.step cd gd)
  clear SC cd gd
  cases b
  · have hkey := hk3
    go_upto_region 6 with fail
    refine wp_region_held_drew (S := fun _ => True) (by kernel_rfl) trivial (fun _ => ?_)
    refine wpAnyH_take (i := 1) (v := ?_) rfl (by kernel_rfl) (by kernel_rfl) (by kernel_rfl) (fun _ _ _ h => h) (Or.inl ⟨by rfl, fun W hW => ?_⟩) trivial ?_
    rotate_left
    · clear hW
      go_simp
      try with_reducible rfl
    simp only [Act.put, List.getElem_toArray, List.getElem_cons_zero, List.getElem_cons_succ, List.setIfInBounds_toArray, List.set_cons_zero, List.set_cons_succ]
    refine wpAnyH_take (i := 2) (v := ?_) rfl (by kernel_rfl) (by kernel_rfl) (by kernel_rfl) (fun _ _ _ h => h) (Or.inl ⟨by rfl, fun W hW => ?_⟩) trivial ?_
    rotate_left
    · clear hW
      go_simp
      try with_reducible rfl
    simp only [Act.put, List.getElem_toArray, List.getElem_cons_zero, List.getElem_cons_succ, List.setIfInBounds_toArray, List.set_cons_zero, List.set_cons_succ]
    have SX := hidM SD.out.drew
    clear SD
    refine wpAnyH_ready (rs := [0, 3]) (by kernel_rfl) (by simp) (AllReadyH.cons rfl (fun K hK => ?_) (AllReadyH.cons rfl (fun K hK => ?_) AllReadyH.nil))
    · have q0 : wd.drew.cell? ⟨DD, 0, none⟩ = some (.slice a5 m.length c5) := SX.out.c0
      have q1 : wd.drew.cell? ⟨DD, 1, none⟩ = some (.slice a6 ll.length c6) := SX.out.c1
      go_simp
      refine hK.out _ _ trivial (fun _ => ?_)
      clear hK K q0 q1
      refine wpAnyH_ready (rs := [3]) (by kernel_rfl) (by simp) (AllReadyH.cons rfl (fun K hK => ?_) AllReadyH.nil)
      go_simp
      refine hK.out _ _ trivial (fun _ => ?_)
      clear hK K
      have S1 := hidM (SX.out.alloc (.cells #[.int .i64 1, .int .i64 2, .int .i64 3, .int .i64 0, .int .i64 4] 3))
      refine wpAnyH_ready (rs := [4]) (by kernel_rfl) (by simp) (AllReadyH.cons rfl (fun K hK => ?_) AllReadyH.nil)
      go_simp
      refine (l1Int 5 _ 5 0 [1, 2, 3, 0, 4] _ _ _ _ _ _ (by omega) (by omega) S1.out.c (World.ownsRow_lit _ #[.int .i64 1, .int .i64 2, .int .i64 3, .int .i64 0, .int .i64 4] 5 (Nat.zero_le _) (by decide) rfl) (by have := SX.out.c.lt; omega)).mono ?_
      rintro e w2 ⟨sz, hsz, rfl, c2, g2⟩
      have hst : 0 ≤ sz ∧ sz ≤ 4 := by
        simp at hsz
        omega
      have S2 := hidM (S1.out.step c2 g2)
      refine hK.out _ _ trivial (fun _ => ?_)
      clear hK K S1 c2 g2 hsz
      refine wpAnyH_ready (rs := [5]) (by kernel_rfl) (by simp) (AllReadyH.cons rfl (fun K hK => ?_) AllReadyH.nil)
      obtain ⟨AZ, EZ, RZZ, BZ⟩ := S2.out.fin
      have r0 : w2.cell? ⟨w.heap.size, 0, none⟩ = some (.slice none 0 0) := by rw [cell_of_row w2 _ _ _ _ (0, 0) S2.out.r]; rfl
      have r1 : w2.cell? ⟨w.heap.size, 1, none⟩ = some (.slice none 0 0) := by rw [cell_of_row w2 _ _ _ _ (0, 0) S2.out.r]; rfl
      have f0 : w2.frozen? ⟨w.heap.size, 0, none⟩ = false := frozen_of_row _ _ _ _ _ S2.out.r
      have f1 : w2.frozen? ⟨w.heap.size, 1, none⟩ = false := frozen_of_row _ _ _ _ _ S2.out.r
      go_simp
      refine hK.out _ _ trivial (fun _ => ?_)
      clear hK K r0 r1 f0 f1
      refine wpAnyH_take (i := 6) (v := ?_) rfl (by kernel_rfl) (by kernel_rfl) (by kernel_rfl) (fun _ _ _ h => h) (Or.inl ⟨by rfl, fun W hW => ?_⟩) trivial ?_
      rotate_left
      · clear hW
        go_simp
        try with_reducible rfl
      simp only [Act.put, List.getElem_toArray, List.getElem_cons_zero, List.getElem_cons_succ, List.setIfInBounds_toArray, List.set_cons_zero, List.set_cons_succ]
      refine wpAnyH_take (i := 7) (v := ?_) rfl (by kernel_rfl) (by kernel_rfl) (by kernel_rfl) (fun _ _ _ h => h) (Or.inl ⟨by rfl, fun W hW => ?_⟩) trivial ?_
      rotate_left
      · clear hW
        go_simp
        try with_reducible rfl
      simp only [Act.put, List.getElem_toArray, List.getElem_cons_zero, List.getElem_cons_succ, List.setIfInBounds_toArray, List.set_cons_zero, List.set_cons_succ]
      refine wpAnyH_done (by kernel_rfl) ?_ _
      go_wp2_with fail
      refine bodyPost_ret (seen_result3 rfl _ _ w.heap.size _ _ _ _ rfl rfl rfl AZ) rfl ?_
      exact ⟨_, _, _, _, m, ll, _, _, HSM.out, hkey, hst.1, hst.2, rfl, EZ, RZZ, BZ⟩
    · go_simp
      refine hK.out _ _ trivial (fun _ => ?_)
      clear hK K
      have S1 := hidM (SX.out.alloc (.cells #[.int .i64 1, .int .i64 2, .int .i64 3, .int .i64 0, .int .i64 4] 3))
      refine wpAnyH_ready (rs := [0, 4]) (by kernel_rfl) (by simp) (AllReadyH.cons rfl (fun K hK => ?_) (AllReadyH.cons rfl (fun K hK => ?_) AllReadyH.nil))
      · have q0 : (wd.alloc (.cells #[.int .i64 1, .int .i64 2, .int .i64 3, .int .i64 0, .int .i64 4] 3)).cell? ⟨DD, 0, none⟩ = some (.slice a5 m.length c5) := S1.out.c0
        have q1 : (wd.alloc (.cells #[.int .i64 1, .int .i64 2, .int .i64 3, .int .i64 0, .int .i64 4] 3)).cell? ⟨DD, 1, none⟩ = some (.slice a6 ll.length c6) := S1.out.c1
        go_simp
        refine hK.out _ _ trivial (fun _ => ?_)
        clear hK K q0 q1
        refine wpAnyH_ready (rs := [4]) (by kernel_rfl) (by simp) (AllReadyH.cons rfl (fun K hK => ?_) AllReadyH.nil)
        go_simp
        refine (l1Int 5 _ 5 0 [1, 2, 3, 0, 4] _ _ _ _ _ _ (by omega) (by omega) S1.out.c (World.ownsRow_lit _ #[.int .i64 1, .int .i64 2, .int .i64 3, .int .i64 0, .int .i64 4] 5 (Nat.zero_le _) (by decide) rfl) (by have := SX.out.c.lt; omega)).mono ?_
        rintro e w2 ⟨sz, hsz, rfl, c2, g2⟩
        have hst : 0 ≤ sz ∧ sz ≤ 4 := by
          simp at hsz
          omega
        have S2 := hidM (S1.out.step c2 g2)
        refine hK.out _ _ trivial (fun _ => ?_)
        clear hK K S1 c2 g2 hsz
        refine wpAnyH_ready (rs := [5]) (by kernel_rfl) (by simp) (AllReadyH.cons rfl (fun K hK => ?_) AllReadyH.nil)
        obtain ⟨AZ, EZ, RZZ, BZ⟩ := S2.out.fin
        have r0 : w2.cell? ⟨w.heap.size, 0, none⟩ = some (.slice none 0 0) := by rw [cell_of_row w2 _ _ _ _ (0, 0) S2.out.r]; rfl
        have r1 : w2.cell? ⟨w.heap.size, 1, none⟩ = some (.slice none 0 0) := by rw [cell_of_row w2 _ _ _ _ (0, 0) S2.out.r]; rfl
        have f0 : w2.frozen? ⟨w.heap.size, 0, none⟩ = false := frozen_of_row _ _ _ _ _ S2.out.r
        have f1 : w2.frozen? ⟨w.heap.size, 1, none⟩ = false := frozen_of_row _ _ _ _ _ S2.out.r
        go_simp
        refine hK.out _ _ trivial (fun _ => ?_)
        clear hK K r0 r1 f0 f1
        refine wpAnyH_take (i := 6) (v := ?_) rfl (by kernel_rfl) (by kernel_rfl) (by kernel_rfl) (fun _ _ _ h => h) (Or.inl ⟨by rfl, fun W hW => ?_⟩) trivial ?_
        rotate_left
        · clear hW
          go_simp
          try with_reducible rfl
        simp only [Act.put, List.getElem_toArray, List.getElem_cons_zero, List.getElem_cons_succ, List.setIfInBounds_toArray, List.set_cons_zero, List.set_cons_succ]
        refine wpAnyH_take (i := 7) (v := ?_) rfl (by kernel_rfl) (by kernel_rfl) (by kernel_rfl) (fun _ _ _ h => h) (Or.inl ⟨by rfl, fun W hW => ?_⟩) trivial ?_
        rotate_left
        · clear hW
          go_simp
          try with_reducible rfl
        simp only [Act.put, List.getElem_toArray, List.getElem_cons_zero, List.getElem_cons_succ, List.setIfInBounds_toArray, List.set_cons_zero, List.set_cons_succ]
        refine wpAnyH_done (by kernel_rfl) ?_ _
        go_wp2_with fail
        refine bodyPost_ret (seen_result3 rfl _ _ w.heap.size _ _ _ _ rfl rfl rfl AZ) rfl ?_
        exact ⟨_, _, _, _, m, ll, _, _, HSM.out, hkey, hst.1, hst.2, rfl, EZ, RZZ, BZ⟩
      · go_simp
        refine (l1Int 5 _ 5 0 [1, 2, 3, 0, 4] _ _ _ _ _ _ (by omega) (by omega) S1.out.c (World.ownsRow_lit _ #[.int .i64 1, .int .i64 2, .int .i64 3, .int .i64 0, .int .i64 4] 5 (Nat.zero_le _) (by decide) rfl) (by have := SX.out.c.lt; omega)).mono ?_
        rintro e w2 ⟨sz, hsz, rfl, c2, g2⟩
        have hst : 0 ≤ sz ∧ sz ≤ 4 := by
          simp at hsz
          omega
        have S2 := hidM (S1.out.step c2 g2)
        refine hK.out _ _ trivial (fun _ => ?_)
        clear hK K S1 c2 g2 hsz
        refine wpAnyH_ready (rs := [0]) (by kernel_rfl) (by simp) (AllReadyH.cons rfl (fun K hK => ?_) AllReadyH.nil)
        have q0 : w2.cell? ⟨DD, 0, none⟩ = some (.slice a5 m.length c5) := S2.out.c0
        have q1 : w2.cell? ⟨DD, 1, none⟩ = some (.slice a6 ll.length c6) := S2.out.c1
        go_simp
        refine hK.out _ _ trivial (fun _ => ?_)
        clear hK K q0 q1
        refine wpAnyH_ready (rs := [5]) (by kernel_rfl) (by simp) (AllReadyH.cons rfl (fun K hK => ?_) AllReadyH.nil)
        obtain ⟨AZ, EZ, RZZ, BZ⟩ := S2.out.fin
        have r0 : w2.cell? ⟨w.heap.size, 0, none⟩ = some (.slice none 0 0) := by rw [cell_of_row w2 _ _ _ _ (0, 0) S2.out.r]; rfl
        have r1 : w2.cell? ⟨w.heap.size, 1, none⟩ = some (.slice none 0 0) := by rw [cell_of_row w2 _ _ _ _ (0, 0) S2.out.r]; rfl
        have f0 : w2.frozen? ⟨w.heap.size, 0, none⟩ = false := frozen_of_row _ _ _ _ _ S2.out.r
        have f1 : w2.frozen? ⟨w.heap.size, 1, none⟩ = false := frozen_of_row _ _ _ _ _ S2.out.r
        go_simp
        refine hK.out _ _ trivial (fun _ => ?_)
        clear hK K r0 r1 f0 f1
        refine wpAnyH_take (i := 6) (v := ?_) rfl (by kernel_rfl) (by kernel_rfl) (by kernel_rfl) (fun _ _ _ h => h) (Or.inl ⟨by rfl, fun W hW => ?_⟩) trivial ?_
        rotate_left
        · clear hW
          go_simp
          try with_reducible rfl
        simp only [Act.put, List.getElem_toArray, List.getElem_cons_zero, List.getElem_cons_succ, List.setIfInBounds_toArray, List.set_cons_zero, List.set_cons_succ]
        refine wpAnyH_take (i := 7) (v := ?_) rfl (by kernel_rfl) (by kernel_rfl) (by kernel_rfl) (fun _ _ _ h => h) (Or.inl ⟨by rfl, fun W hW => ?_⟩) trivial ?_
        rotate_left
        · clear hW
          go_simp
          try with_reducible rfl
        simp only [Act.put, List.getElem_toArray, List.getElem_cons_zero, List.getElem_cons_succ, List.setIfInBounds_toArray, List.set_cons_zero, List.set_cons_succ]
        refine wpAnyH_done (by kernel_rfl) ?_ _
        go_wp2_with fail
        refine bodyPost_ret (seen_result3 rfl _ _ w.heap.size _ _ _ _ rfl rfl rfl AZ) rfl ?_
        exact ⟨_, _, _, _, m, ll, _, _, HSM.out, hkey, hst.1, hst.2, rfl, EZ, RZZ, BZ⟩
  · have hkey : (⟨#[]⟩ : ByteArray).size ≤ 3 := by decide
    go_upto_region 6 with fail
    refine wp_region_held_drew (S := fun _ => True) (by kernel_rfl) trivial (fun _ => ?_)
    refine wpAnyH_take (i := 1) (v := ?_) rfl (by kernel_rfl) (by kernel_rfl) (by kernel_rfl) (fun _ _ _ h => h) (Or.inl ⟨by rfl, fun W hW => ?_⟩) trivial ?_
    rotate_left
    · clear hW
      go_simp
      try with_reducible rfl
    simp only [Act.put, List.getElem_toArray, List.getElem_cons_zero, List.getElem_cons_succ, List.setIfInBounds_toArray, List.set_cons_zero, List.set_cons_succ]
    refine wpAnyH_take (i := 2) (v := ?_) rfl (by kernel_rfl) (by kernel_rfl) (by kernel_rfl) (fun _ _ _ h => h) (Or.inl ⟨by rfl, fun W hW => ?_⟩) trivial ?_
    rotate_left
    · clear hW
      go_simp
      try with_reducible rfl
    simp only [Act.put, List.getElem_toArray, List.getElem_cons_zero, List.getElem_cons_succ, List.setIfInBounds_toArray, List.set_cons_zero, List.set_cons_succ]
    have SX := hidM SD.out.drew
    clear SD
    refine wpAnyH_ready (rs := [0, 3]) (by kernel_rfl) (by simp) (AllReadyH.cons rfl (fun K hK => ?_) (AllReadyH.cons rfl (fun K hK => ?_) AllReadyH.nil))
    · have q0 : wd.drew.cell? ⟨DD, 0, none⟩ = some (.slice a5 m.length c5) := SX.out.c0
      have q1 : wd.drew.cell? ⟨DD, 1, none⟩ = some (.slice a6 ll.length c6) := SX.out.c1
      go_simp
      refine hK.out _ _ trivial (fun _ => ?_)
      clear hK K q0 q1
      refine wpAnyH_ready (rs := [3]) (by kernel_rfl) (by simp) (AllReadyH.cons rfl (fun K hK => ?_) AllReadyH.nil)
      go_simp
      refine hK.out _ _ trivial (fun _ => ?_)
      clear hK K
      have S1 := hidM (SX.out.alloc (.cells #[.int .i64 1, .int .i64 2, .int .i64 3, .int .i64 0, .int .i64 4] 3))
      refine wpAnyH_ready (rs := [4]) (by kernel_rfl) (by simp) (AllReadyH.cons rfl (fun K hK => ?_) AllReadyH.nil)
      go_simp
      refine (l1Int 5 _ 5 0 [1, 2, 3, 0, 4] _ _ _ _ _ _ (by omega) (by omega) S1.out.c (World.ownsRow_lit _ #[.int .i64 1, .int .i64 2, .int .i64 3, .int .i64 0, .int .i64 4] 5 (Nat.zero_le _) (by decide) rfl) (by have := SX.out.c.lt; omega)).mono ?_
      rintro e w2 ⟨sz, hsz, rfl, c2, g2⟩
      have hst : 0 ≤ sz ∧ sz ≤ 4 := by
        simp at hsz
        omega
      have S2 := hidM (S1.out.step c2 g2)
      refine hK.out _ _ trivial (fun _ => ?_)
      clear hK K S1 c2 g2 hsz
      refine wpAnyH_ready (rs := [5]) (by kernel_rfl) (by simp) (AllReadyH.cons rfl (fun K hK => ?_) AllReadyH.nil)
      obtain ⟨AZ, EZ, RZZ, BZ⟩ := S2.out.fin
      have r0 : w2.cell? ⟨w.heap.size, 0, none⟩ = some (.slice none 0 0) := by rw [cell_of_row w2 _ _ _ _ (0, 0) S2.out.r]; rfl
      have r1 : w2.cell? ⟨w.heap.size, 1, none⟩ = some (.slice none 0 0) := by rw [cell_of_row w2 _ _ _ _ (0, 0) S2.out.r]; rfl
      have f0 : w2.frozen? ⟨w.heap.size, 0, none⟩ = false := frozen_of_row _ _ _ _ _ S2.out.r
      have f1 : w2.frozen? ⟨w.heap.size, 1, none⟩ = false := frozen_of_row _ _ _ _ _ S2.out.r
      go_simp
      refine hK.out _ _ trivial (fun _ => ?_)
      clear hK K r0 r1 f0 f1
      refine wpAnyH_take (i := 6) (v := ?_) rfl (by kernel_rfl) (by kernel_rfl) (by kernel_rfl) (fun _ _ _ h => h) (Or.inl ⟨by rfl, fun W hW => ?_⟩) trivial ?_
      rotate_left
      · clear hW
        go_simp
        try with_reducible rfl
      simp only [Act.put, List.getElem_toArray, List.getElem_cons_zero, List.getElem_cons_succ, List.setIfInBounds_toArray, List.set_cons_zero, List.set_cons_succ]
      refine wpAnyH_take (i := 7) (v := ?_) rfl (by kernel_rfl) (by kernel_rfl) (by kernel_rfl) (fun _ _ _ h => h) (Or.inl ⟨by rfl, fun W hW => ?_⟩) trivial ?_
      rotate_left
      · clear hW
        go_simp
        try with_reducible rfl
      simp only [Act.put, List.getElem_toArray, List.getElem_cons_zero, List.getElem_cons_succ, List.setIfInBounds_toArray, List.set_cons_zero, List.set_cons_succ]
      refine wpAnyH_done (by kernel_rfl) ?_ _
      go_wp2_with fail
      refine bodyPost_ret (seen_result3 rfl _ _ w.heap.size _ _ _ _ rfl rfl rfl AZ) rfl ?_
      exact ⟨_, _, _, _, m, ll, _, _, HSM.out, hkey, hst.1, hst.2, rfl, EZ, RZZ, BZ⟩
    · go_simp
      refine hK.out _ _ trivial (fun _ => ?_)
      clear hK K
      have S1 := hidM (SX.out.alloc (.cells #[.int .i64 1, .int .i64 2, .int .i64 3, .int .i64 0, .int .i64 4] 3))
      refine wpAnyH_ready (rs := [0, 4]) (by kernel_rfl) (by simp) (AllReadyH.cons rfl (fun K hK => ?_) (AllReadyH.cons rfl (fun K hK => ?_) AllReadyH.nil))
      · have q0 : (wd.alloc (.cells #[.int .i64 1, .int .i64 2, .int .i64 3, .int .i64 0, .int .i64 4] 3)).cell? ⟨DD, 0, none⟩ = some (.slice a5 m.length c5) := S1.out.c0
        have q1 : (wd.alloc (.cells #[.int .i64 1, .int .i64 2, .int .i64 3, .int .i64 0, .int .i64 4] 3)).cell? ⟨DD, 1, none⟩ = some (.slice a6 ll.length c6) := S1.out.c1
        go_simp
        refine hK.out _ _ trivial (fun _ => ?_)
        clear hK K q0 q1
        refine wpAnyH_ready (rs := [4]) (by kernel_rfl) (by simp) (AllReadyH.cons rfl (fun K hK => ?_) AllReadyH.nil)
        go_simp
        refine (l1Int 5 _ 5 0 [1, 2, 3, 0, 4] _ _ _ _ _ _ (by omega) (by omega) S1.out.c (World.ownsRow_lit _ #[.int .i64 1, .int .i64 2, .int .i64 3, .int .i64 0, .int .i64 4] 5 (Nat.zero_le _) (by decide) rfl) (by have := SX.out.c.lt; omega)).mono ?_
        rintro e w2 ⟨sz, hsz, rfl, c2, g2⟩
        have hst : 0 ≤ sz ∧ sz ≤ 4 := by
          simp at hsz
          omega
        have S2 := hidM (S1.out.step c2 g2)
        refine hK.out _ _ trivial (fun _ => ?_)
        clear hK K S1 c2 g2 hsz
        refine wpAnyH_ready (rs := [5]) (by kernel_rfl) (by simp) (AllReadyH.cons rfl (fun K hK => ?_) AllReadyH.nil)
        obtain ⟨AZ, EZ, RZZ, BZ⟩ := S2.out.fin
        have r0 : w2.cell? ⟨w.heap.size, 0, none⟩ = some (.slice none 0 0) := by rw [cell_of_row w2 _ _ _ _ (0, 0) S2.out.r]; rfl
        have r1 : w2.cell? ⟨w.heap.size, 1, none⟩ = some (.slice none 0 0) := by rw [cell_of_row w2 _ _ _ _ (0, 0) S2.out.r]; rfl
        have f0 : w2.frozen? ⟨w.heap.size, 0, none⟩ = false := frozen_of_row _ _ _ _ _ S2.out.r
        have f1 : w2.frozen? ⟨w.heap.size, 1, none⟩ = false := frozen_of_row _ _ _ _ _ S2.out.r
        go_simp
        refine hK.out _ _ trivial (fun _ => ?_)
        clear hK K r0 r1 f0 f1
        refine wpAnyH_take (i := 6) (v := ?_) rfl (by kernel_rfl) (by kernel_rfl) (by kernel_rfl) (fun _ _ _ h => h) (Or.inl ⟨by rfl, fun W hW => ?_⟩) trivial ?_
        rotate_left
        · clear hW
          go_simp
          try with_reducible rfl
        simp only [Act.put, List.getElem_toArray, List.getElem_cons_zero, List.getElem_cons_succ, List.setIfInBounds_toArray, List.set_cons_zero, List.set_cons_succ]
        refine wpAnyH_take (i := 7) (v := ?_) rfl (by kernel_rfl) (by kernel_rfl) (by kernel_rfl) (fun _ _ _ h => h) (Or.inl ⟨by rfl, fun W hW => ?_⟩) trivial ?_
        rotate_left
        · clear hW
          go_simp
          try with_reducible rfl
        simp only [Act.put, List.getElem_toArray, List.getElem_cons_zero, List.getElem_cons_succ, List.setIfInBounds_toArray, List.set_cons_zero, List.set_cons_succ]
        refine wpAnyH_done (by kernel_rfl) ?_ _
        go_wp2_with fail
        refine bodyPost_ret (seen_result3 rfl _ _ w.heap.size _ _ _ _ rfl rfl rfl AZ) rfl ?_
        exact ⟨_, _, _, _, m, ll, _, _, HSM.out, hkey, hst.1, hst.2, rfl, EZ, RZZ, BZ⟩
      · go_simp
        refine (l1Int 5 _ 5 0 [1, 2, 3, 0, 4] _ _ _ _ _ _ (by omega) (by omega) S1.out.c (World.ownsRow_lit _ #[.int .i64 1, .int .i64 2, .int .i64 3, .int .i64 0, .int .i64 4] 5 (Nat.zero_le _) (by decide) rfl) (by have := SX.out.c.lt; omega)).mono ?_
        rintro e w2 ⟨sz, hsz, rfl, c2, g2⟩
        have hst : 0 ≤ sz ∧ sz ≤ 4 := by
          simp at hsz
          omega
        have S2 := hidM (S1.out.step c2 g2)
        refine hK.out _ _ trivial (fun _ => ?_)
        clear hK K S1 c2 g2 hsz
        refine wpAnyH_ready (rs := [0]) (by kernel_rfl) (by simp) (AllReadyH.cons rfl (fun K hK => ?_) AllReadyH.nil)
        have q0 : w2.cell? ⟨DD, 0, none⟩ = some (.slice a5 m.length c5) := S2.out.c0
        have q1 : w2.cell? ⟨DD, 1, none⟩ = some (.slice a6 ll.length c6) := S2.out.c1
        go_simp
        refine hK.out _ _ trivial (fun _ => ?_)
        clear hK K q0 q1
        refine wpAnyH_ready (rs := [5]) (by kernel_rfl) (by simp) (AllReadyH.cons rfl (fun K hK => ?_) AllReadyH.nil)
        obtain ⟨AZ, EZ, RZZ, BZ⟩ := S2.out.fin
        have r0 : w2.cell? ⟨w.heap.size, 0, none⟩ = some (.slice none 0 0) := by rw [cell_of_row w2 _ _ _ _ (0, 0) S2.out.r]; rfl
        have r1 : w2.cell? ⟨w.heap.size, 1, none⟩ = some (.slice none 0 0) := by rw [cell_of_row w2 _ _ _ _ (0, 0) S2.out.r]; rfl
        have f0 : w2.frozen? ⟨w.heap.size, 0, none⟩ = false := frozen_of_row _ _ _ _ _ S2.out.r
        have f1 : w2.frozen? ⟨w.heap.size, 1, none⟩ = false := frozen_of_row _ _ _ _ _ S2.out.r
        go_simp
        refine hK.out _ _ trivial (fun _ => ?_)
        clear hK K r0 r1 f0 f1
        refine wpAnyH_take (i := 6) (v := ?_) rfl (by kernel_rfl) (by kernel_rfl) (by kernel_rfl) (fun _ _ _ h => h) (Or.inl ⟨by rfl, fun W hW => ?_⟩) trivial ?_
        rotate_left
        · clear hW
          go_simp
          try with_reducible rfl
        simp only [Act.put, List.getElem_toArray, List.getElem_cons_zero, List.getElem_cons_succ, List.setIfInBounds_toArray, List.set_cons_zero, List.set_cons_succ]
        refine wpAnyH_take (i := 7) (v := ?_) rfl (by kernel_rfl) (by kernel_rfl) (by kernel_rfl) (fun _ _ _ h => h) (Or.inl ⟨by rfl, fun W hW => ?_⟩) trivial ?_
        rotate_left
        · clear hW
          go_simp
          try with_reducible rfl
        simp only [Act.put, List.getElem_toArray, List.getElem_cons_zero, List.getElem_cons_succ, List.setIfInBounds_toArray, List.set_cons_zero, List.set_cons_succ]
        refine wpAnyH_done (by kernel_rfl) ?_ _
        go_wp2_with fail
        refine bodyPost_ret (seen_result3 rfl _ _ w.heap.size _ _ _ _ rfl rfl rfl AZ) rfl ?_
        exact ⟨_, _, _, _, m, ll, _, _, HSM.out, hkey, hst.1, hst.2, rfl, EZ, RZZ, BZ⟩
end Go.Proofs.Ytdnlaijpgjpplaa
