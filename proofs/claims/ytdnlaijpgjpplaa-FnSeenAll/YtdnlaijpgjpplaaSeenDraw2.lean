/- The draw of a Seen: l15Draw. -/
import Derived.Test.YtdnlaijpgjpplaaRows
import Derived.Test.YtdnlaijpgjpplaaSeenDraw
namespace Go.Proofs.Ytdnlaijpgjpplaa
open Go.RowKit
set_option linter.unusedVariables false
set_option linter.unusedSimpArgs false

/-- While a Seen is drawn: nothing turns but the cursor's block and the Seen's own. -/
def DrF (O W : World) (B D5 : Nat) : Prop := (W.os = O.os ∧ W.tape = O.tape ∧ W.output = O.output) ∧ O.heap.size ≤ W.heap.size ∧ ∀ b, b < O.heap.size → b ≠ B → b ≠ D5 → W.heap[b]? = O.heap[b]?

theorem DrF.grown {O W W' : World} {B D5 : Nat} (h : DrF O W B D5) (g : W.grownBy W' (some B)) : DrF O W' B D5 :=
  ⟨⟨g.os.trans h.1.1, g.tape.trans h.1.2.1, g.output.trans h.1.2.2⟩, Nat.le_trans h.2.1 g.size, fun b h1 h2 h3 => (g.block b (Nat.lt_of_lt_of_le h1 h.2.1) (fun e => h2 (by injection e))).trans (h.2.2 b h1 h2 h3)⟩

theorem DrF.below {O W W' : World} {B D5 : Nat} (h : DrF O W B D5) (g : Below W.heap.size W W') : DrF O W' B D5 :=
  ⟨⟨g.os.trans h.1.1, g.tape.trans h.1.2.1, g.output.trans h.1.2.2⟩, Nat.le_trans h.2.1 g.size, fun b h1 h2 h3 => (g.block b (Nat.lt_of_lt_of_le h1 h.2.1)).trans (h.2.2 b h1 h2 h3)⟩

theorem DrF.set {O W : World} {B D5 : Nat} (h : DrF O W B D5) (j : Nat) (v : Value) : DrF O (W.setCell ⟨D5, j, none⟩ v) B D5 := by
  have g := put_grown W D5 j v
  exact ⟨⟨g.os.trans h.1.1, g.tape.trans h.1.2.1, g.output.trans h.1.2.2⟩, Nat.le_trans h.2.1 g.size, fun b h1 h2 h3 => (g.block b (Nat.lt_of_lt_of_le h1 h.2.1) (fun e => h3 (by injection e))).trans (h.2.2 b h1 h2 h3)⟩

/-- A Seen that is drawn, in the block D5. -/
structure DrS (O W : World) (B D5 T : Nat) (v5 v6 : Value) (m : List EV) (ll : List (List EV)) (vs : List Value) : Prop where
  r : Rgt m ll T
  d : W.heap[D5]? = some (.cells #[v5, v6] 27 (0, 0))
  o5 : W.ownsRow O.heap.size 35 2 v5 m.length (ecells m)
  o6 : W.ownsRow O.heap.size 24 1 v6 ll.length vs
  e6 : OEl W O.heap.size vs ll
  ap : APt v5 vs
  f : DrF O W B D5

theorem DrS.cur {O W W' : World} {B D5 T : Nat} {v5 v6 : Value} {m : List EV} {ll : List (List EV)} {vs : List Value} {D : Nat} {ao : Option Addr} {len cap : Nat} (h : DrS O W B D5 T v5 v6 m ll vs) (hc : Cur D B ao len cap W) (hne : D5 ≠ B) (g : W.grownBy W' (some B)) : DrS O W' B D5 T v5 v6 m ll vs := by
  obtain ⟨i, hh, hB, _⟩ := hc
  have hs : ∀ k, k < W.heap.size → k ≠ B → W'.heap[k]? = W.heap[k]? := fun k h1 h2 => g.block k h1 (fun e => h2 (by injection e))
  exact ⟨h.r, (hs D5 (Array.getElem?_eq_some_iff.1 h.d).1 hne).trans h.d, own_far h.o5 hB (by decide) hs, own_far h.o6 hB (by decide) hs, h.e6.far hB (by decide) hs, h.ap, h.f.grown g⟩

theorem DrS.put {O W W' : World} {B D5 T : Nat} {v5 v6 a b : Value} {m : List EV} {ll : List (List EV)} {vs vs' : List Value} {x : EV} (h : DrS O W B D5 T v5 v6 m ll vs) (hx : sokM x = true) (h5 : W'.ownsRow W.heap.size 35 2 a (putM m x).length (ecells (putM m x))) (h6 : W'.ownsRow W.heap.size 24 1 b (putL m ll x).length vs') (he : OEl W' W.heap.size vs' (putL m ll x)) (hap : APt a vs') (hb : Below W.heap.size W W') :
    DrS O ((W'.setCell ⟨D5, 0, none⟩ a).setCell ⟨D5, 1, none⟩ b) B D5 (T + 1) a b (putM m x) (putL m ll x) vs' := by
  have hd : W'.heap[D5]? = some (.cells #[v5, v6] 27 (0, 0)) := (hb.block D5 (Array.getElem?_eq_some_iff.1 h.d).1).trans h.d
  obtain ⟨hs, _⟩ := two_set a b hd
  have hz := h.f.2.1
  refine ⟨h.r.put hx, ?_, own_wide1 (own_far h5 hd (by decide) hs) hz, own_wide1 (own_far h6 hd (by decide) hs) hz, (he.far hd (by decide) hs).wide hz, hap, ((h.f.below hb).set 0 a).set 1 b⟩
  exact heap_setCell_same _ D5 1 _ _ _ (heap_setCell_same _ D5 0 _ _ _ hd)

/-- What l15Draw answers. -/
def DrawnS (D B : Nat) (ao : Option Addr) (len cap : Nat) (w w' : World) (e : Ending) : Prop :=
  ∃ v5 v6 m ll vs, Rgt m ll 50 ∧ e = .returned (.agg #[v5, v6]) ∧ w'.ownsRow w.heap.size 35 2 v5 m.length (ecells m) ∧ w'.ownsRow w.heap.size 24 1 v6 ll.length vs ∧ OEl w' w.heap.size vs ll ∧ APt v5 vs ∧ Cur D B ao len cap w' ∧ w.grownBy w' (some B)

set_option maxRecDepth 100000 in
set_option maxHeartbeats 4000000 in
theorem l15Draw (most : Int) (D B : Nat) (ao : Option Addr) (len cap : Nat) (w : World) (h0 : 0 < most) (h50 : most ≤ 50) (hcur : Cur D B ao len cap w) :
    Calls Try.prog 33 #[.pointer (some ⟨B, 0, none⟩), .int .i64 most] w fun e w' => DrawnS D B ao len cap w w' e := by
  have hB := hcur.lt
  obtain ⟨O, hO⟩ : ∃ O, O = (w.alloc (.cells #[.slice none 0 0, .slice none 0 0] 27)).alloc (.cells #[.slice none 0 0, .slice none 0 0] 27) := ⟨_, rfl⟩
  have CO : Hid (Cur D B ao len cap O) := hidM (by rw [hO]; exact (hcur.alloc _).alloc _)
  have bO : Below w.heap.size w O := by rw [hO]; exact ((Below.refl _ _).alloc (Nat.le_refl _) _).alloc (by simp) _
  have hzO : O.heap.size = w.heap.size + 2 := by rw [hO]; simp
  have HR : O.heap[w.heap.size]? = some (.cells #[.slice none 0 0, .slice none 0 0] 27 (0, 0)) := by
    rw [hO, Below.heap_alloc _ _ _ (by simp)]
    exact heap_alloc_new w _
  have HD : O.heap[w.heap.size + 1]? = some (.cells #[.slice none 0 0, .slice none 0 0] 27 (0, 0)) := by
    rw [hO]
    have := heap_alloc_new (w.alloc (.cells #[.slice none 0 0, .slice none 0 0] 27)) (.cells #[.slice none 0 0, .slice none 0 0] 27)
    rwa [World.size_alloc] at this
  have hne : w.heap.size + 1 ≠ B := by omega
  have S0 : DrS O O B (w.heap.size + 1) 0 (.slice none 0 0) (.slice none 0 0) [] [] [] := ⟨Rgt.nil, HD, World.ownsRow_nil _ _ _ _, World.ownsRow_nil _ _ _ _, fun i hi => absurd hi (Nat.not_lt_zero _), (fun i y b h => by simp at h), ⟨rfl, rfl, rfl⟩, Nat.le_refl _, fun _ _ _ _ => rfl⟩
  have HS0 := hidM S0
  clear hcur S0 HD
  go_enter Try.func33, Try.ntmps33
  go_upto_region 2 with fail
  rw [← hO]
  clear hO
  go_wp2_with fail
  refine (l1Below most _ _ _ _ _ _ h0 (by omega) CO.out).mono ?_
  rintro e w1 ⟨n0, hn0, hn1, rfl, c1, g1⟩
  obtain ⟨n, rfl⟩ := Int.eq_ofNat_of_zero_le hn0
  have S1 := hidM (HS0.out.cur CO.out hne g1)
  have C1 := hidM c1
  clear c1 g1 HS0 CO
  go_wp2_with fail
  go_loopw [6] (fun i wr => ∃ (k T : Nat) (v5 v6 : Value) (m : List EV) (ll : List (List EV)) (vs : List Value), i = .int .i64 k ∧ T + k ≤ 49 ∧ Hid (DrS O wr B (w.heap.size + 1) T v5 v6 m ll vs) ∧ Hid (Cur D B ao len cap wr)) (fun i _ => (intOf i).toNat)
  case atStart => exact ⟨n, 0, _, _, _, _, _, rfl, by omega, S1, C1⟩
  case round =>
    clear S1 C1
    obtain ⟨k, T, v5, v6, m, ll, vs, rfl, hTk, HS, HC⟩ := hrel
    by_cases hp : 0 < k
    · have hpi : 0 < (k : Int) := by omega
      have HK := hidM (HS.out.r.ok (by omega))
      obtain ⟨a5, c5, hv5⟩ := (EntRow.of_own' HS.out.o5).slice
      obtain ⟨a6, c6, hv6⟩ := (HS.out.e6.row HS.out.o6).slice
      subst hv5 hv6
      go_upto_region 5 with fail
      refine wp_region_held_drew (S := fun _ => True) (by kernel_rfl) trivial (fun h0 => ?_)
      refine wpAnyH_take (i := 1) (v := ?_) rfl (by kernel_rfl) (by kernel_rfl) (by kernel_rfl) (fun _ _ _ h => h) (Or.inl ⟨by rfl, fun W hW => ?_⟩) trivial ?_
      rotate_left
      · clear hW
        go_simp
        try with_reducible rfl
      simp only [Act.put, List.getElem_toArray, List.getElem_cons_zero, List.getElem_cons_succ, List.setIfInBounds_toArray, List.set_cons_zero, List.set_cons_succ]
      refine wpAnyH_take (i := 3) (v := ?_) rfl (by kernel_rfl) (by kernel_rfl) (by kernel_rfl) (fun _ _ _ h => h) (Or.inl ⟨by rfl, fun W hW => ?_⟩) trivial ?_
      rotate_left
      · clear hW
        go_simp
        try with_reducible rfl
      simp only [Act.put, List.getElem_toArray, List.getElem_cons_zero, List.getElem_cons_succ, List.setIfInBounds_toArray, List.set_cons_zero, List.set_cons_succ]
      have SX : Hid (DrS O wr.drew B (w.heap.size + 1) T (.slice a5 m.length c5) (.slice a6 ll.length c6) m ll vs) := hidM ⟨HS.out.r, HS.out.d, HS.out.o5, HS.out.o6, HS.out.e6, HS.out.ap, HS.out.f⟩
      have CX : Hid (Cur D B ao len cap wr.drew) := HC.out
      clear HS HC h0
      refine wpAnyH_ready (rs := [0, 2]) (by kernel_rfl) (by simp) (AllReadyH.cons rfl (fun K hK => ?_) (AllReadyH.cons rfl (fun K hK => ?_) AllReadyH.nil))
      · have q0 : wr.drew.cell? ⟨w.heap.size + 1, 0, none⟩ = some (.slice a5 m.length c5) := by rw [cell_of_row wr.drew _ _ _ _ (0, 0) SX.out.d]; rfl
        have q1 : wr.drew.cell? ⟨w.heap.size + 1, 1, none⟩ = some (.slice a6 ll.length c6) := by rw [cell_of_row wr.drew _ _ _ _ (0, 0) SX.out.d]; rfl
        go_simp
        refine hK.out _ _ trivial (fun _ => ?_)
        clear hK K q0 q1
        refine wpAnyH_ready (rs := [2]) (by kernel_rfl) (by simp) (AllReadyH.cons rfl (fun K hK => ?_) AllReadyH.nil)
        go_simp
        refine (l15Key _ _ _ _ _ _ CX.out).mono ?_
        rintro e wa ⟨z, hz1, hz3, rfl, ca, ga⟩
        have SA := hidM (SX.out.cur CX.out hne ga)
        have CA := hidM ca
        refine hK.out _ _ trivial (fun _ => ?_)
        clear hK K SX CX ca ga
        refine wpAnyH_ready (rs := [4]) (by kernel_rfl) (by simp) (AllReadyH.cons rfl (fun K hK => ?_) AllReadyH.nil)
        go_simp
        refine (l1Below 3 _ _ _ _ _ _ (by omega) (by omega) CA.out).mono ?_
        rintro e wb ⟨y, hy0, hy1, rfl, cb, gb⟩
        have SB := hidM (SA.out.cur CA.out hne gb)
        have CB := hidM cb
        refine hK.out _ _ trivial (fun _ => ?_)
        clear hK K SA CA cb gb
        obtain ⟨Y, hY⟩ : ∃ Y : Int, 1 + y = Y := ⟨_, rfl⟩
        have hY1 : 1 ≤ Y ∧ Y ≤ 3 := by omega
        have eY : IntKind.i64.wrap (1 + y) = Y := by rw [hY]; exact i64_wrap_in _ (by omega)
        refine wpAnyH_take (i := 5) (v := .int .i64 Y) rfl (by kernel_rfl) (by kernel_rfl) (by kernel_rfl) (fun _ _ _ h => h) (Or.inl ⟨by rfl, fun W hW => ?_⟩) trivial ?_
        · clear hW hY
          go_simp
        simp only [Act.put, List.getElem_toArray, List.getElem_cons_zero, List.getElem_cons_succ, List.setIfInBounds_toArray, List.set_cons_zero, List.set_cons_succ]
        clear eY hY
        have CP := hidM (specL15PutO ⟨Y, z⟩ m ll _ _ wb HK.out (EntRow.of_own' SB.out.o5) (SB.out.e6.row SB.out.o6))
        have HXM : Hid (sokM ⟨Y, z⟩ = true) := hidM (by
          unfold sokM
          rw [decide_eq_true (show 1 ≤ z.size from hz1), decide_eq_true (show z.size ≤ 2000 by omega), decide_eq_true hY1.1, decide_eq_true hY1.2]
          rfl)
        refine wpAnyH_ready (rs := [6]) (by kernel_rfl) (by simp) (AllReadyH.cons rfl (fun K hK => ?_) AllReadyH.nil)
        go_simp
        refine CP.out.mono ?_
        rintro e wc ⟨p5, p6, pvs, rfl, po5, po6, pe6, pap, pb⟩
        have SC := hidM (SB.out.put HXM.out po5 po6 pe6 pap pb)
        have hdc : wc.heap[w.heap.size + 1]? = some (.cells #[.slice a5 m.length c5, .slice a6 ll.length c6] 27 (0, 0)) := (pb.block _ (Array.getElem?_eq_some_iff.1 SB.out.d).1).trans SB.out.d
        have CC := hidM (CB.out.below pb.block)
        obtain ⟨a7, c7, hv7⟩ := (EntRow.of_own' po5).slice
        obtain ⟨a8, c8, hv8⟩ := (pe6.row po6).slice
        subst hv7 hv8
        refine hK.out _ _ trivial (fun _ => ?_)
        clear hK K CP po5 po6 pe6 pap pb SB CB
        refine wpAnyH_ready (rs := [7]) (by kernel_rfl) (by simp) (AllReadyH.cons rfl (fun K hK => ?_) AllReadyH.nil)
        have q0 : wc.cell? ⟨w.heap.size + 1, 0, none⟩ = some (.slice a5 m.length c5) := by rw [cell_of_row wc _ _ _ _ (0, 0) hdc]; rfl
        have q1 : wc.cell? ⟨w.heap.size + 1, 1, none⟩ = some (.slice a6 ll.length c6) := by rw [cell_of_row wc _ _ _ _ (0, 0) hdc]; rfl
        have qf : ∀ j, wc.frozen? ⟨w.heap.size + 1, j, none⟩ = false := fun j => frozen_of_row _ _ _ _ _ hdc
        have qf0 := qf 0
        have qf1 := qf 1
        go_simp
        refine hK.out _ _ trivial (fun _ => ?_)
        clear hK K q0 q1 qf qf0 qf1
        refine wpAnyH_done (by kernel_rfl) ?_ _
        have CD := hidM ((CC.out.keep (B := B) (w' := (wc.setCell ⟨w.heap.size + 1, 0, none⟩ (.slice a7 (putM m ⟨Y, z⟩).length c7)).setCell ⟨w.heap.size + 1, 1, none⟩ (.slice a8 (putL m ll ⟨Y, z⟩).length c8)) (by rw [Below.heap_setCell _ _ _ _ (by simp; omega), Below.heap_setCell _ _ _ _ (by simp; omega)]) (fun k hk => by have := CC.out.le; rw [Below.heap_setCell _ _ _ _ (by simp; omega), Below.heap_setCell _ _ _ _ (by simp; omega)])))
        clear CC hdc
        go_wp2_with fail
        go_roundw
        case rel => exact ⟨k - 1, T + 1, _, _, _, _, _, by go_num, by omega, SC, CD⟩
        case measure => simp [intOf]; omega
      · go_simp
        refine (l15Key _ _ _ _ _ _ CX.out).mono ?_
        rintro e wa ⟨z, hz1, hz3, rfl, ca, ga⟩
        have SA := hidM (SX.out.cur CX.out hne ga)
        have CA := hidM ca
        refine hK.out _ _ trivial (fun _ => ?_)
        clear hK K SX CX ca ga
        refine wpAnyH_ready (rs := [0, 4]) (by kernel_rfl) (by simp) (AllReadyH.cons rfl (fun K hK => ?_) (AllReadyH.cons rfl (fun K hK => ?_) AllReadyH.nil))
        · have q0 : wa.cell? ⟨w.heap.size + 1, 0, none⟩ = some (.slice a5 m.length c5) := by rw [cell_of_row wa _ _ _ _ (0, 0) SA.out.d]; rfl
          have q1 : wa.cell? ⟨w.heap.size + 1, 1, none⟩ = some (.slice a6 ll.length c6) := by rw [cell_of_row wa _ _ _ _ (0, 0) SA.out.d]; rfl
          go_simp
          refine hK.out _ _ trivial (fun _ => ?_)
          clear hK K q0 q1
          refine wpAnyH_ready (rs := [4]) (by kernel_rfl) (by simp) (AllReadyH.cons rfl (fun K hK => ?_) AllReadyH.nil)
          go_simp
          refine (l1Below 3 _ _ _ _ _ _ (by omega) (by omega) CA.out).mono ?_
          rintro e wb ⟨y, hy0, hy1, rfl, cb, gb⟩
          have SB := hidM (SA.out.cur CA.out hne gb)
          have CB := hidM cb
          refine hK.out _ _ trivial (fun _ => ?_)
          clear hK K SA CA cb gb
          obtain ⟨Y, hY⟩ : ∃ Y : Int, 1 + y = Y := ⟨_, rfl⟩
          have hY1 : 1 ≤ Y ∧ Y ≤ 3 := by omega
          have eY : IntKind.i64.wrap (1 + y) = Y := by rw [hY]; exact i64_wrap_in _ (by omega)
          refine wpAnyH_take (i := 5) (v := .int .i64 Y) rfl (by kernel_rfl) (by kernel_rfl) (by kernel_rfl) (fun _ _ _ h => h) (Or.inl ⟨by rfl, fun W hW => ?_⟩) trivial ?_
          · clear hW hY
            go_simp
          simp only [Act.put, List.getElem_toArray, List.getElem_cons_zero, List.getElem_cons_succ, List.setIfInBounds_toArray, List.set_cons_zero, List.set_cons_succ]
          clear eY hY
          have CP := hidM (specL15PutO ⟨Y, z⟩ m ll _ _ wb HK.out (EntRow.of_own' SB.out.o5) (SB.out.e6.row SB.out.o6))
          have HXM : Hid (sokM ⟨Y, z⟩ = true) := hidM (by
            unfold sokM
            rw [decide_eq_true (show 1 ≤ z.size from hz1), decide_eq_true (show z.size ≤ 2000 by omega), decide_eq_true hY1.1, decide_eq_true hY1.2]
            rfl)
          refine wpAnyH_ready (rs := [6]) (by kernel_rfl) (by simp) (AllReadyH.cons rfl (fun K hK => ?_) AllReadyH.nil)
          go_simp
          refine CP.out.mono ?_
          rintro e wc ⟨p5, p6, pvs, rfl, po5, po6, pe6, pap, pb⟩
          have SC := hidM (SB.out.put HXM.out po5 po6 pe6 pap pb)
          have hdc : wc.heap[w.heap.size + 1]? = some (.cells #[.slice a5 m.length c5, .slice a6 ll.length c6] 27 (0, 0)) := (pb.block _ (Array.getElem?_eq_some_iff.1 SB.out.d).1).trans SB.out.d
          have CC := hidM (CB.out.below pb.block)
          obtain ⟨a7, c7, hv7⟩ := (EntRow.of_own' po5).slice
          obtain ⟨a8, c8, hv8⟩ := (pe6.row po6).slice
          subst hv7 hv8
          refine hK.out _ _ trivial (fun _ => ?_)
          clear hK K CP po5 po6 pe6 pap pb SB CB
          refine wpAnyH_ready (rs := [7]) (by kernel_rfl) (by simp) (AllReadyH.cons rfl (fun K hK => ?_) AllReadyH.nil)
          have q0 : wc.cell? ⟨w.heap.size + 1, 0, none⟩ = some (.slice a5 m.length c5) := by rw [cell_of_row wc _ _ _ _ (0, 0) hdc]; rfl
          have q1 : wc.cell? ⟨w.heap.size + 1, 1, none⟩ = some (.slice a6 ll.length c6) := by rw [cell_of_row wc _ _ _ _ (0, 0) hdc]; rfl
          have qf : ∀ j, wc.frozen? ⟨w.heap.size + 1, j, none⟩ = false := fun j => frozen_of_row _ _ _ _ _ hdc
          have qf0 := qf 0
          have qf1 := qf 1
          go_simp
          refine hK.out _ _ trivial (fun _ => ?_)
          clear hK K q0 q1 qf qf0 qf1
          refine wpAnyH_done (by kernel_rfl) ?_ _
          have CD := hidM ((CC.out.keep (B := B) (w' := (wc.setCell ⟨w.heap.size + 1, 0, none⟩ (.slice a7 (putM m ⟨Y, z⟩).length c7)).setCell ⟨w.heap.size + 1, 1, none⟩ (.slice a8 (putL m ll ⟨Y, z⟩).length c8)) (by rw [Below.heap_setCell _ _ _ _ (by simp; omega), Below.heap_setCell _ _ _ _ (by simp; omega)]) (fun k hk => by have := CC.out.le; rw [Below.heap_setCell _ _ _ _ (by simp; omega), Below.heap_setCell _ _ _ _ (by simp; omega)])))
          clear CC hdc
          go_wp2_with fail
          go_roundw
          case rel => exact ⟨k - 1, T + 1, _, _, _, _, _, by go_num, by omega, SC, CD⟩
          case measure => simp [intOf]; omega
        · go_simp
          refine (l1Below 3 _ _ _ _ _ _ (by omega) (by omega) CA.out).mono ?_
          rintro e wb ⟨y, hy0, hy1, rfl, cb, gb⟩
          have SB := hidM (SA.out.cur CA.out hne gb)
          have CB := hidM cb
          refine hK.out _ _ trivial (fun _ => ?_)
          clear hK K SA CA cb gb
          obtain ⟨Y, hY⟩ : ∃ Y : Int, 1 + y = Y := ⟨_, rfl⟩
          have hY1 : 1 ≤ Y ∧ Y ≤ 3 := by omega
          have eY : IntKind.i64.wrap (1 + y) = Y := by rw [hY]; exact i64_wrap_in _ (by omega)
          refine wpAnyH_take (i := 5) (v := .int .i64 Y) rfl (by kernel_rfl) (by kernel_rfl) (by kernel_rfl) (fun _ _ _ h => h) (Or.inl ⟨by rfl, fun W hW => ?_⟩) trivial ?_
          · clear hW hY
            go_simp
          simp only [Act.put, List.getElem_toArray, List.getElem_cons_zero, List.getElem_cons_succ, List.setIfInBounds_toArray, List.set_cons_zero, List.set_cons_succ]
          clear eY hY
          refine wpAnyH_ready (rs := [0]) (by kernel_rfl) (by simp) (AllReadyH.cons rfl (fun K hK => ?_) AllReadyH.nil)
          have q0 : wb.cell? ⟨w.heap.size + 1, 0, none⟩ = some (.slice a5 m.length c5) := by rw [cell_of_row wb _ _ _ _ (0, 0) SB.out.d]; rfl
          have q1 : wb.cell? ⟨w.heap.size + 1, 1, none⟩ = some (.slice a6 ll.length c6) := by rw [cell_of_row wb _ _ _ _ (0, 0) SB.out.d]; rfl
          go_simp
          refine hK.out _ _ trivial (fun _ => ?_)
          clear hK K q0 q1
          have CP := hidM (specL15PutO ⟨Y, z⟩ m ll _ _ wb HK.out (EntRow.of_own' SB.out.o5) (SB.out.e6.row SB.out.o6))
          have HXM : Hid (sokM ⟨Y, z⟩ = true) := hidM (by
            unfold sokM
            rw [decide_eq_true (show 1 ≤ z.size from hz1), decide_eq_true (show z.size ≤ 2000 by omega), decide_eq_true hY1.1, decide_eq_true hY1.2]
            rfl)
          refine wpAnyH_ready (rs := [6]) (by kernel_rfl) (by simp) (AllReadyH.cons rfl (fun K hK => ?_) AllReadyH.nil)
          go_simp
          refine CP.out.mono ?_
          rintro e wc ⟨p5, p6, pvs, rfl, po5, po6, pe6, pap, pb⟩
          have SC := hidM (SB.out.put HXM.out po5 po6 pe6 pap pb)
          have hdc : wc.heap[w.heap.size + 1]? = some (.cells #[.slice a5 m.length c5, .slice a6 ll.length c6] 27 (0, 0)) := (pb.block _ (Array.getElem?_eq_some_iff.1 SB.out.d).1).trans SB.out.d
          have CC := hidM (CB.out.below pb.block)
          obtain ⟨a7, c7, hv7⟩ := (EntRow.of_own' po5).slice
          obtain ⟨a8, c8, hv8⟩ := (pe6.row po6).slice
          subst hv7 hv8
          refine hK.out _ _ trivial (fun _ => ?_)
          clear hK K CP po5 po6 pe6 pap pb SB CB
          refine wpAnyH_ready (rs := [7]) (by kernel_rfl) (by simp) (AllReadyH.cons rfl (fun K hK => ?_) AllReadyH.nil)
          have q0 : wc.cell? ⟨w.heap.size + 1, 0, none⟩ = some (.slice a5 m.length c5) := by rw [cell_of_row wc _ _ _ _ (0, 0) hdc]; rfl
          have q1 : wc.cell? ⟨w.heap.size + 1, 1, none⟩ = some (.slice a6 ll.length c6) := by rw [cell_of_row wc _ _ _ _ (0, 0) hdc]; rfl
          have qf : ∀ j, wc.frozen? ⟨w.heap.size + 1, j, none⟩ = false := fun j => frozen_of_row _ _ _ _ _ hdc
          have qf0 := qf 0
          have qf1 := qf 1
          go_simp
          refine hK.out _ _ trivial (fun _ => ?_)
          clear hK K q0 q1 qf qf0 qf1
          refine wpAnyH_done (by kernel_rfl) ?_ _
          have CD := hidM ((CC.out.keep (B := B) (w' := (wc.setCell ⟨w.heap.size + 1, 0, none⟩ (.slice a7 (putM m ⟨Y, z⟩).length c7)).setCell ⟨w.heap.size + 1, 1, none⟩ (.slice a8 (putL m ll ⟨Y, z⟩).length c8)) (by rw [Below.heap_setCell _ _ _ _ (by simp; omega), Below.heap_setCell _ _ _ _ (by simp; omega)]) (fun k hk => by have := CC.out.le; rw [Below.heap_setCell _ _ _ _ (by simp; omega), Below.heap_setCell _ _ _ _ (by simp; omega)])))
          clear CC hdc
          go_wp2_with fail
          go_roundw
          case rel => exact ⟨k - 1, T + 1, _, _, _, _, _, by go_num, by omega, SC, CD⟩
          case measure => simp [intOf]; omega
    · have hpi : ¬ 0 < (k : Int) := by omega
      have hRw : wr.heap[w.heap.size]? = some (.cells #[.slice none 0 0, .slice none 0 0] 27 (0, 0)) := (HS.out.f.2.2 w.heap.size (by omega) (by omega) (by omega)).trans HR
      obtain ⟨hsZ, AZ⟩ := two_set v5 v6 hRw
      have r0 : wr.cell? ⟨w.heap.size, 0, none⟩ = some (.slice none 0 0) := by rw [cell_of_row wr _ _ _ _ (0, 0) hRw]; rfl
      have r1 : wr.cell? ⟨w.heap.size, 1, none⟩ = some (.slice none 0 0) := by rw [cell_of_row wr _ _ _ _ (0, 0) hRw]; rfl
      have f0 : wr.frozen? ⟨w.heap.size, 0, none⟩ = false := frozen_of_row _ _ _ _ _ hRw
      have f1 : wr.frozen? ⟨w.heap.size, 1, none⟩ = false := frozen_of_row _ _ _ _ _ hRw
      have d0 : wr.cell? ⟨w.heap.size + 1, 0, none⟩ = some v5 := by rw [cell_of_row wr _ _ _ _ (0, 0) HS.out.d]; rfl
      have d1 : wr.cell? ⟨w.heap.size + 1, 1, none⟩ = some v6 := by rw [cell_of_row wr _ _ _ _ (0, 0) HS.out.d]; rfl
      have OF := hidM (own_wide1 (own_far HS.out.o5 hRw (by decide) hsZ) (show w.heap.size ≤ O.heap.size by omega))
      have NF := hidM (own_wide1 (own_far HS.out.o6 hRw (by decide) hsZ) (show w.heap.size ≤ O.heap.size by omega))
      have EF := hidM ((HS.out.e6.far hRw (by decide) hsZ).wide (show w.heap.size ≤ O.heap.size by omega))
      have hle := HC.out.le
      have hszr := HS.out.f.2.1
      have CF := hidM (HC.out.keep (hsZ B (by omega) (by omega)) (fun k hk => hsZ k (by omega) (by omega)))
      have RF := hidM (HS.out.r)
      have GF : Hid (w.grownBy ((wr.setCell ⟨w.heap.size, 0, none⟩ v5).setCell ⟨w.heap.size, 1, none⟩ v6) (some B)) := hidM (by
        have ga := put_grown wr w.heap.size 0 v5
        have gb := put_grown (wr.setCell ⟨w.heap.size, 0, none⟩ v5) w.heap.size 1 v6
        refine ⟨((gb.os.trans ga.os).trans HS.out.f.1.1).trans bO.os, ((gb.tape.trans ga.tape).trans HS.out.f.1.2.1).trans bO.tape, ((gb.output.trans ga.output).trans HS.out.f.1.2.2).trans bO.output, by have h1 := ga.size; have h2 := gb.size; omega, fun k hk hkB => ?_⟩
        have hkB2 : k ≠ B := fun e => hkB (by rw [e])
        exact ((hsZ k (by omega) (by omega)).trans (HS.out.f.2.2 k (by omega) hkB2 (by omega))).trans (bO.block k hk))
      have hT : T ≤ 50 := by omega
      have APF := hidM HS.out.ap
      have e5 := EntRow.of_own' HS.out.o5
      have e6 := HS.out.e6.row HS.out.o6
      obtain ⟨a5, c5, hv5⟩ := e5.slice
      obtain ⟨a6, c6, hv6⟩ := e6.slice
      clear HS HC hsZ e5 e6
      subst hv5 hv6
      go_wp2_with fail
      refine bodyPost_ret (seen_resultS rfl _ _ w.heap.size _ _ rfl AZ) rfl ?_
      exact ⟨_, _, m, ll, vs, ⟨RF.out.am, RF.out.sm, RF.out.al, RF.out.lm, RF.out.lr, Nat.le_trans RF.out.tot hT⟩, rfl, OF.out, NF.out, EF.out, APF.out, CF.out, GF.out⟩
end Go.Proofs.Ytdnlaijpgjpplaa
