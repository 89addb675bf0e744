/- Contracts of the laws' helpers that copy rows of parts, and robots: what comes is owned. -/
import Derived.Test.YtjdnemjcjodboaaRows
import Derived.Test.YtjdnemjcjodboaaRobTo
namespace Go.Proofs.Ytjdnemjcjodboaa
open Go.RowKit
set_option linter.unusedVariables false

def PSm (l : List PT) : Prop := ∀ i, i < l.length → (l.getD i pt0).ag.length ≤ 1073741824 ∧ (l.getD i pt0).ln.length ≤ 1073741824
theorem Try.infoPart : (Try.prog.info? 35).map (fun i => (i.zero, i.size, i.bytes)) = some (some (.agg #[.slice none 0 0, .slice none 0 0]), 2, 48) := by kernel_rfl
set_option maxHeartbeats 4000000 in
theorem toParts (l : List PT) (v : Value) (w : World) (hn : l.length ≤ 1073741824) (hz : PSm l) (h : PartRow w v l) :
    Calls Try.prog 35 #[v] w fun e w' => ∃ v', e = .returned v' ∧ RobOwn w' w.heap.size w'.heap.size v' l ∧ Below w.heap.size w w' := by
  obtain ⟨i0, hi, hz0, hz1, hz2⟩ := info_parts Try.infoPart
  have HZ : Hid (PSm l) := hz
  clear hz
  rcases h with ⟨rfl, ao, cap, rfl⟩ | ⟨h0, b, off, cap, rfl, hb, hc⟩
  · clear hn HZ
    go_enter Try.func35, Try.ntmps35
    go_wp2_with (at_make; refine wpList_make_full _ rfl _ _ 24 rfl w.heap.size 35 i0 (.agg #[.slice none 0 0, .slice none 0 0]) 2 Try.underlying24 hi hz0 hz1 _ _ _ _ 0 rfl rfl (by omega) (by omega) (by rw [hz2]; omega) (by unfold maxLen; omega) (Nat.le_refl _) ?_)
    intro wm hmo hgm
    have Bm : Below w.heap.size w wm := (Below.refl _ _).grown hgm (Nat.le_refl _) (fun k hk => by cases hk)
    have HMO : Hid (RobOwn wm w.heap.size wm.heap.size (.slice (some ⟨w.heap.size, 0, none⟩) 0 0) []) := ⟨_, hmo, (fun i hi => absurd hi (Nat.not_lt_zero _)), (fun a x ha => absurd ha (by simp)), fun b hb => (hmo.lt b hb).2⟩
    clear hgm hmo
    go_wp2
    refine wp_loop_rounds 1 ?_
    rw [rounds_succ]
    go_wp2
    go_ret
    exact ⟨_, rfl, HMO.out, Bm⟩
  · have HC : Hid (∀ i, i < l.length → ∃ p q, w.cell? ⟨b, off + i * 2, none⟩ = some p ∧ StrRow w p (l.getD i pt0).ag ∧ w.cell? ⟨b, off + i * 2 + 1, none⟩ = some q ∧ LineRow w q (l.getD i pt0).ln) := hc
    clear hc
    go_enter Try.func35, Try.ntmps35
    go_wp2_with (at_make; refine wpList_make_full _ rfl _ _ 24 rfl w.heap.size 35 i0 (.agg #[.slice none 0 0, .slice none 0 0]) 2 Try.underlying24 hi hz0 hz1 _ _ _ _ l.length rfl rfl (by omega) (by omega) (by rw [hz2]; omega) (by unfold maxLen; omega) (Nat.le_refl _) ?_)
    intro wm hmo hgm
    have Bm : Below w.heap.size w wm := (Below.refl _ _).grown hgm (Nat.le_refl _) (fun k hk => by cases hk)
    obtain ⟨xs0, hmo⟩ : ∃ xs0, wm.ownsRow w.heap.size 35 2 (.slice (some ⟨w.heap.size, 0, none⟩) l.length l.length) l.length xs0 := ⟨_, hmo⟩
    clear hgm
    go_wp2
    go_loopw [4] (fun i wr => ∃ (k : Nat) (xs : List Value), k ≤ l.length ∧ i = .int .i64 k ∧ wr.ownsRow w.heap.size 35 2 (.slice (some ⟨w.heap.size, 0, none⟩) l.length l.length) l.length xs ∧ Hid (Inner wr w.heap.size wr.heap.size (.slice (some ⟨w.heap.size, 0, none⟩) l.length l.length) xs l k) ∧ Below w.heap.size w wr) (fun i _ => l.length - (intOf i).toNat)
    case atStart => exact ⟨0, xs0, Nat.zero_le _, rfl, hmo, ⟨(fun i hi => absurd hi (Nat.not_lt_zero _)), (fun a x ha => absurd ha (by simp)), fun b hb => (hmo.lt b hb).2⟩, Bm⟩
    case round =>
      obtain ⟨k, xs, hk, rfl, hown, HI, hbel⟩ := hrel
      clear hmo Bm
      by_cases hlt : k < l.length
      · have hki : (k : Int) < l.length := by omega
        obtain ⟨p, q, c1, c2, c3, c4⟩ := HC.out k hlt
        have c1w := (hbel.cell (p := ⟨b, off + k * 2, none⟩) hb).trans c1
        have c3w := (hbel.cell (p := ⟨b, off + k * 2 + 1, none⟩) hb).trans c3
        obtain ⟨z1, z2⟩ := HZ.out k hlt
        have CR : Hid (Calls Try.prog 54 #[.agg #[p, q]] wr fun e w' => ∃ p' q', e = .returned (.agg #[p', q']) ∧ w'.ownsRow wr.heap.size 9 1 p' (l.getD k pt0).ag.length (scells (l.getD k pt0).ag) ∧ w'.ownsRow wr.heap.size 58 2 q' (l.getD k pt0).ln.length (lcells (l.getD k pt0).ln) ∧ apt p' q' ∧ Below wr.heap.size wr w') := toPart (l.getD k pt0) p q wr z1 z2 (c2.below hbel) (c4.below hbel)
        clear c1 c2 c3 c4 z1 z2
        go_wp2_with fail
        refine CR.out.mono ?_
        rintro e w1 ⟨p', q', rfl, op, oq, apq, b1⟩
        have hw0 : w.heap.size < wr.heap.size := (hown.lt w.heap.size rfl).2
        have own1 := own_below hown b1
        have B1 := hbel.trans (b1.mono hbel.size)
        have hfz0 := own1.frozenAt (k * 2)
        have hfz1 := own1.frozenAt (k * 2 + 1)
        have hl2 : xs.length = l.length * 2 := hown.1
        obtain ⟨u0, hu0⟩ : ∃ u, w1.cell? ⟨w.heap.size, k * 2, none⟩ = some u := by
          rw [own1.cellAt (k * 2) (by omega)]
          exact ⟨_, List.getElem?_eq_getElem (by omega)⟩
        obtain ⟨u1, hu1⟩ : ∃ u, w1.cell? ⟨w.heap.size, k * 2 + 1, none⟩ = some u := by
          rw [own1.cellAt (k * 2 + 1) (by omega)]
          exact ⟨_, List.getElem?_eq_getElem (by omega)⟩
        obtain ⟨S1, G1⟩ := own1.stored (k * 2) p'
        obtain ⟨S2, G2⟩ := S1.stored (k * 2 + 1) q'
        have hz2' : ((w1.setCell ⟨w.heap.size, k * 2, none⟩ p').setCell ⟨w.heap.size, k * 2 + 1, none⟩ q').heap.size = w1.heap.size := by simp
        have HI2 : Hid (Inner ((w1.setCell ⟨w.heap.size, k * 2, none⟩ p').setCell ⟨w.heap.size, k * 2 + 1, none⟩ q') w.heap.size ((w1.setCell ⟨w.heap.size, k * 2, none⟩ p').setCell ⟨w.heap.size, k * 2 + 1, none⟩ q').heap.size (.slice (some ⟨w.heap.size, 0, none⟩) l.length l.length) ((xs.set (k * 2) p').set (k * 2 + 1) q') l (k + 1)) := by
          have o1 : ∀ {e : TypeId} {size n : Nat} {x : Value} {ys : List Value}, w1.ownsRow wr.heap.size e size x n ys → ((w1.setCell ⟨w.heap.size, k * 2, none⟩ p').setCell ⟨w.heap.size, k * 2 + 1, none⟩ q').ownsRow w.heap.size e size x n ys := fun h => own_wide0 (own_put (own_put h hw0 _ _) hw0 _ _) (by omega)
          refine HI.out.more (p := p') (q := q') (fun bb h1 h2 h3 => ?_) (fun a ha => ?_) (fun _ _ => rfl) (.inl rfl) (by rw [hz2']; exact b1.size) ?_ ?_ (o1 op) (o1 oq) (fun bb e => ?_) (fun bb e => ?_) apq (fun bb e1 e2 => ?_) (fun bb e1 e2 => ?_)
          · have hne : bb ≠ w.heap.size := fun e => h3 (by rw [e]; rfl)
            rw [Below.heap_setCell _ _ _ _ hne, Below.heap_setCell _ _ _ _ hne]
            exact b1.block bb h2
          · rw [List.getElem?_set_ne (by omega), List.getElem?_set_ne (by omega)]
          · rw [List.getElem?_set_ne (by omega), List.getElem?_set_self (by omega)]
          · rw [List.getElem?_set_self (by rw [List.length_set]; omega)]
          · rw [hz2']; exact op.lt bb e
          · rw [hz2']; exact oq.lt bb e
          · have h1 := (op.lt bb e1).1; injection e2 with e2; have h2 : w.heap.size = bb := e2; omega
          · have h1 := (oq.lt bb e1).1; injection e2 with e2; have h2 : w.heap.size = bb := e2; omega
        have B2 := (B1.grown G1 B1.size (fun k hk => by cases hk; exact Nat.le_refl _)).grown G2 (by have := G1.size; have := B1.size; omega) (fun k hk => by cases hk; exact Nat.le_refl _)
        obtain ⟨ao', cap', rfl⟩ := (StrRow.of_own op).slice
        obtain ⟨ao2, cap2, rfl⟩ := (LineRow.of_own' oq).slice
        clear S1 G1 G2 own1 B1 b1 op oq apq HI CR hown c1w c3w hl2 hbel hz2'
        generalize (l.getD k pt0).ag.length = n1 at *
        generalize (l.getD k pt0).ln.length = n2 at *
        go_wp2_with fail
        go_roundw
        case rel => exact ⟨k + 1, _, by omega, by go_num, S2, HI2, B2⟩
        case measure => simp [intOf]; omega
      · have hki : ¬ (k : Int) < l.length := by omega
        have HRR : Hid (RobOwn wr w.heap.size wr.heap.size (.slice (some ⟨w.heap.size, 0, none⟩) l.length l.length) l) := ⟨xs, hown, by have := HI.out; rwa [show k = l.length by omega] at this⟩
        clear hown HI
        go_wp2_with fail
        go_ret
        exact ⟨_, rfl, HRR.out, hbel⟩
theorem rob_result1 {fn : Func} {q : Tmp} (h : fn.results = #[.cell q 26]) (tmps : Array Value) (W : World) (B : Nat) (a : Value)
    (hp : tmps[q]?.getD undef = .pointer (some ⟨B, 0, none⟩)) (ha : BAt W B [a]) : (results fn tmps).run Try.prog W = .ok (.agg #[a]) W := by
  have c0 := ha.1 0 _ rfl
  simp [results, h, hp, asAddr, go_sem, c0, Addr.add_lit]
set_option maxHeartbeats 2000000 in
theorem toRobots (l : List PT) (v : Value) (w : World) (hn : l.length ≤ 1073741824) (hz : PSm l) (h : PartRow w v l) :
    Calls Try.prog 16 #[.agg #[v]] w fun e w' => ∃ ao cap, e = .returned (.agg #[.slice ao l.length cap]) ∧ RobOwn w' w.heap.size w'.heap.size (.slice ao l.length cap) l ∧ Below w.heap.size w w' := by
  obtain ⟨O, hO⟩ : ∃ O, O = ((w.alloc (.cells #[v] 40)).alloc (.cells #[.slice none 0 0] 26)).alloc (.cells #[.slice none 0 0] 26) := ⟨_, rfl⟩
  have hbO : Below w.heap.size w O := by rw [hO]; exact (((Below.refl _ _).alloc (Nat.le_refl _) _).alloc (by simp) _).alloc (by simp; omega) _
  have hzO : O.heap.size = w.heap.size + 3 := by rw [hO]; simp
  have A0 : BAt O w.heap.size [v] := by rw [hO]; exact ((BAt.new w #[v] _).alloc _).alloc _
  have A1 : BAt O (w.heap.size + 1) [.slice none 0 0] := by
    rw [hO]
    have := BAt.new (w.alloc (.cells #[v] 40)) #[.slice none 0 0] 26
    rw [World.size_alloc] at this
    exact this.alloc _
  have A2 : BAt O (w.heap.size + 1 + 1) [.slice none 0 0] := by
    rw [hO]
    have := BAt.new ((w.alloc (.cells #[v] 40)).alloc (.cells #[.slice none 0 0] 26)) #[.slice none 0 0] 26
    rw [World.size_alloc, World.size_alloc] at this
    exact this
  have CT : Hid (Calls Try.prog 35 #[v] O fun e w' => ∃ v', e = .returned v' ∧ RobOwn w' O.heap.size w'.heap.size v' l ∧ Below O.heap.size O w') := toParts l v O hn hz (h.below hbO)
  obtain ⟨va, vc, rfl⟩ := h.slice
  clear h hz
  go_enter Try.func16, Try.ntmps16
  go_upto_region 2 with fail
  rw [← hO]
  clear hO
  have c0 := A0.1 0 _ rfl
  go_wp2_with fail
  refine CT.out.mono ?_
  rintro e w1 ⟨v', rfl, hown, b1⟩
  obtain ⟨ao', cap', rfl⟩ := hown.row.slice
  have B1 := hbO.trans (b1.mono hbO.size)
  have D1 := A1.below b1
  have D2 := A2.below b1
  have HO : Hid (RobOwn w1 O.heap.size w1.heap.size (.slice ao' l.length cap') l) := hown
  have hz1 := b1.size
  clear hown CT A0 A1 A2 b1 hbO c0
  have r0 := D1.1 0 _ rfl
  have f1 := D1.2.1
  have o0 := D2.1 0 _ rfl
  have f2 := D2.2.1
  go_wp2_with fail
  refine bodyPost_ret (rob_result1 rfl _ _ (w.heap.size + 1) (.slice ao' l.length cap') rfl ((D1.other (by omega) 0 _).set 0 (by simp) _)) rfl ⟨_, _, rfl, ?_, ?_⟩
  · obtain ⟨vs, g1, g2⟩ := HO.out.same (w' := (w1.setCell ⟨w.heap.size + 1 + 1, 0, none⟩ (.slice ao' l.length cap')).setCell ⟨w.heap.size + 1, 0, none⟩ (.slice ao' l.length cap')) (fun bb h1 h2 => by
      rw [Below.heap_setCell _ _ _ _ (by simp; omega), Below.heap_setCell _ _ _ _ (by simp; omega)])
    refine RobOwn.down ⟨vs, g1, g2.same (by simp) fun _ _ _ _ => rfl⟩ (by omega)
  · exact (B1.setCell (by simp; omega) _).setCell (by simp) _
end Go.Proofs.Ytjdnemjcjodboaa
