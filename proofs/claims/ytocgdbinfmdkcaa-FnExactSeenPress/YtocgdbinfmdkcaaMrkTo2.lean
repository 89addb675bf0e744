/- Contracts of the laws' helpers that copy rows of rows of marks, and what was seen: what comes is owned. -/
import Derived.Test.YtocgdbinfmdkcaaRows
import Derived.Test.YtocgdbinfmdkcaaMrkTo
import Derived.Test.YtocgdbinfmdkcaaRunOwn
namespace Go.Proofs.Ytocgdbinfmdkcaa
open Go.RowKit
set_option linter.unusedVariables false

def RSm (l : List (List EV)) : Prop := ∀ i, i < l.length → (l.getD i []).length ≤ 1073741824
theorem Try.infoRow : (Try.prog.info? 24).map (fun i => (i.zero, i.size, i.bytes)) = some (some (.slice none 0 0), 1, 24) := by kernel_rfl
set_option maxHeartbeats 4000000 in
theorem toRuns (l : List (List EV)) (v : Value) (w : World) (hn : l.length ≤ 1073741824) (hz : RSm l) (h : RunRow w v l) :
    Calls Try.prog 47 #[v] w fun e w' => ∃ v', e = .returned v' ∧ RunOwn w' w.heap.size w'.heap.size v' l ∧ Below w.heap.size w w' := by
  obtain ⟨i0, hi, hz0, hz1, hz2⟩ := info_parts Try.infoRow
  have HZ : Hid (RSm l) := hz
  clear hz
  rcases h with ⟨rfl, ao, cap, rfl⟩ | ⟨h0, b, off, cap, rfl, hb, hc⟩
  · clear hn HZ
    go_enter Try.func47, Try.ntmps47
    go_wp2_with (at_make; refine wpList_make_full _ rfl _ _ 25 rfl w.heap.size 24 i0 (.slice none 0 0) 1 Try.underlying25 hi hz0 hz1 _ _ _ _ 0 rfl rfl (by omega) (by omega) (by rw [hz2]; omega) (by unfold maxLen; omega) (Nat.le_refl _) ?_)
    intro wm hmo hgm
    have Bm : Below w.heap.size w wm := (Below.refl _ _).grown hgm (Nat.le_refl _) (fun k hk => by cases hk)
    have HMO : Hid (RunOwn wm w.heap.size wm.heap.size (.slice (some ⟨w.heap.size, 0, none⟩) 0 0) []) := ⟨_, hmo, (fun i hi => absurd hi (Nat.not_lt_zero _)), (fun a x ha => absurd ha (Nat.not_lt_zero _)), fun b hb => (hmo.lt b hb).2⟩
    clear hgm hmo
    go_wp2
    refine wp_loop_rounds 1 ?_
    rw [rounds_succ]
    go_wp2
    go_ret
    exact ⟨_, rfl, HMO.out, Bm⟩
  · have HC : Hid (∀ i, i < l.length → ∃ x, w.cell? ⟨b, off + i, none⟩ = some x ∧ EntRow w x (l.getD i [])) := hc
    clear hc
    go_enter Try.func47, Try.ntmps47
    go_wp2_with (at_make; refine wpList_make_full _ rfl _ _ 25 rfl w.heap.size 24 i0 (.slice none 0 0) 1 Try.underlying25 hi hz0 hz1 _ _ _ _ l.length rfl rfl (by omega) (by omega) (by rw [hz2]; omega) (by unfold maxLen; omega) (Nat.le_refl _) ?_)
    intro wm hmo hgm
    have Bm : Below w.heap.size w wm := (Below.refl _ _).grown hgm (Nat.le_refl _) (fun k hk => by cases hk)
    obtain ⟨xs0, hmo⟩ : ∃ xs0, wm.ownsRow w.heap.size 24 1 (.slice (some ⟨w.heap.size, 0, none⟩) l.length l.length) l.length xs0 := ⟨_, hmo⟩
    clear hgm
    go_wp2
    go_loopw [4] (fun i wr => ∃ (k : Nat) (xs : List Value), k ≤ l.length ∧ i = .int .i64 k ∧ wr.ownsRow w.heap.size 24 1 (.slice (some ⟨w.heap.size, 0, none⟩) l.length l.length) l.length xs ∧ Hid (InR wr w.heap.size wr.heap.size (.slice (some ⟨w.heap.size, 0, none⟩) l.length l.length) xs l k) ∧ Below w.heap.size w wr) (fun i _ => l.length - (intOf i).toNat)
    case atStart => exact ⟨0, xs0, Nat.zero_le _, rfl, hmo, ⟨(fun i hi => absurd hi (Nat.not_lt_zero _)), (fun a x ha => absurd ha (Nat.not_lt_zero _)), fun b hb => (hmo.lt b hb).2⟩, Bm⟩
    case round =>
      obtain ⟨k, xs, hk, rfl, hown, HI, hbel⟩ := hrel
      clear hmo Bm
      by_cases hlt : k < l.length
      · have hki : (k : Int) < l.length := by omega
        obtain ⟨p, c1, c2⟩ := HC.out k hlt
        have c1w := (hbel.cell (p := ⟨b, off + k, none⟩) hb).trans c1
        have CR : Hid (Calls Try.prog 46 #[p] wr fun e w' => ∃ v', e = .returned v' ∧ w'.ownsRow wr.heap.size 35 2 v' (l.getD k []).length (ecells (l.getD k [])) ∧ Below wr.heap.size wr w') := toMrks (l.getD k []) p wr (HZ.out k hlt) (c2.below hbel)
        clear c1 c2
        go_wp2_with fail
        refine CR.out.mono ?_
        rintro e w1 ⟨p', rfl, op, b1⟩
        have hw0 : w.heap.size < wr.heap.size := (hown.lt w.heap.size rfl).2
        have own1 := own_below hown b1
        have B1 := hbel.trans (b1.mono hbel.size)
        have hfz0 := own1.frozenAt k
        have hl2 : xs.length = l.length * 1 := hown.1
        obtain ⟨u0, hu0⟩ : ∃ u, w1.cell? ⟨w.heap.size, k, none⟩ = some u := by
          rw [own1.cellAt k (by omega)]
          exact ⟨_, List.getElem?_eq_getElem (by omega)⟩
        obtain ⟨S1, G1⟩ := own1.stored k p'
        have hz2' : (w1.setCell ⟨w.heap.size, k, none⟩ p').heap.size = w1.heap.size := by simp
        have HI2 : Hid (InR (w1.setCell ⟨w.heap.size, k, none⟩ p') w.heap.size (w1.setCell ⟨w.heap.size, k, none⟩ p').heap.size (.slice (some ⟨w.heap.size, 0, none⟩) l.length l.length) (xs.set k p') l (k + 1)) := by
          refine HI.out.more (p := p') (fun bb h1 h2 h3 => ?_) (fun a ha => ?_) (fun _ _ => rfl) (.inl rfl) (by rw [hz2']; exact b1.size) ?_ (own_wide1 (own_put op hw0 _ _) (by omega)) (fun bb e => ?_) (fun bb e1 e2 => ?_)
          · have hne : bb ≠ w.heap.size := fun e => h3 (by rw [e]; rfl)
            rw [Below.heap_setCell _ _ _ _ hne]
            exact b1.block bb h2
          · rw [List.getElem?_set_ne (by omega)]
          · rw [List.getElem?_set_self (by omega)]
          · rw [hz2']; exact op.lt bb e
          · have h1 := (op.lt bb e1).1; injection e2 with e2; have h2 : w.heap.size = bb := e2; omega
        have B2 := B1.grown G1 B1.size (fun k hk => by cases hk; exact Nat.le_refl _)
        obtain ⟨ao', cap', rfl⟩ := (EntRow.of_own' op).slice
        clear G1 own1 B1 b1 op HI CR hown c1w hl2 hbel hz2'
        generalize (l.getD k []).length = n1 at *
        go_wp2_with fail
        go_roundw
        case rel => exact ⟨k + 1, _, by omega, by go_num, S1, HI2, B2⟩
        case measure => simp [intOf]; omega
      · have hki : ¬ (k : Int) < l.length := by omega
        have HRR : Hid (RunOwn wr w.heap.size wr.heap.size (.slice (some ⟨w.heap.size, 0, none⟩) l.length l.length) l) := ⟨xs, hown, by have := HI.out; rwa [show k = l.length by omega] at this⟩
        clear hown HI
        go_wp2_with fail
        go_ret
        exact ⟨_, rfl, HRR.out, hbel⟩
theorem seen_result1 {fn : Func} {q : Tmp} (h : fn.results = #[.cell q 27]) (tmps : Array Value) (W : World) (B : Nat) (a b : Value)
    (hp : tmps[q]?.getD undef = .pointer (some ⟨B, 0, none⟩)) (ha : BAt W B [a, b]) : (results fn tmps).run Try.prog W = .ok (.agg #[a, b]) W := by
  have c0 := ha.1 0 _ rfl
  have c1 := ha.1 1 _ rfl
  simp [results, h, hp, asAddr, go_sem, c0, c1, Addr.add_lit]
set_option maxHeartbeats 2000000 in
theorem toSeen (m : List EV) (l : List (List EV)) (p q : Value) (w : World) (hm : m.length ≤ 1073741824) (hn : l.length ≤ 1073741824) (hz : RSm l) (hp : EntRow w p m) (hq : RunRow w q l) :
    Calls Try.prog 21 #[.agg #[p, q]] w fun e w' => ∃ ao ac bo bc, e = .returned (.agg #[.slice ao m.length ac, .slice bo l.length bc]) ∧ SnOwn w' w.heap.size w'.heap.size (.slice ao m.length ac) (.slice bo l.length bc) m l ∧ Below w.heap.size w w' := by
  obtain ⟨O, hO⟩ : ∃ O, O = ((w.alloc (.cells #[p, q] 44)).alloc (.cells #[.slice none 0 0, .slice none 0 0] 27)).alloc (.cells #[.slice none 0 0, .slice none 0 0] 27) := ⟨_, rfl⟩
  have hbO : Below w.heap.size w O := by rw [hO]; exact (((Below.refl _ _).alloc (Nat.le_refl _) _).alloc (by simp) _).alloc (by simp; omega) _
  have hzO : O.heap.size = w.heap.size + 3 := by rw [hO]; simp
  have A0 : BAt O w.heap.size [p, q] := by rw [hO]; exact ((BAt.new w #[p, q] _).alloc _).alloc _
  have A1 : BAt O (w.heap.size + 1) [.slice none 0 0, .slice none 0 0] := by
    rw [hO]
    have := BAt.new (w.alloc (.cells #[p, q] 44)) #[.slice none 0 0, .slice none 0 0] 27
    rw [World.size_alloc] at this
    exact this.alloc _
  have A2 : BAt O (w.heap.size + 1 + 1) [.slice none 0 0, .slice none 0 0] := by
    rw [hO]
    have := BAt.new ((w.alloc (.cells #[p, q] 44)).alloc (.cells #[.slice none 0 0, .slice none 0 0] 27)) #[.slice none 0 0, .slice none 0 0] 27
    rw [World.size_alloc, World.size_alloc] at this
    exact this
  have CT : Hid (Calls Try.prog 46 #[p] O fun e w' => ∃ v', e = .returned v' ∧ w'.ownsRow O.heap.size 35 2 v' m.length (ecells m) ∧ Below O.heap.size O w') := toMrks m p O hm (hp.below hbO)
  have CR : Hid (∀ W, Below w.heap.size w W → Calls Try.prog 47 #[q] W fun e w' => ∃ v', e = .returned v' ∧ RunOwn w' W.heap.size w'.heap.size v' l ∧ Below W.heap.size W w') := fun W hW => toRuns l q W hn hz (hq.below hW)
  obtain ⟨va, vc, rfl⟩ := hp.slice
  obtain ⟨qa, qc, rfl⟩ := hq.slice
  clear hp hq hz
  go_enter Try.func21, Try.ntmps21
  go_upto_region 2 with fail
  rw [← hO]
  clear hO
  have c0 := A0.1 0 _ rfl
  go_wp2_with fail
  refine CT.out.mono ?_
  rintro e w1 ⟨v', rfl, hown, b1⟩
  obtain ⟨ao', cap', rfl⟩ := (EntRow.of_own' hown).slice
  have B1 := hbO.trans (b1.mono hbO.size)
  have D0 := A0.below b1
  have D1 := A1.below b1
  have D2 := A2.below b1
  have HO : Hid (w1.ownsRow O.heap.size 35 2 (.slice ao' m.length cap') m.length (ecells m)) := hown
  have hz1 := b1.size
  clear hown CT A0 A1 A2 b1 hbO c0
  have o0 := D2.1 0 _ rfl
  have f2 := D2.2.1 0
  obtain ⟨V, hV⟩ : ∃ V, V = w1.setCell ⟨w.heap.size + 1 + 1, 0, none⟩ (.slice ao' m.length cap') := ⟨_, rfl⟩
  have hVz : V.heap.size = w1.heap.size := by rw [hV]; simp
  have BV : Below w.heap.size w V := by rw [hV]; exact B1.setCell (by simp; omega) _
  have E0 : BAt V w.heap.size [.slice va m.length vc, .slice qa l.length qc] := by rw [hV]; exact D0.other (by omega) 0 _
  have E1 : BAt V (w.heap.size + 1) [.slice none 0 0, .slice none 0 0] := by rw [hV]; exact D1.other (by omega) 0 _
  have E2 : BAt V (w.heap.size + 1 + 1) [.slice ao' m.length cap', .slice none 0 0] := by rw [hV]; exact D2.set 0 (by simp) _
  have HOV : Hid (V.ownsRow O.heap.size 35 2 (.slice ao' m.length cap') m.length (ecells m)) := by rw [hV]; exact own_put HO.out (by omega) _ _
  have CR2 := hidM (CR.out V BV)
  clear CR HO D0 D1 D2 B1
  have c1 := E0.1 1 _ rfl
  go_upto_region 3 with fail
  rw [← hV]
  clear hV o0 f2
  go_wp2_with fail
  refine CR2.out.mono ?_
  rintro e w2 ⟨v2, rfl, hr2, b2⟩
  obtain ⟨bo', bcap', rfl⟩ := hr2.row.slice
  have B2 := BV.trans (b2.mono BV.size)
  have F1 := E1.below b2
  have F2 := E2.below b2
  have HR2 : Hid (RunOwn w2 V.heap.size w2.heap.size (.slice bo' l.length bcap') l) := hr2
  have HO2 := hidM (own_below HOV.out b2)
  have HB2 : Hid (∀ b, Value.ownBlock (.slice ao' m.length cap') = some b → b < V.heap.size) := fun b hb => (HOV.out.lt b hb).2
  have hz2 := b2.size
  clear hr2 CR2 E0 E1 E2 b2 BV HOV c1
  have r0 := F1.1 0 _ rfl
  have r1 := F1.1 1 _ rfl
  have g1 := F1.2.1
  have o0 := F2.1 0 _ rfl
  have o1 := F2.1 1 _ rfl
  have g2 := F2.2.1
  go_wp2_with fail
  refine bodyPost_ret (seen_result1 rfl _ _ (w.heap.size + 1) (.slice ao' m.length cap') (.slice bo' l.length bcap') rfl ((((F1.other (by omega) 1 _).set 0 (by simp) _).set 1 (by simp) _))) rfl ⟨_, _, _, _, rfl, ?_, ?_⟩
  · have S0 := SnOwn.mk (base := O.heap.size) (top := w2.heap.size) HO2.out HR2.out (by omega) (Nat.le_refl _) (fun b hb => by have := HB2.out b hb; omega) (fun b hb => .inl (HB2.out b hb))
    obtain ⟨vs, g1, g2⟩ := (S0.same (w' := ((w2.setCell ⟨w.heap.size + 1 + 1, 1, none⟩ (.slice bo' l.length bcap')).setCell ⟨w.heap.size + 1, 0, none⟩ (.slice ao' m.length cap')).setCell ⟨w.heap.size + 1, 1, none⟩ (.slice bo' l.length bcap')) (fun bb h1 h2 => by
      rw [Below.heap_setCell _ _ _ _ (by simp; omega), Below.heap_setCell _ _ _ _ (by simp; omega), Below.heap_setCell _ _ _ _ (by simp; omega)])).wide (base' := w.heap.size) (by omega)
    exact ⟨vs, g1, g2.same (by simp) fun _ _ _ _ => rfl⟩
  · exact (((B2.setCell (by simp; omega) _).setCell (by simp) _).setCell (by simp) _)
end Go.Proofs.Ytocgdbinfmdkcaa
