/- The contracts of SeenPut, of the code and of the specification. -/
import Derived.Test.YtdnlaijpgjpplaaRows
import Derived.Test.YtdnlaijpgjpplaaPutImpl
namespace Go.Proofs.Ytdnlaijpgjpplaa
open Go.RowKit
set_option linter.unusedVariables false
set_option linter.unusedSimpArgs false

/-- A Seen and a truth as results. -/
theorem seen_result2 {fn : Func} {q r : Tmp} (h : fn.results = #[.cell q 27, .tmp r]) (tmps : Array Value) (W : World) (B : Nat) (a b c : Value)
    (hp : tmps[q]?.getD undef = .pointer (some ⟨B, 0, none⟩)) (hr : tmps[r]?.getD undef = c) (ha : BAt W B [a, b]) : (results fn tmps).run Try.prog W = .ok (.tuple #[.agg #[a, b], c]) W := by
  have c0 := ha.1 0 _ rfl
  have c1 := ha.1 1 _ rfl
  simp [results, h, hp, hr, asAddr, go_sem, c0, c1, Addr.add_lit]

theorem put_rz {m : List EV} {ll : List (List EV)} {x : EV} (h : RZ m ll) (hx : x.s.size ≤ 1048576) : RZ (putM m x) (putL m ll x) := fun z hz => by
  rcases put_mem hz with rfl | hz
  · exact hx
  · exact h z hz

theorem put_small {m : List EV} {ll : List (List EV)} {x : EV} (h : sokS m ll = true) : (putM m x).length ≤ 9 ∧ (putL m ll x).length ≤ 7 ∧ ∀ i, i < (putL m ll x).length → ((putL m ll x).getD i []).length ≤ 409 := by
  obtain ⟨h1, h2, h3⟩ := sokS_sz h
  obtain ⟨g1, g2, g3⟩ := put_len (m := m) (ll := ll) (x := x)
  rw [List.length_append] at h3
  exact ⟨by omega, by omega, fun i hi => by have := flat_at hi; omega⟩

set_option maxRecDepth 100000 in
set_option maxHeartbeats 4000000 in
theorem implSeenPut (x : EV) (m : List EV) (ll : List (List EV)) (p q : Value) (w : World) (hm : m.length ≤ 1048576) (hn : ll.length ≤ 1048576) (hf : ∀ i, i < ll.length → (ll.getD i []).length ≤ 1048576) (hz : RZ m ll) (hx : x.s.size ≤ 1048576) (hp : EntRow w p m) (hq : RunRow w q ll) :
    Calls Try.prog 7 #[.agg #[p, q], .string x.s, .int .i64 x.k] w fun e w' => ∃ ao ac bo bc, e = .returned (.tuple #[.agg #[.slice ao (resM m ll x).length ac, .slice bo (resL m ll x).length bc], .bool (putK m ll x)]) ∧ SnOwn w' w.heap.size w'.heap.size (.slice ao (resM m ll x).length ac) (.slice bo (resL m ll x).length bc) (resM m ll x) (resL m ll x) ∧ Below w.heap.size w w' := by
  obtain ⟨O, hO⟩ : ∃ O, O = (w.alloc (.cells #[p, q] 27)).alloc (.cells #[.slice none 0 0, .slice none 0 0] 27) := ⟨_, rfl⟩
  have bO : Below w.heap.size w O := by rw [hO]; exact ((Below.refl _ _).alloc (Nat.le_refl _) _).alloc (by simp) _
  have hzO : w.heap.size + 2 ≤ O.heap.size := by rw [hO]; simp
  have A0 : BAt O w.heap.size [p, q] := by rw [hO]; exact (BAt.new w #[p, q] _).alloc _
  have AR : BAt O (w.heap.size + 1) [.slice none 0 0, .slice none 0 0] := by
    rw [hO]
    have := BAt.new (w.alloc (.cells #[p, q] 27)) #[.slice none 0 0, .slice none 0 0] 27
    rwa [World.size_alloc] at this
  have CK := hidM (implSeenOk m ll p q O hm hn hf (hp.below bO) (hq.below bO))
  have CO : Hid (∀ W, Below w.heap.size w W → Calls Try.prog 23 #[.agg #[p, q]] W fun e w' => ∃ ao ac bo bc, e = .returned (.agg #[.slice ao m.length ac, .slice bo ll.length bc]) ∧ SnOwn w' W.heap.size w'.heap.size (.slice ao m.length ac) (.slice bo ll.length bc) m ll ∧ Below W.heap.size W w') := fun W hW => implOwnSeen m ll p q W hm hn hf hz (hp.below hW) (hq.below hW)
  have CW : Hid (sokS m ll = true → ∀ W, Below w.heap.size w W → Calls Try.prog 22 #[.agg #[p, q], .agg #[.string x.s, .int .i64 x.k]] W fun e w' => ∃ ao ac bo bc, e = .returned (.agg #[.slice ao (putM m x).length ac, .slice bo (putL m ll x).length bc]) ∧ EntRow w' (.slice ao (putM m x).length ac) (putM m x) ∧ RunRow w' (.slice bo (putL m ll x).length bc) (putL m ll x) ∧ Below W.heap.size W w') := fun h W hW => implWithMark x m ll p q W h (hp.below hW) (hq.below hW)
  obtain ⟨pa, pc, rfl⟩ := hp.slice
  obtain ⟨qa, qc, rfl⟩ := hq.slice
  have HA0 : Hid (∀ W, Below O.heap.size O W → BAt W w.heap.size [.slice pa m.length pc, .slice qa ll.length qc]) := fun W hW => A0.below hW
  have c0 := A0.1 0 _ rfl
  have c1 := A0.1 1 _ rfl
  have HRZ := hidM (put_rz (x := x) hz hx)
  clear hp hq hz hf A0
  have no : putK m ll x = false → resM m ll x = m ∧ resL m ll x = ll := fun h => by unfold resM resL; rw [h]; exact ⟨rfl, rfl⟩
  have yes : putK m ll x = true → resM m ll x = putM m x ∧ resL m ll x = putL m ll x := fun h => by unfold resM resL; rw [h]; exact ⟨rfl, rfl⟩
  have HB : Hid (putK m ll x = (sokS m ll && sokS (putM m x) (putL m ll x))) := rfl
  cases hk : sokS m ll with
  | false =>
    have hb : putK m ll x = false := by rw [HB.out, hk]; rfl
    obtain ⟨e1, e2⟩ := no hb
    rw [e1, e2, hb]
    rw [hk] at CK
    clear CW HB no yes e1 e2 hb HRZ
    go_enter Try.func7, Try.ntmps7
    go_upto_region 1 with fail
    rw [← hO]
    clear hO
    go_wp2_with fail
    refine CK.out.mono ?_
    rintro e w1 ⟨rfl, b1⟩
    have d0 := (HA0.out _ b1).1 0 _ rfl
    have d1 := (HA0.out _ b1).1 1 _ rfl
    have B1 := bO.trans (b1.mono bO.size)
    have CO2 := hidM (CO.out _ B1)
    clear CK CO c0 c1
    go_wp2_with fail
    refine CO2.out.mono ?_
    rintro e w2 ⟨ao, ac, bo, bc, rfl, s2, b2⟩
    have BZ := b1.trans (b2.mono b1.size)
    have BW := B1.trans (b2.mono B1.size)
    have S2 := hidM s2
    have hz1 := b1.size
    clear s2 CO2 d0 d1 B1
    have AR2 := AR.below BZ
    have r0 := AR2.1 0 _ rfl
    have r1 := AR2.1 1 _ rfl
    have g1 := AR2.2.1
    have hzz := hzO
    go_wp2_with fail
    refine bodyPost_ret (seen_result2 rfl _ _ (w.heap.size + 1) _ _ _ rfl rfl ((AR2.set 0 (by simp) _).set 1 (by simp) _)) rfl ⟨_, _, _, _, rfl, ?_, ?_⟩
    · obtain ⟨vs, k1, k2⟩ := (S2.out.same (w' := (w2.setCell ⟨w.heap.size + 1, 0, none⟩ (.slice ao m.length ac)).setCell ⟨w.heap.size + 1, 1, none⟩ (.slice bo ll.length bc)) (fun bb h1 h2 => by
        rw [Below.heap_setCell _ _ _ _ (by simp; omega), Below.heap_setCell _ _ _ _ (by simp; omega)])).wide (base' := w.heap.size) (by omega)
      exact ⟨vs, k1, k2.same (by simp) fun _ _ _ _ => rfl⟩
    · exact (BW.setCell (by simp) _).setCell (by simp) _
  | true =>
    rw [hk] at CK
    cases hk2 : sokS (putM m x) (putL m ll x) with
    | false =>
      have hb : putK m ll x = false := by rw [HB.out, hk, hk2]; rfl
      obtain ⟨e1, e2⟩ := no hb
      rw [e1, e2, hb]
      clear HB no yes e1 e2 hb HRZ
      go_enter Try.func7, Try.ntmps7
      go_upto_region 1 with fail
      rw [← hO]
      clear hO
      go_wp2_with fail
      refine CK.out.mono ?_
      rintro e w1 ⟨rfl, b1⟩
      have d0 := (HA0.out _ b1).1 0 _ rfl
      have d1 := (HA0.out _ b1).1 1 _ rfl
      have B1 := bO.trans (b1.mono bO.size)
      have CW2 := hidM (CW.out hk _ B1)
      clear CK CW c0 c1
      go_wp2_with fail
      refine CW2.out.mono ?_
      rintro e w2 ⟨ma, mc, ra, rc, rfl, e2, r2, b2⟩
      have b2O := b1.trans (b2.mono b1.size)
      obtain ⟨U, hU⟩ : ∃ U, U = w2.alloc (.cells #[.slice ma (putM m x).length mc, .slice ra (putL m ll x).length rc] 27) := ⟨_, rfl⟩
      have bU : Below w2.heap.size w2 U := by rw [hU]; exact (Below.refl _ _).alloc (Nat.le_refl _) _
      have AU : BAt U w2.heap.size [.slice ma (putM m x).length mc, .slice ra (putL m ll x).length rc] := by rw [hU]; exact BAt.new w2 #[.slice ma (putM m x).length mc, .slice ra (putL m ll x).length rc] _
      have bUO := b2O.trans (bU.mono b2O.size)
      have EU := hidM (e2.below bU)
      have RU := hidM (r2.below bU)
      obtain ⟨z1, z2, z3⟩ := put_small (x := x) hk
      have CK2 := hidM (implSeenOk (putM m x) (putL m ll x) _ _ U (by omega) (by omega) (fun i hi => by have := z3 i hi; omega) EU.out RU.out)
      have u0 := AU.1 0 _ rfl
      have u1 := AU.1 1 _ rfl
      go_upto_region 3 with fail
      rw [← hU]
      clear hU bU b2 e2 r2 CW2 d0 d1 b2O B1 b1
      generalize w2.heap.size = D2 at *
      rw [hk2] at CK2
      go_wp2_with fail
      refine CK2.out.mono ?_
      rintro e w3 ⟨rfl, b3⟩
      have b3O := bUO.trans (b3.mono bUO.size)
      have B3 := bO.trans (b3O.mono bO.size)
      have d0 := (HA0.out _ b3O).1 0 _ rfl
      have d1 := (HA0.out _ b3O).1 1 _ rfl
      have CO2 := hidM (CO.out _ B3)
      clear CO CK2 u0 u1 EU RU
      go_wp2_with fail
      refine CO2.out.mono ?_
      rintro e w4 ⟨ao, ac, bo, bc, rfl, s2, b4⟩
      have BZ := b3O.trans (b4.mono b3O.size)
      have BW := B3.trans (b4.mono B3.size)
      have S2 := hidM s2
      have hz1 := b3O.size
      clear s2 CO2 d0 d1
      have AR2 := AR.below BZ
      have r0 := AR2.1 0 _ rfl
      have r1 := AR2.1 1 _ rfl
      have g1 := AR2.2.1
      have hzz := hzO
      go_wp2_with fail
      refine bodyPost_ret (seen_result2 rfl _ _ (w.heap.size + 1) _ _ _ rfl rfl ((AR2.set 0 (by simp) _).set 1 (by simp) _)) rfl ⟨_, _, _, _, rfl, ?_, ?_⟩
      · obtain ⟨vs, k1, k2⟩ := (S2.out.same (w' := (w4.setCell ⟨w.heap.size + 1, 0, none⟩ (.slice ao m.length ac)).setCell ⟨w.heap.size + 1, 1, none⟩ (.slice bo ll.length bc)) (fun bb h1 h2 => by
          rw [Below.heap_setCell _ _ _ _ (by simp; omega), Below.heap_setCell _ _ _ _ (by simp; omega)])).wide (base' := w.heap.size) (by omega)
        exact ⟨vs, k1, k2.same (by simp) fun _ _ _ _ => rfl⟩
      · exact (BW.setCell (by simp) _).setCell (by simp) _
    | true =>
      have hb : putK m ll x = true := by rw [HB.out, hk, hk2]; rfl
      obtain ⟨e1, e2⟩ := yes hb
      rw [e1, e2, hb]
      clear HB no yes e1 e2 hb CO
      go_enter Try.func7, Try.ntmps7
      go_upto_region 1 with fail
      rw [← hO]
      clear hO
      go_wp2_with fail
      refine CK.out.mono ?_
      rintro e w1 ⟨rfl, b1⟩
      have d0 := (HA0.out _ b1).1 0 _ rfl
      have d1 := (HA0.out _ b1).1 1 _ rfl
      have B1 := bO.trans (b1.mono bO.size)
      have CW2 := hidM (CW.out hk _ B1)
      clear CK CW c0 c1
      go_wp2_with fail
      refine CW2.out.mono ?_
      rintro e w2 ⟨ma, mc, ra, rc, rfl, e2, r2, b2⟩
      have b2O := b1.trans (b2.mono b1.size)
      obtain ⟨U, hU⟩ : ∃ U, U = w2.alloc (.cells #[.slice ma (putM m x).length mc, .slice ra (putL m ll x).length rc] 27) := ⟨_, rfl⟩
      have bU : Below w2.heap.size w2 U := by rw [hU]; exact (Below.refl _ _).alloc (Nat.le_refl _) _
      have AU : BAt U w2.heap.size [.slice ma (putM m x).length mc, .slice ra (putL m ll x).length rc] := by rw [hU]; exact BAt.new w2 #[.slice ma (putM m x).length mc, .slice ra (putL m ll x).length rc] _
      have bUO := b2O.trans (bU.mono b2O.size)
      have EU := hidM (e2.below bU)
      have RU := hidM (r2.below bU)
      obtain ⟨z1, z2, z3⟩ := put_small (x := x) hk
      have CK2 := hidM (implSeenOk (putM m x) (putL m ll x) _ _ U (by omega) (by omega) (fun i hi => by have := z3 i hi; omega) EU.out RU.out)
      have u0 := AU.1 0 _ rfl
      have u1 := AU.1 1 _ rfl
      go_upto_region 3 with fail
      rw [← hU]
      clear hU bU b2 e2 r2 CW2 d0 d1 b2O B1 b1
      generalize w2.heap.size = D2 at *
      rw [hk2] at CK2
      go_wp2_with fail
      refine CK2.out.mono ?_
      rintro e w3 ⟨rfl, b3⟩
      have b3O := bUO.trans (b3.mono bUO.size)
      have B3 := bO.trans (b3O.mono bO.size)
      have d0 := (AU.below b3).1 0 _ rfl
      have d1 := (AU.below b3).1 1 _ rfl
      have CO2 := hidM (implOwnSeen (putM m x) (putL m ll x) _ _ w3 (by omega) (by omega) (fun i hi => by have := z3 i hi; omega) HRZ.out (EU.out.below b3) (RU.out.below b3))
      clear CK2 u0 u1 EU RU HRZ
      go_wp2_with fail
      refine CO2.out.mono ?_
      rintro e w4 ⟨ao, ac, bo, bc, rfl, s2, b4⟩
      have BZ := b3O.trans (b4.mono b3O.size)
      have BW := B3.trans (b4.mono B3.size)
      have S2 := hidM s2
      have hz1 := b3O.size
      clear s2 CO2 d0 d1
      have AR2 := AR.below BZ
      have r0 := AR2.1 0 _ rfl
      have r1 := AR2.1 1 _ rfl
      have g1 := AR2.2.1
      have hzz := hzO
      go_wp2_with fail
      refine bodyPost_ret (seen_result2 rfl _ _ (w.heap.size + 1) _ _ _ rfl rfl ((AR2.set 0 (by simp) _).set 1 (by simp) _)) rfl ⟨_, _, _, _, rfl, ?_, ?_⟩
      · obtain ⟨vs, k1, k2⟩ := (S2.out.same (w' := (w4.setCell ⟨w.heap.size + 1, 0, none⟩ (.slice ao (putM m x).length ac)).setCell ⟨w.heap.size + 1, 1, none⟩ (.slice bo (putL m ll x).length bc)) (fun bb h1 h2 => by
          rw [Below.heap_setCell _ _ _ _ (by simp; omega), Below.heap_setCell _ _ _ _ (by simp; omega)])).wide (base' := w.heap.size) (by omega)
        exact ⟨vs, k1, k2.same (by simp) fun _ _ _ _ => rfl⟩
      · exact (BW.setCell (by simp) _).setCell (by simp) _
end Go.Proofs.Ytdnlaijpgjpplaa
