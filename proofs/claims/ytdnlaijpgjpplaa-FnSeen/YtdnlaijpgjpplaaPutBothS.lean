/- The contract of the specification's SeenPut. -/
import Derived.Test.YtdnlaijpgjpplaaRows
import Derived.Test.YtdnlaijpgjpplaaPutBoth
namespace Go.Proofs.Ytdnlaijpgjpplaa
open Go.RowKit
set_option linter.unusedVariables false
set_option linter.unusedSimpArgs false

theorem res_done {x : EV} {m : List EV} {ll : List (List EV)} {w w' : World} {e : Ending} {PM : List EV} {PL : List (List EV)} {v5 v6 : Value} {b : Bool} (h1 : resM m ll x = PM) (h2 : resL m ll x = PL) (h3 : putK m ll x = b) (he : e = .returned (.tuple #[.agg #[v5, v6], .bool b])) (hE : EntRow w' v5 PM) (hR : RunRow w' v6 PL) (hB : Below w.heap.size w w') :
    ∃ ao ac bo bc, e = .returned (.tuple #[.agg #[.slice ao (resM m ll x).length ac, .slice bo (resL m ll x).length bc], .bool (putK m ll x)]) ∧ EntRow w' (.slice ao (resM m ll x).length ac) (resM m ll x) ∧ RunRow w' (.slice bo (resL m ll x).length bc) (resL m ll x) ∧ Below w.heap.size w w' := by
  subst h1 h2 h3
  obtain ⟨a, b, rfl⟩ := hE.slice
  obtain ⟨c, d, rfl⟩ := hR.slice
  exact ⟨a, b, c, d, he, hE, hR, hB⟩

set_option maxRecDepth 100000 in
set_option maxHeartbeats 4000000 in
theorem specSeenPut (x : EV) (m : List EV) (ll : List (List EV)) (p q : Value) (w : World) (hm : m.length ≤ 1048576) (hn : ll.length ≤ 1048576) (hf : ∀ i, i < ll.length → (ll.getD i []).length ≤ 1048576) (hx : x.s.size ≤ 1048576) (hp : EntRow w p m) (hq : RunRow w q ll) :
    Calls Try.prog 8 #[.agg #[p, q], .string x.s, .int .i64 x.k] w fun e w' => ∃ ao ac bo bc, e = .returned (.tuple #[.agg #[.slice ao (resM m ll x).length ac, .slice bo (resL m ll x).length bc], .bool (putK m ll x)]) ∧ EntRow w' (.slice ao (resM m ll x).length ac) (resM m ll x) ∧ RunRow w' (.slice bo (resL m ll x).length bc) (resL m ll x) ∧ Below w.heap.size w w' := by
  obtain ⟨O, hO⟩ : ∃ O, O = (w.alloc (.cells #[p, q] 27)).alloc (.cells #[.slice none 0 0, .slice none 0 0] 27) := ⟨_, rfl⟩
  have bO : Below w.heap.size w O := by rw [hO]; exact ((Below.refl _ _).alloc (Nat.le_refl _) _).alloc (by simp) _
  have hzO : w.heap.size + 2 ≤ O.heap.size := by rw [hO]; simp
  have A0 : BAt O w.heap.size [p, q] := by rw [hO]; exact (BAt.new w #[p, q] _).alloc _
  have HR0 : O.heap[w.heap.size + 1]? = some (.cells #[.slice none 0 0, .slice none 0 0] 27 (0, 0)) := by
    rw [hO]
    have := heap_alloc_new (w.alloc (.cells #[p, q] 27)) (.cells #[.slice none 0 0, .slice none 0 0] 27)
    rwa [World.size_alloc] at this
  have CK := hidM (specSeenOk m ll p q O hm hn hf (hp.below bO) (hq.below bO))
  have CO : Hid (∀ W, Below w.heap.size w W → Calls Try.prog 26 #[.agg #[p, q]] W fun e w' => ∃ p' q', e = .returned (.agg #[p', q']) ∧ w'.ownsRow W.heap.size 35 2 p' m.length (ecells m) ∧ RunOwn w' W.heap.size w'.heap.size q' ll ∧ Below W.heap.size W w') := fun W hW => specCopy m ll p q W hm hn hf (hp.below hW) (hq.below hW)
  have CP : Hid (sokS m ll = true → ∀ W, Below w.heap.size w W → Calls Try.prog 27 #[.agg #[p, q], .string x.s, .int .i64 x.k] W fun e w' => ∃ ao ac bo bc, e = .returned (.agg #[.slice ao (putM m x).length ac, .slice bo (putL m ll x).length bc]) ∧ EntRow w' (.slice ao (putM m x).length ac) (putM m x) ∧ RunRow w' (.slice bo (putL m ll x).length bc) (putL m ll x) ∧ Below W.heap.size W w') := fun h W hW => specL15Put x m ll p q W h (hp.below hW) (hq.below hW)
  obtain ⟨pa, pc, rfl⟩ := hp.slice
  obtain ⟨qa, qc, rfl⟩ := hq.slice
  have HA0 : Hid (∀ W, Below O.heap.size O W → BAt W w.heap.size [.slice pa m.length pc, .slice qa ll.length qc]) := fun W hW => A0.below hW
  have c0 := A0.1 0 _ rfl
  have c1 := A0.1 1 _ rfl
  clear hp hq hf A0
  have no : putK m ll x = false → resM m ll x = m ∧ resL m ll x = ll := fun h => by unfold resM resL; rw [h]; exact ⟨rfl, rfl⟩
  have yes : putK m ll x = true → resM m ll x = putM m x ∧ resL m ll x = putL m ll x := fun h => by unfold resM resL; rw [h]; exact ⟨rfl, rfl⟩
  have HB := hidM (putK_spec (m := m) (ll := ll) (x := x))
  have HFull : Hid (sokS m ll = true → ∀ i, i < (putL m ll x).length → 0 < ((putL m ll x).getD i []).length) := fun h => lastR_full (putR_full (sokS_full h))
  obtain ⟨kb, hkb⟩ : ∃ kb, kb = (decide ((1 : Int) ≤ (x.s.size : Int)) && decide ((x.s.size : Int) ≤ 2000)) := ⟨_, rfl⟩
  obtain ⟨sb, hsb⟩ : ∃ sb, sb = (decide ((1 : Int) ≤ x.k) && decide (x.k ≤ 3)) := ⟨_, rfl⟩
  have CI1 : Hid (∀ W, Calls Try.prog 25 #[.int .i64 (x.s.size : Int), .int .i64 1, .int .i64 2000] W fun e w' => e = .returned (.bool kb) ∧ Below W.heap.size W w') := fun W => by rw [hkb]; exact specIn15 _ _ _ W
  have CI2 : Hid (∀ W, Calls Try.prog 25 #[.int .i64 x.k, .int .i64 1, .int .i64 3] W fun e w' => e = .returned (.bool sb) ∧ Below W.heap.size W w') := fun W => by rw [hsb]; exact specIn15 _ _ _ W
  have HM : Hid (sokM x = (kb && sb)) := hidM (by
    unfold sokM
    rw [hkb, hsb]
    congr 1
    congr 1
    · exact decide_eq_decide.2 (by omega)
    · exact decide_eq_decide.2 (by omega))
  clear hkb hsb
  cases hk : sokS m ll with
  | false =>
    have HBF : Hid (putK m ll x = false) := hidM (by rw [HB.out, hk]; rfl)
    rw [hk] at CK
    go_enter Try.func8, Try.ntmps8
    go_upto_region 1 with fail
    rw [← hO]
    clear hO
    go_wp2_with fail
    refine CK.out.mono ?_
    rintro e w1 ⟨rfl, b1⟩
    clear CK c0 c1
    have BX := b1
    have d0 := (HA0.out _ BX).1 0 _ rfl
    have d1 := (HA0.out _ BX).1 1 _ rfl
    have BY := BX
    have CO2 := hidM (CO.out _ (bO.trans (BY.mono bO.size)))
    clear CO
    go_wp2_with fail
    refine CO2.out.mono ?_
    rintro e w4 ⟨p4, q4, rfl, o4, r4, b4⟩
    have B4 := BY.trans (b4.mono BY.size)
    obtain ⟨vs4, n4, e4⟩ := r4.els
    obtain ⟨ma, mc, hme⟩ := (EntRow.of_own' o4).slice
    obtain ⟨ra, rc, hre⟩ := (e4.row n4).slice
    subst hme hre
    have HRz := (B4.block (w.heap.size + 1) (by omega)).trans HR0
    obtain ⟨hsZ, AZ⟩ := two_set (.slice ma m.length mc) (.slice ra ll.length rc) HRz
    have r0 : w4.cell? ⟨w.heap.size + 1, 0, none⟩ = some (.slice none 0 0) := by rw [cell_of_row w4 _ _ _ _ (0, 0) HRz]; rfl
    have r1 : w4.cell? ⟨w.heap.size + 1, 1, none⟩ = some (.slice none 0 0) := by rw [cell_of_row w4 _ _ _ _ (0, 0) HRz]; rfl
    have f0 : w4.frozen? ⟨w.heap.size + 1, 0, none⟩ = false := frozen_of_row _ _ _ _ _ HRz
    have f1 : w4.frozen? ⟨w.heap.size + 1, 1, none⟩ = false := frozen_of_row _ _ _ _ _ HRz
    have OF := hidM (own_far o4 HRz (by decide) hsZ)
    have NF := hidM (own_far n4 HRz (by decide) hsZ)
    have EF := hidM (e4.far HRz (by decide) hsZ)
    have BF : Below w.heap.size w ((w4.setCell ⟨w.heap.size + 1, 0, none⟩ (.slice ma m.length mc)).setCell ⟨w.heap.size + 1, 1, none⟩ (.slice ra ll.length rc)) := ((bO.trans (B4.mono bO.size)).setCell (by simp) _).setCell (by simp) _
    clear hsZ CO2 o4 n4 e4 r4 b4
    go_wp2_with fail
    refine bodyPost_ret (seen_result2 rfl _ _ (w.heap.size + 1) _ _ _ rfl rfl AZ) rfl ?_
    exact res_done (no HBF.out).1 (no HBF.out).2 HBF.out rfl (EntRow.of_own' OF.out) (EF.out.row NF.out) BF
  | true =>
    rw [hk] at CK
    cases kb with
    | false =>
      have HBF : Hid (putK m ll x = false) := hidM (by rw [HB.out, HM.out, hk]; rfl)
      go_enter Try.func8, Try.ntmps8
      go_upto_region 1 with fail
      rw [← hO]
      clear hO
      go_wp2_with fail
      refine CK.out.mono ?_
      rintro e w1 ⟨rfl, b1⟩
      clear CK c0 c1
      go_wp2_with fail
      refine (CI1.out _).mono ?_
      rintro e w2 ⟨rfl, b2⟩
      have b2O := b1.trans (b2.mono b1.size)
      have BX := b2O
      have d0 := (HA0.out _ BX).1 0 _ rfl
      have d1 := (HA0.out _ BX).1 1 _ rfl
      have BY := BX
      have CO2 := hidM (CO.out _ (bO.trans (BY.mono bO.size)))
      clear CO
      go_wp2_with fail
      refine CO2.out.mono ?_
      rintro e w4 ⟨p4, q4, rfl, o4, r4, b4⟩
      have B4 := BY.trans (b4.mono BY.size)
      obtain ⟨vs4, n4, e4⟩ := r4.els
      obtain ⟨ma, mc, hme⟩ := (EntRow.of_own' o4).slice
      obtain ⟨ra, rc, hre⟩ := (e4.row n4).slice
      subst hme hre
      have HRz := (B4.block (w.heap.size + 1) (by omega)).trans HR0
      obtain ⟨hsZ, AZ⟩ := two_set (.slice ma m.length mc) (.slice ra ll.length rc) HRz
      have r0 : w4.cell? ⟨w.heap.size + 1, 0, none⟩ = some (.slice none 0 0) := by rw [cell_of_row w4 _ _ _ _ (0, 0) HRz]; rfl
      have r1 : w4.cell? ⟨w.heap.size + 1, 1, none⟩ = some (.slice none 0 0) := by rw [cell_of_row w4 _ _ _ _ (0, 0) HRz]; rfl
      have f0 : w4.frozen? ⟨w.heap.size + 1, 0, none⟩ = false := frozen_of_row _ _ _ _ _ HRz
      have f1 : w4.frozen? ⟨w.heap.size + 1, 1, none⟩ = false := frozen_of_row _ _ _ _ _ HRz
      have OF := hidM (own_far o4 HRz (by decide) hsZ)
      have NF := hidM (own_far n4 HRz (by decide) hsZ)
      have EF := hidM (e4.far HRz (by decide) hsZ)
      have BF : Below w.heap.size w ((w4.setCell ⟨w.heap.size + 1, 0, none⟩ (.slice ma m.length mc)).setCell ⟨w.heap.size + 1, 1, none⟩ (.slice ra ll.length rc)) := ((bO.trans (B4.mono bO.size)).setCell (by simp) _).setCell (by simp) _
      clear hsZ CO2 o4 n4 e4 r4 b4
      go_wp2_with fail
      refine bodyPost_ret (seen_result2 rfl _ _ (w.heap.size + 1) _ _ _ rfl rfl AZ) rfl ?_
      exact res_done (no HBF.out).1 (no HBF.out).2 HBF.out rfl (EntRow.of_own' OF.out) (EF.out.row NF.out) BF
    | true =>
      cases sb with
      | false =>
        have HBF : Hid (putK m ll x = false) := hidM (by rw [HB.out, HM.out, hk]; rfl)
        go_enter Try.func8, Try.ntmps8
        go_upto_region 1 with fail
        rw [← hO]
        clear hO
        go_wp2_with fail
        refine CK.out.mono ?_
        rintro e w1 ⟨rfl, b1⟩
        clear CK c0 c1
        go_wp2_with fail
        refine (CI1.out _).mono ?_
        rintro e w2 ⟨rfl, b2⟩
        have b2O := b1.trans (b2.mono b1.size)
        go_wp2_with fail
        refine (CI2.out _).mono ?_
        rintro e w3 ⟨rfl, b3⟩
        have b3O := b2O.trans (b3.mono b2O.size)
        have BX := b3O
        have d0 := (HA0.out _ BX).1 0 _ rfl
        have d1 := (HA0.out _ BX).1 1 _ rfl
        have BY := BX
        have CO2 := hidM (CO.out _ (bO.trans (BY.mono bO.size)))
        clear CO
        go_wp2_with fail
        refine CO2.out.mono ?_
        rintro e w4 ⟨p4, q4, rfl, o4, r4, b4⟩
        have B4 := BY.trans (b4.mono BY.size)
        obtain ⟨vs4, n4, e4⟩ := r4.els
        obtain ⟨ma, mc, hme⟩ := (EntRow.of_own' o4).slice
        obtain ⟨ra, rc, hre⟩ := (e4.row n4).slice
        subst hme hre
        have HRz := (B4.block (w.heap.size + 1) (by omega)).trans HR0
        obtain ⟨hsZ, AZ⟩ := two_set (.slice ma m.length mc) (.slice ra ll.length rc) HRz
        have r0 : w4.cell? ⟨w.heap.size + 1, 0, none⟩ = some (.slice none 0 0) := by rw [cell_of_row w4 _ _ _ _ (0, 0) HRz]; rfl
        have r1 : w4.cell? ⟨w.heap.size + 1, 1, none⟩ = some (.slice none 0 0) := by rw [cell_of_row w4 _ _ _ _ (0, 0) HRz]; rfl
        have f0 : w4.frozen? ⟨w.heap.size + 1, 0, none⟩ = false := frozen_of_row _ _ _ _ _ HRz
        have f1 : w4.frozen? ⟨w.heap.size + 1, 1, none⟩ = false := frozen_of_row _ _ _ _ _ HRz
        have OF := hidM (own_far o4 HRz (by decide) hsZ)
        have NF := hidM (own_far n4 HRz (by decide) hsZ)
        have EF := hidM (e4.far HRz (by decide) hsZ)
        have BF : Below w.heap.size w ((w4.setCell ⟨w.heap.size + 1, 0, none⟩ (.slice ma m.length mc)).setCell ⟨w.heap.size + 1, 1, none⟩ (.slice ra ll.length rc)) := ((bO.trans (B4.mono bO.size)).setCell (by simp) _).setCell (by simp) _
        clear hsZ CO2 o4 n4 e4 r4 b4
        go_wp2_with fail
        refine bodyPost_ret (seen_result2 rfl _ _ (w.heap.size + 1) _ _ _ rfl rfl AZ) rfl ?_
        exact res_done (no HBF.out).1 (no HBF.out).2 HBF.out rfl (EntRow.of_own' OF.out) (EF.out.row NF.out) BF
      | true =>
        go_enter Try.func8, Try.ntmps8
        go_upto_region 1 with fail
        rw [← hO]
        clear hO
        go_wp2_with fail
        refine CK.out.mono ?_
        rintro e w1 ⟨rfl, b1⟩
        clear CK c0 c1
        go_wp2_with fail
        refine (CI1.out _).mono ?_
        rintro e w2 ⟨rfl, b2⟩
        have b2O := b1.trans (b2.mono b1.size)
        go_wp2_with fail
        refine (CI2.out _).mono ?_
        rintro e w3 ⟨rfl, b3⟩
        have b3O := b2O.trans (b3.mono b2O.size)
        have d0 := (HA0.out _ b3O).1 0 _ rfl
        have d1 := (HA0.out _ b3O).1 1 _ rfl
        have CP2 := hidM (CP.out hk _ (bO.trans (b3O.mono bO.size)))
        clear CP CI1 CI2
        go_wp2_with fail
        refine CP2.out.mono ?_
        rintro e w5 ⟨ma, mc, ra, rc, rfl, e5, r5, b5⟩
        have b5O := b3O.trans (b5.mono b3O.size)
        obtain ⟨U, hU⟩ : ∃ U, U = w5.alloc (.cells #[.slice ma (putM m x).length mc, .slice ra (putL m ll x).length rc] 27) := ⟨_, rfl⟩
        have bU : Below w5.heap.size w5 U := by rw [hU]; exact (Below.refl _ _).alloc (Nat.le_refl _) _
        have AU : BAt U w5.heap.size [.slice ma (putM m x).length mc, .slice ra (putL m ll x).length rc] := by rw [hU]; exact BAt.new w5 #[.slice ma (putM m x).length mc, .slice ra (putL m ll x).length rc] _
        have bUO := b5O.trans (bU.mono b5O.size)
        have EU := hidM (e5.below bU)
        have RU := hidM (r5.below bU)
        obtain ⟨z1, z2, z3⟩ := put_small (x := x) hk
        have CK2 := hidM (specSeenOk (putM m x) (putL m ll x) _ _ U (by omega) (by omega) (fun i hi => by have := z3 i hi; omega) EU.out RU.out)
        have u0 := AU.1 0 _ rfl
        have u1 := AU.1 1 _ rfl
        go_upto_region 4 with fail
        rw [← hU]
        clear hU bU b5 e5 r5 CP2 d0 d1 b5O b1 b2 b3 b2O b3O
        generalize w5.heap.size = D2 at *
        cases hk2 : sokS (putM m x) (putL m ll x) with
        | false =>
          have HBF : Hid (putK m ll x = false) := hidM (by rw [HB.out, hk2, Bool.and_false])
          rw [hk2] at CK2
          go_wp2_with fail
          refine CK2.out.mono ?_
          rintro e w6 ⟨rfl, b6⟩
          have BX := bUO.trans (b6.mono bUO.size)
          clear CK2 u0 u1 EU RU AU
          have d0 := (HA0.out _ BX).1 0 _ rfl
          have d1 := (HA0.out _ BX).1 1 _ rfl
          have BY := BX
          have CO2 := hidM (CO.out _ (bO.trans (BY.mono bO.size)))
          clear CO
          go_wp2_with fail
          refine CO2.out.mono ?_
          rintro e w4 ⟨p4, q4, rfl, o4, r4, b4⟩
          have B4 := BY.trans (b4.mono BY.size)
          obtain ⟨vs4, n4, e4⟩ := r4.els
          obtain ⟨ma, mc, hme⟩ := (EntRow.of_own' o4).slice
          obtain ⟨ra, rc, hre⟩ := (e4.row n4).slice
          subst hme hre
          have HRz := (B4.block (w.heap.size + 1) (by omega)).trans HR0
          obtain ⟨hsZ, AZ⟩ := two_set (.slice ma m.length mc) (.slice ra ll.length rc) HRz
          have r0 : w4.cell? ⟨w.heap.size + 1, 0, none⟩ = some (.slice none 0 0) := by rw [cell_of_row w4 _ _ _ _ (0, 0) HRz]; rfl
          have r1 : w4.cell? ⟨w.heap.size + 1, 1, none⟩ = some (.slice none 0 0) := by rw [cell_of_row w4 _ _ _ _ (0, 0) HRz]; rfl
          have f0 : w4.frozen? ⟨w.heap.size + 1, 0, none⟩ = false := frozen_of_row _ _ _ _ _ HRz
          have f1 : w4.frozen? ⟨w.heap.size + 1, 1, none⟩ = false := frozen_of_row _ _ _ _ _ HRz
          have OF := hidM (own_far o4 HRz (by decide) hsZ)
          have NF := hidM (own_far n4 HRz (by decide) hsZ)
          have EF := hidM (e4.far HRz (by decide) hsZ)
          have BF : Below w.heap.size w ((w4.setCell ⟨w.heap.size + 1, 0, none⟩ (.slice ma m.length mc)).setCell ⟨w.heap.size + 1, 1, none⟩ (.slice ra ll.length rc)) := ((bO.trans (B4.mono bO.size)).setCell (by simp) _).setCell (by simp) _
          clear hsZ CO2 o4 n4 e4 r4 b4
          go_wp2_with fail
          refine bodyPost_ret (seen_result2 rfl _ _ (w.heap.size + 1) _ _ _ rfl rfl AZ) rfl ?_
          exact res_done (no HBF.out).1 (no HBF.out).2 HBF.out rfl (EntRow.of_own' OF.out) (EF.out.row NF.out) BF
        | true =>
          have HBT : Hid (putK m ll x = true) := hidM (by rw [HB.out, HM.out, hk, hk2]; rfl)
          rw [hk2] at CK2
          go_wp2_with fail
          refine CK2.out.mono ?_
          rintro e w6 ⟨rfl, b6⟩
          have BX := bUO.trans (b6.mono bUO.size)
          have d0 := (AU.below b6).1 0 _ rfl
          have d1 := (AU.below b6).1 1 _ rfl
          have E6 := EU.out.below b6
          have R6 := RU.out.below b6
          have HRz := (BX.block (w.heap.size + 1) (by omega)).trans HR0
          obtain ⟨hsZ, AZ⟩ := two_set (.slice ma (putM m x).length mc) (.slice ra (putL m ll x).length rc) HRz
          have r0 : w6.cell? ⟨w.heap.size + 1, 0, none⟩ = some (.slice none 0 0) := by rw [cell_of_row w6 _ _ _ _ (0, 0) HRz]; rfl
          have r1 : w6.cell? ⟨w.heap.size + 1, 1, none⟩ = some (.slice none 0 0) := by rw [cell_of_row w6 _ _ _ _ (0, 0) HRz]; rfl
          have f0 : w6.frozen? ⟨w.heap.size + 1, 0, none⟩ = false := frozen_of_row _ _ _ _ _ HRz
          have f1 : w6.frozen? ⟨w.heap.size + 1, 1, none⟩ = false := frozen_of_row _ _ _ _ _ HRz
          have EF := hidM (EntRow.off E6 HRz (by simp) hsZ)
          have RF := hidM (RunRow.off R6 (HFull.out hk) HRz (by simp) hsZ)
          have BF : Below w.heap.size w ((w6.setCell ⟨w.heap.size + 1, 0, none⟩ (.slice ma (putM m x).length mc)).setCell ⟨w.heap.size + 1, 1, none⟩ (.slice ra (putL m ll x).length rc)) := ((bO.trans (BX.mono bO.size)).setCell (by simp) _).setCell (by simp) _
          clear hsZ CK2 u0 u1 EU RU AU E6 R6
          go_wp2_with fail
          refine bodyPost_ret (seen_result2 rfl _ _ (w.heap.size + 1) _ _ _ rfl rfl AZ) rfl ?_
          exact res_done (yes HBT.out).1 (yes HBT.out).2 HBT.out rfl EF.out RF.out BF
end Go.Proofs.Ytdnlaijpgjpplaa
