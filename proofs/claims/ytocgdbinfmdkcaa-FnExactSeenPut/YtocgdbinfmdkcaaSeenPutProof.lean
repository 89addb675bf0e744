/- Proved: laws.FnExactSeenPut answers true at every argument and leaves it as it was; no condition. -/
import Derived.Test.YtocgdbinfmdkcaaRows
import Derived.Test.YtocgdbinfmdkcaaPackG
import Derived.Test.YtocgdbinfmdkcaaPackH
import Derived.ProofKit
import Derived.OpenShut
import Derived.ShutString
import Derived.ChangeOld
import Derived.Below
namespace Go.Proofs.Ytocgdbinfmdkcaa.fnExactSeenPut
open Go.ChangeShapes Go.WideShapes Go.ChangeAt Go.RowKit
open Go.ChangeMaps (open_string shut_string)
set_option linter.unusedVariables false

theorem own : ownKnob Try.prog.godebug = none := by kernel_rfl
theorem laidOut : laidOutB Try.prog = true := by kernel_rfl

set_option maxRecDepth 100000 in
set_option maxHeartbeats 8000000 in
theorem walk (p0 q0 : Value) (l0 : List EV) (r0 : List (List EV)) (a1 : ByteArray) (a2 : Int) (w : World) (w0 : EntRow w p0 l0 ∧ RunRow w q0 r0) (m0 : EMx l0 ∧ RMx r0) (w1 : a1.size ≤ maxLen) (w2 : (Lit.int .i64 a2).wf = true) :
    Calls Try.prog 6 #[.agg #[p0, q0], .string a1, .int .i64 a2] w fun e w' => e = .returned (.bool true) ∧ Below w.heap.size w w' := by
  clear w1 w2
  by_cases hbk : 1048576 < (a1.size : Int)
  · clear w0 m0
    go_enter Try.func6, Try.ntmps6
    go_wp2_with fail
    go_ret
    exact ⟨rfl, (Below.refl _ _).alloc (Nat.le_refl _) _⟩
  · have hsz : a1.size ≤ 1048576 := by omega
    have HM := hidM m0
    have HW := hidM w0
    obtain ⟨pa, pc, hp0⟩ := w0.1.slice
    obtain ⟨qa, qc, hq0⟩ := w0.2.slice
    clear m0 w0
    have CZ : Hid (∀ W, Below w.heap.size w W → Calls Try.prog 19 #[.agg #[p0, q0], .int .i64 1048576] W fun e w' => e = .returned (.int .i64 (leftZ 1048576 (sumEn l0 + sumR r0))) ∧ Below W.heap.size W w') := fun W hW => szSeen l0 r0 p0 q0 1048576 W (by omega) (by omega) HM.out.1 HM.out.2 (HW.out.1.below hW) (HW.out.2.below hW)
    subst hp0 hq0
    have HZ := leftZ_le (left := 1048576) (n := sumEn l0 + sumR r0) (by decide)
    have HZS := hidM (seen_sz (m := l0) (ll := r0))
    have HPZ := hidM (res_sz (m := l0) (ll := r0) ⟨a2, a1⟩)
    have HRZ := hidM (seen_rz (m := l0) (ll := r0))
    generalize leftZ 1048576 (sumEn l0 + sumR r0) = z at CZ HZ
    obtain ⟨hz1, hz2, hz3⟩ := HZ
    have HZ3 : Hid (0 ≤ z → ((sumEn l0 + sumR r0 : Nat) : Int) ≤ 1048576) := hz3
    clear hz3
    obtain ⟨O, hO⟩ : ∃ O, O = w.alloc (.cells #[.slice pa l0.length pc, .slice qa r0.length qc] 44) := ⟨_, rfl⟩
    have bO : Below w.heap.size w O := by rw [hO]; exact (Below.refl _ _).alloc (Nat.le_refl _) _
    have AO : BAt O w.heap.size [.slice pa l0.length pc, .slice qa r0.length qc] := by rw [hO]; exact BAt.new w #[.slice pa l0.length pc, .slice qa r0.length qc] _
    go_enter Try.func6, Try.ntmps6
    go_upto_region 1 with fail
    rw [← hO]
    clear hO
    have c0 := AO.1 0 _ rfl
    have c0' := AO.1 1 _ rfl
    go_wp2_with fail
    refine (CZ.out _ bO).mono ?_
    rintro e wa ⟨rfl, ba⟩
    by_cases hneg : z < 0
    · go_wp2_with fail
      go_ret
      exact ⟨rfl, bO.trans (ba.mono bO.size)⟩
    · have HSU : Hid (sumEn l0 + sumR r0 ≤ 1048576) := hidM (by have := HZ3.out (by omega); omega)
      obtain ⟨hl1, hl2, hl3⟩ := HZS.out HSU.out
      obtain ⟨hq1, hq2, hq3, hq4, hq5⟩ := HPZ.out HSU.out
      have HRZ2 : Hid (RZ l0 r0) := hidM (HRZ.out HSU.out)
      have HQ3 := hidM hq3
      clear hq3 HPZ HRZ
      have HL3 := hidM hl3
      have HSM : Hid (RSm r0) := fun i hi => by have := HL3.out i hi; omega
      clear hl3
      have HA : Hid (∀ W, Below O.heap.size O W → EntRow W (.slice pa l0.length pc) l0 ∧ RunRow W (.slice qa r0.length qc) r0) := fun W hb => ⟨HW.out.1.below (bO.trans (hb.mono bO.size)), HW.out.2.below (bO.trans (hb.mono bO.size))⟩
      have CT : Hid (∀ W, Below O.heap.size O W → Calls Try.prog 21 #[.agg #[.slice pa l0.length pc, .slice qa r0.length qc]] W fun e w' => ∃ ao ac bo bc, e = .returned (.agg #[.slice ao l0.length ac, .slice bo r0.length bc]) ∧ SnOwn w' W.heap.size w'.heap.size (.slice ao l0.length ac) (.slice bo r0.length bc) l0 r0 ∧ Below W.heap.size W w') := fun W hb => toSeen l0 r0 _ _ W (by omega) (by omega) HSM.out (HA.out W hb).1 (HA.out W hb).2
      have c1 := (AO.below ba).1 0 _ rfl
      have c1' := (AO.below ba).1 1 _ rfl
      clear CZ HZ3 c0 c0'
      have CS : Hid (∀ W p q, EntRow W p l0 → RunRow W q r0 → Calls Try.prog 11 #[.agg #[p, q], .string a1, .int .i64 a2] W fun e w' => ∃ ao ac bo bc, e = .returned (.tuple #[.agg #[.slice ao (resM l0 r0 ⟨a2, a1⟩).length ac, .slice bo (resL l0 r0 ⟨a2, a1⟩).length bc], .bool (putK l0 r0 ⟨a2, a1⟩)]) ∧ EntRow w' (.slice ao (resM l0 r0 ⟨a2, a1⟩).length ac) (resM l0 r0 ⟨a2, a1⟩) ∧ RunRow w' (.slice bo (resL l0 r0 ⟨a2, a1⟩).length bc) (resL l0 r0 ⟨a2, a1⟩) ∧ Below W.heap.size W w') := fun W p q h1 h2 => specSeenPut ⟨a2, a1⟩ l0 r0 p q W hl1 hl2 HL3.out hsz h1 h2
      have CI : Hid (∀ W p q, EntRow W p l0 → RunRow W q r0 → Calls Try.prog 10 #[.agg #[p, q], .string a1, .int .i64 a2] W fun e w' => ∃ ao ac bo bc, e = .returned (.tuple #[.agg #[.slice ao (resM l0 r0 ⟨a2, a1⟩).length ac, .slice bo (resL l0 r0 ⟨a2, a1⟩).length bc], .bool (putK l0 r0 ⟨a2, a1⟩)]) ∧ SnOwn w' W.heap.size w'.heap.size (.slice ao (resM l0 r0 ⟨a2, a1⟩).length ac) (.slice bo (resL l0 r0 ⟨a2, a1⟩).length bc) (resM l0 r0 ⟨a2, a1⟩) (resL l0 r0 ⟨a2, a1⟩) ∧ Below W.heap.size W w') := fun W p q h1 h2 => implSeenPut ⟨a2, a1⟩ l0 r0 p q W hl1 hl2 HL3.out HRZ2.out hsz h1 h2
      have CE : Hid (∀ W p q p' q', EntRow W p (resM l0 r0 ⟨a2, a1⟩) → RunRow W q (resL l0 r0 ⟨a2, a1⟩) → EntRow W p' (resM l0 r0 ⟨a2, a1⟩) → RunRow W q' (resL l0 r0 ⟨a2, a1⟩) → Calls Try.prog 22 #[.agg #[p, q], .agg #[p', q']] W fun e w' => e = .returned (.bool true) ∧ Below W.heap.size W w') := fun W p q p' q' h1 h2 h3 h4 => eqSeen _ _ p q p' q' W (by omega) (by omega) (fun i hi => by have := HQ3.out i hi; omega) h1 h2 h3 h4
      have CX : Hid (∀ W p q p' q', EntRow W p l0 → RunRow W q r0 → EntRow W p' l0 → RunRow W q' r0 → Calls Try.prog 22 #[.agg #[p, q], .agg #[p', q']] W fun e w' => e = .returned (.bool true) ∧ Below W.heap.size W w') := fun W p q p' q' h1 h2 h3 h4 => eqSeen l0 r0 p q p' q' W (by omega) (by omega) (fun i hi => by have := HL3.out i hi; omega) h1 h2 h3 h4
      obtain ⟨yx, hyx⟩ : ∃ y : Int, ((kS l0 r0 : Nat) : Int) = y := ⟨_, rfl⟩
      obtain ⟨yg, hyg⟩ : ∃ y : Int, ((kS (resM l0 r0 ⟨a2, a1⟩) (resL l0 r0 ⟨a2, a1⟩) : Nat) : Int) = y := ⟨_, rfl⟩
      have hyx0 : ¬ yx < 0 := by omega
      have hyg0 : ¬ yg < 0 := by omega
      have hygg : (yg != yg) = false := by simp
      have CMX : Hid (∀ W p q base top, top ≤ W.heap.size → SnOwn W base top p q l0 r0 → Calls Try.prog 23 #[.agg #[p, q], .int .i64 1] W fun e w' => e = .returned (.int .i64 yx) ∧ SnOwn w' base top p q (mkEL 1 l0.length) (markR (1 + 2 * l0.length) r0) ∧ Only base top W w') := fun W p q base top ht h => by rw [← hyx]; exact markSeen l0 r0 p q base top W hl2 hq4 ht h
      have CMG : Hid (∀ W p q base top, top ≤ W.heap.size → SnOwn W base top p q (resM l0 r0 ⟨a2, a1⟩) (resL l0 r0 ⟨a2, a1⟩) → Calls Try.prog 23 #[.agg #[p, q], .int .i64 1] W fun e w' => e = .returned (.int .i64 yg) ∧ SnOwn w' base top p q (mkEL 1 (resM l0 r0 ⟨a2, a1⟩).length) (markR (1 + 2 * (resM l0 r0 ⟨a2, a1⟩).length) (resL l0 r0 ⟨a2, a1⟩)) ∧ Only base top W w') := fun W p q base top ht h => by rw [← hyg]; exact markSeen _ _ p q base top W hq2 hq5 ht h
      have CHG : Hid (∀ W p q base top, SnOwn W base top p q (mkEL 1 (resM l0 r0 ⟨a2, a1⟩).length) (markR (1 + 2 * (resM l0 r0 ⟨a2, a1⟩).length) (resL l0 r0 ⟨a2, a1⟩)) → Calls Try.prog 24 #[.agg #[p, q], .int .i64 1] W fun e w' => e = .returned (.int .i64 yg) ∧ Below W.heap.size W w') := fun W p q base top h => by rw [← hyg]; exact heldSeen _ _ p q W hq2 hq5 (EntRow.of_own' h.mem) h.runs.row
      clear hyx hyg HQ3 HSM HRZ2 HSU HZS hq1 hq2 hq4 hq5
      generalize mkEL 1 (resM l0 r0 ⟨a2, a1⟩).length = GM at *
      generalize markR (1 + 2 * (resM l0 r0 ⟨a2, a1⟩).length) (resL l0 r0 ⟨a2, a1⟩) = GL at *
      generalize mkEL 1 l0.length = XM at *
      generalize markR (1 + 2 * l0.length) r0 = XL at *
      generalize putK l0 r0 ⟨a2, a1⟩ = PB at *
      have hPB : (PB != PB) = false := by simp
      generalize resM l0 r0 ⟨a2, a1⟩ = PM at *
      generalize resL l0 r0 ⟨a2, a1⟩ = PL at *
      go_wp2_with fail
      refine (CT.out _ ba).mono ?_
      rintro e wb ⟨bo, bc, b1, b2, rfl, rb, bb⟩
      have B1 := ba.trans (bb.mono ba.size)
      have CS2 := hidM (CS.out wb _ _ (EntRow.of_own' rb.mem) rb.runs.row)
      clear rb bb ba c1 c1' CS
      go_wp2_with fail
      refine CS2.out.mono ?_
      rintro e wc ⟨co, cc, d1, d2, rfl, r1, r2, bcc⟩
      have B2 := B1.trans (bcc.mono B1.size)
      clear CS2
      go_upto_region 8 with fail
      obtain ⟨U, hU⟩ : ∃ U, U = wc.alloc (.cells #[.slice co PM.length cc, .slice d1 PL.length d2] 27) := ⟨_, rfl⟩
      have bU : Below wc.heap.size wc U := by rw [hU]; exact (Below.refl _ _).alloc (Nat.le_refl _) _
      have AU : BAt U wc.heap.size [.slice co PM.length cc, .slice d1 PL.length d2] := by rw [hU]; exact BAt.new wc #[.slice co PM.length cc, .slice d1 PL.length d2] _
      have B3 := B2.trans (bU.mono B2.size)
      have HR1 : Hid (∀ W, Below U.heap.size U W → EntRow W (.slice co PM.length cc) PM ∧ RunRow W (.slice d1 PL.length d2) PL) := fun W hW => ⟨(r1.below bU).below hW, (r2.below bU).below hW⟩
      have HBO : Hid (∀ W, Below U.heap.size U W → Below O.heap.size O W) := fun W hW => B3.trans (hW.mono B3.size)
      rw [← hU]
      clear hU bU B1 B2 bcc r1 r2
      have c2 := (AO.below B3).1 0 _ rfl
      have c2' := (AO.below B3).1 1 _ rfl
      go_wp2_with fail
      refine (CT.out _ B3).mono ?_
      rintro e wd ⟨po, pk, qo, qk, rfl, rd, bd⟩
      have RD := hidM rd
      clear rd c2 c2'
      go_upto_region 9 with fail
      obtain ⟨U2, hU2⟩ : ∃ U2, U2 = wd.alloc (.cells #[.slice po l0.length pk, .slice qo r0.length qk] 27) := ⟨_, rfl⟩
      have bU2 : Below wd.heap.size wd U2 := by rw [hU2]; exact (Below.refl _ _).alloc (Nat.le_refl _) _
      have AU2 : BAt U2 wd.heap.size [.slice po l0.length pk, .slice qo r0.length qk] := by rw [hU2]; exact BAt.new wd #[.slice po l0.length pk, .slice qo r0.length qk] _
      have HU2 := hidM hU2
      have CI2 := hidM (CI.out U2 _ _ ((EntRow.of_own' RD.out.mem).below bU2) (RD.out.runs.row.below bU2))
      rw [← hU2]
      clear hU2 bU2
      have e0 := AU2.1 0 _ rfl
      have e0' := AU2.1 1 _ rfl
      go_wp2_with fail
      refine CI2.out.mono ?_
      rintro e we ⟨go, gk, ho, hk, rfl, rg, be⟩
      have RG := hidM rg
      clear rg CI2 e0 e0' AU2
      go_upto_region 10 with fail
      obtain ⟨U3, hU3⟩ : ∃ U3, U3 = we.alloc (.cells #[.slice go PM.length gk, .slice ho PL.length hk] 27) := ⟨_, rfl⟩
      have ST := hidM (PrSt.new RD.out bd HU2.out RG.out be hU3)
      rw [← hU3]
      clear hU3 RD RG HU2 bd be
      generalize we.heap.size = D3 at *
      generalize U2.heap.size = B3' at *
      generalize wd.heap.size = D2 at *
      have x0 := ST.out.a3.1 0 _ rfl
      have x1 := ST.out.a3.1 1 _ rfl
      have x2 := (AU.below ST.out.b).1 0 _ rfl
      have x3 := (AU.below ST.out.b).1 1 _ rfl
      go_wp2_with fail
      refine (CE.out _ _ _ _ _ (EntRow.of_own' ST.out.g.mem) ST.out.g.runs.row (HR1.out _ ST.out.b).1 (HR1.out _ ST.out.b).2).mono ?_
      rintro e w4 ⟨rfl, b4⟩
      have S4 := hidM (ST.out.below b4)
      clear ST b4 x0 x1 x2 x3
      have B5 := HBO.out _ S4.out.b
      have c3 := (AO.below B5).1 0 _ rfl
      have c3' := (AO.below B5).1 1 _ rfl
      have e1 := S4.out.a2.1 0 _ rfl
      have e1' := S4.out.a2.1 1 _ rfl
      have hDE := S4.out.a2.2.2
      go_wp2_with fail
      go_region_with (first
        | (go_at_call 21; refine (CT.out _ B5.drew).mono ?_; rintro e wf ⟨fo, fc, f1, f2, rfl, rf, bf⟩; have f0 := (bf.cell (p := ⟨D2, 0, none⟩) hDE).trans e1; have f0' := (bf.cell (p := ⟨D2, 1, none⟩) hDE).trans e1')
        | (go_at_call 22; refine (CX.out _ _ _ _ _ (EntRow.of_own' (S4.out.below (Below.trans (Below.refl _ _).drew bf)).x.mem) (S4.out.below (Below.trans (Below.refl _ _).drew bf)).x.runs.row (EntRow.of_own' rf.mem) rf.runs.row).mono ?_; rintro e wg ⟨rfl, bg⟩))
      all_goals
        have S5 := hidM ((S4.out.below (Below.trans (Below.refl _ _).drew bf)).below bg)
        clear S4 rf bf bg B5 c3 c3' e1 e1' f0 f0' CX
        have y0 := S5.out.a2.1 0 _ rfl
        have y1 := S5.out.a2.1 1 _ rfl
        go_wp2_with fail
        refine (CMX.out _ _ _ _ _ (by have := S5.out.l2; have := S5.out.l3; have := S5.out.l4; omega) S5.out.x).mono ?_
        rintro e w6 ⟨rfl, s6, o6⟩
        have S6 := hidM (S5.out.markX o6 s6)
        clear S5 s6 o6 y0 y1 CMX
        have x0 := S6.out.a3.1 0 _ rfl
        have x1 := S6.out.a3.1 1 _ rfl
        have x2 := (AU.below S6.out.b).1 0 _ rfl
        have x3 := (AU.below S6.out.b).1 1 _ rfl
        go_wp2_with fail
        refine (CE.out _ _ _ _ _ (EntRow.of_own' S6.out.g.mem) S6.out.g.runs.row (HR1.out _ S6.out.b).1 (HR1.out _ S6.out.b).2).mono ?_
        rintro e w7 ⟨rfl, b7⟩
        have S7 := hidM (S6.out.below b7)
        clear S6 b7 x0 x1 x2 x3
        have x0 := S7.out.a3.1 0 _ rfl
        have x1 := S7.out.a3.1 1 _ rfl
        go_wp2_with fail
        refine (CMG.out _ _ _ _ _ (by have := S7.out.l4; omega) S7.out.g).mono ?_
        rintro e w8 ⟨rfl, s8, o8⟩
        have S8 := hidM (S7.out.markG o8 s8)
        clear S7 s8 o8 x0 x1 CMG
        have x0 := S8.out.a3.1 0 _ rfl
        have x1 := S8.out.a3.1 1 _ rfl
        go_wp2_with fail
        refine (CHG.out _ _ _ _ _ S8.out.g).mono ?_
        rintro e w9 ⟨rfl, b9⟩
        have S9 := hidM (S8.out.below b9)
        clear S8 b9 x0 x1
        have B9 := HBO.out _ S9.out.b
        have c4 := (AO.below B9).1 0 _ rfl
        have c4' := (AO.below B9).1 1 _ rfl
        go_wp2_with fail
        refine (CT.out _ B9).mono ?_
        rintro e wA ⟨jo, jc, j1, j2, rfl, rj, bj⟩
        have SA := hidM (S9.out.below bj)
        have CI3 := hidM (CI.out wA _ _ (EntRow.of_own' rj.mem) rj.runs.row)
        clear S9 rj bj c4 c4' B9 CT CI
        go_wp2_with fail
        refine CI3.out.mono ?_
        rintro e wB ⟨ko, kc, k1, k2, rfl, rk, bk⟩
        have SB := hidM (SA.out.below bk)
        have RK := hidM rk
        clear SA rk bk CI3
        go_upto_region 27 with fail
        obtain ⟨U4, hU4⟩ : ∃ U4, U4 = wB.alloc (.cells #[.slice ko PM.length kc, .slice k1 PL.length k2] 27) := ⟨_, rfl⟩
        have bU4 : Below wB.heap.size wB U4 := by rw [hU4]; exact (Below.refl _ _).alloc (Nat.le_refl _) _
        have A4 : BAt U4 wB.heap.size [.slice ko PM.length kc, .slice k1 PL.length k2] := by rw [hU4]; exact BAt.new wB #[.slice ko PM.length kc, .slice k1 PL.length k2] _
        have SC := hidM (SB.out.below bU4)
        have RK4 : Hid (EntRow U4 (.slice ko PM.length kc) PM ∧ RunRow U4 (.slice k1 PL.length k2) PL) := ⟨(EntRow.of_own' RK.out.mem).below bU4, RK.out.runs.row.below bU4⟩
        rw [← hU4]
        clear hU4 bU4 SB RK
        have z0 := A4.1 0 _ rfl
        have z1 := A4.1 1 _ rfl
        have x2 := (AU.below SC.out.b).1 0 _ rfl
        have x3 := (AU.below SC.out.b).1 1 _ rfl
        go_wp2_with fail
        refine (CE.out _ _ _ _ _ RK4.out.1 RK4.out.2 (HR1.out _ SC.out.b).1 (HR1.out _ SC.out.b).2).mono ?_
        rintro e wC ⟨rfl, bC⟩
        have SD := hidM (SC.out.below bC)
        clear SC bC z0 z1 x2 x3 A4 RK4 CE
        have x0 := SD.out.a3.1 0 _ rfl
        have x1 := SD.out.a3.1 1 _ rfl
        go_wp2_with fail
        refine (CHG.out _ _ _ _ _ SD.out.g).mono ?_
        rintro e wD ⟨rfl, bD⟩
        have BF := HBO.out _ (SD.out.below bD).b
        clear SD x0 x1 CHG
        go_wp2_with fail
        go_ret
        exact ⟨rfl, bO.trans (BF.mono bO.size)⟩

set_option maxRecDepth 100000 in
theorem lifted (os : Os) (started : os.Started) (H : Type) (enc : TypeId × Value → H) :
    ReturnsInHanded {} Try.checked os 6 .any (Rows.fnExactSeenPutSpec.pre6 enc Try.prog Try.f6 Rows.fnExactSeenPutRow.domain false) (Rows.fnExactSeenPutSpec.post enc Try.prog Try.f6 false true false false) := by
  refine returnsInHanded_of_change (C := Try.checked) own started (by kernel_rfl) Try.func6
    (ChangeSpec.witness6 (enc := enc) (C := Try.checked) false ⟨#[], #[.agg #[.slice none 0 0, .slice none 0 0], .string ByteArray.empty, .int .i64 0], []⟩ 8 (by kernel_rfl) (by kernel_rfl) (by kernel_rfl) (by kernel_rfl)) ?_
  intro W base args ds gs before hval0 hW hcnd _
  have hval : ∀ (j : Nat) t v, Try.f6.params[j]? = some t → args[j]? = some v → Value.okWide Try.prog W .any base t v := hval0
  have hW' := hW
  obtain ⟨p, q, hA0, hV, rfl, hfz, hnd⟩ := hW
  have hA : DataW.TrodAll enc Try.prog W 0 (fun _ => true) true Try.f6.params.toList args.toList ds p := hA0
  rw [Try.params6] at hA hval
  obtain ⟨v0, vs0, d0, ds0, p0, qq0, hargs, rfl, rfl, h0, rr0⟩ := trodAll_cons hA
  obtain ⟨v1, vs1, d1, ds1, p1, qq1, rfl, rfl, rfl, h1, rr1⟩ := trodAll_cons rr0
  obtain ⟨v2, vs2, d2, ds2, p2, qq2, rfl, rfl, rfl, h2, rr2⟩ := trodAll_cons rr1
  obtain ⟨rfl, rfl, rfl⟩ := trodAll_nil rr2
  obtain rfl : args = #[v0, v1, v2] := by cases args; simp_all
  obtain ⟨rfl, rfl⟩ := trodVars_none hV
  have k0 := h0
  have lt0 : ∀ x ∈ p0, x.block < W.heap.size := by obtain ⟨m, hm⟩ := k0; exact DataW.trod_lt m _ _ _ hm
  obtain ⟨x0, y0, l0, r0, rfl, w0, m0⟩ := open_seen (hval 0 44 v0 rfl rfl) h0
  obtain ⟨a1, rfl, rfl, rfl, w1⟩ := open_string Try.underlying9 (hval 1 9 v1 rfl rfl) h1
  obtain ⟨a2, rfl, rfl, rfl, w2⟩ := open_int Try.underlying3 (hval 2 3 v2 rfl rfl) h2
  clear hA0 hval0
  refine (walk x0 y0 l0 r0 a1 a2 W w0 m0 w1 w2).mono fun e W' ⟨he, bel⟩ => ?_
  subst he
  exact ⟨_, rfl, _, _, _, [], _, [], hW', trodAll_mk1 (shut_bool Try.underlying4 _), (trodAll_cons_mk (Below.trod laidOut (by kernel_rfl) (of_decide_eq_true (by kernel_rfl)) k0 bel lt0) (trodAll_cons_mk (shut_string Try.underlying9 w1) (trodAll_cons_mk (shut_int Try.underlying3 w2) trodAll_mk0))), rfl, bel.frame _, fun h => by cases h⟩

theorem over : Rows.fnExactSeenPutRow.holds Try.pinned (OpenSpec.ofChange Rows.fnExactSeenPutSpec) :=
  OpenClaim.holds_of_wide 6 Try.f6 rfl rfl rfl rfl rfl rfl rfl ⟨rfl, rfl, rfl, rfl, rfl⟩ rfl rfl rfl rfl rfl (by kernel_rfl) Try.func6 (by kernel_rfl)
    (of_decide_eq_true (by kernel_rfl)) (by unfold Func.isWrapper; first | (rw [if_pos (by decide +kernel)]; kernel_rfl) | (rw [if_neg (by decide +kernel)]; exact ⟨rfl, rfl⟩))
    (fun os started H enc _ => lifted os started H enc)

theorem proved : Rows.FnExactSeenPutSaid := over
end Go.Proofs.Ytocgdbinfmdkcaa.fnExactSeenPut

namespace Go.Proofs.Ytocgdbinfmdkcaa
theorem fnExactSeenPut_holds : Rows.FnExactSeenPutSaid := fnExactSeenPut.proved
#print axioms fnExactSeenPut_holds
end Go.Proofs.Ytocgdbinfmdkcaa
