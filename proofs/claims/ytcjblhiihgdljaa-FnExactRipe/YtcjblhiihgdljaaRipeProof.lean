/- Proved: laws.FnExactRipe answers true at all queues and leaves them as they were; no condition. -/
import Derived.Test.YtcjblhiihgdljaaRows
import Derived.Test.YtcjblhiihgdljaaSchRipe
import Derived.Test.YtcjblhiihgdljaaSitTo
import Derived.Test.YtcjblhiihgdljaaSchLaw
import Derived.Test.YtcjblhiihgdljaaSitEq
import Derived.Test.YtcjblhiihgdljaaSitSz
import Derived.Test.YtcjblhiihgdljaaOpenSch
import Derived.Test.YtcjblhiihgdljaaIntMarks
import Derived.ProofKit
import Derived.OpenShut
import Derived.ShutString
import Derived.ChangeOld
import Derived.Below
namespace Go.Proofs.Ytcjblhiihgdljaa.fnExactRipe
open Go.ChangeShapes Go.WideShapes Go.ChangeAt Go.RowKit
open Go.ChangeMaps (open_string shut_string)
set_option linter.unusedVariables false

theorem own : ownKnob Try.prog.godebug = none := by kernel_rfl
theorem laidOut : laidOutB Try.prog = true := by kernel_rfl

set_option maxRecDepth 100000 in
set_option maxHeartbeats 8000000 in
theorem walk (zd0 zp0 zn0 zq0 : Int) (p0 q0 : Value) (l0 : List SiteV) (r0 : List LsV) (w : World) (w0 : SitRow w p0 l0 ∧ LsRow w q0 r0) (m0 : SitMx l0 ∧ LsMx r0) :
    Calls Try.prog 5 #[.agg #[.int .i64 zd0, .int .i64 zp0, .int .i64 zn0, .int .i64 zq0, p0, q0]] w fun e w' => e = .returned (.bool true) ∧ Below w.heap.size w w' := by
  have HM := hidM m0
  have HW := hidM w0
  obtain ⟨pa, pc, hp0⟩ := w0.1.slice
  obtain ⟨qa, qc, hq0⟩ := w0.2.slice
  clear m0 w0
  have CZ : Hid (∀ W, Below w.heap.size w W → Calls Try.prog 6 #[.agg #[.int .i64 zd0, .int .i64 zp0, .int .i64 zn0, .int .i64 zq0, p0, q0], .int .i64 1048576] W fun e w' => e = .returned (.int .i64 (leftZ 1048576 (sumSit l0 + sumLs r0))) ∧ Below W.heap.size W w') := fun W hW => szSch zd0 zp0 zn0 zq0 l0 r0 p0 q0 1048576 W (by decide) (by decide) HM.out.1 HM.out.2 (HW.out.1.below hW) (HW.out.2.below hW)
  subst hp0 hq0
  have HZ := leftZ_le (left := 1048576) (n := sumSit l0 + sumLs r0) (by decide)
  have HZS := hidM (sch_sz (si := l0) (le := r0))
  generalize leftZ 1048576 (sumSit l0 + sumLs r0) = z at CZ HZ
  obtain ⟨hz1, hz2, hz3⟩ := HZ
  have HZ3 : Hid (0 ≤ z → ((sumSit l0 + sumLs r0 : Nat) : Int) ≤ 1048576) := hz3
  clear hz3
  obtain ⟨O, hO⟩ : ∃ O, O = w.alloc (.cells #[.int .i64 zd0, .int .i64 zp0, .int .i64 zn0, .int .i64 zq0, .slice pa l0.length pc, .slice qa r0.length qc] 25) := ⟨_, rfl⟩
  have bO : Below w.heap.size w O := by rw [hO]; exact (Below.refl _ _).alloc (Nat.le_refl _) _
  have AO : BAt O w.heap.size [.int .i64 zd0, .int .i64 zp0, .int .i64 zn0, .int .i64 zq0, .slice pa l0.length pc, .slice qa r0.length qc] := by rw [hO]; exact BAt.new w #[.int .i64 zd0, .int .i64 zp0, .int .i64 zn0, .int .i64 zq0, .slice pa l0.length pc, .slice qa r0.length qc] _
  go_enter Try.func5, Try.ntmps5
  go_upto_region 2 with fail
  rw [← hO]
  clear hO
  have AC := AO.below (Below.refl _ O)
  have c0 := AC.1 0 _ rfl
  have c1 := AC.1 1 _ rfl
  have c2 := AC.1 2 _ rfl
  have c3 := AC.1 3 _ rfl
  have c4 := AC.1 4 _ rfl
  have c5 := AC.1 5 _ rfl
  clear AC
  go_wp2_with fail
  refine (CZ.out _ bO).mono ?_
  rintro e wa ⟨rfl, ba⟩
  clear c0 c1 c2 c3 c4 c5
  by_cases hneg : z < 0
  · go_wp2_with fail
    go_ret
    exact ⟨rfl, bO.trans (ba.mono bO.size)⟩
  · obtain ⟨hfw, hl2, hl1, hks, hwl⟩ := HZS.out (by have := HZ3.out (by omega); omega)
    have HQ : Hid (∀ i, i < l0.length → (l0.getD i sitv0).w.length ≤ 1048576) := fun i hi => by have := psum_at (fun i => (l0.getD i sitv0).w.length) hi; rw [waitL_len] at hwl; exact Nat.le_trans this hwl
    have HF := hidM hfw
    clear hfw
    have HA : Hid (∀ W, Below O.heap.size O W → SitRow W (.slice pa l0.length pc) l0 ∧ LsRow W (.slice qa r0.length qc) r0) := fun W hb => ⟨HW.out.1.below (bO.trans (hb.mono bO.size)), HW.out.2.below (bO.trans (hb.mono bO.size))⟩
    have CT : Hid (∀ W, Below O.heap.size O W → Calls Try.prog 8 #[.agg #[.int .i64 zd0, .int .i64 zp0, .int .i64 zn0, .int .i64 zq0, .slice pa l0.length pc, .slice qa r0.length qc]] W fun e w' => ∃ ao ac bo bc, e = .returned (.agg #[.int .i64 zd0, .int .i64 zp0, .int .i64 zn0, .int .i64 zq0, .slice ao l0.length ac, .slice bo r0.length bc]) ∧ SchOwn w' W.heap.size w'.heap.size (.slice ao l0.length ac) (.slice bo r0.length bc) l0 r0 ∧ Below W.heap.size W w') := fun W hb => toSch zd0 zp0 zn0 zq0 l0 r0 _ _ W HF.out (by omega) (HA.out W hb).1 (HA.out W hb).2
    have CS : Hid (∀ W p q, SchRow W p q l0 r0 → Calls Try.prog 15 #[.agg #[.int .i64 zd0, .int .i64 zp0, .int .i64 zn0, .int .i64 zq0, p, q]] W fun e w' => ∃ ao cap, e = .returned (.slice ao (ripeL zn0 l0).length cap) ∧ w'.ownsRow W.heap.size 3 1 (.slice ao (ripeL zn0 l0).length cap) (ripeL zn0 l0).length (icells (ripeL zn0 l0)) ∧ Below W.heap.size W w') := fun W p q h => specRipe zd0 zp0 zn0 zq0 l0 p q W (by omega) (fun i hi => by have := HQ.out i hi; omega) h.1
    have CI : Hid (∀ W p q, SchRow W p q l0 r0 → Calls Try.prog 16 #[.agg #[.int .i64 zd0, .int .i64 zp0, .int .i64 zn0, .int .i64 zq0, p, q]] W fun e w' => ∃ ao cap, e = .returned (.slice ao (ripeL zn0 l0).length cap) ∧ w'.ownsRow W.heap.size 3 1 (.slice ao (ripeL zn0 l0).length cap) (ripeL zn0 l0).length (icells (ripeL zn0 l0)) ∧ Below W.heap.size W w') := fun W p q h => implRipe zd0 zp0 zn0 zq0 l0 p q W (by omega) (fun i hi => by have := HQ.out i hi; omega) h.1
    have hrn : (ripeL zn0 l0).length ≤ 1048576 := by have := ripeK_len zn0 l0 l0.length; unfold ripeL; omega
    obtain ⟨yx, hyx⟩ : ∃ y : Int, ((kSch l0 r0 : Nat) : Int) = y := ⟨_, rfl⟩
    have hyx0 : ¬ yx < 0 := by omega
    have CMX : Hid (∀ W p q base top, top ≤ W.heap.size → SchOwn W base top p q l0 r0 → Calls Try.prog 13 #[.agg #[.int .i64 zd0, .int .i64 zp0, .int .i64 zn0, .int .i64 zq0, p, q], .int .i64 1] W fun e w' => e = .returned (.int .i64 yx) ∧ SchOwn w' base top p q (markSit 1 l0) (mkLsL (kSit 1 l0 l0.length) r0.length) ∧ Only base top W w') := fun W p q base top ht h => by rw [← hyx]; exact markSch zd0 zp0 zn0 zq0 l0 r0 p q base top W (by omega) hks ht h
    have CX : Hid (∀ W p q p' q', SchRow W p q l0 r0 → SchRow W p' q' l0 r0 → Calls Try.prog 10 #[.agg #[.int .i64 zd0, .int .i64 zp0, .int .i64 zn0, .int .i64 zq0, p, q], .agg #[.int .i64 zd0, .int .i64 zp0, .int .i64 zn0, .int .i64 zq0, p', q']] W fun e w' => e = .returned (.bool true) ∧ Below W.heap.size W w') := fun W p q p' q' h1 h2 => eqSch zd0 zp0 zn0 zq0 l0 r0 p q p' q' W HF.out (by omega) h1 h2
    clear hyx hks
    generalize ripeL zn0 l0 = Z at *
    generalize hZN : Z.length = ZN at *
    have CE : Hid (∀ W va vb Ba Bb, W.ownsRow Ba 3 1 va ZN (icells Z) → W.ownsRow Bb 3 1 vb ZN (icells Z) → Calls Try.prog 17 #[va, vb] W fun e w' => e = .returned (.bool true) ∧ Below W.heap.size W w') := fun W va vb Ba Bb h1 h2 => eqIntS Z ZN va vb Ba Bb W (by omega) h1 h2
    have CM : Hid (∀ W vb Bb xs, W.ownsRow Bb 3 1 vb ZN xs → Calls Try.prog 18 #[vb, .int .i64 1] W fun e w' => e = .returned (.int .i64 ((1 + ZN : Nat) : Int)) ∧ w'.ownsRow Bb 3 1 vb ZN (icells (imarks 1 ZN)) ∧ W.grownBy w' vb.ownBlock) := fun W vb Bb xs h => markIntS 1 ZN vb Bb xs W (by omega) h
    have CH : Hid (∀ W vb Bb, W.ownsRow Bb 3 1 vb ZN (icells (imarks 1 ZN)) → Calls Try.prog 19 #[vb, .int .i64 1] W fun e w' => e = .returned (.int .i64 ((1 + ZN : Nat) : Int)) ∧ Below W.heap.size W w') := fun W vb Bb h => heldIntS 1 ZN vb Bb W (by omega) h
    generalize imarks 1 ZN = IM at *
    obtain ⟨ym, hym⟩ : ∃ y : Int, ((1 + ZN : Nat) : Int) = y := ⟨_, rfl⟩
    have hym0 : ¬ ym < 0 := by omega
    have hymm : (ym != ym) = false := by simp
    rw [hym] at CM CH
    generalize icells IM = YM at *
    generalize icells Z = YZ at *
    clear hym hZN HQ
    have AC := AO.below ba
    have c0 := AC.1 0 _ rfl
    have c1 := AC.1 1 _ rfl
    have c2 := AC.1 2 _ rfl
    have c3 := AC.1 3 _ rfl
    have c4 := AC.1 4 _ rfl
    have c5 := AC.1 5 _ rfl
    clear AC
    clear CZ HZ3
    go_wp2_with fail
    refine (CT.out _ ba).mono ?_
    rintro e wb ⟨bo, bc, b1, b2, rfl, rb, bb⟩
    have B1 := ba.trans (bb.mono ba.size)
    have CS2 := hidM (CS.out wb _ _ rb.row)
    clear c0 c1 c2 c3 c4 c5
    clear rb bb ba CS
    go_wp2_with fail
    refine CS2.out.mono ?_
    rintro e wc ⟨ra, rac, rfl, rz, bcc⟩
    have B2 := B1.trans (bcc.mono B1.size)
    have RA := hidM rz
    have AC := AO.below B2
    have c0 := AC.1 0 _ rfl
    have c1 := AC.1 1 _ rfl
    have c2 := AC.1 2 _ rfl
    have c3 := AC.1 3 _ rfl
    have c4 := AC.1 4 _ rfl
    have c5 := AC.1 5 _ rfl
    clear AC
    clear bcc CS2 rz
    go_wp2_with fail
    refine (CT.out _ B2).mono ?_
    rintro e wd ⟨co, cc, d1, d2, rfl, rd, bd⟩
    have B3 := B2.trans (bd.mono B2.size)
    have RD := hidM rd
    clear c0 c1 c2 c3 c4 c5
    clear rd
    go_upto_region 7 with fail
    obtain ⟨U, hU⟩ : ∃ U, U = wd.alloc (.cells #[.int .i64 zd0, .int .i64 zp0, .int .i64 zn0, .int .i64 zq0, .slice co l0.length cc, .slice d1 r0.length d2] 31) := ⟨_, rfl⟩
    have bU : Below wd.heap.size wd U := by rw [hU]; exact (Below.refl _ _).alloc (Nat.le_refl _) _
    have AU : BAt U wd.heap.size [.int .i64 zd0, .int .i64 zp0, .int .i64 zn0, .int .i64 zq0, .slice co l0.length cc, .slice d1 r0.length d2] := by rw [hU]; exact BAt.new wd #[.int .i64 zd0, .int .i64 zp0, .int .i64 zn0, .int .i64 zq0, .slice co l0.length cc, .slice d1 r0.length d2] _
    rw [← hU]
    clear hU
    have e0 := AU.1 0 _ rfl
    have e1 := AU.1 1 _ rfl
    have e2 := AU.1 2 _ rfl
    have e3 := AU.1 3 _ rfl
    have e4 := AU.1 4 _ rfl
    have e5 := AU.1 5 _ rfl
    have CI2 := hidM (CI.out U _ _ (RD.out.row.below bU))
    go_wp2_with fail
    refine CI2.out.mono ?_
    rintro e we ⟨rg, rgc, rfl, rz, be⟩
    have hbO : ∀ W, Below wc.heap.size wc W → Below O.heap.size O W := fun W hW => B2.trans (hW.mono B2.size)
    have HBO : Hid (∀ W, Below wc.heap.size wc W → Below O.heap.size O W) := hbO
    have ST : Hid (RpSt wc we wd.heap.size U.heap.size wb.heap.size zd0 zp0 zn0 zq0 (.slice co l0.length cc) (.slice d1 r0.length d2) l0 r0 (.slice ra ZN rac) (.slice rg ZN rgc) ZN YZ YZ) := hidM (by
      have s1 := bd.size; have s2 := bU.size; have s3 := be.size
      have hb : Below wc.heap.size wc we := (bd.trans (bU.mono s1)).trans (be.mono (by omega))
      exact ⟨hb, (RD.out.below (Nat.le_refl _) bU).below s2 be, AU.below be, own_below RA.out hb, rz, fun b hb => (RA.out.lt b hb).2, s1, AU.2.2, s3⟩)
    clear e0 e1 e2 e3 e4 e5 CI2 rz be bU AU RD RA bd B1 B2 B3 hbO
    generalize wd.heap.size = D at *
    generalize U.heap.size = B3' at *
    generalize wb.heap.size = A0 at *
    go_wp2_with fail
    refine (CE.out _ _ _ _ _ ST.out.rb ST.out.ra).mono ?_
    rintro e w4 ⟨rfl, b4⟩
    have S4 := hidM (ST.out.below b4)
    clear ST b4
    have B5 := HBO.out _ S4.out.b
    have AC := AO.below B5
    have c0 := AC.1 0 _ rfl
    have c1 := AC.1 1 _ rfl
    have c2 := AC.1 2 _ rfl
    have c3 := AC.1 3 _ rfl
    have c4 := AC.1 4 _ rfl
    have c5 := AC.1 5 _ rfl
    clear AC
    have e0 := S4.out.a2.1 0 _ rfl
    have e1 := S4.out.a2.1 1 _ rfl
    have e2 := S4.out.a2.1 2 _ rfl
    have e3 := S4.out.a2.1 3 _ rfl
    have e4 := S4.out.a2.1 4 _ rfl
    have e5 := S4.out.a2.1 5 _ rfl
    have hDE := S4.out.a2.2.2
    go_wp2_with fail
    go_region_with (first
      | (go_at_call 8; refine (CT.out _ B5.drew).mono ?_; rintro e wf ⟨fo, fc, f1, f2, rfl, rf, bf⟩; have g0 := (bf.cell (p := ⟨D, 0, none⟩) hDE).trans e0; have g1 := (bf.cell (p := ⟨D, 1, none⟩) hDE).trans e1; have g2 := (bf.cell (p := ⟨D, 2, none⟩) hDE).trans e2; have g3 := (bf.cell (p := ⟨D, 3, none⟩) hDE).trans e3; have g4 := (bf.cell (p := ⟨D, 4, none⟩) hDE).trans e4; have g5 := (bf.cell (p := ⟨D, 5, none⟩) hDE).trans e5)
      | (go_at_call 10; refine (CX.out _ _ _ _ _ (S4.out.below (Below.trans (Below.refl _ _).drew bf)).x.row rf.row).mono ?_; rintro e wg ⟨rfl, bg⟩))
    all_goals
      have S5 := hidM ((S4.out.below (Below.trans (Below.refl _ _).drew bf)).below bg)
      clear c0 c1 c2 c3 c4 c5
      clear S4 rf bf bg B5 e0 e1 e2 e3 e4 e5 g0 g1 g2 g3 g4 g5 CX hDE
      have e0 := S5.out.a2.1 0 _ rfl
      have e1 := S5.out.a2.1 1 _ rfl
      have e2 := S5.out.a2.1 2 _ rfl
      have e3 := S5.out.a2.1 3 _ rfl
      have e4 := S5.out.a2.1 4 _ rfl
      have e5 := S5.out.a2.1 5 _ rfl
      go_wp2_with fail
      refine (CMX.out _ _ _ _ _ (by have := S5.out.l1; have := S5.out.l2; have := S5.out.l3; omega) S5.out.x).mono ?_
      rintro e w6 ⟨rfl, s6, o6⟩
      have S6 := hidM (S5.out.markX o6 s6)
      clear S5 s6 o6 e0 e1 e2 e3 e4 e5 CMX
      go_wp2_with fail
      refine (CE.out _ _ _ _ _ S6.out.rb S6.out.ra).mono ?_
      rintro e w7 ⟨rfl, b7⟩
      have S7 := hidM (S6.out.below b7)
      clear S6 b7
      go_wp2_with fail
      refine (CM.out _ _ _ _ S7.out.rb).mono ?_
      rintro e w8 ⟨rfl, s8, o8⟩
      have S8 := hidM (S7.out.markB o8 s8)
      clear S7 s8 o8
      go_wp2_with fail
      refine (CH.out _ _ _ S8.out.rb).mono ?_
      rintro e w9 ⟨rfl, b9⟩
      have S9 := hidM (S8.out.below b9)
      clear S8 b9
      have B9 := HBO.out _ S9.out.b
      have AC := AO.below B9
      have c0 := AC.1 0 _ rfl
      have c1 := AC.1 1 _ rfl
      have c2 := AC.1 2 _ rfl
      have c3 := AC.1 3 _ rfl
      have c4 := AC.1 4 _ rfl
      have c5 := AC.1 5 _ rfl
      clear AC
      go_wp2_with fail
      refine (CT.out _ B9).mono ?_
      rintro e wA ⟨jo, jc, j1, j2, rfl, rj, bj⟩
      have SA := hidM (S9.out.below bj)
      have CI3 := hidM (CI.out wA _ _ rj.row)
      clear c0 c1 c2 c3 c4 c5
      clear S9 rj bj B9
      go_wp2_with fail
      refine CI3.out.mono ?_
      rintro e wB ⟨ko, kc, rfl, rk, bk⟩
      have SB := hidM (SA.out.below bk)
      have RK := hidM rk
      clear SA rk bk CI3
      go_wp2_with fail
      refine (CE.out _ _ _ _ _ RK.out SB.out.ra).mono ?_
      rintro e wC ⟨rfl, bC⟩
      have SC := hidM (SB.out.below bC)
      clear SB bC RK
      go_wp2_with fail
      refine (CH.out _ _ _ SC.out.rb).mono ?_
      rintro e wD ⟨rfl, bD⟩
      have BF := HBO.out _ (SC.out.below bD).b
      clear SC
      go_wp2_with fail
      go_ret
      exact ⟨rfl, bO.trans (BF.mono bO.size)⟩

set_option maxRecDepth 100000 in
theorem lifted (os : Os) (started : os.Started) (H : Type) (enc : TypeId × Value → H) :
    ReturnsInHanded {} Try.checked os 5 .any (Rows.fnExactRipeSpec.pre6 enc Try.prog Try.f5 Rows.fnExactRipeRow.domain false) (Rows.fnExactRipeSpec.post enc Try.prog Try.f5 false true false false) := by
  refine returnsInHanded_of_change (C := Try.checked) own started (by kernel_rfl) Try.func5
    (ChangeSpec.witness6 (enc := enc) (C := Try.checked) false ⟨#[], #[.agg #[.int .i64 0, .int .i64 0, .int .i64 0, .int .i64 0, .slice none 0 0, .slice none 0 0]], []⟩ 8 (by kernel_rfl) (by kernel_rfl) (by kernel_rfl) (by kernel_rfl)) ?_
  intro W base args ds gs before hval0 hW hcnd _
  have hval : ∀ (j : Nat) t v, Try.f5.params[j]? = some t → args[j]? = some v → Value.okWide Try.prog W .any base t v := hval0
  have hW' := hW
  obtain ⟨p, q, hA0, hV, rfl, hfz, hnd⟩ := hW
  have hA : DataW.TrodAll enc Try.prog W 0 (fun _ => true) true Try.f5.params.toList args.toList ds p := hA0
  rw [Try.params5] at hA hval
  obtain ⟨v0, vs0, d0, ds0, p0, qq0, hargs, rfl, rfl, h0, rr0⟩ := trodAll_cons hA
  obtain ⟨rfl, rfl, rfl⟩ := trodAll_nil rr0
  obtain rfl : args = #[v0] := by cases args; simp_all
  obtain ⟨rfl, rfl⟩ := trodVars_none hV
  have k0 := h0
  have lt0 : ∀ x ∈ p0, x.block < W.heap.size := by obtain ⟨m, hm⟩ := k0; exact DataW.trod_lt m _ _ _ hm
  obtain ⟨zd0, zp0, zn0, zq0, x0, y0, l0, r0, rfl, w0, m0⟩ := open_sch (hval 0 25 v0 rfl rfl) h0
  clear hA0 hval0
  refine (walk zd0 zp0 zn0 zq0 x0 y0 l0 r0 W w0 m0).mono fun e W' ⟨he, bel⟩ => ?_
  subst he
  exact ⟨_, rfl, _, _, _, [], _, [], hW', trodAll_mk1 (shut_bool Try.underlying4 _), (trodAll_cons_mk (Below.trod laidOut (by kernel_rfl) (of_decide_eq_true (by kernel_rfl)) k0 bel lt0) trodAll_mk0), rfl, bel.frame _, fun h => by cases h⟩

theorem over : Rows.fnExactRipeRow.holds Try.pinned (OpenSpec.ofChange Rows.fnExactRipeSpec) :=
  OpenClaim.holds_of_wide 5 Try.f5 rfl rfl rfl rfl rfl rfl rfl ⟨rfl, rfl, rfl, rfl, rfl⟩ rfl rfl rfl rfl rfl (by kernel_rfl) Try.func5 (by kernel_rfl)
    (of_decide_eq_true (by kernel_rfl)) (by unfold Func.isWrapper; first | (rw [if_pos (by decide +kernel)]; kernel_rfl) | (rw [if_neg (by decide +kernel)]; exact ⟨rfl, rfl⟩))
    (fun os started H enc _ => lifted os started H enc)

theorem proved : Rows.FnExactRipeSaid := over
end Go.Proofs.Ytcjblhiihgdljaa.fnExactRipe

namespace Go.Proofs.Ytcjblhiihgdljaa
theorem fnExactRipe_holds : Rows.FnExactRipeSaid := fnExactRipe.proved
#print axioms fnExactRipe_holds
end Go.Proofs.Ytcjblhiihgdljaa
