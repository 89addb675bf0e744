/- Proved: laws.FnExactEnded answers true at all queues and every key and leaves them as they were; no condition. -/
import Derived.Test.YtcjblhiihgdljaaGreatRows
import Derived.Test.YtcjblhiihgdljaaGreatSitTo
import Derived.Test.YtcjblhiihgdljaaGreatSitEq
import Derived.Test.YtcjblhiihgdljaaGreatPackJ
import Derived.Test.YtcjblhiihgdljaaGreatPackK
import Derived.Test.YtcjblhiihgdljaaGreatPackL
import Derived.ProofKit
import Derived.OpenShut
import Derived.ShutString
import Derived.ChangeOld
import Derived.Below
namespace Go.Proofs.YtcjblhiihgdljaaGreat.fnExactEnded
open Go.ChangeShapes Go.WideShapes Go.ChangeAt Go.RowKit
open Go.ChangeMaps (open_string shut_string)
set_option linter.unusedVariables false

theorem own : ownKnob Tryz.prog.godebug = none := by kernel_rfl
theorem laidOut : laidOutB Tryz.prog = true := by kernel_rfl

set_option maxRecDepth 100000 in
set_option maxHeartbeats 8000000 in
theorem walk (zd0 zp0 zn0 zq0 : Int) (p0 q0 : Value) (l0 : List SiteV) (r0 : List LsV) (a1 : ByteArray) (w : World) (w0 : SitRow w p0 l0 ∧ LsRow w q0 r0) (m0 : SitMx l0 ∧ LsMx r0) (w1 : a1.size ≤ maxLen) :
    Calls Tryz.prog 9 #[.agg #[.int .i64 zd0, .int .i64 zp0, .int .i64 zn0, .int .i64 zq0, p0, q0], .string a1] w fun e w' => e = .returned (.bool true) ∧ Below w.heap.size w w' := by
  clear w1
  by_cases hbk : 1048576 < (a1.size : Int)
  · clear w0 m0
    go_enter Tryz.func9, Tryz.ntmps9
    go_wp2_with fail
    go_ret
    exact ⟨rfl, (Below.refl _ _).alloc (Nat.le_refl _) _⟩
  · have hsz : a1.size ≤ 1048576 := by omega
    have HM := hidM m0
    have HW := hidM w0
    obtain ⟨pa, pc, hp0⟩ := w0.1.slice
    obtain ⟨qa, qc, hq0⟩ := w0.2.slice
    clear m0 w0
    have CZ : Hid (∀ W, Below w.heap.size w W → Calls Tryz.prog 32 #[.agg #[.int .i64 zd0, .int .i64 zp0, .int .i64 zn0, .int .i64 zq0, p0, q0], .int .i64 1048576] W fun e w' => e = .returned (.int .i64 (leftZ 1048576 (sumSit l0 + sumLs r0))) ∧ Below W.heap.size W w') := fun W hW => szSch zd0 zp0 zn0 zq0 l0 r0 p0 q0 1048576 W (by decide) (by decide) HM.out.1 HM.out.2 (HW.out.1.below hW) (HW.out.2.below hW)
    subst hp0 hq0
    have HZ := leftZ_le (left := 1048576) (n := sumSit l0 + sumLs r0) (by decide)
    have HZS := hidM (sch_sz (si := l0) (le := r0))
    have HZT := hidM (tx_of (si := l0) (le := r0))
    generalize leftZ 1048576 (sumSit l0 + sumLs r0) = z at CZ HZ
    obtain ⟨hz1, hz2, hz3⟩ := HZ
    have HZ3 : Hid (0 ≤ z → ((sumSit l0 + sumLs r0 : Nat) : Int) ≤ 1048576) := hz3
    clear hz3
    obtain ⟨O, hO⟩ : ∃ O, O = w.alloc (.cells #[.int .i64 zd0, .int .i64 zp0, .int .i64 zn0, .int .i64 zq0, .slice pa l0.length pc, .slice qa r0.length qc] 57) := ⟨_, rfl⟩
    have bO : Below w.heap.size w O := by rw [hO]; exact (Below.refl _ _).alloc (Nat.le_refl _) _
    have AO : BAt O w.heap.size [.int .i64 zd0, .int .i64 zp0, .int .i64 zn0, .int .i64 zq0, .slice pa l0.length pc, .slice qa r0.length qc] := by rw [hO]; exact BAt.new w #[.int .i64 zd0, .int .i64 zp0, .int .i64 zn0, .int .i64 zq0, .slice pa l0.length pc, .slice qa r0.length qc] _
    go_enter Tryz.func9, Tryz.ntmps9
    go_upto_region 1 with fail
    rw [← hO]
    clear hO
    have AC := AO.below (Below.refl _ O)
    have c0 := AC.1 0 _ rfl
    have c1 := AC.1 1 _ rfl
    have c2 := AC.1 2 _ rfl
    have c3 := AC.1 3 _ rfl
    have c4 := AC.1 4 _ rfl
    have c5 := AC.1 5 _ rfl
    clear AC
    go_wp2_with fail
    refine (CZ.out _ bO).mono ?_
    rintro e wa ⟨rfl, ba⟩
    clear c0 c1 c2 c3 c4 c5
    by_cases hneg : z < 0
    · go_wp2_with fail
      go_ret
      exact ⟨rfl, bO.trans (ba.mono bO.size)⟩
    · have HSU : Hid (sumSit l0 + sumLs r0 ≤ 1048576) := hidM (by have := HZ3.out (by omega); omega)
      obtain ⟨hfw, hl2, hl1, hks, hwl⟩ := HZS.out HSU.out
      have HTX := hidM (HZT.out HSU.out)
      have HF := hidM hfw
      clear hfw HZS HZT HSU
      have HA : Hid (∀ W, Below O.heap.size O W → SitRow W (.slice pa l0.length pc) l0 ∧ LsRow W (.slice qa r0.length qc) r0) := fun W hb => ⟨HW.out.1.below (bO.trans (hb.mono bO.size)), HW.out.2.below (bO.trans (hb.mono bO.size))⟩
      have CT : Hid (∀ W, Below O.heap.size O W → Calls Tryz.prog 33 #[.agg #[.int .i64 zd0, .int .i64 zp0, .int .i64 zn0, .int .i64 zq0, .slice pa l0.length pc, .slice qa r0.length qc]] W fun e w' => ∃ ao ac bo bc, e = .returned (.agg #[.int .i64 zd0, .int .i64 zp0, .int .i64 zn0, .int .i64 zq0, .slice ao l0.length ac, .slice bo r0.length bc]) ∧ SchOwn w' W.heap.size w'.heap.size (.slice ao l0.length ac) (.slice bo r0.length bc) l0 r0 ∧ Below W.heap.size W w') := fun W hb => toSch zd0 zp0 zn0 zq0 l0 r0 _ _ W HF.out (by omega) (HA.out W hb).1 (HA.out W hb).2
      obtain ⟨PB, PL, hpl, hdet⟩ := EdV.det zd0 zp0 zn0 zq0 l0 r0 a1
      have HDT := hidM hdet
      clear hdet
      have CS : Hid (∀ W p q, SchRow W p q l0 r0 → Calls Tryz.prog 37 #[.agg #[.int .i64 zd0, .int .i64 zp0, .int .i64 zn0, .int .i64 zq0, p, q], .string a1] W fun e w' => SchTW W PB zd0 zp0 zn0 zq0 l0 PL e w') := fun W p q h => (specEnded zd0 zp0 zn0 zq0 l0 r0 p q a1 W HF.out (by omega) h.1 h.2).mono fun e w' hE => HDT.out _ hE
      have CI : Hid (∀ W p q, SchRow W p q l0 r0 → Calls Tryz.prog 25 #[.agg #[.int .i64 zd0, .int .i64 zp0, .int .i64 zn0, .int .i64 zq0, p, q], .string a1] W fun e w' => SchTR W PB zd0 zp0 zn0 zq0 l0 PL e w') := fun W p q h => (implEnded zd0 zp0 zn0 zq0 l0 r0 p q a1 W hsz HF.out (by omega) HTX.out h.1 h.2).mono fun e w' hE => HDT.out _ hE
      have CE : Hid (∀ W p q p' q', SchRow W p q l0 PL → SchRow W p' q' l0 PL → Calls Tryz.prog 34 #[.agg #[.int .i64 zd0, .int .i64 zp0, .int .i64 zn0, .int .i64 zq0, p, q], .agg #[.int .i64 zd0, .int .i64 zp0, .int .i64 zn0, .int .i64 zq0, p', q']] W fun e w' => e = .returned (.bool true) ∧ Below W.heap.size W w') := fun W p q p' q' h1 h2 => eqSch zd0 zp0 zn0 zq0 l0 PL p q p' q' W HF.out (by omega) h1 h2
      have CX : Hid (∀ W p q p' q', SchRow W p q l0 r0 → SchRow W p' q' l0 r0 → Calls Tryz.prog 34 #[.agg #[.int .i64 zd0, .int .i64 zp0, .int .i64 zn0, .int .i64 zq0, p, q], .agg #[.int .i64 zd0, .int .i64 zp0, .int .i64 zn0, .int .i64 zq0, p', q']] W fun e w' => e = .returned (.bool true) ∧ Below W.heap.size W w') := fun W p q p' q' h1 h2 => eqSch zd0 zp0 zn0 zq0 l0 r0 p q p' q' W HF.out (by omega) h1 h2
      have hkg : kSch l0 PL ≤ 1000000000 := by rw [kSch_len] at hks ⊢; omega
      obtain ⟨yx, hyx⟩ : ∃ y : Int, ((kSch l0 r0 : Nat) : Int) = y := ⟨_, rfl⟩
      obtain ⟨yg, hyg⟩ : ∃ y : Int, ((kSch l0 PL : Nat) : Int) = y := ⟨_, rfl⟩
      have hyx0 : ¬ yx < 0 := by omega
      have hyg0 : ¬ yg < 0 := by omega
      have hygg : (yg != yg) = false := by simp
      have hPB : (PB != PB) = false := by simp
      have CMX : Hid (∀ W p q base top, top ≤ W.heap.size → SchOwn W base top p q l0 r0 → Calls Tryz.prog 35 #[.agg #[.int .i64 zd0, .int .i64 zp0, .int .i64 zn0, .int .i64 zq0, p, q], .int .i64 1] W fun e w' => e = .returned (.int .i64 yx) ∧ SchOwn w' base top p q (markSit 1 l0) (mkLsL (kSit 1 l0 l0.length) r0.length) ∧ Only base top W w') := fun W p q base top ht h => by rw [← hyx]; exact markSch zd0 zp0 zn0 zq0 l0 r0 p q base top W (by omega) hks ht h
      have CMG : Hid (∀ W p q base top, top ≤ W.heap.size → SchOwn W base top p q l0 PL → Calls Tryz.prog 35 #[.agg #[.int .i64 zd0, .int .i64 zp0, .int .i64 zn0, .int .i64 zq0, p, q], .int .i64 1] W fun e w' => e = .returned (.int .i64 yg) ∧ SchOwn w' base top p q (markSit 1 l0) (mkLsL (kSit 1 l0 l0.length) PL.length) ∧ Only base top W w') := fun W p q base top ht h => by rw [← hyg]; exact markSch zd0 zp0 zn0 zq0 l0 PL p q base top W (by omega) hkg ht h
      have CHG : Hid (∀ W p q, SchRow W p q (markSit 1 l0) (mkLsL (kSit 1 l0 l0.length) PL.length) → Calls Tryz.prog 36 #[.agg #[.int .i64 zd0, .int .i64 zp0, .int .i64 zn0, .int .i64 zq0, p, q], .int .i64 1] W fun e w' => e = .returned (.int .i64 yg) ∧ Below W.heap.size W w') := fun W p q h => by rw [← hyg]; exact heldSch zd0 zp0 zn0 zq0 l0 PL p q W (by omega) hkg h.1 h.2
      clear hyx hyg hks hkg HTX
      generalize hGL : mkLsL (kSit 1 l0 l0.length) PL.length = GL at *
      generalize hXL : mkLsL (kSit 1 l0 l0.length) r0.length = XL at *
      generalize hGM : markSit 1 l0 = GM at *
      clear hGL hXL hGM
      have AC := AO.below ba
      have c0 := AC.1 0 _ rfl
      have c1 := AC.1 1 _ rfl
      have c2 := AC.1 2 _ rfl
      have c3 := AC.1 3 _ rfl
      have c4 := AC.1 4 _ rfl
      have c5 := AC.1 5 _ rfl
      clear AC
      clear CZ HZ3
      go_wp2_with fail
      refine (CT.out _ ba).mono ?_
      rintro e wb ⟨bo, bc, b1, b2, rfl, rb, bb⟩
      have B1 := ba.trans (bb.mono ba.size)
      have CS2 := hidM (CS.out wb _ _ rb.row)
      clear c0 c1 c2 c3 c4 c5
      clear rb bb ba CS
      go_wp2_with fail
      refine CS2.out.mono ?_
      rintro e wc ⟨co, cc, d1, d2, rfl, r1, bcc⟩
      have B2 := B1.trans (bcc.mono B1.size)
      clear CS2
      go_upto_region 8 with fail
      obtain ⟨U, hU⟩ : ∃ U, U = wc.alloc (.cells #[.int .i64 zd0, .int .i64 zp0, .int .i64 zn0, .int .i64 zq0, .slice co l0.length cc, .slice d1 PL.length d2] 27) := ⟨_, rfl⟩
      have bU : Below wc.heap.size wc U := by rw [hU]; exact (Below.refl _ _).alloc (Nat.le_refl _) _
      have AU : BAt U wc.heap.size [.int .i64 zd0, .int .i64 zp0, .int .i64 zn0, .int .i64 zq0, .slice co l0.length cc, .slice d1 PL.length d2] := by rw [hU]; exact BAt.new wc #[.int .i64 zd0, .int .i64 zp0, .int .i64 zn0, .int .i64 zq0, .slice co l0.length cc, .slice d1 PL.length d2] _
      have B3 := B2.trans (bU.mono B2.size)
      have HR1 : Hid (∀ W, Below U.heap.size U W → SchRow W (.slice co l0.length cc) (.slice d1 PL.length d2) l0 PL) := fun W hW => ⟨(r1.1.below bU).below hW, (r1.2.below bU).below hW⟩
      have HBO : Hid (∀ W, Below U.heap.size U W → Below O.heap.size O W) := fun W hW => B3.trans (hW.mono B3.size)
      rw [← hU]
      clear hU bU B1 B2 bcc r1
      have AC := AO.below B3
      have c0 := AC.1 0 _ rfl
      have c1 := AC.1 1 _ rfl
      have c2 := AC.1 2 _ rfl
      have c3 := AC.1 3 _ rfl
      have c4 := AC.1 4 _ rfl
      have c5 := AC.1 5 _ rfl
      clear AC
      go_wp2_with fail
      refine (CT.out _ B3).mono ?_
      rintro e wd ⟨po, pk, qo, qk, rfl, rd, bd⟩
      have RD := hidM rd
      clear c0 c1 c2 c3 c4 c5
      clear rd
      go_upto_region 9 with fail
      obtain ⟨U2, hU2⟩ : ∃ U2, U2 = wd.alloc (.cells #[.int .i64 zd0, .int .i64 zp0, .int .i64 zn0, .int .i64 zq0, .slice po l0.length pk, .slice qo r0.length qk] 27) := ⟨_, rfl⟩
      have bU2 : Below wd.heap.size wd U2 := by rw [hU2]; exact (Below.refl _ _).alloc (Nat.le_refl _) _
      have AU2 : BAt U2 wd.heap.size [.int .i64 zd0, .int .i64 zp0, .int .i64 zn0, .int .i64 zq0, .slice po l0.length pk, .slice qo r0.length qk] := by rw [hU2]; exact BAt.new wd #[.int .i64 zd0, .int .i64 zp0, .int .i64 zn0, .int .i64 zq0, .slice po l0.length pk, .slice qo r0.length qk] _
      have HU2 := hidM hU2
      have CI2 := hidM (CI.out U2 _ _ (RD.out.row.below bU2))
      rw [← hU2]
      clear hU2 bU2
      have e0 := AU2.1 0 _ rfl
      have e1 := AU2.1 1 _ rfl
      have e2 := AU2.1 2 _ rfl
      have e3 := AU2.1 3 _ rfl
      have e4 := AU2.1 4 _ rfl
      have e5 := AU2.1 5 _ rfl
      go_wp2_with fail
      refine CI2.out.mono ?_
      rintro e we ⟨go, gk, ho, hk, rfl, rg, be⟩
      have RG := hidM rg
      clear e0 e1 e2 e3 e4 e5
      clear rg CI2 AU2
      go_upto_region 10 with fail
      obtain ⟨U3, hU3⟩ : ∃ U3, U3 = we.alloc (.cells #[.int .i64 zd0, .int .i64 zp0, .int .i64 zn0, .int .i64 zq0, .slice go l0.length gk, .slice ho PL.length hk] 27) := ⟨_, rfl⟩
      have ST := hidM (ScSt.new RD.out bd HU2.out RG.out be hU3)
      rw [← hU3]
      clear hU3 RD RG HU2 bd be
      generalize we.heap.size = D3 at *
      generalize U2.heap.size = B3' at *
      generalize wd.heap.size = D2 at *
      have g0 := ST.out.a3.1 0 _ rfl
      have g1 := ST.out.a3.1 1 _ rfl
      have g2 := ST.out.a3.1 2 _ rfl
      have g3 := ST.out.a3.1 3 _ rfl
      have g4 := ST.out.a3.1 4 _ rfl
      have g5 := ST.out.a3.1 5 _ rfl
      have AC := AU.below ST.out.b
      have u0 := AC.1 0 _ rfl
      have u1 := AC.1 1 _ rfl
      have u2 := AC.1 2 _ rfl
      have u3 := AC.1 3 _ rfl
      have u4 := AC.1 4 _ rfl
      have u5 := AC.1 5 _ rfl
      clear AC
      go_wp2_with fail
      refine (CE.out _ _ _ _ _ ST.out.g.row (HR1.out _ ST.out.b)).mono ?_
      rintro e w4 ⟨rfl, b4⟩
      have S4 := hidM (ST.out.below b4)
      clear g0 g1 g2 g3 g4 g5
      clear u0 u1 u2 u3 u4 u5
      clear ST b4
      have B5 := HBO.out _ S4.out.b
      have AC := AO.below B5
      have c0 := AC.1 0 _ rfl
      have c1 := AC.1 1 _ rfl
      have c2 := AC.1 2 _ rfl
      have c3 := AC.1 3 _ rfl
      have c4 := AC.1 4 _ rfl
      have c5 := AC.1 5 _ rfl
      clear AC
      have e0 := S4.out.a2.1 0 _ rfl
      have e1 := S4.out.a2.1 1 _ rfl
      have e2 := S4.out.a2.1 2 _ rfl
      have e3 := S4.out.a2.1 3 _ rfl
      have e4 := S4.out.a2.1 4 _ rfl
      have e5 := S4.out.a2.1 5 _ rfl
      have hDE := S4.out.a2.2.2
      go_wp2_with fail
      go_region_with (first
        | (go_at_call 33; refine (CT.out _ B5.drew).mono ?_; rintro e wf ⟨fo, fc, f1, f2, rfl, rf, bf⟩; have g0 := (bf.cell (p := ⟨D2, 0, none⟩) hDE).trans e0; have g1 := (bf.cell (p := ⟨D2, 1, none⟩) hDE).trans e1; have g2 := (bf.cell (p := ⟨D2, 2, none⟩) hDE).trans e2; have g3 := (bf.cell (p := ⟨D2, 3, none⟩) hDE).trans e3; have g4 := (bf.cell (p := ⟨D2, 4, none⟩) hDE).trans e4; have g5 := (bf.cell (p := ⟨D2, 5, none⟩) hDE).trans e5)
        | (go_at_call 34; refine (CX.out _ _ _ _ _ (S4.out.below (Below.trans (Below.refl _ _).drew bf)).x.row rf.row).mono ?_; rintro e wg ⟨rfl, bg⟩))
      all_goals
        have S5 := hidM ((S4.out.below (Below.trans (Below.refl _ _).drew bf)).below bg)
        clear c0 c1 c2 c3 c4 c5
        clear S4 rf bf bg B5 e0 e1 e2 e3 e4 e5 g0 g1 g2 g3 g4 g5 CX hDE
        have e0 := S5.out.a2.1 0 _ rfl
        have e1 := S5.out.a2.1 1 _ rfl
        have e2 := S5.out.a2.1 2 _ rfl
        have e3 := S5.out.a2.1 3 _ rfl
        have e4 := S5.out.a2.1 4 _ rfl
        have e5 := S5.out.a2.1 5 _ rfl
        go_wp2_with fail
        refine (CMX.out _ _ _ _ _ (by have := S5.out.l1; have := S5.out.l2; have := S5.out.l3; have := S5.out.l4; omega) S5.out.x).mono ?_
        rintro e w6 ⟨rfl, s6, o6⟩
        have S6 := hidM (S5.out.markX o6 s6)
        clear e0 e1 e2 e3 e4 e5
        clear S5 s6 o6 CMX
        have g0 := S6.out.a3.1 0 _ rfl
        have g1 := S6.out.a3.1 1 _ rfl
        have g2 := S6.out.a3.1 2 _ rfl
        have g3 := S6.out.a3.1 3 _ rfl
        have g4 := S6.out.a3.1 4 _ rfl
        have g5 := S6.out.a3.1 5 _ rfl
        have AC := AU.below S6.out.b
        have u0 := AC.1 0 _ rfl
        have u1 := AC.1 1 _ rfl
        have u2 := AC.1 2 _ rfl
        have u3 := AC.1 3 _ rfl
        have u4 := AC.1 4 _ rfl
        have u5 := AC.1 5 _ rfl
        clear AC
        go_wp2_with fail
        refine (CE.out _ _ _ _ _ S6.out.g.row (HR1.out _ S6.out.b)).mono ?_
        rintro e w7 ⟨rfl, b7⟩
        have S7 := hidM (S6.out.below b7)
        clear g0 g1 g2 g3 g4 g5
        clear u0 u1 u2 u3 u4 u5
        clear S6 b7
        have g0 := S7.out.a3.1 0 _ rfl
        have g1 := S7.out.a3.1 1 _ rfl
        have g2 := S7.out.a3.1 2 _ rfl
        have g3 := S7.out.a3.1 3 _ rfl
        have g4 := S7.out.a3.1 4 _ rfl
        have g5 := S7.out.a3.1 5 _ rfl
        go_wp2_with fail
        refine (CMG.out _ _ _ _ _ (by have := S7.out.l4; omega) S7.out.g).mono ?_
        rintro e w8 ⟨rfl, s8, o8⟩
        have S8 := hidM (S7.out.markG o8 s8)
        clear g0 g1 g2 g3 g4 g5
        clear S7 s8 o8 CMG
        have g0 := S8.out.a3.1 0 _ rfl
        have g1 := S8.out.a3.1 1 _ rfl
        have g2 := S8.out.a3.1 2 _ rfl
        have g3 := S8.out.a3.1 3 _ rfl
        have g4 := S8.out.a3.1 4 _ rfl
        have g5 := S8.out.a3.1 5 _ rfl
        go_wp2_with fail
        refine (CHG.out _ _ _ S8.out.g.row).mono ?_
        rintro e w9 ⟨rfl, b9⟩
        have S9 := hidM (S8.out.below b9)
        clear g0 g1 g2 g3 g4 g5
        clear S8 b9
        have B9 := HBO.out _ S9.out.b
        have AC := AO.below B9
        have c0 := AC.1 0 _ rfl
        have c1 := AC.1 1 _ rfl
        have c2 := AC.1 2 _ rfl
        have c3 := AC.1 3 _ rfl
        have c4 := AC.1 4 _ rfl
        have c5 := AC.1 5 _ rfl
        clear AC
        go_wp2_with fail
        refine (CT.out _ B9).mono ?_
        rintro e wA ⟨jo, jc, j1, j2, rfl, rj, bj⟩
        have SA := hidM (S9.out.below bj)
        have CI3 := hidM (CI.out wA _ _ rj.row)
        clear c0 c1 c2 c3 c4 c5
        clear S9 rj bj B9 CT CI
        go_wp2_with fail
        refine CI3.out.mono ?_
        rintro e wB ⟨ko, kc, k1, k2, rfl, rk, bk⟩
        have SB := hidM (SA.out.below bk)
        have RK := hidM rk
        clear SA rk bk CI3
        go_upto_region 27 with fail
        obtain ⟨U4, hU4⟩ : ∃ U4, U4 = wB.alloc (.cells #[.int .i64 zd0, .int .i64 zp0, .int .i64 zn0, .int .i64 zq0, .slice ko l0.length kc, .slice k1 PL.length k2] 27) := ⟨_, rfl⟩
        have bU4 : Below wB.heap.size wB U4 := by rw [hU4]; exact (Below.refl _ _).alloc (Nat.le_refl _) _
        have A4 : BAt U4 wB.heap.size [.int .i64 zd0, .int .i64 zp0, .int .i64 zn0, .int .i64 zq0, .slice ko l0.length kc, .slice k1 PL.length k2] := by rw [hU4]; exact BAt.new wB #[.int .i64 zd0, .int .i64 zp0, .int .i64 zn0, .int .i64 zq0, .slice ko l0.length kc, .slice k1 PL.length k2] _
        have SC := hidM (SB.out.below bU4)
        have RK4 : Hid (SchRow U4 (.slice ko l0.length kc) (.slice k1 PL.length k2) l0 PL) := hidM (RK.out.row.below bU4)
        rw [← hU4]
        clear hU4 bU4 SB RK
        have z0 := A4.1 0 _ rfl
        have z1 := A4.1 1 _ rfl
        have z2 := A4.1 2 _ rfl
        have z3 := A4.1 3 _ rfl
        have z4 := A4.1 4 _ rfl
        have z5 := A4.1 5 _ rfl
        have AC := AU.below SC.out.b
        have u0 := AC.1 0 _ rfl
        have u1 := AC.1 1 _ rfl
        have u2 := AC.1 2 _ rfl
        have u3 := AC.1 3 _ rfl
        have u4 := AC.1 4 _ rfl
        have u5 := AC.1 5 _ rfl
        clear AC
        go_wp2_with fail
        refine (CE.out _ _ _ _ _ RK4.out (HR1.out _ SC.out.b)).mono ?_
        rintro e wC ⟨rfl, bC⟩
        have SD := hidM (SC.out.below bC)
        clear u0 u1 u2 u3 u4 u5
        clear SC bC z0 z1 z2 z3 z4 z5 A4 RK4 CE
        have g0 := SD.out.a3.1 0 _ rfl
        have g1 := SD.out.a3.1 1 _ rfl
        have g2 := SD.out.a3.1 2 _ rfl
        have g3 := SD.out.a3.1 3 _ rfl
        have g4 := SD.out.a3.1 4 _ rfl
        have g5 := SD.out.a3.1 5 _ rfl
        go_wp2_with fail
        refine (CHG.out _ _ _ SD.out.g.row).mono ?_
        rintro e wD ⟨rfl, bD⟩
        have BF := HBO.out _ (SD.out.below bD).b
        clear g0 g1 g2 g3 g4 g5
        clear SD CHG
        go_wp2_with fail
        go_ret
        exact ⟨rfl, bO.trans (BF.mono bO.size)⟩

set_option maxRecDepth 100000 in
theorem lifted (os : Os) (started : os.Started) (H : Type) (enc : TypeId × Value → H) :
    ReturnsInHanded {} Tryz.checked os 9 .any (Rows.fnExactEndedSpec.pre6 enc Tryz.prog Tryz.f9 Rows.fnExactEndedRow.domain false) (Rows.fnExactEndedSpec.post enc Tryz.prog Tryz.f9 false true false false) := by
  refine returnsInHanded_of_change (C := Tryz.checked) own started (by kernel_rfl) Tryz.func9
    (ChangeSpec.witness6 (enc := enc) (C := Tryz.checked) false ⟨#[], #[.agg #[.int .i64 0, .int .i64 0, .int .i64 0, .int .i64 0, .slice none 0 0, .slice none 0 0], .string ByteArray.empty], []⟩ 8 (by kernel_rfl) (by kernel_rfl) (by kernel_rfl) (by kernel_rfl)) ?_
  intro W base args ds gs before hval0 hW hcnd _
  have hval : ∀ (j : Nat) t v, Tryz.f9.params[j]? = some t → args[j]? = some v → Value.okWide Tryz.prog W .any base t v := hval0
  have hW' := hW
  obtain ⟨p, q, hA0, hV, rfl, hfz, hnd⟩ := hW
  have hA : DataW.TrodAll enc Tryz.prog W 0 (fun _ => true) true Tryz.f9.params.toList args.toList ds p := hA0
  rw [Tryz.params9] at hA hval
  obtain ⟨v0, vs0, d0, ds0, p0, qq0, hargs, rfl, rfl, h0, rr0⟩ := trodAll_cons hA
  obtain ⟨v1, vs1, d1, ds1, p1, qq1, rfl, rfl, rfl, h1, rr1⟩ := trodAll_cons rr0
  obtain ⟨rfl, rfl, rfl⟩ := trodAll_nil rr1
  obtain rfl : args = #[v0, v1] := by cases args; simp_all
  obtain ⟨rfl, rfl⟩ := trodVars_none hV
  have k0 := h0
  have lt0 : ∀ x ∈ p0, x.block < W.heap.size := by obtain ⟨m, hm⟩ := k0; exact DataW.trod_lt m _ _ _ hm
  obtain ⟨zd0, zp0, zn0, zq0, x0, y0, l0, r0, rfl, w0, m0⟩ := open_sch (hval 0 57 v0 rfl rfl) h0
  obtain ⟨a1, rfl, rfl, rfl, w1⟩ := open_string Tryz.underlying9 (hval 1 9 v1 rfl rfl) h1
  clear hA0 hval0
  refine (walk zd0 zp0 zn0 zq0 x0 y0 l0 r0 a1 W w0 m0 w1).mono fun e W' ⟨he, bel⟩ => ?_
  subst he
  exact ⟨_, rfl, _, _, _, [], _, [], hW', trodAll_mk1 (shut_bool Tryz.underlying4 _), (trodAll_cons_mk (Below.trod laidOut (by kernel_rfl) (of_decide_eq_true (by kernel_rfl)) k0 bel lt0) (trodAll_cons_mk (shut_string Tryz.underlying9 w1) trodAll_mk0)), rfl, bel.frame _, fun h => by cases h⟩

theorem over : Rows.fnExactEndedRow.holds Tryz.pinned (OpenSpec.ofChange Rows.fnExactEndedSpec) :=
  OpenClaim.holds_of_wide 9 Tryz.f9 rfl rfl rfl rfl rfl rfl rfl ⟨rfl, rfl, rfl, rfl, rfl⟩ rfl rfl rfl rfl rfl (by kernel_rfl) Tryz.func9 (by kernel_rfl)
    (of_decide_eq_true (by kernel_rfl)) (by unfold Func.isWrapper; first | (rw [if_pos (by decide +kernel)]; kernel_rfl) | (rw [if_neg (by decide +kernel)]; exact ⟨rfl, rfl⟩))
    (fun os started H enc _ => lifted os started H enc)

theorem proved : Rows.FnExactEndedSaid := over
end Go.Proofs.YtcjblhiihgdljaaGreat.fnExactEnded

namespace Go.Proofs.YtcjblhiihgdljaaGreat
theorem fnExactEnded_holds : Rows.FnExactEndedSaid := fnExactEnded.proved
#print axioms fnExactEnded_holds
end Go.Proofs.YtcjblhiihgdljaaGreat
