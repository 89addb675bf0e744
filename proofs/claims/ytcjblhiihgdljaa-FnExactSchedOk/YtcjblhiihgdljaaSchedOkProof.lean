/- Proved: laws.FnExactSchedOk answers true at all queues and leaves them as they were; no condition. -/
import Derived.Test.YtcjblhiihgdljaaRows
import Derived.Test.YtcjblhiihgdljaaSchOkS
import Derived.Test.YtcjblhiihgdljaaSchOkAll
import Derived.Test.YtcjblhiihgdljaaSitTo
import Derived.Test.YtcjblhiihgdljaaSchLaw
import Derived.Test.YtcjblhiihgdljaaSitEq
import Derived.Test.YtcjblhiihgdljaaSitSz
import Derived.Test.YtcjblhiihgdljaaOpenSch
import Derived.ProofKit
import Derived.OpenShut
import Derived.ShutString
import Derived.ChangeOld
import Derived.Below
namespace Go.Proofs.Ytcjblhiihgdljaa.fnExactSchedOk
open Go.ChangeShapes Go.WideShapes Go.ChangeAt Go.RowKit
open Go.ChangeMaps (open_string shut_string)
set_option linter.unusedVariables false

theorem own : ownKnob Try.prog.godebug = none := by kernel_rfl
theorem laidOut : laidOutB Try.prog = true := by kernel_rfl

set_option maxRecDepth 100000 in
set_option maxHeartbeats 8000000 in
theorem walk (zd0 zp0 zn0 zq0 : Int) (p0 q0 : Value) (l0 : List SiteV) (r0 : List LsV) (w : World) (w0 : SitRow w p0 l0 ∧ LsRow w q0 r0) (m0 : SitMx l0 ∧ LsMx r0) :
    Calls Try.prog 3 #[.agg #[.int .i64 zd0, .int .i64 zp0, .int .i64 zn0, .int .i64 zq0, p0, q0]] w fun e w' => e = .returned (.bool true) ∧ Below w.heap.size w w' := by
  have HM := hidM m0
  have HW := hidM w0
  obtain ⟨pa, pc, hp0⟩ := w0.1.slice
  obtain ⟨qa, qc, hq0⟩ := w0.2.slice
  clear m0 w0
  have CZ : Hid (∀ W, Below w.heap.size w W → Calls Try.prog 6 #[.agg #[.int .i64 zd0, .int .i64 zp0, .int .i64 zn0, .int .i64 zq0, p0, q0], .int .i64 1048576] W fun e w' => e = .returned (.int .i64 (leftZ 1048576 (sumSit l0 + sumLs r0))) ∧ Below W.heap.size W w') := fun W hW => szSch zd0 zp0 zn0 zq0 l0 r0 p0 q0 1048576 W (by decide) (by decide) HM.out.1 HM.out.2 (HW.out.1.below hW) (HW.out.2.below hW)
  subst hp0 hq0
  have HZ := leftZ_le (left := 1048576) (n := sumSit l0 + sumLs r0) (by decide)
  have HZS := hidM (sch_sz (si := l0) (le := r0))
  generalize leftZ 1048576 (sumSit l0 + sumLs r0) = z at CZ HZ
  obtain ⟨hz1, hz2, hz3⟩ := HZ
  have HZ3 : Hid (0 ≤ z → ((sumSit l0 + sumLs r0 : Nat) : Int) ≤ 1048576) := hz3
  clear hz3
  obtain ⟨O, hO⟩ : ∃ O, O = w.alloc (.cells #[.int .i64 zd0, .int .i64 zp0, .int .i64 zn0, .int .i64 zq0, .slice pa l0.length pc, .slice qa r0.length qc] 25) := ⟨_, rfl⟩
  have bO : Below w.heap.size w O := by rw [hO]; exact (Below.refl _ _).alloc (Nat.le_refl _) _
  have AO : BAt O w.heap.size [.int .i64 zd0, .int .i64 zp0, .int .i64 zn0, .int .i64 zq0, .slice pa l0.length pc, .slice qa r0.length qc] := by rw [hO]; exact BAt.new w #[.int .i64 zd0, .int .i64 zp0, .int .i64 zn0, .int .i64 zq0, .slice pa l0.length pc, .slice qa r0.length qc] _
  go_enter Try.func3, Try.ntmps3
  go_upto_region 2 with fail
  rw [← hO]
  clear hO
  have AC := AO.below (Below.refl _ O)
  have c0 := AC.1 0 _ rfl
  have c1 := AC.1 1 _ rfl
  have c2 := AC.1 2 _ rfl
  have c3 := AC.1 3 _ rfl
  have c4 := AC.1 4 _ rfl
  have c5 := AC.1 5 _ rfl
  clear AC
  go_wp2_with fail
  refine (CZ.out _ bO).mono ?_
  rintro e wa ⟨rfl, ba⟩
  clear c0 c1 c2 c3 c4 c5
  by_cases hneg : z < 0
  · go_wp2_with fail
    go_ret
    exact ⟨rfl, bO.trans (ba.mono bO.size)⟩
  · obtain ⟨hfw, hl2, hl1, _, _⟩ := HZS.out (by have := HZ3.out (by omega); omega)
    have HF := hidM hfw
    clear hfw
    have HA : Hid (∀ W, Below O.heap.size O W → SitRow W (.slice pa l0.length pc) l0 ∧ LsRow W (.slice qa r0.length qc) r0) := fun W hb => ⟨HW.out.1.below (bO.trans (hb.mono bO.size)), HW.out.2.below (bO.trans (hb.mono bO.size))⟩
    have CT : Hid (∀ W, Below O.heap.size O W → Calls Try.prog 8 #[.agg #[.int .i64 zd0, .int .i64 zp0, .int .i64 zn0, .int .i64 zq0, .slice pa l0.length pc, .slice qa r0.length qc]] W fun e w' => ∃ ao ac bo bc, e = .returned (.agg #[.int .i64 zd0, .int .i64 zp0, .int .i64 zn0, .int .i64 zq0, .slice ao l0.length ac, .slice bo r0.length bc]) ∧ SchOwn w' W.heap.size w'.heap.size (.slice ao l0.length ac) (.slice bo r0.length bc) l0 r0 ∧ Below W.heap.size W w') := fun W hb => toSch zd0 zp0 zn0 zq0 l0 r0 _ _ W HF.out (by omega) (HA.out W hb).1 (HA.out W hb).2
    have AC := AO.below ba
    have c0 := AC.1 0 _ rfl
    have c1 := AC.1 1 _ rfl
    have c2 := AC.1 2 _ rfl
    have c3 := AC.1 3 _ rfl
    have c4 := AC.1 4 _ rfl
    have c5 := AC.1 5 _ rfl
    clear AC
    clear CZ HZ3
    go_wp2_with fail
    refine (CT.out _ ba).mono ?_
    rintro e wb ⟨bo, bc, b1, b2, rfl, rb, bb⟩
    have B1 := ba.trans (bb.mono ba.size)
    have CS := hidM (specSchedOk zd0 zp0 zn0 zq0 l0 r0 (.slice bo l0.length bc) (.slice b1 r0.length b2) wb HF.out (by omega) rb.row.1 rb.row.2)
    clear c0 c1 c2 c3 c4 c5
    clear rb bb ba
    have HSS : Hid (∀ b c, BIs b (SOk zd0 zp0 zn0 zq0 l0 r0) → BIs c (SOk zd0 zp0 zn0 zq0 l0 r0) → c = b) := fun b c h1 h2 => h2.eq h1
    go_wp2_with fail
    refine CS.out.mono ?_
    rintro e wc ⟨b5, rfl, hb5, bc⟩
    have HB5 := hidM hb5
    have B2 := B1.trans (bc.mono B1.size)
    have AC := AO.below B2
    have c0 := AC.1 0 _ rfl
    have c1 := AC.1 1 _ rfl
    have c2 := AC.1 2 _ rfl
    have c3 := AC.1 3 _ rfl
    have c4 := AC.1 4 _ rfl
    have c5 := AC.1 5 _ rfl
    clear AC
    clear bc B1 CS hb5
    go_wp2_with fail
    refine (CT.out _ B2).mono ?_
    rintro e wd ⟨co, cc, d1, d2, rfl, rd, bd⟩
    have B3 := B2.trans (bd.mono B2.size)
    have RD : Hid (SchRow wd (.slice co l0.length cc) (.slice d1 r0.length d2) l0 r0) := rd.row
    clear c0 c1 c2 c3 c4 c5
    clear rd bd B2
    go_upto_region 7 with fail
    obtain ⟨U, hU⟩ : ∃ U, U = wd.alloc (.cells #[.int .i64 zd0, .int .i64 zp0, .int .i64 zn0, .int .i64 zq0, .slice co l0.length cc, .slice d1 r0.length d2] 31) := ⟨_, rfl⟩
    have bU : Below wd.heap.size wd U := by rw [hU]; exact (Below.refl _ _).alloc (Nat.le_refl _) _
    have AU : BAt U wd.heap.size [.int .i64 zd0, .int .i64 zp0, .int .i64 zn0, .int .i64 zq0, .slice co l0.length cc, .slice d1 r0.length d2] := by rw [hU]; exact BAt.new wd #[.int .i64 zd0, .int .i64 zp0, .int .i64 zn0, .int .i64 zq0, .slice co l0.length cc, .slice d1 r0.length d2] _
    rw [← hU]
    clear hU
    have B4 := B3.trans (bU.mono B3.size)
    have RU : Hid (SchRow U (.slice co l0.length cc) (.slice d1 r0.length d2) l0 r0) := RD.out.below bU
    have e0 := AU.1 0 _ rfl
    have e1 := AU.1 1 _ rfl
    have e2 := AU.1 2 _ rfl
    have e3 := AU.1 3 _ rfl
    have e4 := AU.1 4 _ rfl
    have e5 := AU.1 5 _ rfl
    have CI := hidM (implSchedOk zd0 zp0 zn0 zq0 l0 r0 (.slice co l0.length cc) (.slice d1 r0.length d2) U HF.out (by omega) RU.out.1 RU.out.2)
    clear bU B3 RD
    generalize wd.heap.size = D at *
    go_wp2_with fail
    refine CI.out.mono ?_
    rintro e we ⟨b6, rfl, hb6, be⟩
    obtain rfl := HSS.out b5 b6 HB5.out hb6
    have B5 := B4.trans (be.mono B4.size)
    have RE : Hid (SchRow we (.slice co l0.length cc) (.slice d1 r0.length d2) l0 r0) := RU.out.below be
    have AC := AO.below B5
    have c0 := AC.1 0 _ rfl
    have c1 := AC.1 1 _ rfl
    have c2 := AC.1 2 _ rfl
    have c3 := AC.1 3 _ rfl
    have c4 := AC.1 4 _ rfl
    have c5 := AC.1 5 _ rfl
    clear AC
    have AE := AU.below be
    clear e0 e1 e2 e3 e4 e5
    have e0 := AE.1 0 _ rfl
    have e1 := AE.1 1 _ rfl
    have e2 := AE.1 2 _ rfl
    have e3 := AE.1 3 _ rfl
    have e4 := AE.1 4 _ rfl
    have e5 := AE.1 5 _ rfl
    have hDE := AE.2.2
    have CE : Hid (∀ W p q, Below we.heap.size we W → SchRow W p q l0 r0 → Calls Try.prog 10 #[.agg #[.int .i64 zd0, .int .i64 zp0, .int .i64 zn0, .int .i64 zq0, .slice co l0.length cc, .slice d1 r0.length d2], .agg #[.int .i64 zd0, .int .i64 zp0, .int .i64 zn0, .int .i64 zq0, p, q]] W fun e w' => e = .returned (.bool true) ∧ Below W.heap.size W w') := fun W p q hW h => eqSch zd0 zp0 zn0 zq0 l0 r0 _ _ p q W HF.out (by omega) (RE.out.below hW) h
    have hbb : (b6 != b6) = false := by simp
    clear be B4 RU AU CI hb6 HB5 HSS AE
    go_wp2_with fail
    go_region_with (first
      | (go_at_call 8; refine (CT.out _ B5.drew).mono ?_; rintro e wf ⟨fo, fc, f1, f2, rfl, rf, bf⟩; have g0 := (bf.cell (p := ⟨D, 0, none⟩) hDE).trans e0; have g1 := (bf.cell (p := ⟨D, 1, none⟩) hDE).trans e1; have g2 := (bf.cell (p := ⟨D, 2, none⟩) hDE).trans e2; have g3 := (bf.cell (p := ⟨D, 3, none⟩) hDE).trans e3; have g4 := (bf.cell (p := ⟨D, 4, none⟩) hDE).trans e4; have g5 := (bf.cell (p := ⟨D, 5, none⟩) hDE).trans e5)
      | (go_at_call 10; refine (CE.out _ _ _ (Below.trans (Below.refl _ _).drew bf) rf.row).mono ?_; rintro e wg ⟨rfl, bg⟩))
    all_goals
      have B6 := B5.drew.trans (bf.mono B5.size)
      have B7 := B6.trans (bg.mono B6.size)
      go_wp2_with fail
      go_ret
      exact ⟨rfl, bO.trans (B7.mono bO.size)⟩

set_option maxRecDepth 100000 in
theorem lifted (os : Os) (started : os.Started) (H : Type) (enc : TypeId × Value → H) :
    ReturnsInHanded {} Try.checked os 3 .any (Rows.fnExactSchedOkSpec.pre6 enc Try.prog Try.f3 Rows.fnExactSchedOkRow.domain false) (Rows.fnExactSchedOkSpec.post enc Try.prog Try.f3 false true false false) := by
  refine returnsInHanded_of_change (C := Try.checked) own started (by kernel_rfl) Try.func3
    (ChangeSpec.witness6 (enc := enc) (C := Try.checked) false ⟨#[], #[.agg #[.int .i64 0, .int .i64 0, .int .i64 0, .int .i64 0, .slice none 0 0, .slice none 0 0]], []⟩ 8 (by kernel_rfl) (by kernel_rfl) (by kernel_rfl) (by kernel_rfl)) ?_
  intro W base args ds gs before hval0 hW hcnd _
  have hval : ∀ (j : Nat) t v, Try.f3.params[j]? = some t → args[j]? = some v → Value.okWide Try.prog W .any base t v := hval0
  have hW' := hW
  obtain ⟨p, q, hA0, hV, rfl, hfz, hnd⟩ := hW
  have hA : DataW.TrodAll enc Try.prog W 0 (fun _ => true) true Try.f3.params.toList args.toList ds p := hA0
  rw [Try.params3] at hA hval
  obtain ⟨v0, vs0, d0, ds0, p0, qq0, hargs, rfl, rfl, h0, rr0⟩ := trodAll_cons hA
  obtain ⟨rfl, rfl, rfl⟩ := trodAll_nil rr0
  obtain rfl : args = #[v0] := by cases args; simp_all
  obtain ⟨rfl, rfl⟩ := trodVars_none hV
  have k0 := h0
  have lt0 : ∀ x ∈ p0, x.block < W.heap.size := by obtain ⟨m, hm⟩ := k0; exact DataW.trod_lt m _ _ _ hm
  obtain ⟨zd0, zp0, zn0, zq0, x0, y0, l0, r0, rfl, w0, m0⟩ := open_sch (hval 0 25 v0 rfl rfl) h0
  clear hA0 hval0
  refine (walk zd0 zp0 zn0 zq0 x0 y0 l0 r0 W w0 m0).mono fun e W' ⟨he, bel⟩ => ?_
  subst he
  exact ⟨_, rfl, _, _, _, [], _, [], hW', trodAll_mk1 (shut_bool Try.underlying4 _), (trodAll_cons_mk (Below.trod laidOut (by kernel_rfl) (of_decide_eq_true (by kernel_rfl)) k0 bel lt0) trodAll_mk0), rfl, bel.frame _, fun h => by cases h⟩

theorem over : Rows.fnExactSchedOkRow.holds Try.pinned (OpenSpec.ofChange Rows.fnExactSchedOkSpec) :=
  OpenClaim.holds_of_wide 3 Try.f3 rfl rfl rfl rfl rfl rfl rfl ⟨rfl, rfl, rfl, rfl, rfl⟩ rfl rfl rfl rfl rfl (by kernel_rfl) Try.func3 (by kernel_rfl)
    (of_decide_eq_true (by kernel_rfl)) (by unfold Func.isWrapper; first | (rw [if_pos (by decide +kernel)]; kernel_rfl) | (rw [if_neg (by decide +kernel)]; exact ⟨rfl, rfl⟩))
    (fun os started H enc _ => lifted os started H enc)

theorem proved : Rows.FnExactSchedOkSaid := over
end Go.Proofs.Ytcjblhiihgdljaa.fnExactSchedOk

namespace Go.Proofs.Ytcjblhiihgdljaa
theorem fnExactSchedOk_holds : Rows.FnExactSchedOkSaid := fnExactSchedOk.proved
#print axioms fnExactSchedOk_holds
end Go.Proofs.Ytcjblhiihgdljaa
