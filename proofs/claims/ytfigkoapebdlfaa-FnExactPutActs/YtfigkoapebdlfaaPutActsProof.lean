/- Proved: laws.FnExactPutActs answers true at every slice of acts and leaves it as it was; no condition. -/
import Derived.Test.YtfigkoapebdlfaaRows
import Derived.Test.YtfigkoapebdlfaaActAll
import Derived.Test.YtfigkoapebdlfaaActSz
import Derived.Test.YtfigkoapebdlfaaActTo
import Derived.Test.YtfigkoapebdlfaaActEq
import Derived.Test.YtfigkoapebdlfaaActMark
import Derived.Test.YtfigkoapebdlfaaBytMarks
import Derived.Test.YtfigkoapebdlfaaOpenActs
import Derived.ProofKit
import Derived.OpenShut
import Derived.ShutString
import Derived.ChangeOld
import Derived.Below
namespace Go.Proofs.Ytfigkoapebdlfaa.fnExactPutActs
open Go.ChangeShapes Go.WideShapes Go.ChangeAt Go.RowKit
open Go.ChangeMaps (open_string shut_string)
set_option linter.unusedVariables false

theorem own : ownKnob Try.prog.godebug = none := by kernel_rfl
theorem laidOut : laidOutB Try.prog = true := by kernel_rfl

set_option maxRecDepth 100000 in
set_option maxHeartbeats 8000000 in
theorem walk (a0 : Option Addr) (len0 cap0 : Nat) (l0 : List AV) (w : World) (w0 : ActRow w (.slice a0 len0 cap0) l0) (m0 : AMx l0) :
    Calls Try.prog 6 #[.slice a0 len0 cap0] w fun e w' => e = .returned (.bool true) ∧ Below w.heap.size w w' := by
  have HM : Hid (AMx l0) := m0
  have HW : Hid (ActRow w (.slice a0 len0 cap0) l0) := w0
  have CZ : Hid (∀ W, Below w.heap.size w W → Calls Try.prog 21 #[.slice a0 len0 cap0, .int .i64 1048576] W fun e w' => e = .returned (.int .i64 (leftZ 1048576 (sumA l0))) ∧ Below W.heap.size W w') := fun W hW => szActs l0 _ 1048576 W (by decide) (by decide) HM.out (HW.out.below hW)
  have HZ := leftZ_le (left := 1048576) (n := sumA l0) (by decide)
  generalize leftZ 1048576 (sumA l0) = z at CZ HZ
  obtain ⟨hz1, hz2, hz3⟩ := HZ
  have HZ3 : Hid (0 ≤ z → ((sumA l0 : Nat) : Int) ≤ 1048576) := hz3
  clear hz3 m0 w0 HM
  go_enter Try.func6, Try.ntmps6
  go_wp2_with fail
  refine (CZ.out _ (Below.refl _ _)).mono ?_
  rintro e wa ⟨rfl, ba⟩
  by_cases hneg : z < 0
  · go_wp2_with fail
    go_ret
    exact ⟨rfl, ba⟩
  · have HL : Hid (ASz l0) := by
      have h := HZ3.out (by omega)
      refine ⟨sumA_len (by omega), fun i hi => ?_⟩
      have h2 : (l0.getD i av0).t.size + (l0.getD i av0).b.size ≤ psum (fun i => szA (l0.getD i av0)) l0.length := psum_at (fun i => szA (l0.getD i av0)) hi
      unfold sumA at h
      omega
    have hll : l0.length ≤ 1048576 := HL.out.1
    have hU := actsL_len l0
    have CT : Hid (∀ W, Below w.heap.size w W → Calls Try.prog 23 #[.slice a0 len0 cap0] W fun e w' => ∃ ao cap, e = .returned (.slice ao l0.length cap) ∧ Hid (w'.ownsRow W.heap.size 26 4 (.slice ao l0.length cap) l0.length (acells l0)) ∧ Below W.heap.size W w') := fun W hW => toActs l0 _ W (by omega) (HW.out.below hW)
    have CS : Hid (∀ v W, ActRow W v l0 → Calls Try.prog 22 #[v] W fun e w' => ∃ v', e = .returned v' ∧ w'.ownsRow W.heap.size 5 1 v' (actsL l0).length (bcells (actsL l0)) ∧ Below W.heap.size W w') := fun v W h => specPutActs l0 v W HL.out h
    have CI : Hid (∀ v W, ActRow W v l0 → Calls Try.prog 24 #[v] W fun e w' => ∃ v', e = .returned v' ∧ w'.ownsRow W.heap.size 5 1 v' (actsL l0).length (bcells (actsL l0)) ∧ Below W.heap.size W w') := fun v W h => implPutActs l0 v W HL.out h
    generalize actsL l0 = U at *
    clear HZ3 CZ
    go_wp2_with fail
    refine (CT.out _ ba).mono ?_
    rintro e wb ⟨bo, bc, rfl, ob, bb⟩
    have B1 := ba.trans (bb.mono ba.size)
    have RB := hidB (ActRow.of_own ob.out)
    clear bb ba ob
    go_wp2_with fail
    refine (CS.out _ _ RB.out).mono ?_
    rintro e wc ⟨vc, rfl, oc, bcc⟩
    have B2 := B1.trans (bcc.mono B1.size)
    have OS := hidB oc
    have LS := hidB oc.lt
    clear bcc B1 oc RB CS
    go_wp2_with fail
    refine (CT.out _ B2).mono ?_
    rintro e wd ⟨xo, xc, rfl, od, bd⟩
    have B3 := B2.trans (bd.mono B2.size)
    have OS2 := hidB (own_below OS.out bd)
    have OX : Hid (wd.ownsRow wc.heap.size 26 4 (.slice xo l0.length xc) l0.length (acells l0)) := od
    have LX := hidB od.out.lt
    have zcd := bd.size
    clear bd OS od
    go_wp2_with fail
    refine (CI.out _ _ (ActRow.of_own OX.out)).mono ?_
    rintro e we ⟨vi, rfl, oi, be⟩
    have B4 := B3.trans (be.mono B3.size)
    have OS3 := hidB (own_below OS2.out be)
    have OX2 := hidB (own_below OX.out be)
    have OI := hidB oi
    have LI := hidB oi.lt
    have zde := be.size
    clear be OS2 oi OX
    go_wp2_with fail
    refine (eqByteS U _ _ _ _ _ _ (by omega) OI.out OS3.out).mono ?_
    rintro e wf ⟨rfl, bf⟩
    have B5 := B4.trans (bf.mono B4.size)
    have OS4 := hidB (own_below OS3.out bf)
    have OI2 := hidB (own_below OI.out bf)
    have OX3 := hidB (own_below OX2.out bf)
    clear bf OS3 OI OX2
    go_wp2_with fail
    refine (CT.out _ B5).mono ?_
    rintro e wg ⟨go, gc, rfl, og, bg⟩
    have B6 := B5.trans (bg.mono B5.size)
    have OS5 := hidB (own_below OS4.out bg)
    have OI3 := hidB (own_below OI2.out bg)
    have OX4 := hidB (own_below OX3.out bg)
    have RG := hidB (ActRow.of_own og.out)
    clear bg og OS4 OI2 OX3 B5
    go_wp2_with fail
    refine (eqActs l0 _ _ _ (by omega) (ActRow.of_own OX4.out) RG.out).mono ?_
    rintro e wh ⟨rfl, bh⟩
    have B7 := B6.trans (bh.mono B6.size)
    have OS6 := hidB (own_below OS5.out bh)
    have OI4 := hidB (own_below OI3.out bh)
    have OX5 := hidB (own_below OX4.out bh)
    clear bh RG OS5 OI3 OX4 B6
    go_wp2_with fail
    refine (markActs l0 _ 1 _ _ (by decide) (by omega) OX5.out).mono ?_
    rintro e wi ⟨rfl, _, gi⟩
    have B8 : Below w.heap.size w wi := B7.grown gi B7.size (fun x hx => by have h1 := (LX.out x hx).1; have h2 := B2.size; omega)
    have OS7 : Hid (wi.ownsRow _ _ _ vc _ _) := OS6.out.kept gi (by
      cases hx : vc.ownBlock with
      | none => exact .inl rfl
      | some x =>
        refine .inr fun hy => ?_
        have h1 := (LS.out x hx).2
        have h2 := (LX.out x hy.symm).1
        omega)
    have OI5 : Hid (wi.ownsRow _ _ _ vi _ _) := OI4.out.kept gi (by
      cases hx : vi.ownBlock with
      | none => exact .inl rfl
      | some x =>
        refine .inr fun hy => ?_
        have h1 := (LI.out x hx).1
        have h2 := (LX.out x hy.symm).2
        omega)
    clear gi OX5 B7 OS6 OI4
    go_wp2_with fail
    refine (eqByteS U _ _ _ _ _ _ (by omega) OI5.out OS7.out).mono ?_
    rintro e wj ⟨rfl, bj⟩
    have B9 := B8.trans (bj.mono B8.size)
    have OS8 := hidB (own_below OS7.out bj)
    have OI6 := hidB (own_below OI5.out bj)
    clear bj OS7 OI5 B8
    go_wp2_with fail
    refine (markByteS 1 _ _ _ _ _ (by omega) OI6.out).mono ?_
    rintro e wk ⟨rfl, ok, gk⟩
    have B10 : Below w.heap.size w wk := B9.grown gk B9.size (fun x hx => by have h1 := (LI.out x hx).1; have h2 := B3.size; omega)
    have OS9 : Hid (wk.ownsRow _ _ _ vc _ _) := OS8.out.kept gk (by
      cases hx : vc.ownBlock with
      | none => exact .inl rfl
      | some x =>
        refine .inr fun hy => ?_
        have h1 := (LS.out x hx).2
        have h2 := (LI.out x hy.symm).1
        omega)
    have OI7 := hidB ok
    clear ok gk OS8 OI6 B9
    go_wp2_with fail
    refine (heldByteS 1 _ _ _ _ (by omega) OI7.out).mono ?_
    rintro e wl ⟨rfl, bl⟩
    have B11 := B10.trans (bl.mono B10.size)
    have OS10 := hidB (own_below OS9.out bl)
    have OI8 := hidB (own_below OI7.out bl)
    clear bl OS9 OI7 B10
    go_wp2_with fail
    refine (CT.out _ B11).mono ?_
    rintro e wm ⟨mo, mc, rfl, om, bm⟩
    have B12 := B11.trans (bm.mono B11.size)
    have OS11 := hidB (own_below OS10.out bm)
    have OI9 := hidB (own_below OI8.out bm)
    have RM := hidB (ActRow.of_own om.out)
    clear bm om OS10 OI8 B11
    go_wp2_with fail
    refine (CI.out _ _ RM.out).mono ?_
    rintro e wn ⟨vn, rfl, on, bn⟩
    have B13 := B12.trans (bn.mono B12.size)
    have OS12 := hidB (own_below OS11.out bn)
    have OI10 := hidB (own_below OI9.out bn)
    have ON := hidB on
    clear bn on OS11 OI9 B12 RM CI CT
    go_wp2_with fail
    refine (eqByteS U _ _ _ _ _ _ (by omega) ON.out OS12.out).mono ?_
    rintro e wo ⟨rfl, bo2⟩
    have B14 := B13.trans (bo2.mono B13.size)
    have OI11 := hidB (own_below OI10.out bo2)
    clear bo2 OS12 OI10 B13 ON
    go_wp2_with fail
    refine (heldByteS 1 _ _ _ _ (by omega) OI11.out).mono ?_
    rintro e wp ⟨rfl, bp⟩
    have B15 := B14.trans (bp.mono B14.size)
    clear bp OI11 B14 B2 B3 B4 LS LI LX
    go_wp2_with fail
    go_ret
    exact ⟨rfl, B15⟩

set_option maxRecDepth 100000 in
theorem lifted (os : Os) (started : os.Started) (H : Type) (enc : TypeId × Value → H) :
    ReturnsInHanded {} Try.checked os 6 .any (Rows.fnExactPutActsSpec.pre6 enc Try.prog Try.f6 Rows.fnExactPutActsRow.domain false) (Rows.fnExactPutActsSpec.post enc Try.prog Try.f6 false true false false) := by
  refine returnsInHanded_of_change (C := Try.checked) own started (by kernel_rfl) Try.func6
    (ChangeSpec.witness6 (enc := enc) (C := Try.checked) false ⟨#[], #[.slice none 0 0], []⟩ 8 (by kernel_rfl) (by kernel_rfl) (by kernel_rfl) (by kernel_rfl)) ?_
  intro W base args ds gs before hval0 hW hcnd _
  have hval : ∀ (j : Nat) t v, Try.f6.params[j]? = some t → args[j]? = some v → Value.okWide Try.prog W .any base t v := hval0
  have hW' := hW
  obtain ⟨p, q, hA0, hV, rfl, hfz, hnd⟩ := hW
  have hA : DataW.TrodAll enc Try.prog W 0 (fun _ => true) true Try.f6.params.toList args.toList ds p := hA0
  rw [Try.params6] at hA hval
  obtain ⟨v0, vs0, d0, ds0, p0, qq0, hargs, rfl, rfl, h0, rr0⟩ := trodAll_cons hA
  obtain ⟨rfl, rfl, rfl⟩ := trodAll_nil rr0
  obtain rfl : args = #[v0] := by cases args; simp_all
  obtain ⟨rfl, rfl⟩ := trodVars_none hV
  obtain ⟨a0, len0, cap0, rfl⟩ := okWide_slice Try.underlying38 (hval 0 38 v0 rfl rfl)
  have k0 := h0
  have lt0 : ∀ x ∈ p0, x.block < W.heap.size := by obtain ⟨m, hm⟩ := k0; exact DataW.trod_lt m _ _ _ hm
  obtain ⟨l0, w0, m0⟩ : ∃ l : List AV, ActRow W (.slice a0 len0 cap0) l ∧ AMx l := by obtain ⟨fuel, hf⟩ := h0; exact open_acts hf
  clear hA0 hval0
  refine (walk a0 len0 cap0 l0 W w0 m0).mono fun e W' ⟨he, bel⟩ => ?_
  subst he
  exact ⟨_, rfl, _, _, _, [], _, [], hW', trodAll_mk1 (shut_bool Try.underlying4 _), (trodAll_cons_mk (Below.trod laidOut (by kernel_rfl) (of_decide_eq_true (by kernel_rfl)) k0 bel lt0) trodAll_mk0), rfl, bel.frame _, fun h => by cases h⟩

theorem over : Rows.fnExactPutActsRow.holds Try.pinned (OpenSpec.ofChange Rows.fnExactPutActsSpec) :=
  OpenClaim.holds_of_wide 6 Try.f6 rfl rfl rfl rfl rfl rfl rfl ⟨rfl, rfl, rfl, rfl, rfl⟩ rfl rfl rfl rfl rfl (by kernel_rfl) Try.func6 (by kernel_rfl)
    (of_decide_eq_true (by kernel_rfl)) (by unfold Func.isWrapper; first | (rw [if_pos (by decide +kernel)]; kernel_rfl) | (rw [if_neg (by decide +kernel)]; exact ⟨rfl, rfl⟩))
    (fun os started H enc _ => lifted os started H enc)

theorem proved : Rows.FnExactPutActsSaid := over
end Go.Proofs.Ytfigkoapebdlfaa.fnExactPutActs

namespace Go.Proofs.Ytfigkoapebdlfaa
theorem fnExactPutActs_holds : Rows.FnExactPutActsSaid := fnExactPutActs.proved
#print axioms fnExactPutActs_holds
end Go.Proofs.Ytfigkoapebdlfaa
