/- Proved: laws.FnExactForbids answers true at every list of lines and leaves it as it was; no condition. -/
import Derived.Test.YtbjidcejpdeegaaRows
import Derived.Test.YtbjidcejpdeegaaOpenLines
import Derived.Test.YtbjidcejpdeegaaRobEq
import Derived.Test.YtbjidcejpdeegaaLineLaw
import Derived.Test.YtbjidcejpdeegaaBestImpl
import Derived.ProofKit
import Derived.HandedShaped
import Derived.OpenShut
import Derived.ShutString
import Derived.ChangeOld
import Derived.Below
namespace Go.Proofs.Ytbjidcejpdeegaa.fnExactForbids
open Go.ChangeShapes Go.WideShapes Go.ChangeAt Go.RowKit
open Go.ChangeMaps (open_string shut_string)
set_option linter.unusedVariables false

theorem own : ownKnob Try.prog.godebug = none := by kernel_rfl
theorem laidOut : laidOutB Try.prog = true := by kernel_rfl

set_option maxRecDepth 100000 in
set_option maxHeartbeats 8000000 in
theorem walk (a0 : Option Addr) (len0 cap0 : Nat) (l0 : List LV) (w : World) (w0 : LineRow w (.slice a0 len0 cap0) l0) (m0 : LMx l0) (hM : MaxI w) :
    Calls Try.prog 8 #[.slice a0 len0 cap0] w fun e w' => e = .returned (.bool true) ∧ Below w.heap.size w w' := by
  have HM : Hid (LMx l0) := m0
  have HW : Hid (LineRow w (.slice a0 len0 cap0) l0) := w0
  have HX : Hid (MaxI w) := hM
  have CZ : Hid (∀ W, Below w.heap.size w W → Calls Try.prog 18 #[.slice a0 len0 cap0, .int .i64 1048576] W fun e w' => e = .returned (.int .i64 (leftZ 1048576 (sumL l0))) ∧ Below W.heap.size W w') := fun W hW => szLines l0 _ 1048576 W (by decide) (by decide) HM.out (HW.out.below hW)
  have HZ := leftZ_le (left := 1048576) (n := sumL l0) (by decide)
  generalize leftZ 1048576 (sumL l0) = z at CZ HZ
  obtain ⟨hz1, hz2, hz3⟩ := HZ
  have HZ3 : Hid (0 ≤ z → ((sumL l0 : Nat) : Int) ≤ 1048576) := hz3
  clear hz3 m0 w0 hM
  go_enter Try.func8, Try.ntmps8
  go_wp2_with fail
  refine (CZ.out _ (Below.refl _ _)).mono ?_
  rintro e wa ⟨rfl, ba⟩
  by_cases hneg : z < 0
  · go_wp2_with fail
    go_ret
    exact ⟨rfl, ba⟩
  · have hl : LSz l0 := line_sz (by have := HZ3.out (by omega); omega)
    have HL : Hid (LSz l0) := hl
    have hln := hl.1
    clear hl HZ3 CZ
    go_wp2_with fail
    refine (toLinesR l0 _ _ HL.out (HW.out.below ba)).mono ?_
    rintro e wb ⟨bo, bc, rfl, RB, bb⟩
    have B1 := ba.trans (bb.mono ba.size)
    clear bb ba
    go_wp2_with fail
    refine (specForbids l0 _ _ HL.out RB.out).mono ?_
    rintro e wd ⟨rfl, bd⟩
    have B2 := B1.trans (bd.mono B1.size)
    clear bd B1 RB
    go_wp2_with fail
    refine (toLinesR l0 _ _ HL.out (HW.out.below B2)).mono ?_
    rintro e we ⟨eo, ec, rfl, RE, be⟩
    have B3 := B2.trans (be.mono B2.size)
    clear be B2
    go_wp2_with fail
    refine (implForbids l0 _ _ HL.out (max_below HX.out B3) RE.out).mono ?_
    rintro e wf ⟨rfl, bf⟩
    have B4 := B3.trans (bf.mono B3.size)
    have RF : Hid (LineRow wf (.slice eo l0.length ec) l0) := RE.out.below bf
    clear bf B3 RE
    go_wp2_with fail
    refine (toLinesR l0 _ _ HL.out (HW.out.below B4)).mono ?_
    rintro e wg ⟨go, gc, rfl, RG, bg⟩
    have B5 := B4.trans (bg.mono B4.size)
    have RH : Hid (LineRow wg (.slice eo l0.length ec) l0) := RF.out.below bg
    clear bg B4 RF
    go_wp2_with fail
    refine (eqLines l0 _ _ _ (by omega) RH.out RG.out).mono ?_
    rintro e wh ⟨rfl, bh⟩
    have B6 := B5.trans (bh.mono B5.size)
    clear bh B5
    go_wp2_with fail
    go_ret
    exact ⟨rfl, B6⟩

set_option maxRecDepth 100000 in
theorem lifted (os : Os) (started : os.Started) (H : Type) (enc : TypeId × Value → H) :
    ReturnsInHanded {} Try.checked os 8 .any (Rows.fnExactForbidsSpec.pre6 enc Try.prog Try.f8 Rows.fnExactForbidsRow.domain false) (Rows.fnExactForbidsSpec.post enc Try.prog Try.f8 false true false false) := by
  refine returnsInHanded_of_change_shaped (C := Try.checked) own started (by kernel_rfl) Try.func8
    (ChangeSpec.witness6 (enc := enc) (C := Try.checked) false ⟨#[], #[.slice none 0 0], []⟩ 8 (by kernel_rfl) (by kernel_rfl) (by kernel_rfl) (by kernel_rfl)) ?_
  intro W base args ds gs before hval0 hW hcnd _ hSh _
  have hval : ∀ (j : Nat) t v, Try.f8.params[j]? = some t → args[j]? = some v → Value.okWide Try.prog W .any base t v := hval0
  have hW' := hW
  obtain ⟨p, q, hA0, hV, rfl, hfz, hnd⟩ := hW
  have hA : DataW.TrodAll enc Try.prog W 0 (fun _ => true) true Try.f8.params.toList args.toList ds p := hA0
  rw [Try.params8] at hA hval
  obtain ⟨v0, vs0, d0, ds0, p0, qq0, hargs, rfl, rfl, h0, rr0⟩ := trodAll_cons hA
  obtain ⟨rfl, rfl, rfl⟩ := trodAll_nil rr0
  obtain rfl : args = #[v0] := by cases args; simp_all
  obtain ⟨rfl, rfl⟩ := trodVars_none hV
  obtain ⟨a0, len0, cap0, rfl⟩ := okWide_slice Try.underlying35 (hval 0 35 v0 rfl rfl)
  have k0 := h0
  have lt0 : ∀ x ∈ p0, x.block < W.heap.size := by obtain ⟨m, hm⟩ := k0; exact DataW.trod_lt m _ _ _ hm
  obtain ⟨l0, w0, m0⟩ : ∃ l : List LV, LineRow W (.slice a0 len0 cap0) l ∧ LMx l := by obtain ⟨fuel, hf⟩ := h0; exact open_lines hf
  clear hA0 hval0
  refine (walk a0 len0 cap0 l0 W w0 m0 (max_shaped hSh)).mono fun e W' ⟨he, bel⟩ => ?_
  subst he
  exact ⟨_, rfl, _, _, _, [], _, [], hW', trodAll_mk1 (shut_bool Try.underlying4 _), (trodAll_cons_mk (Below.trod laidOut (by kernel_rfl) (of_decide_eq_true (by kernel_rfl)) k0 bel lt0) trodAll_mk0), rfl, bel.frame _, fun h => by cases h⟩

theorem over : Rows.fnExactForbidsRow.holds Try.pinned (OpenSpec.ofChange Rows.fnExactForbidsSpec) :=
  OpenClaim.holds_of_wide 8 Try.f8 rfl rfl rfl rfl rfl rfl rfl ⟨rfl, rfl, rfl, rfl, rfl⟩ rfl rfl rfl rfl rfl (by kernel_rfl) Try.func8 (by kernel_rfl)
    (of_decide_eq_true (by kernel_rfl)) (by unfold Func.isWrapper; first | (rw [if_pos (by decide +kernel)]; kernel_rfl) | (rw [if_neg (by decide +kernel)]; exact ⟨rfl, rfl⟩))
    (fun os started H enc _ => lifted os started H enc)

theorem proved : Rows.FnExactForbidsSaid := over
end Go.Proofs.Ytbjidcejpdeegaa.fnExactForbids

namespace Go.Proofs.Ytbjidcejpdeegaa
theorem fnExactForbids_holds : Rows.FnExactForbidsSaid := fnExactForbids.proved
#print axioms fnExactForbids_holds
end Go.Proofs.Ytbjidcejpdeegaa
