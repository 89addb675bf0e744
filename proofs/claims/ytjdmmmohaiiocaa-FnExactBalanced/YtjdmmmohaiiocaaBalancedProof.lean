/- Proved: laws.FnExactBalanced answers true at every list of tokens and leaves it as it was; no condition. -/
import Derived.Test.YtjdmmmohaiiocaaRows
import Derived.Test.YtjdmmmohaiiocaaOpenToks
import Derived.Test.YtjdmmmohaiiocaaTokEq
import Derived.Test.YtjdmmmohaiiocaaTokLaw
import Derived.Test.YtjdmmmohaiiocaaBalImpl
import Derived.ProofKit
import Derived.OpenShut
import Derived.ShutString
import Derived.ChangeOld
import Derived.Below
namespace Go.Proofs.Ytjdmmmohaiiocaa.fnExactBalanced
open Go.ChangeShapes Go.WideShapes Go.ChangeAt Go.RowKit
open Go.ChangeMaps (open_string shut_string)
set_option linter.unusedVariables false

theorem own : ownKnob Try.prog.godebug = none := by kernel_rfl
theorem laidOut : laidOutB Try.prog = true := by kernel_rfl

set_option maxRecDepth 100000 in
set_option maxHeartbeats 8000000 in
theorem walk (a0 : Option Addr) (len0 cap0 : Nat) (l0 : List TV) (w : World) (w0 : TokRow w (.slice a0 len0 cap0) l0) (m0 : TMx l0) :
    Calls Try.prog 3 #[.slice a0 len0 cap0] w fun e w' => e = .returned (.bool true) ∧ Below w.heap.size w w' := by
  have HM : Hid (TMx l0) := m0
  have HW : Hid (TokRow w (.slice a0 len0 cap0) l0) := w0
  have CZ : Hid (∀ W, Below w.heap.size w W → Calls Try.prog 4 #[.slice a0 len0 cap0, .int .i64 1048576] W fun e w' => e = .returned (.int .i64 (leftZ 1048576 (sumK l0))) ∧ Below W.heap.size W w') := fun W hW => szToks l0 _ 1048576 W (by decide) (by decide) HM.out (HW.out.below hW)
  have HZ := leftZ_le (left := 1048576) (n := sumK l0) (by decide)
  generalize leftZ 1048576 (sumK l0) = z at CZ HZ
  obtain ⟨hz1, hz2, hz3⟩ := HZ
  have HZ3 : Hid (0 ≤ z → ((sumK l0 : Nat) : Int) ≤ 1048576) := hz3
  clear hz3 m0 w0
  go_enter Try.func3, Try.ntmps3
  go_wp2_with fail
  refine (CZ.out _ (Below.refl _ _)).mono ?_
  rintro e wa ⟨rfl, ba⟩
  by_cases hneg : z < 0
  · go_wp2_with fail
    go_ret
    exact ⟨rfl, ba⟩
  · have hl : TSz l0 := tok_sz (by have := HZ3.out (by omega); omega)
    have HL : Hid (TSz l0) := hl
    have hln := hl.1
    clear hl HZ3 CZ
    go_wp2_with fail
    refine (toToksR l0 _ _ HL.out (HW.out.below ba)).mono ?_
    rintro e wb ⟨bo, bc, rfl, RB, bb⟩
    have B1 := ba.trans (bb.mono ba.size)
    clear bb ba
    go_wp2_with fail
    refine (specBalanced l0 _ _ hln RB.out).mono ?_
    rintro e wd ⟨rfl, bd⟩
    have B2 := B1.trans (bd.mono B1.size)
    clear bd B1 RB
    go_wp2_with fail
    refine (toToksR l0 _ _ HL.out (HW.out.below B2)).mono ?_
    rintro e we ⟨eo, ec, rfl, RE, be⟩
    have B3 := B2.trans (be.mono B2.size)
    clear be B2
    go_wp2_with fail
    refine (implBalanced l0 _ _ hln RE.out).mono ?_
    rintro e wf ⟨rfl, bf⟩
    have B4 := B3.trans (bf.mono B3.size)
    have RF : Hid (TokRow wf (.slice eo l0.length ec) l0) := RE.out.below bf
    clear bf B3 RE
    go_wp2_with fail
    refine (toToksR l0 _ _ HL.out (HW.out.below B4)).mono ?_
    rintro e wg ⟨go, gc, rfl, RG, bg⟩
    have B5 := B4.trans (bg.mono B4.size)
    have RH : Hid (TokRow wg (.slice eo l0.length ec) l0) := RF.out.below bg
    clear bg B4 RF
    go_wp2_with fail
    refine (eqToks l0 _ _ _ (by omega) RH.out RG.out).mono ?_
    rintro e wh ⟨rfl, bh⟩
    have B6 := B5.trans (bh.mono B5.size)
    clear bh B5
    go_wp2_with fail
    go_ret
    exact ⟨rfl, B6⟩

set_option maxRecDepth 100000 in
theorem lifted (os : Os) (started : os.Started) (H : Type) (enc : TypeId × Value → H) :
    ReturnsInHanded {} Try.checked os 3 .any (Rows.fnExactBalancedSpec.pre6 enc Try.prog Try.f3 Rows.fnExactBalancedRow.domain false) (Rows.fnExactBalancedSpec.post enc Try.prog Try.f3 false true false false) := by
  refine returnsInHanded_of_change (C := Try.checked) own started (by kernel_rfl) Try.func3
    (ChangeSpec.witness6 (enc := enc) (C := Try.checked) false ⟨#[], #[.slice none 0 0], []⟩ 8 (by kernel_rfl) (by kernel_rfl) (by kernel_rfl) (by kernel_rfl)) ?_
  intro W base args ds gs before hval0 hW hcnd _
  have hval : ∀ (j : Nat) t v, Try.f3.params[j]? = some t → args[j]? = some v → Value.okWide Try.prog W .any base t v := hval0
  have hW' := hW
  obtain ⟨p, q, hA0, hV, rfl, hfz, hnd⟩ := hW
  have hA : DataW.TrodAll enc Try.prog W 0 (fun _ => true) true Try.f3.params.toList args.toList ds p := hA0
  rw [Try.params3] at hA hval
  obtain ⟨v0, vs0, d0, ds0, p0, qq0, hargs, rfl, rfl, h0, rr0⟩ := trodAll_cons hA
  obtain ⟨rfl, rfl, rfl⟩ := trodAll_nil rr0
  obtain rfl : args = #[v0] := by cases args; simp_all
  obtain ⟨rfl, rfl⟩ := trodVars_none hV
  obtain ⟨a0, len0, cap0, rfl⟩ := okWide_slice Try.underlying22 (hval 0 22 v0 rfl rfl)
  have k0 := h0
  have lt0 : ∀ x ∈ p0, x.block < W.heap.size := by obtain ⟨m, hm⟩ := k0; exact DataW.trod_lt m _ _ _ hm
  obtain ⟨l0, w0, m0⟩ : ∃ l : List TV, TokRow W (.slice a0 len0 cap0) l ∧ TMx l := by obtain ⟨fuel, hf⟩ := h0; exact open_toks hf
  clear hA0 hval0
  refine (walk a0 len0 cap0 l0 W w0 m0).mono fun e W' ⟨he, bel⟩ => ?_
  subst he
  exact ⟨_, rfl, _, _, _, [], _, [], hW', trodAll_mk1 (shut_bool Try.underlying4 _), (trodAll_cons_mk (Below.trod laidOut (by kernel_rfl) (of_decide_eq_true (by kernel_rfl)) k0 bel lt0) trodAll_mk0), rfl, bel.frame _, fun h => by cases h⟩

theorem over : Rows.fnExactBalancedRow.holds Try.pinned (OpenSpec.ofChange Rows.fnExactBalancedSpec) :=
  OpenClaim.holds_of_wide 3 Try.f3 rfl rfl rfl rfl rfl rfl rfl ⟨rfl, rfl, rfl, rfl, rfl⟩ rfl rfl rfl rfl rfl (by kernel_rfl) Try.func3 (by kernel_rfl)
    (of_decide_eq_true (by kernel_rfl)) (by unfold Func.isWrapper; first | (rw [if_pos (by decide +kernel)]; kernel_rfl) | (rw [if_neg (by decide +kernel)]; exact ⟨rfl, rfl⟩))
    (fun os started H enc _ => lifted os started H enc)

theorem proved : Rows.FnExactBalancedSaid := over
end Go.Proofs.Ytjdmmmohaiiocaa.fnExactBalanced

namespace Go.Proofs.Ytjdmmmohaiiocaa
theorem fnExactBalanced_holds : Rows.FnExactBalancedSaid := fnExactBalanced.proved
#print axioms fnExactBalanced_holds
end Go.Proofs.Ytjdmmmohaiiocaa
