/- Proved: laws.FnExactRulesText answers true at every list of rules and leaves it as it was; no condition. -/
import Derived.Test.YtijliddchoehhaaRows
import Derived.Test.YtijliddchoehhaaOpenRules
import Derived.Test.YtijliddchoehhaaRuleTo
import Derived.Test.YtijliddchoehhaaRuleEq
import Derived.Test.YtijliddchoehhaaRuleSpec3
import Derived.Test.YtijliddchoehhaaRulesImpl3
import Derived.ProofKit
import Derived.OpenShut
import Derived.ShutString
import Derived.ChangeOld
import Derived.Below
namespace Go.Proofs.Ytijliddchoehhaa.fnExactRulesText
open Go.ChangeShapes Go.WideShapes Go.ChangeAt Go.RowKit
open Go.ChangeMaps (open_string shut_string)
set_option linter.unusedVariables false

theorem own : ownKnob Try.prog.godebug = none := by kernel_rfl
theorem laidOut : laidOutB Try.prog = true := by kernel_rfl

set_option maxRecDepth 100000 in
set_option maxHeartbeats 8000000 in
theorem walk (a0 : Option Addr) (len0 cap0 : Nat) (l0 : List RV) (w : World) (w0 : RuleRow w (.slice a0 len0 cap0) l0) (m0 : RMax l0) :
    Calls Try.prog 4 #[.slice a0 len0 cap0] w fun e w' => e = .returned (.bool true) ∧ Below w.heap.size w w' := by
  have HM : Hid (RMax l0) := m0
  have HW : Hid (RuleRow w (.slice a0 len0 cap0) l0) := w0
  clear m0 w0
  go_enter Try.func4, Try.ntmps4
  go_wp2_with fail
  refine (szRules l0 _ 1048576 w (by decide) (by decide) HM.out HW.out).mono ?_
  rintro e wa ⟨⟨z, rfl, hz1, hz2, hz3⟩, ba⟩
  by_cases hneg : z < 0
  · clear hz3
    go_wp2_with fail
    go_ret
    exact ⟨rfl, ba⟩
  · obtain ⟨hl, hz⟩ := hz3 (by omega)
    have HZ : Hid (RSz l0) := hz
    have hz' : Hid (∀ r ∈ l0, r.ps.length ≤ 2097152) := fun r hr => (hz r hr).1
    clear hz3 hz
    have HA : Hid (∀ W, Below w.heap.size w W → RuleRow W (.slice a0 len0 cap0) l0) := fun W hb => HW.out.below hb
    go_wp2_with fail
    refine (toRules l0 _ _ hl hz'.out (HA.out _ ba)).mono ?_
    rintro e wb ⟨vb, rfl, rb, bb⟩
    have B1 := ba.trans (bb.mono ba.size)
    have RB : Hid (RuleRow wb vb l0) := rb
    clear rb bb ba
    go_wp2_with fail
    refine (specRulesText l0 _ _ hl HZ.out RB.out).mono ?_
    rintro e wc ⟨rfl, bc⟩
    have B2 := B1.trans (bc.mono B1.size)
    clear bc B1 RB
    go_wp2_with fail
    refine (toRules l0 _ _ hl hz'.out (HA.out _ B2)).mono ?_
    rintro e wd ⟨vd, rfl, rd, bd⟩
    have B3 := B2.trans (bd.mono B2.size)
    have RD : Hid (RuleRow wd vd l0) := rd
    clear rd bd B2
    go_wp2_with fail
    refine (implRulesText l0 _ _ hl HZ.out RD.out).mono ?_
    rintro e we ⟨rfl, be⟩
    have B4 := B3.trans (be.mono B3.size)
    have RE : Hid (RuleRow we vd l0) := RD.out.below be
    clear be B3 RD
    go_wp2_with fail
    refine (toRules l0 _ _ hl hz'.out (HA.out _ B4)).mono ?_
    rintro e wf ⟨vf, rfl, rf, bf⟩
    have B5 := B4.trans (bf.mono B4.size)
    have RF : Hid (RuleRow wf vf l0) := rf
    have RG : Hid (RuleRow wf vd l0) := RE.out.below bf
    clear rf bf B4 RE
    go_wp2_with fail
    refine (eqRules l0 _ _ _ hl hz'.out RG.out RF.out).mono ?_
    rintro e wg ⟨rfl, bg⟩
    have B6 := B5.trans (bg.mono B5.size)
    clear bg B5
    go_wp2_with fail
    go_ret
    exact ⟨rfl, B6⟩

set_option maxRecDepth 100000 in
theorem lifted (os : Os) (started : os.Started) (H : Type) (enc : TypeId × Value → H) :
    ReturnsInHanded {} Try.checked os 4 .any (Rows.fnExactRulesTextSpec.pre6 enc Try.prog Try.f4 Rows.fnExactRulesTextRow.domain false) (Rows.fnExactRulesTextSpec.post enc Try.prog Try.f4 false true false false) := by
  refine returnsInHanded_of_change (C := Try.checked) own started (by kernel_rfl) Try.func4
    (ChangeSpec.witness6 (enc := enc) (C := Try.checked) false ⟨#[], #[.slice none 0 0], []⟩ 8 (by kernel_rfl) (by kernel_rfl) (by kernel_rfl) (by kernel_rfl)) ?_
  intro W base args ds gs before hval0 hW hcnd _
  have hval : ∀ (j : Nat) t v, Try.f4.params[j]? = some t → args[j]? = some v → Value.okWide Try.prog W .any base t v := hval0
  have hW' := hW
  obtain ⟨p, q, hA0, hV, rfl, hfz, hnd⟩ := hW
  have hA : DataW.TrodAll enc Try.prog W 0 (fun _ => true) true Try.f4.params.toList args.toList ds p := hA0
  rw [Try.params4] at hA hval
  obtain ⟨v0, vs0, d0, ds0, p0, qq0, hargs, rfl, rfl, h0, rr0⟩ := trodAll_cons hA
  obtain ⟨rfl, rfl, rfl⟩ := trodAll_nil rr0
  obtain rfl : args = #[v0] := by cases args; simp_all
  obtain ⟨rfl, rfl⟩ := trodVars_none hV
  obtain ⟨a0, len0, cap0, rfl⟩ := okWide_slice Try.underlying22 (hval 0 22 v0 rfl rfl)
  have k0 := h0
  have lt0 : ∀ x ∈ p0, x.block < W.heap.size := by obtain ⟨m, hm⟩ := k0; exact DataW.trod_lt m _ _ _ hm
  obtain ⟨l0, w0, m0⟩ : ∃ l : List RV, RuleRow W (.slice a0 len0 cap0) l ∧ RMax l := by obtain ⟨fuel, hf⟩ := h0; exact open_rules hf
  clear hA0 hval0
  refine (walk a0 len0 cap0 l0 W w0 m0).mono fun e W' ⟨he, bel⟩ => ?_
  subst he
  exact ⟨_, rfl, _, _, _, [], _, [], hW', trodAll_mk1 (shut_bool Try.underlying4 _), (trodAll_cons_mk (Below.trod laidOut (by kernel_rfl) (of_decide_eq_true (by kernel_rfl)) k0 bel lt0) trodAll_mk0), rfl, bel.frame _, fun h => by cases h⟩

theorem over : Rows.fnExactRulesTextRow.holds Try.pinned (OpenSpec.ofChange Rows.fnExactRulesTextSpec) :=
  OpenClaim.holds_of_wide 4 Try.f4 rfl rfl rfl rfl rfl rfl rfl ⟨rfl, rfl, rfl, rfl, rfl⟩ rfl rfl rfl rfl rfl (by kernel_rfl) Try.func4 (by kernel_rfl)
    (of_decide_eq_true (by kernel_rfl)) (by unfold Func.isWrapper; first | (rw [if_pos (by decide +kernel)]; kernel_rfl) | (rw [if_neg (by decide +kernel)]; exact ⟨rfl, rfl⟩))
    (fun os started H enc _ => lifted os started H enc)

theorem proved : Rows.FnExactRulesTextSaid := over
end Go.Proofs.Ytijliddchoehhaa.fnExactRulesText

namespace Go.Proofs.Ytijliddchoehhaa
theorem fnExactRulesText_holds : Rows.FnExactRulesTextSaid := fnExactRulesText.proved
#print axioms fnExactRulesText_holds
end Go.Proofs.Ytijliddchoehhaa
