/- Proved: laws.FnExactFits answers true at every rule and string and leaves them as they were; no condition. -/
import Derived.Test.YtijliddchoehhaaRows
import Derived.Test.YtijliddchoehhaaOpenRules
import Derived.Test.YtijliddchoehhaaRuleTo
import Derived.Test.YtijliddchoehhaaRuleEq
import Derived.Test.YtijliddchoehhaaRuleFits
import Derived.Test.YtijliddchoehhaaFitsImpl2
import Derived.ProofKit
import Derived.OpenShut
import Derived.ShutString
import Derived.ChangeOld
import Derived.Below
namespace Go.Proofs.Ytijliddchoehhaa.fnExactFits
open Go.ChangeShapes Go.WideShapes Go.ChangeAt Go.RowKit
open Go.ChangeMaps (open_string shut_string)
set_option linter.unusedVariables false

theorem own : ownKnob Try.prog.godebug = none := by kernel_rfl
theorem laidOut : laidOutB Try.prog = true := by kernel_rfl

set_option maxRecDepth 100000 in
set_option maxHeartbeats 8000000 in
theorem walk (p0 : Value) (r0 : RV) (a1 : ByteArray) (w : World) (w0 : StrRow w p0 r0.ps) (m0 : SMax r0.ps) (w1 : a1.size ≤ maxLen) :
    Calls Try.prog 5 #[.agg #[p0, .bool r0.ex], .string a1] w fun e w' => e = .returned (.bool true) ∧ Below w.heap.size w w' := by
  have HM : Hid (SMax r0.ps) := m0
  have HW : Hid (StrRow w p0 r0.ps) := w0
  clear m0 w0
  by_cases hbig : 1048576 < (a1.size : Int)
  · go_enter Try.func5, Try.ntmps5
    go_wp2_with fail
    go_ret
    exact ⟨rfl, (Below.refl _ _).alloc (Nat.le_refl _) _⟩
  · have hs : a1.size ≤ 1048576 := by omega
    obtain ⟨O, hO⟩ : ∃ O, O = w.alloc (.cells #[p0, .bool r0.ex] 32) := ⟨_, rfl⟩
    have bO : Below w.heap.size w O := by rw [hO]; exact (Below.refl _ _).alloc (Nat.le_refl _) _
    have AO : Hid (BAt O w.heap.size [p0, .bool r0.ex]) := by rw [hO]; exact BAt.new w #[p0, .bool r0.ex] _
    have AB : Hid (∀ W, Below O.heap.size O W → BAt W w.heap.size [p0, .bool r0.ex]) := fun W hb => AO.out.below hb
    have HA : Hid (∀ W, Below O.heap.size O W → StrRow W p0 r0.ps) := fun W hb => (HW.out.below bO).below hb
    go_enter Try.func5, Try.ntmps5
    go_upto_region 1 with fail
    rw [← hO]
    clear hO
    have c0 := AO.out.1 0 _ rfl
    have c1 := AO.out.1 1 _ rfl
    go_wp2_with fail
    refine (szRule r0 p0 1048576 O (by decide) (by decide) HM.out (HA.out _ (Below.refl _ _))).mono ?_
    rintro e wa ⟨⟨z, rfl, hz1, hz2, hz3⟩, ba⟩
    clear c0 c1
    by_cases hneg : z < 0
    · clear hz3
      go_wp2_with fail
      go_ret
      exact ⟨rfl, bO.trans (ba.mono bO.size)⟩
    · obtain ⟨hl, hz⟩ := hz3 (by omega)
      have hl2 : r0.ps.length ≤ 1048576 := by omega
      clear hz3 hz hl
      have c0 := (AB.out _ ba).1 0 _ rfl
      have c1 := (AB.out _ ba).1 1 _ rfl
      go_wp2_with fail
      refine (toRule r0 p0 wa (by omega) (HA.out _ ba)).mono ?_
      rintro e wb ⟨pb, rfl, ob, bb⟩
      have B1 := ba.trans (bb.mono ba.size)
      have RB : Hid (StrRow wb pb r0.ps) := StrRow.of_own ob
      clear ob bb ba c0 c1
      go_wp2_with fail
      refine (specFits pb r0 a1 wb (by omega) hs RB.out).mono ?_
      rintro e wc ⟨rfl, bc⟩
      have B2 := B1.trans (bc.mono B1.size)
      clear bc B1 RB
      have c0 := (AB.out _ B2).1 0 _ rfl
      have c1 := (AB.out _ B2).1 1 _ rfl
      go_wp2_with fail
      refine (toRule r0 p0 _ (by omega) (HA.out _ (by first | exact B2 | exact B2.alloc B2.size _))).mono ?_
      rintro e wd ⟨pd, rfl, od, bd⟩
      have B3 := B2.trans (bd.mono B2.size)
      have RD : Hid (StrRow wd pd r0.ps) := StrRow.of_own od
      clear bd B2 c0 c1
      obtain ⟨aod, capd, rfl⟩ := RD.out.slice
      clear od
      have bq : Below wd.heap.size wd (wd.alloc (.cells #[.slice aod r0.ps.length capd, .bool r0.ex] 35)) := (Below.refl _ _).alloc (Nat.le_refl _) _
      have BX : Hid (BAt (wd.alloc (.cells #[.slice aod r0.ps.length capd, .bool r0.ex] 35)) wd.heap.size [.slice aod r0.ps.length capd, .bool r0.ex]) := BAt.new wd #[.slice aod r0.ps.length capd, .bool r0.ex] _
      have B4 := B3.trans (bq.mono B3.size)
      have RQ := RD.out.below bq
      go_wp2_with fail
      refine (implFits _ r0 a1 _ hl2 hs RQ).mono ?_
      rintro e we ⟨rfl, be⟩
      have B5 := B4.trans (be.mono B4.size)
      have BX2 : Hid (BAt we wd.heap.size [.slice aod r0.ps.length capd, .bool r0.ex]) := BX.out.below be
      have RE : Hid (StrRow we (.slice aod r0.ps.length capd) r0.ps) := RQ.below be
      clear be B4 B3 bq BX RD RQ
      generalize wd.heap.size = D at BX2 ⊢
      have x0 := BX2.out.1 0 _ rfl
      have x1 := BX2.out.1 1 _ rfl
      have c0 := (AB.out _ B5).1 0 _ rfl
      have c1 := (AB.out _ B5).1 1 _ rfl
      have hD := BX2.out.2.2
      have CT : Hid (Calls Try.prog 15 #[.agg #[p0, .bool r0.ex]] we.drew fun e w' => ∃ p', e = .returned (.agg #[p', .bool r0.ex]) ∧ w'.ownsRow we.heap.size 9 1 p' r0.ps.length (scells r0.ps) ∧ Below we.heap.size we.drew w') := toRule r0 p0 we.drew (by omega) (HA.out _ B5.drew)
      go_wp2_with fail
      go_region_with (first | (go_at_call 15; refine CT.out.mono ?_; rintro e wf ⟨pf, rfl, of, bf⟩; have y0 := (bf.cell (p := ⟨D, 0, none⟩) hD).trans x0; have y1 := (bf.cell (p := ⟨D, 1, none⟩) hD).trans x1) | (go_at_call 17; refine (eqRule r0 _ pf wf (by omega) (RE.out.same bf.size bf.block) (StrRow.of_own of)).mono ?_; rintro e wg ⟨rfl, bg⟩))
      all_goals
        have B6 := B5.drew.trans (bf.mono B5.size)
        have B7 := B6.trans (bg.mono B6.size)
        clear bf bg of B6
        go_wp2_with fail
        go_ret
        exact ⟨rfl, bO.trans (B7.mono bO.size)⟩

set_option maxRecDepth 100000 in
theorem lifted (os : Os) (started : os.Started) (H : Type) (enc : TypeId × Value → H) :
    ReturnsInHanded {} Try.checked os 5 .any (Rows.fnExactFitsSpec.pre6 enc Try.prog Try.f5 Rows.fnExactFitsRow.domain false) (Rows.fnExactFitsSpec.post enc Try.prog Try.f5 false true false false) := by
  refine returnsInHanded_of_change (C := Try.checked) own started (by kernel_rfl) Try.func5
    (ChangeSpec.witness6 (enc := enc) (C := Try.checked) false ⟨#[], #[.agg #[.slice none 0 0, .bool false], .string ByteArray.empty], []⟩ 8 (by kernel_rfl) (by kernel_rfl) (by kernel_rfl) (by kernel_rfl)) ?_
  intro W base args ds gs before hval0 hW hcnd _
  have hval : ∀ (j : Nat) t v, Try.f5.params[j]? = some t → args[j]? = some v → Value.okWide Try.prog W .any base t v := hval0
  have hW' := hW
  obtain ⟨p, q, hA0, hV, rfl, hfz, hnd⟩ := hW
  have hA : DataW.TrodAll enc Try.prog W 0 (fun _ => true) true Try.f5.params.toList args.toList ds p := hA0
  rw [Try.params5] at hA hval
  obtain ⟨v0, vs0, d0, ds0, p0, qq0, hargs, rfl, rfl, h0, rr0⟩ := trodAll_cons hA
  obtain ⟨v1, vs1, d1, ds1, p1, qq1, rfl, rfl, rfl, h1, rr1⟩ := trodAll_cons rr0
  obtain ⟨rfl, rfl, rfl⟩ := trodAll_nil rr1
  obtain rfl : args = #[v0, v1] := by cases args; simp_all
  obtain ⟨rfl, rfl⟩ := trodVars_none hV
  have k0 := h0
  have lt0 : ∀ x ∈ p0, x.block < W.heap.size := by obtain ⟨m, hm⟩ := k0; exact DataW.trod_lt m _ _ _ hm
  obtain ⟨q0, r0, rfl, w0, m0⟩ := open_rule (hval 0 32 v0 rfl rfl) h0
  obtain ⟨a1, rfl, rfl, rfl, w1⟩ := open_string Try.underlying9 (hval 1 9 v1 rfl rfl) h1
  clear hA0 hval0
  refine (walk q0 r0 a1 W w0 m0 w1).mono fun e W' ⟨he, bel⟩ => ?_
  subst he
  exact ⟨_, rfl, _, _, _, [], _, [], hW', trodAll_mk1 (shut_bool Try.underlying4 _), (trodAll_cons_mk (Below.trod laidOut (by kernel_rfl) (of_decide_eq_true (by kernel_rfl)) k0 bel lt0) (trodAll_cons_mk (shut_string Try.underlying9 w1) trodAll_mk0)), rfl, bel.frame _, fun h => by cases h⟩

theorem over : Rows.fnExactFitsRow.holds Try.pinned (OpenSpec.ofChange Rows.fnExactFitsSpec) :=
  OpenClaim.holds_of_wide 5 Try.f5 rfl rfl rfl rfl rfl rfl rfl ⟨rfl, rfl, rfl, rfl, rfl⟩ rfl rfl rfl rfl rfl (by kernel_rfl) Try.func5 (by kernel_rfl)
    (of_decide_eq_true (by kernel_rfl)) (by unfold Func.isWrapper; first | (rw [if_pos (by decide +kernel)]; kernel_rfl) | (rw [if_neg (by decide +kernel)]; exact ⟨rfl, rfl⟩))
    (fun os started H enc _ => lifted os started H enc)

theorem proved : Rows.FnExactFitsSaid := over
end Go.Proofs.Ytijliddchoehhaa.fnExactFits

namespace Go.Proofs.Ytijliddchoehhaa
theorem fnExactFits_holds : Rows.FnExactFitsSaid := fnExactFits.proved
#print axioms fnExactFits_holds
end Go.Proofs.Ytijliddchoehhaa
