/- Proved: laws.FnExactSchedNew answers true at every two ints; no condition. -/
import Derived.Test.YtcjblhiihgdljaaRows
import Derived.Test.YtcjblhiihgdljaaSchNew
import Derived.Test.YtcjblhiihgdljaaSchLaw
import Derived.Test.YtcjblhiihgdljaaSitMark2
import Derived.Test.YtcjblhiihgdljaaSitEq
import Derived.ProofKit
import Derived.OpenShut
import Derived.ShutString
namespace Go.Proofs.Ytcjblhiihgdljaa.fnExactSchedNew
open Go.ChangeShapes Go.WideShapes Go.ChangeAt Go.RowKit
open Go.ChangeMaps (open_string shut_string)
set_option linter.unusedVariables false      -- a walk need not use every 'w<i>' (that an integer argument fits its kind)

theorem own : ownKnob Try.prog.godebug = none := by kernel_rfl

set_option maxHeartbeats 8000000 in
theorem walk (a0 : Int) (a1 : Int) (w0 : (Lit.int .i64 a0).wf = true) (w1 : (Lit.int .i64 a1).wf = true) (w : World) :
    Calls Try.prog 4 #[.int .i64 a0, .int .i64 a1] w fun e w' => e = .returned (.bool true) ∧ Below w.heap.size w w' := by
  have CS : Hid (∀ W, Calls Try.prog 11 #[.int .i64 a0, .int .i64 a1] W fun e w' => e = .returned (.agg #[.int .i64 (newD a0 a1), .int .i64 (newP a0 a1), .int .i64 0, .int .i64 0, .slice none 0 0, .slice none 0 0]) ∧ Below W.heap.size W w') := fun W => specSchedNew a0 a1 W
  have CI : Hid (∀ W, Calls Try.prog 12 #[.int .i64 a0, .int .i64 a1] W fun e w' => e = .returned (.agg #[.int .i64 (newD a0 a1), .int .i64 (newP a0 a1), .int .i64 0, .int .i64 0, .slice none 0 0, .slice none 0 0]) ∧ Below W.heap.size W w') := fun W => implSchedNew a0 a1 W
  generalize newD a0 a1 = zd at *
  generalize newP a0 a1 = zp at *
  have HSO : Hid (∀ (W : World) base top, SchOwn W base top (.slice none 0 0) (.slice none 0 0) [] []) := fun W base top => ⟨⟨[], ⟨World.ownsRow_nil _ _ _ _, fun b hb => (by cases hb), SitPart.nil _ _ _⟩⟩, World.ownsRow_nil _ _ _ _, fun b hb => (by cases hb)⟩
  have CE : Hid (∀ W, Calls Try.prog 10 #[.agg #[.int .i64 zd, .int .i64 zp, .int .i64 0, .int .i64 0, .slice none 0 0, .slice none 0 0], .agg #[.int .i64 zd, .int .i64 zp, .int .i64 0, .int .i64 0, .slice none 0 0, .slice none 0 0]] W fun e w' => e = .returned (.bool true) ∧ Below W.heap.size W w') := fun W => eqSch zd zp 0 0 [] [] _ _ _ _ W ⟨by decide, fun i hi => absurd hi (Nat.not_lt_zero _)⟩ (by decide) (HSO.out W 0 0).row (HSO.out W 0 0).row
  have CM : Hid (∀ W, Calls Try.prog 13 #[.agg #[.int .i64 zd, .int .i64 zp, .int .i64 0, .int .i64 0, .slice none 0 0, .slice none 0 0], .int .i64 1] W fun e w' => e = .returned (.int .i64 1) ∧ Below W.heap.size W w') := fun W => (markSch zd zp 0 0 [] [] (.slice none 0 0) (.slice none 0 0) W.heap.size W.heap.size W (by decide) (by decide) (Nat.le_refl _) (HSO.out W _ _)).mono fun e w' h => ⟨h.1, h.2.2.below (Nat.le_refl _)⟩
  have CH : Hid (∀ W, Calls Try.prog 14 #[.agg #[.int .i64 zd, .int .i64 zp, .int .i64 0, .int .i64 0, .slice none 0 0, .slice none 0 0], .int .i64 1] W fun e w' => e = .returned (.int .i64 1) ∧ Below W.heap.size W w') := fun W => heldSch zd zp 0 0 [] [] (.slice none 0 0) (.slice none 0 0) W (by decide) (by decide) (HSO.out W 0 0).row.1 (HSO.out W 0 0).row.2
  go_enter Try.func4, Try.ntmps4
  go_wp2_with fail
  refine (CS.out _).mono ?_
  rintro e wa ⟨rfl, ba⟩
  go_upto_region 2 with fail
  obtain ⟨U, hU⟩ : ∃ U, U = wa.alloc (.cells #[.int .i64 zd, .int .i64 zp, .int .i64 0, .int .i64 0, .slice none 0 0, .slice none 0 0] 31) := ⟨_, rfl⟩
  have BU : Below w.heap.size w U := by rw [hU]; exact ba.alloc ba.size _
  have AU : BAt U wa.heap.size [.int .i64 zd, .int .i64 zp, .int .i64 0, .int .i64 0, .slice none 0 0, .slice none 0 0] := by rw [hU]; exact BAt.new wa #[.int .i64 zd, .int .i64 zp, .int .i64 0, .int .i64 0, .slice none 0 0, .slice none 0 0] _
  rw [← hU]
  clear hU ba
  generalize wa.heap.size = DA at *
  go_wp2_with fail
  refine (CI.out _).mono ?_
  rintro e wb ⟨rfl, bb⟩
  go_upto_region 3 with fail
  obtain ⟨V, hV⟩ : ∃ V, V = wb.alloc (.cells #[.int .i64 zd, .int .i64 zp, .int .i64 0, .int .i64 0, .slice none 0 0, .slice none 0 0] 31) := ⟨_, rfl⟩
  have BB := BU.trans (bb.mono BU.size)
  have BV : Below w.heap.size w V := by rw [hV]; exact BB.alloc BB.size _
  have AV : BAt V wb.heap.size [.int .i64 zd, .int .i64 zp, .int .i64 0, .int .i64 0, .slice none 0 0, .slice none 0 0] := by rw [hV]; exact BAt.new wb #[.int .i64 zd, .int .i64 zp, .int .i64 0, .int .i64 0, .slice none 0 0, .slice none 0 0] _
  have AA : BAt V DA [.int .i64 zd, .int .i64 zp, .int .i64 0, .int .i64 0, .slice none 0 0, .slice none 0 0] := by rw [hV]; exact (AU.below bb).alloc _
  rw [← hV]
  clear hV bb BB BU AU
  generalize wb.heap.size = DB at *
  have ca0 := AA.1 0 _ rfl
  have ca1 := AA.1 1 _ rfl
  have ca2 := AA.1 2 _ rfl
  have ca3 := AA.1 3 _ rfl
  have ca4 := AA.1 4 _ rfl
  have ca5 := AA.1 5 _ rfl
  have cb0 := AV.1 0 _ rfl
  have cb1 := AV.1 1 _ rfl
  have cb2 := AV.1 2 _ rfl
  have cb3 := AV.1 3 _ rfl
  have cb4 := AV.1 4 _ rfl
  have cb5 := AV.1 5 _ rfl
  go_wp2_with fail
  refine (CE.out _).mono ?_
  rintro e w4 ⟨rfl, b4⟩
  have B4 := BV.trans (b4.mono BV.size)
  have AA4 := AA.below b4
  have AV4 := AV.below b4
  clear ca0 ca1 ca2 ca3 ca4 ca5 cb0 cb1 cb2 cb3 cb4 cb5 AA AV BV
  have cb0 := AV4.1 0 _ rfl
  have cb1 := AV4.1 1 _ rfl
  have cb2 := AV4.1 2 _ rfl
  have cb3 := AV4.1 3 _ rfl
  have cb4 := AV4.1 4 _ rfl
  have cb5 := AV4.1 5 _ rfl
  go_wp2_with fail
  refine (CM.out _).mono ?_
  rintro e w5 ⟨rfl, c5⟩
  have B5 := B4.trans (c5.mono B4.size)
  have AA5 := AA4.below c5
  have AV5 := AV4.below c5
  clear cb0 cb1 cb2 cb3 cb4 cb5 c5 AA4 AV4 B4
  have cb0 := AV5.1 0 _ rfl
  have cb1 := AV5.1 1 _ rfl
  have cb2 := AV5.1 2 _ rfl
  have cb3 := AV5.1 3 _ rfl
  have cb4 := AV5.1 4 _ rfl
  have cb5 := AV5.1 5 _ rfl
  go_wp2_with fail
  refine (CH.out _).mono ?_
  rintro e w6 ⟨rfl, c6⟩
  have B6 := B5.trans (c6.mono B5.size)
  have AA6 := AA5.below c6
  have AV6 := AV5.below c6
  clear cb0 cb1 cb2 cb3 cb4 cb5 c6 AA5 AV5 B5
  go_wp2_with fail
  refine (CI.out _).mono ?_
  rintro e w7 ⟨rfl, c7⟩
  have B7 := B6.trans (c7.mono B6.size)
  go_upto_region 14 with fail
  obtain ⟨X, hX⟩ : ∃ X, X = w7.alloc (.cells #[.int .i64 zd, .int .i64 zp, .int .i64 0, .int .i64 0, .slice none 0 0, .slice none 0 0] 31) := ⟨_, rfl⟩
  have BX : Below w.heap.size w X := by rw [hX]; exact B7.alloc B7.size _
  have AX : BAt X w7.heap.size [.int .i64 zd, .int .i64 zp, .int .i64 0, .int .i64 0, .slice none 0 0, .slice none 0 0] := by rw [hX]; exact BAt.new w7 #[.int .i64 zd, .int .i64 zp, .int .i64 0, .int .i64 0, .slice none 0 0, .slice none 0 0] _
  have AA7 : BAt X DA [.int .i64 zd, .int .i64 zp, .int .i64 0, .int .i64 0, .slice none 0 0, .slice none 0 0] := by rw [hX]; exact (AA6.below c7).alloc _
  have AV7 : BAt X DB [.int .i64 zd, .int .i64 zp, .int .i64 0, .int .i64 0, .slice none 0 0, .slice none 0 0] := by rw [hX]; exact (AV6.below c7).alloc _
  rw [← hX]
  clear hX c7 B6 B7 AA6 AV6
  generalize w7.heap.size = DX at *
  have ca0 := AA7.1 0 _ rfl
  have ca1 := AA7.1 1 _ rfl
  have ca2 := AA7.1 2 _ rfl
  have ca3 := AA7.1 3 _ rfl
  have ca4 := AA7.1 4 _ rfl
  have ca5 := AA7.1 5 _ rfl
  have cb0 := AX.1 0 _ rfl
  have cb1 := AX.1 1 _ rfl
  have cb2 := AX.1 2 _ rfl
  have cb3 := AX.1 3 _ rfl
  have cb4 := AX.1 4 _ rfl
  have cb5 := AX.1 5 _ rfl
  go_wp2_with fail
  refine (CE.out _).mono ?_
  rintro e w8 ⟨rfl, c8⟩
  have B8 := BX.trans (c8.mono BX.size)
  have AV8 := AV7.below c8
  clear ca0 ca1 ca2 ca3 ca4 ca5 cb0 cb1 cb2 cb3 cb4 cb5 c8 AA7 AV7 AX BX
  have cb0 := AV8.1 0 _ rfl
  have cb1 := AV8.1 1 _ rfl
  have cb2 := AV8.1 2 _ rfl
  have cb3 := AV8.1 3 _ rfl
  have cb4 := AV8.1 4 _ rfl
  have cb5 := AV8.1 5 _ rfl
  go_wp2_with fail
  refine (CH.out _).mono ?_
  rintro e w9 ⟨rfl, c9⟩
  have B9 := B8.trans (c9.mono B8.size)
  go_wp2_with fail
  go_ret
  exact ⟨rfl, B9⟩

set_option maxRecDepth 100000 in
theorem lifted (os : Os) (started : os.Started) (H : Type) (enc : TypeId × Value → H) :
    ReturnsInHanded {} Try.checked os 4 .any (Rows.fnExactSchedNewSpec.pre6 enc Try.prog Try.f4 Rows.fnExactSchedNewRow.domain false) (Rows.fnExactSchedNewSpec.post enc Try.prog Try.f4 false true false false) := by
  refine returnsInHanded_of_change (C := Try.checked) own started (by kernel_rfl) Try.func4
    (ChangeSpec.witness6 (enc := enc) (C := Try.checked) false ⟨#[], #[.int .i64 0, .int .i64 0], []⟩ 8 (by kernel_rfl) (by kernel_rfl) (by kernel_rfl) (by kernel_rfl)) ?_
  intro W base args ds gs before hval0 hW hcnd _
  have hval : ∀ (j : Nat) t v, Try.f4.params[j]? = some t → args[j]? = some v → Value.okWide Try.prog W .any base t v := hval0
  have hW' := hW
  obtain ⟨p, q, hA0, hV, rfl, hfz, hnd⟩ := hW
  have hA : DataW.TrodAll enc Try.prog W 0 (fun _ => true) true Try.f4.params.toList args.toList ds p := hA0
  rw [Try.params4] at hA hval
  obtain ⟨v0, vs0, d0, ds0, p0, q0, hargs, rfl, rfl, h0, r0⟩ := trodAll_cons hA
  obtain ⟨v1, vs1, d1, ds1, p1, q1, rfl, rfl, rfl, h1, r1⟩ := trodAll_cons r0
  obtain ⟨rfl, rfl, rfl⟩ := trodAll_nil r1
  obtain rfl : args = #[v0, v1] := by cases args; simp_all
  obtain ⟨rfl, rfl⟩ := trodVars_none hV
  obtain ⟨a0, rfl, rfl, rfl, w0⟩ := open_int Try.underlying3 (hval 0 3 v0 rfl rfl) h0
  obtain ⟨a1, rfl, rfl, rfl, w1⟩ := open_int Try.underlying3 (hval 1 3 v1 rfl rfl) h1
  clear hA0 hval0
  simp only [List.append_nil] at hW'
  refine (walk a0 a1 w0 w1 W).mono fun e W' ⟨he, bel⟩ => ?_
  subst he
  exact ⟨_, rfl, _, _, _, [], [], [], hW', trodAll_cons_mk (shut_bool Try.underlying4 _) trodAll_mk0, (trodAll_cons_mk (shut_int Try.underlying3 w0) (trodAll_cons_mk (shut_int Try.underlying3 w1) trodAll_mk0)), rfl, bel.frame _, fun h => by cases h⟩

theorem over : Rows.fnExactSchedNewRow.holds Try.pinned (OpenSpec.ofChange Rows.fnExactSchedNewSpec) :=
  OpenClaim.holds_of_wide 4 Try.f4 rfl rfl rfl rfl rfl rfl rfl ⟨rfl, rfl, rfl, rfl, rfl⟩ rfl rfl rfl rfl rfl (by kernel_rfl) Try.func4 (by kernel_rfl)
    (of_decide_eq_true (by kernel_rfl)) (by unfold Func.isWrapper; first | (rw [if_pos (by decide +kernel)]; kernel_rfl) | (rw [if_neg (by decide +kernel)]; exact ⟨rfl, rfl⟩))
    (fun os started H enc _ => lifted os started H enc)

theorem proved : Rows.FnExactSchedNewSaid :=
  over
end Go.Proofs.Ytcjblhiihgdljaa.fnExactSchedNew

namespace Go.Proofs.Ytcjblhiihgdljaa
theorem fnExactSchedNew_holds : Rows.FnExactSchedNewSaid := fnExactSchedNew.proved
#print axioms fnExactSchedNew_holds
end Go.Proofs.Ytcjblhiihgdljaa
