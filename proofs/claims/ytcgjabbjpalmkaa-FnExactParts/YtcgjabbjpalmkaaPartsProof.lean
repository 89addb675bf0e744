/- Proved: laws.FnExactParts answers true at every string and leaves it as it was; no condition. -/
import Derived.Test.YtcgjabbjpalmkaaRows
import Derived.Test.YtcgjabbjpalmkaaStrMarks
import Derived.Test.YtcgjabbjpalmkaaPartsWalk
import Derived.ProofKit
import Derived.OpenShut
import Derived.ShutString
namespace Go.Proofs.Ytcgjabbjpalmkaa.fnExactParts
open Go.ChangeShapes Go.WideShapes Go.ChangeAt Go.RowKit
open Go.ChangeMaps (open_string shut_string)
set_option linter.unusedVariables false      -- a walk need not use every 'w<i>' (that an integer argument fits its kind)

theorem own : ownKnob Try.prog.godebug = none := by kernel_rfl

theorem walk (a0 : ByteArray) (w0 : a0.size ≤ maxLen) (w : World) :
    Calls Try.prog 4 #[.string a0] w fun e w' => e = .returned (.bool true) ∧ Below w.heap.size w w' := by
  by_cases hbig : 1048576 < (a0.size : Int)
  · go_enter Try.func4, Try.ntmps4
    go_wp2
    go_ret
    exact ⟨rfl, Below.refl _ _⟩
  · have hs : a0.size ≤ 1048576 := by omega
    have hn : (partsL a0).length ≤ 1048577 := by
      have := fields_le a0 46
      unfold partsL
      split
      · simp
      · rw [List.length_reverse]; omega
    go_enter Try.func4, Try.ntmps4
    go_wp2_with fail
    refine (specParts _ _ hs).mono ?_
    rintro e wa ⟨va, rfl, oa, ba⟩
    go_wp2_with fail
    refine (implParts _ _ hs).mono ?_
    rintro e wb ⟨vb, rfl, ob, bb⟩
    have oa2 := own_below oa bb
    go_wp2_with fail
    refine (eqStringS _ _ _ _ _ _ (by omega) ob oa2).mono ?_
    rintro e wc ⟨rfl, bc⟩
    have oa3 := own_below oa2 bc
    have ob3 := own_below ob bc
    go_wp2_with fail
    refine (markStringS 1 _ _ _ _ _ (by omega) (by omega) ob3).mono ?_
    rintro e wd ⟨rfl, ob4, gd⟩
    go_wp2_with fail
    refine (heldStringS 1 _ _ _ _ (by omega) (by omega) ob4).mono ?_
    rintro e we ⟨rfl, be⟩
    have oa4 : wd.ownsRow _ _ _ va _ _ := oa3.kept gd (by
      cases hx : va.ownBlock with
      | none => exact .inl rfl
      | some x =>
        refine .inr fun hy => ?_
        have h1 := (oa.lt x hx).2
        have h2 := (ob.lt x hy.symm).1
        omega)
    have oa5 := own_below oa4 be
    have ob5 := own_below ob4 be
    go_wp2_with fail
    refine (implParts _ _ hs).mono ?_
    rintro e wf ⟨vc, rfl, oc, bf⟩
    have oa6 := own_below oa5 bf
    have ob6 := own_below ob5 bf
    go_wp2_with fail
    refine (eqStringS _ _ _ _ _ _ (by omega) oc oa6).mono ?_
    rintro e wg ⟨rfl, bg⟩
    have ob7 := own_below ob6 bg
    go_wp2_with fail
    refine (heldStringS 1 _ _ _ _ (by omega) (by omega) ob7).mono ?_
    rintro e wh ⟨rfl, bh⟩
    have z1 := ba.size
    have z2 := bb.size
    have z3 := bc.size
    have z4 := gd.size
    have z5 := be.size
    have z6 := bf.size
    have z7 := bg.size
    have Bd : Below w.heap.size w wd := ((ba.trans (bb.mono z1)).trans (bc.mono (by omega))).grown gd (by omega) (fun k hk => by have := (ob.lt k hk).1; omega)
    have B : Below w.heap.size w wh := (((Bd.trans (be.mono (by omega))).trans (bf.mono (by omega))).trans (bg.mono (by omega))).trans (bh.mono (by omega))
    clear oa oa2 oa3 oa4 oa5 oa6 ob ob3 ob4 ob5 ob6 ob7 oc ba bb bc gd be bf bg bh Bd
    go_wp2
    go_ret
    exact ⟨rfl, B⟩

set_option maxRecDepth 100000 in
theorem lifted (os : Os) (started : os.Started) (H : Type) (enc : TypeId × Value → H) :
    ReturnsInHanded {} Try.checked os 4 .any (Rows.fnExactPartsSpec.pre6 enc Try.prog Try.f4 Rows.fnExactPartsRow.domain false) (Rows.fnExactPartsSpec.post enc Try.prog Try.f4 false true false false) := by
  refine returnsInHanded_of_change (C := Try.checked) own started (by kernel_rfl) Try.func4
    (ChangeSpec.witness6 (enc := enc) (C := Try.checked) false ⟨#[], #[.string ByteArray.empty], []⟩ 8 (by kernel_rfl) (by kernel_rfl) (by kernel_rfl) (by kernel_rfl)) ?_
  intro W base args ds gs before hval0 hW hcnd _
  have hval : ∀ (j : Nat) t v, Try.f4.params[j]? = some t → args[j]? = some v → Value.okWide Try.prog W .any base t v := hval0
  have hW' := hW
  obtain ⟨p, q, hA0, hV, rfl, hfz, hnd⟩ := hW
  have hA : DataW.TrodAll enc Try.prog W 0 (fun _ => true) true Try.f4.params.toList args.toList ds p := hA0
  rw [Try.params4] at hA hval
  obtain ⟨v0, vs0, d0, ds0, p0, q0, hargs, rfl, rfl, h0, r0⟩ := trodAll_cons hA
  obtain ⟨rfl, rfl, rfl⟩ := trodAll_nil r0
  obtain rfl : args = #[v0] := by cases args; simp_all
  obtain ⟨rfl, rfl⟩ := trodVars_none hV
  obtain ⟨a0, rfl, rfl, rfl, w0⟩ := open_string Try.underlying9 (hval 0 9 v0 rfl rfl) h0
  clear hA0 hval0
  simp only [List.append_nil] at hW'
  refine (walk a0 w0 W).mono fun e W' ⟨he, bel⟩ => ?_
  subst he
  exact ⟨_, rfl, _, _, _, [], [], [], hW', trodAll_cons_mk (shut_bool Try.underlying4 _) trodAll_mk0, (trodAll_cons_mk (shut_string Try.underlying9 w0) trodAll_mk0), rfl, bel.frame _, fun h => by cases h⟩

theorem over : Rows.fnExactPartsRow.holds Try.pinned (OpenSpec.ofChange Rows.fnExactPartsSpec) :=
  OpenClaim.holds_of_wide 4 Try.f4 rfl rfl rfl rfl rfl rfl rfl ⟨rfl, rfl, rfl, rfl, rfl⟩ rfl rfl rfl rfl rfl (by kernel_rfl) Try.func4 (by kernel_rfl)
    (of_decide_eq_true (by kernel_rfl)) (by unfold Func.isWrapper; first | (rw [if_pos (by decide +kernel)]; kernel_rfl) | (rw [if_neg (by decide +kernel)]; exact ⟨rfl, rfl⟩))
    (fun os started H enc _ => lifted os started H enc)

theorem proved : Rows.FnExactPartsSaid :=
  over
end Go.Proofs.Ytcgjabbjpalmkaa.fnExactParts

namespace Go.Proofs.Ytcgjabbjpalmkaa
theorem fnExactParts_holds : Rows.FnExactPartsSaid := fnExactParts.proved
#print axioms fnExactParts_holds
end Go.Proofs.Ytcgjabbjpalmkaa
