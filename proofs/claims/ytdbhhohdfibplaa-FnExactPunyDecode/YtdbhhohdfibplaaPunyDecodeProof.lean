/- Proved: laws.FnExactPunyDecode answers true at every string and leaves it as it was; no condition. -/
import Derived.Test.YtdbhhohdfibplaaRows
import Derived.Test.YtdbhhohdfibplaaDecBoth
import Derived.ProofKit
import Derived.OpenShut
import Derived.ShutString
namespace Go.Proofs.Ytdbhhohdfibplaa.fnExactPunyDecode
open Go.ChangeShapes Go.WideShapes Go.ChangeAt Go.RowKit
open Go.ChangeMaps (open_string shut_string)
set_option linter.unusedVariables false      -- a walk need not use every 'w<i>' (that an integer argument fits its kind)

theorem own : ownKnob Try.prog.godebug = none := by kernel_rfl

theorem walk (a0 : ByteArray) (w0 : a0.size ≤ maxLen) (w : World) :
    Calls Try.prog 7 #[.string a0] w fun e w' => e = .returned (.bool true) ∧ Below w.heap.size w w' := by
  by_cases hbig : 1048576 < (a0.size : Int)
  · go_enter Try.func7, Try.ntmps7
    go_wp2
    go_ret
    exact ⟨rfl, Below.refl _ _⟩
  · obtain ⟨r, hr, HS, HI⟩ := decBoth a0
    have HS' : Hid (∀ W, Calls Try.prog 16 #[.string a0] W fun e w' => decAns W w' r e ∧ Below W.heap.size W w') := HS
    have HI' : Hid (∀ W, Calls Try.prog 12 #[.string a0] W fun e w' => decAns W w' r e ∧ Below W.heap.size W w') := HI
    clear HS HI
    obtain ⟨zs, n, ok, hn, HA⟩ : ∃ (zs : List Int) (n : Nat) (ok : Bool), n ≤ 1048576 ∧ ∀ (W w' : World) (e : Ending), decAns W w' r e → ∃ v, e = .returned (.tuple #[v, .bool ok]) ∧ w'.ownsRow W.heap.size 3 1 v n (icells zs) := by
      cases r with
      | none => exact ⟨[], 0, false, by omega, fun W w' e h => h⟩
      | some l => exact ⟨l.map fun (c : Nat) => (c : Int), l.length, true, by have := (encOk_parts (hr l rfl).1).1; omega, fun W w' e h => h⟩
    have HA' : Hid (∀ (W w' : World) (e : Ending), decAns W w' r e → ∃ v, e = .returned (.tuple #[v, .bool ok]) ∧ w'.ownsRow W.heap.size 3 1 v n (icells zs)) := HA
    clear HA hr
    go_enter Try.func7, Try.ntmps7
    go_wp2_with fail
    refine (HS'.out _).mono ?_
    rintro e wa ⟨ha, ba⟩
    obtain ⟨va, rfl, oa⟩ := HA'.out _ _ _ ha
    have za := ba.size
    clear ha
    go_wp2_with fail
    refine (HI'.out _).mono ?_
    rintro e wb ⟨hb, bb⟩
    obtain ⟨vb, rfl, ob⟩ := HA'.out _ _ _ hb
    have zb := bb.size
    have Bb : Below w.heap.size w wb := ba.trans (bb.mono za)
    have oa2 := own_below oa bb
    clear hb
    go_wp2_with fail
    refine (eqIntS zs _ _ _ _ _ _ (by omega) ob oa2).mono ?_
    rintro e wc ⟨rfl, bc⟩
    have zc := bc.size
    have Bc : Below w.heap.size w wc := Bb.trans (bc.mono (by omega))
    have oa3 := own_below oa2 bc
    have ob3 := own_below ob bc
    go_wp2_with fail
    refine (markIntS 1 _ _ _ _ _ (by omega) ob3).mono ?_
    rintro e wd ⟨rfl, ob4, gd⟩
    have zd := gd.size
    have Bd : Below w.heap.size w wd := Bc.grown gd (by omega) (fun k hk => by have := (ob.lt k hk).1; omega)
    have oa4 : wd.ownsRow _ _ _ va _ _ := oa3.kept gd (by
      cases hx : va.ownBlock with
      | none => exact .inl rfl
      | some x =>
        refine .inr fun hy => ?_
        have h1 := (oa.lt x hx).2
        have h2 := (ob.lt x hy.symm).1
        omega)
    go_wp2_with fail
    refine (heldIntS 1 _ _ _ _ (by omega) ob4).mono ?_
    rintro e we ⟨rfl, be⟩
    have ze := be.size
    have Be : Below w.heap.size w we := Bd.trans (be.mono (by omega))
    have oa5 := own_below oa4 be
    have ob5 := own_below ob4 be
    go_wp2_with fail
    refine (HI'.out _).mono ?_
    rintro e wf ⟨hf, bf⟩
    obtain ⟨vc, rfl, oc⟩ := HA'.out _ _ _ hf
    have zf := bf.size
    have Bf : Below w.heap.size w wf := Be.trans (bf.mono (by omega))
    have oa6 := own_below oa5 bf
    have ob6 := own_below ob5 bf
    clear hf
    go_wp2_with fail
    refine (eqIntS zs _ _ _ _ _ _ (by omega) oc oa6).mono ?_
    rintro e wg ⟨rfl, bg⟩
    have zg := bg.size
    have Bg : Below w.heap.size w wg := Bf.trans (bg.mono (by omega))
    have ob7 := own_below ob6 bg
    go_wp2_with fail
    refine (heldIntS 1 _ _ _ _ (by omega) ob7).mono ?_
    rintro e wh ⟨rfl, bh⟩
    have Bh : Below w.heap.size w wh := Bg.trans (bh.mono (by omega))
    clear oa oa2 oa3 oa4 oa5 oa6 ob ob3 ob4 ob5 ob6 ob7 oc ba bb bc gd be bf bg bh Bb Bc Bd Be Bf Bg
    go_wp2
    go_ret
    exact ⟨rfl, Bh⟩

set_option maxRecDepth 100000 in
theorem lifted (os : Os) (started : os.Started) (H : Type) (enc : TypeId × Value → H) :
    ReturnsInHanded {} Try.checked os 7 .any (Rows.fnExactPunyDecodeSpec.pre6 enc Try.prog Try.f7 Rows.fnExactPunyDecodeRow.domain false) (Rows.fnExactPunyDecodeSpec.post enc Try.prog Try.f7 false true false false) := by
  refine returnsInHanded_of_change (C := Try.checked) own started (by kernel_rfl) Try.func7
    (ChangeSpec.witness6 (enc := enc) (C := Try.checked) false ⟨#[], #[.string ByteArray.empty], []⟩ 8 (by kernel_rfl) (by kernel_rfl) (by kernel_rfl) (by kernel_rfl)) ?_
  intro W base args ds gs before hval0 hW hcnd _
  have hval : ∀ (j : Nat) t v, Try.f7.params[j]? = some t → args[j]? = some v → Value.okWide Try.prog W .any base t v := hval0
  have hW' := hW
  obtain ⟨p, q, hA0, hV, rfl, hfz, hnd⟩ := hW
  have hA : DataW.TrodAll enc Try.prog W 0 (fun _ => true) true Try.f7.params.toList args.toList ds p := hA0
  rw [Try.params7] at hA hval
  obtain ⟨v0, vs0, d0, ds0, p0, q0, hargs, rfl, rfl, h0, r0⟩ := trodAll_cons hA
  obtain ⟨rfl, rfl, rfl⟩ := trodAll_nil r0
  obtain rfl : args = #[v0] := by cases args; simp_all
  obtain ⟨rfl, rfl⟩ := trodVars_none hV
  obtain ⟨a0, rfl, rfl, rfl, w0⟩ := open_string Try.underlying9 (hval 0 9 v0 rfl rfl) h0
  clear hA0 hval0
  simp only [List.append_nil] at hW'
  refine (walk a0 w0 W).mono fun e W' ⟨he, bel⟩ => ?_
  subst he
  exact ⟨_, rfl, _, _, _, [], [], [], hW', trodAll_cons_mk (shut_bool Try.underlying4 _) trodAll_mk0, (trodAll_cons_mk (shut_string Try.underlying9 w0) trodAll_mk0), rfl, bel.frame _, fun h => by cases h⟩

theorem over : Rows.fnExactPunyDecodeRow.holds Try.pinned (OpenSpec.ofChange Rows.fnExactPunyDecodeSpec) :=
  OpenClaim.holds_of_wide 7 Try.f7 rfl rfl rfl rfl rfl rfl rfl ⟨rfl, rfl, rfl, rfl, rfl⟩ rfl rfl rfl rfl rfl (by kernel_rfl) Try.func7 (by kernel_rfl)
    (of_decide_eq_true (by kernel_rfl)) (by unfold Func.isWrapper; first | (rw [if_pos (by decide +kernel)]; kernel_rfl) | (rw [if_neg (by decide +kernel)]; exact ⟨rfl, rfl⟩))
    (fun os started H enc _ => lifted os started H enc)

theorem proved : Rows.FnExactPunyDecodeSaid :=
  over
end Go.Proofs.Ytdbhhohdfibplaa.fnExactPunyDecode

namespace Go.Proofs.Ytdbhhohdfibplaa
theorem fnExactPunyDecode_holds : Rows.FnExactPunyDecodeSaid := fnExactPunyDecode.proved
#print axioms fnExactPunyDecode_holds
end Go.Proofs.Ytdbhhohdfibplaa
