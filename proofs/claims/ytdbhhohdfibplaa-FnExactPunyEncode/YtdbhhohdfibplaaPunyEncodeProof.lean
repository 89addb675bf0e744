/- Proved: laws.FnExactPunyEncode answers true at every slice of ints and leaves it as it was; no condition. -/
import Derived.Test.YtdbhhohdfibplaaRows
import Derived.Test.YtdbhhohdfibplaaEncBoth
import Derived.ProofKit
import Derived.OpenShut
import Derived.ShutString
import Derived.ChangeOld
import Derived.Below
namespace Go.Proofs.Ytdbhhohdfibplaa.fnExactPunyEncode
open Go.ChangeShapes Go.WideShapes Go.ChangeAt Go.RowKit
open Go.ChangeMaps (open_string shut_string)
set_option linter.unusedVariables false

theorem own : ownKnob Try.prog.godebug = none := by kernel_rfl
theorem laidOut : laidOutB Try.prog = true := by kernel_rfl

/-- WHAT THE WALK IS TOLD OF A SLICE OF INTEGERS THAT CAME IN: it is nil; or it leads to a row of 'cap' cells, the numbers 'zs' (the first 'len' are its elements, the rest its spare room), each fitting its kind. -/
def IsRow (k : IntKind) (w : World) (a : Option Addr) (len cap : Nat) (zs : List Int) : Prop :=
  (a = none ∧ len = 0 ∧ cap = 0 ∧ zs = []) ∨
  ∃ x, a = some x ∧ len ≤ cap ∧ cap ≤ maxLen ∧ zs.length = cap ∧ (∀ i, i < zs.length → w.cell? (x.add i) = some (.int k (zs.getD i 0))) ∧ ∀ n ∈ zs, (Lit.int k n).wf = true

theorem walk (a0 : Option Addr) (len0 cap0 : Nat) (z0 : List Int) (w : World) (w0 : IsRow .i64 w a0 len0 cap0 z0) :
    Calls Try.prog 6 #[.slice a0 len0 cap0] w fun e w' => e = .returned (.bool true) ∧ Below w.heap.size w w' := by
  by_cases hbig : 1048576 < (len0 : Int)
  · go_enter Try.func6, Try.ntmps6
    go_wp2
    go_ret
    exact ⟨rfl, Below.refl _ _⟩
  · have hn : len0 ≤ 1048576 := by omega
    have hin : InRow w a0 len0 (z0.take len0) := by
      rcases w0 with ⟨rfl, rfl, rfl, rfl⟩ | ⟨x, rfl, h1, h2, h3, h4, _⟩
      · exact ⟨rfl, .inl rfl⟩
      · refine ⟨by rw [List.length_take]; omega, ?_⟩
        by_cases h0 : len0 = 0
        · exact .inl h0
        · obtain ⟨b, off, rfl, hc⟩ := ints_at h4 (by omega)
          refine .inr ⟨b, off, rfl, World.block_lt_of_cell? w ⟨b, off + 0, none⟩ (hc 0 (by omega)), fun i hi => ?_⟩
          rw [hc i (by omega)]
          simp [List.getD, hi]
    generalize z0.take len0 = zl at hin
    have hzl : zl.length = len0 := hin.1
    obtain ⟨t, ok, _, HS, HI⟩ := encBoth zl (by omega)
    rw [hzl] at HS HI
    have HS' : Hid (∀ (v : Value) (B : Nat) (w : World), w.ownsRow B 3 1 v len0 (icells zl) → Calls Try.prog 11 #[v] w fun e w' => e = .returned (.tuple #[.string t, .bool ok]) ∧ Below w.heap.size w w') := HS
    have HI' : Hid (∀ (v : Value) (B : Nat) (w : World), w.ownsRow B 3 1 v len0 (icells zl) → Calls Try.prog 10 #[v] w fun e w' => e = .returned (.tuple #[.string t, .bool ok]) ∧ Below w.heap.size w w') := HI
    clear HS HI hzl
    go_enter Try.func6, Try.ntmps6
    go_wp2_with fail
    refine (toIntS _ _ _ zl _ hin (by omega)).mono ?_
    rintro e wa ⟨va, rfl, oa, ba⟩
    go_wp2_with fail
    refine (HS'.out _ _ _ oa).mono ?_
    rintro e wb ⟨rfl, bb⟩
    have hin2 := (hin.below ba).below bb
    go_wp2_with fail
    refine (toIntS _ _ _ zl _ hin2 (by omega)).mono ?_
    rintro e wc ⟨vc, rfl, oc, bc⟩
    go_wp2_with fail
    refine (HI'.out _ _ _ oc).mono ?_
    rintro e wd ⟨rfl, bd⟩
    have oc2 := own_below oc bd
    have hin3 := (hin2.below bc).below bd
    go_wp2_with fail
    refine (toIntS _ _ _ zl _ hin3 (by omega)).mono ?_
    rintro e we ⟨ve, rfl, oe, be⟩
    have oc3 := own_below oc2 be
    go_wp2_with fail
    refine (eqIntS zl _ _ _ _ _ _ (by omega) oc3 oe).mono ?_
    rintro e wf ⟨rfl, bf⟩
    have z1 := ba.size
    have z2 := bb.size
    have z3 := bc.size
    have z4 := bd.size
    have z5 := be.size
    have B : Below w.heap.size w wf := ((((ba.trans (bb.mono (by omega))).trans (bc.mono (by omega))).trans (bd.mono (by omega))).trans (be.mono (by omega))).trans (bf.mono (by omega))
    clear oa oc oc2 oc3 oe ba bb bc bd be bf hin hin2 hin3
    go_wp2
    go_ret
    exact ⟨rfl, B⟩

set_option maxRecDepth 100000 in
theorem lifted (os : Os) (started : os.Started) (H : Type) (enc : TypeId × Value → H) :
    ReturnsInHanded {} Try.checked os 6 .any (Rows.fnExactPunyEncodeSpec.pre6 enc Try.prog Try.f6 Rows.fnExactPunyEncodeRow.domain false) (Rows.fnExactPunyEncodeSpec.post enc Try.prog Try.f6 false true false false) := by
  refine returnsInHanded_of_change (C := Try.checked) own started (by kernel_rfl) Try.func6
    (ChangeSpec.witness6 (enc := enc) (C := Try.checked) false ⟨#[], #[.slice none 0 0], []⟩ 8 (by kernel_rfl) (by kernel_rfl) (by kernel_rfl) (by kernel_rfl)) ?_
  intro W base args ds gs before hval0 hW hcnd _
  have hval : ∀ (j : Nat) t v, Try.f6.params[j]? = some t → args[j]? = some v → Value.okWide Try.prog W .any base t v := hval0
  have hW' := hW
  obtain ⟨p, q, hA0, hV, rfl, hfz, hnd⟩ := hW
  have hA : DataW.TrodAll enc Try.prog W 0 (fun _ => true) true Try.f6.params.toList args.toList ds p := hA0
  rw [Try.params6] at hA hval
  obtain ⟨v0, vs0, d0, ds0, p0, q0, hargs, rfl, rfl, h0, r0⟩ := trodAll_cons hA
  obtain ⟨rfl, rfl, rfl⟩ := trodAll_nil r0
  obtain rfl : args = #[v0] := by cases args; simp_all
  obtain ⟨rfl, rfl⟩ := trodVars_none hV
  obtain ⟨a0, len0, cap0, rfl⟩ := okWide_slice Try.underlying24 (hval 0 24 v0 rfl rfl)
  have k0 := h0
  have lt0 : ∀ x ∈ p0, x.block < W.heap.size := by obtain ⟨m, hm⟩ := k0; exact DataW.trod_lt m _ _ _ hm
  obtain ⟨z0, w0⟩ : ∃ zs, IsRow .i64 W a0 len0 cap0 zs := by
    obtain ⟨fuel, hf⟩ := h0
    rcases open_ints Try.underlying24 Try.underlying3 (by kernel_rfl) hf with ⟨hcs, _⟩ | ⟨x, l, c, zs, hcs, _, hl, hm, hz, _, hcell, hwz⟩
    · simp [Value.cells] at hcs
      obtain ⟨rfl, rfl, rfl⟩ := hcs
      exact ⟨[], .inl ⟨rfl, rfl, rfl, rfl⟩⟩
    · simp [Value.cells] at hcs
      obtain ⟨rfl, rfl, rfl⟩ := hcs
      exact ⟨zs, .inr ⟨_, rfl, hl, hm, by simpa using hz, hcell, hwz⟩⟩
  clear hA0 hval0
  refine (walk a0 len0 cap0 z0 W w0).mono fun e W' ⟨he, bel⟩ => ?_
  subst he
  exact ⟨_, rfl, _, _, _, [], _, [], hW', trodAll_mk1 (shut_bool Try.underlying4 _), (trodAll_cons_mk (Below.trod laidOut (by kernel_rfl) (of_decide_eq_true (by kernel_rfl)) k0 bel lt0) trodAll_mk0), rfl, bel.frame _, fun h => by cases h⟩

theorem over : Rows.fnExactPunyEncodeRow.holds Try.pinned (OpenSpec.ofChange Rows.fnExactPunyEncodeSpec) :=
  OpenClaim.holds_of_wide 6 Try.f6 rfl rfl rfl rfl rfl rfl rfl ⟨rfl, rfl, rfl, rfl, rfl⟩ rfl rfl rfl rfl rfl (by kernel_rfl) Try.func6 (by kernel_rfl)
    (of_decide_eq_true (by kernel_rfl)) (by unfold Func.isWrapper; first | (rw [if_pos (by decide +kernel)]; kernel_rfl) | (rw [if_neg (by decide +kernel)]; exact ⟨rfl, rfl⟩))
    (fun os started H enc _ => lifted os started H enc)

theorem proved : Rows.FnExactPunyEncodeSaid := over
end Go.Proofs.Ytdbhhohdfibplaa.fnExactPunyEncode

namespace Go.Proofs.Ytdbhhohdfibplaa
theorem fnExactPunyEncode_holds : Rows.FnExactPunyEncodeSaid := fnExactPunyEncode.proved
#print axioms fnExactPunyEncode_holds
end Go.Proofs.Ytdbhhohdfibplaa
