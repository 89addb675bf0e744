/- Proved: laws.FnExactCrc answers true at every slice of bytes and leaves it as it was; no condition. -/
import Derived.Test.YtipknapebemejaaRows
import Derived.Test.YtipknapebemejaaBytMarks
import Derived.Test.YtipknapebemejaaCrcBoth
import Derived.ProofKit
import Derived.OpenShut
import Derived.ShutString
import Derived.ChangeOld
import Derived.Below
namespace Go.Proofs.Ytipknapebemejaa.fnExactCrc
open Go.ChangeShapes Go.WideShapes Go.ChangeAt Go.RowKit
open Go.ChangeMaps (open_string shut_string)
set_option linter.unusedVariables false

theorem own : ownKnob Try.prog.godebug = none := by kernel_rfl
theorem laidOut : laidOutB Try.prog = true := by kernel_rfl

/-- WHAT THE WALK IS TOLD OF A SLICE OF INTEGERS THAT CAME IN: it is nil; or it leads to a row of 'cap' cells, the numbers 'zs' (the first 'len' are its elements, the rest its spare room), each fitting its kind. -/
def IsRow (k : IntKind) (w : World) (a : Option Addr) (len cap : Nat) (zs : List Int) : Prop :=
  (a = none ∧ len = 0 ∧ cap = 0 ∧ zs = []) ∨
  ∃ x, a = some x ∧ len ≤ cap ∧ cap ≤ maxLen ∧ zs.length = cap ∧ (∀ i, i < zs.length → w.cell? (x.add i) = some (.int k (zs.getD i 0))) ∧ ∀ n ∈ zs, (Lit.int k n).wf = true

set_option maxHeartbeats 8000000 in
theorem walk (a0 : Option Addr) (len0 cap0 : Nat) (z0 : List Int) (w : World) (w0 : IsRow .u8 w a0 len0 cap0 z0) :
    Calls Try.prog 9 #[.slice a0 len0 cap0] w fun e w' => e = .returned (.bool true) ∧ Below w.heap.size w w' := by
  by_cases hbig : 1048576 < (len0 : Int)
  · clear w0
    go_enter Try.func9, Try.ntmps9
    go_wp2
    go_ret
    exact ⟨rfl, Below.refl _ _⟩
  · obtain ⟨l, hl, hb⟩ := open_bytes w0
    subst hl
    have hn : l.length ≤ 1048576 := by omega
    have HB : Hid (BRow w (.slice a0 l.length cap0) l) := hb
    clear w0 hb
    have HSp : Hid (∀ v W, BRow W v l → Calls Try.prog 32 #[v] W fun e w' => e = .returned (.int .i64 (crcL l : Int)) ∧ W = w') := fun v W h => specCrc v l W h (by omega)
    have HIm : Hid (∀ v W, BRow W v l → Calls Try.prog 33 #[v] W fun e w' => e = .returned (.int .i64 (crcL l : Int)) ∧ W = w') := fun v W h => implCrc v l W h (by omega)
    generalize crcL l = X at *
    go_enter Try.func9, Try.ntmps9
    go_wp2_with fail
    refine (toByteS _ l _ HB.out (by omega)).mono ?_
    rintro e wa ⟨va, rfl, oa, ba⟩
    have za := ba.size
    have wa2 := BRow.of_own oa
    clear oa
    go_wp2_with fail
    refine (HSp.out _ _ wa2).mono ?_
    rintro e w1 ⟨rfl, rfl⟩
    go_wp2_with fail
    refine (toByteS _ l _ (HB.out.below ba) (by omega)).mono ?_
    rintro e wc ⟨vc, rfl, oc, bc⟩
    have zc := bc.size
    have Bc : Below w.heap.size w wc := ba.trans (bc.mono (by omega))
    have wc2 := BRow.of_own oc
    clear wa2
    go_wp2_with fail
    refine (HIm.out _ _ wc2).mono ?_
    rintro e w1 ⟨rfl, rfl⟩
    clear wc2
    go_wp2_with fail
    refine (toByteS _ l _ (HB.out.below Bc) (by omega)).mono ?_
    rintro e wf ⟨vf, rfl, of, bf⟩
    have zf := bf.size
    have Bf : Below w.heap.size w wf := Bc.trans (bf.mono (by omega))
    have oc5 := own_below oc bf
    go_wp2_with fail
    refine (eqByteS l _ _ _ _ _ _ (by omega) oc5 of).mono ?_
    rintro e wg ⟨rfl, bg⟩
    have Bg : Below w.heap.size w wg := Bf.trans (bg.mono (by omega))
    clear of oc oc5 ba bc bf bg Bc Bf HB
    go_wp2
    go_ret
    exact ⟨rfl, Bg⟩

set_option maxRecDepth 100000 in
theorem lifted (os : Os) (started : os.Started) (H : Type) (enc : TypeId × Value → H) :
    ReturnsInHanded {} Try.checked os 9 .any (Rows.fnExactCrcSpec.pre6 enc Try.prog Try.f9 Rows.fnExactCrcRow.domain false) (Rows.fnExactCrcSpec.post enc Try.prog Try.f9 false true false false) := by
  refine returnsInHanded_of_change (C := Try.checked) own started (by kernel_rfl) Try.func9
    (ChangeSpec.witness6 (enc := enc) (C := Try.checked) false ⟨#[], #[.slice none 0 0], []⟩ 8 (by kernel_rfl) (by kernel_rfl) (by kernel_rfl) (by kernel_rfl)) ?_
  intro W base args ds gs before hval0 hW hcnd _
  have hval : ∀ (j : Nat) t v, Try.f9.params[j]? = some t → args[j]? = some v → Value.okWide Try.prog W .any base t v := hval0
  have hW' := hW
  obtain ⟨p, q, hA0, hV, rfl, hfz, hnd⟩ := hW
  have hA : DataW.TrodAll enc Try.prog W 0 (fun _ => true) true Try.f9.params.toList args.toList ds p := hA0
  rw [Try.params9] at hA hval
  obtain ⟨v0, vs0, d0, ds0, p0, q0, hargs, rfl, rfl, h0, r0⟩ := trodAll_cons hA
  obtain ⟨rfl, rfl, rfl⟩ := trodAll_nil r0
  obtain rfl : args = #[v0] := by cases args; simp_all
  obtain ⟨rfl, rfl⟩ := trodVars_none hV
  obtain ⟨a0, len0, cap0, rfl⟩ := okWide_slice Try.underlying22 (hval 0 22 v0 rfl rfl)
  have k0 := h0
  have lt0 : ∀ x ∈ p0, x.block < W.heap.size := by obtain ⟨m, hm⟩ := k0; exact DataW.trod_lt m _ _ _ hm
  obtain ⟨z0, w0⟩ : ∃ zs, IsRow .u8 W a0 len0 cap0 zs := by
    obtain ⟨fuel, hf⟩ := h0
    rcases open_ints Try.underlying22 Try.underlying5 (by kernel_rfl) hf with ⟨hcs, _⟩ | ⟨x, l, c, zs, hcs, _, hl, hm, hz, _, hcell, hwz⟩
    · simp [Value.cells] at hcs
      obtain ⟨rfl, rfl, rfl⟩ := hcs
      exact ⟨[], .inl ⟨rfl, rfl, rfl, rfl⟩⟩
    · simp [Value.cells] at hcs
      obtain ⟨rfl, rfl, rfl⟩ := hcs
      exact ⟨zs, .inr ⟨_, rfl, hl, hm, by simpa using hz, hcell, hwz⟩⟩
  clear hA0 hval0
  refine (walk a0 len0 cap0 z0 W w0).mono fun e W' ⟨he, bel⟩ => ?_
  subst he
  exact ⟨_, rfl, _, _, _, [], _, [], hW', trodAll_mk1 (shut_bool Try.underlying4 _), (trodAll_cons_mk (Below.trod laidOut (by kernel_rfl) (of_decide_eq_true (by kernel_rfl)) k0 bel lt0) trodAll_mk0), rfl, bel.frame _, fun h => by cases h⟩

theorem over : Rows.fnExactCrcRow.holds Try.pinned (OpenSpec.ofChange Rows.fnExactCrcSpec) :=
  OpenClaim.holds_of_wide 9 Try.f9 rfl rfl rfl rfl rfl rfl rfl ⟨rfl, rfl, rfl, rfl, rfl⟩ rfl rfl rfl rfl rfl (by kernel_rfl) Try.func9 (by kernel_rfl)
    (of_decide_eq_true (by kernel_rfl)) (by unfold Func.isWrapper; first | (rw [if_pos (by decide +kernel)]; kernel_rfl) | (rw [if_neg (by decide +kernel)]; exact ⟨rfl, rfl⟩))
    (fun os started H enc _ => lifted os started H enc)

theorem proved : Rows.FnExactCrcSaid := over
end Go.Proofs.Ytipknapebemejaa.fnExactCrc

namespace Go.Proofs.Ytipknapebemejaa
theorem fnExactCrc_holds : Rows.FnExactCrcSaid := fnExactCrc.proved
#print axioms fnExactCrc_holds
end Go.Proofs.Ytipknapebemejaa
