/- Proved: laws.FnExactActOk answers true at every act and leaves it as it was; no condition. -/
import Derived.Test.YtfigkoapebdlfaaRows
import Derived.Test.YtfigkoapebdlfaaActOkB
import Derived.Test.YtfigkoapebdlfaaActSz
import Derived.Test.YtfigkoapebdlfaaActTo
import Derived.Test.YtfigkoapebdlfaaActEq
import Derived.Test.YtfigkoapebdlfaaOpenActs
import Derived.ProofKit
import Derived.OpenShut
import Derived.ShutString
import Derived.ChangeOld
import Derived.Below
namespace Go.Proofs.Ytfigkoapebdlfaa.fnExactActOk
open Go.ChangeShapes Go.WideShapes Go.ChangeAt Go.RowKit
open Go.ChangeMaps (open_string shut_string)
set_option linter.unusedVariables false

theorem own : ownKnob Try.prog.godebug = none := by kernel_rfl
theorem laidOut : laidOutB Try.prog = true := by kernel_rfl

set_option maxRecDepth 100000 in
set_option maxHeartbeats 8000000 in
theorem walk (x0 : AV) (w : World) (m0 : x0.t.size ≤ maxLen ∧ x0.b.size ≤ maxLen) :
    Calls Try.prog 3 #[.agg #[.int .i64 x0.k, .string x0.t, .string x0.b, .int .i64 x0.n]] w fun e w' => e = .returned (.bool true) ∧ Below w.heap.size w w' := by
  obtain ⟨k, t, b, n⟩ := x0
  dsimp only at m0 ⊢
  have CZ : Hid (∀ W, Calls Try.prog 8 #[.agg #[.int .i64 k, .string t, .string b, .int .i64 n], .int .i64 1048576] W fun e w' => e = .returned (.int .i64 (leftZ 1048576 (szA ⟨k, t, b, n⟩))) ∧ Below W.heap.size W w') := fun W => szActC ⟨k, t, b, n⟩ 1048576 W (by decide) (by decide) m0
  have HZ := leftZ_le (left := 1048576) (n := szA ⟨k, t, b, n⟩) (by decide)
  generalize leftZ 1048576 (szA ⟨k, t, b, n⟩) = z at CZ HZ
  obtain ⟨hz1, hz2, hz3⟩ := HZ
  have CT : Hid (∀ W, Calls Try.prog 10 #[.agg #[.int .i64 k, .string t, .string b, .int .i64 n]] W fun e w' => e = .returned (.agg #[.int .i64 k, .string t, .string b, .int .i64 n]) ∧ Below W.heap.size W w') := fun W => toActC ⟨k, t, b, n⟩ W
  have CS : Hid (∀ W, Calls Try.prog 9 #[.agg #[.int .i64 k, .string t, .string b, .int .i64 n]] W fun e w' => e = .returned (.bool (actB ⟨k, t, b, n⟩)) ∧ Below W.heap.size W w') := fun W => specActOk ⟨k, t, b, n⟩ W
  have CI : Hid (∀ W, Calls Try.prog 11 #[.agg #[.int .i64 k, .string t, .string b, .int .i64 n]] W fun e w' => e = .returned (.bool (actB ⟨k, t, b, n⟩)) ∧ Below W.heap.size W w') := fun W => implActOk ⟨k, t, b, n⟩ W
  generalize actB ⟨k, t, b, n⟩ = P at *
  clear m0 hz3
  obtain ⟨O, hO⟩ : ∃ O, O = w.alloc (.cells #[.int .i64 k, .string t, .string b, .int .i64 n] 23) := ⟨_, rfl⟩
  have bO : Below w.heap.size w O := by rw [hO]; exact (Below.refl _ _).alloc (Nat.le_refl _) _
  have AO : BAt O w.heap.size [.int .i64 k, .string t, .string b, .int .i64 n] := by rw [hO]; exact BAt.new w #[.int .i64 k, .string t, .string b, .int .i64 n] _
  go_enter Try.func3, Try.ntmps3
  go_upto_region 2 with fail
  rw [← hO]
  clear hO
  have AC := AO.below (Below.refl _ O)
  have c0 := AC.1 0 _ rfl
  have c1 := AC.1 1 _ rfl
  have c2 := AC.1 2 _ rfl
  have c3 := AC.1 3 _ rfl
  go_wp2_with fail
  refine (CZ.out _).mono ?_
  rintro e wa ⟨rfl, ba⟩
  by_cases hneg : z < 0
  · go_wp2_with fail
    go_ret
    exact ⟨rfl, bO.trans (ba.mono bO.size)⟩
  · clear CZ c0 c1 c2 c3 AC
    have AC := AO.below ba
    have c0 := AC.1 0 _ rfl
    have c1 := AC.1 1 _ rfl
    have c2 := AC.1 2 _ rfl
    have c3 := AC.1 3 _ rfl
    go_wp2_with fail
    refine (CT.out _).mono ?_
    rintro e wb ⟨rfl, bb⟩
    have B1 := ba.trans (bb.mono ba.size)
    clear bb ba c0 c1 c2 c3 AC
    go_wp2_with fail
    refine (CS.out _).mono ?_
    rintro e wc ⟨rfl, bc⟩
    have B2 := B1.trans (bc.mono B1.size)
    clear bc B1 CS
    have AC := AO.below B2
    have c0 := AC.1 0 _ rfl
    have c1 := AC.1 1 _ rfl
    have c2 := AC.1 2 _ rfl
    have c3 := AC.1 3 _ rfl
    go_wp2_with fail
    refine (CT.out _).mono ?_
    rintro e wd ⟨rfl, bd⟩
    have B3 := B2.trans (bd.mono B2.size)
    clear bd B2 c0 c1 c2 c3 AC
    go_wp2_with fail
    refine (CI.out _).mono ?_
    rintro e we ⟨rfl, be⟩
    have B4 := B3.trans (be.mono B3.size)
    clear be B3 CI CT AO
    cases P with
    | true =>
      go_wp2_with fail
      go_ret
      exact ⟨rfl, bO.trans (B4.mono bO.size)⟩
    | false =>
      go_wp2_with fail
      go_ret
      exact ⟨rfl, bO.trans (B4.mono bO.size)⟩

set_option maxRecDepth 100000 in
theorem lifted (os : Os) (started : os.Started) (H : Type) (enc : TypeId × Value → H) :
    ReturnsInHanded {} Try.checked os 3 .any (Rows.fnExactActOkSpec.pre6 enc Try.prog Try.f3 Rows.fnExactActOkRow.domain false) (Rows.fnExactActOkSpec.post enc Try.prog Try.f3 false true false false) := by
  refine returnsInHanded_of_change (C := Try.checked) own started (by kernel_rfl) Try.func3
    (ChangeSpec.witness6 (enc := enc) (C := Try.checked) false ⟨#[], #[.agg #[.int .i64 0, .string ByteArray.empty, .string ByteArray.empty, .int .i64 0]], []⟩ 8 (by kernel_rfl) (by kernel_rfl) (by kernel_rfl) (by kernel_rfl)) ?_
  intro W base args ds gs before hval0 hW hcnd _
  have hval : ∀ (j : Nat) t v, Try.f3.params[j]? = some t → args[j]? = some v → Value.okWide Try.prog W .any base t v := hval0
  have hW' := hW
  obtain ⟨p, q, hA0, hV, rfl, hfz, hnd⟩ := hW
  have hA : DataW.TrodAll enc Try.prog W 0 (fun _ => true) true Try.f3.params.toList args.toList ds p := hA0
  rw [Try.params3] at hA hval
  obtain ⟨v0, vs0, d0, ds0, p0, qq0, hargs, rfl, rfl, h0, rr0⟩ := trodAll_cons hA
  obtain ⟨rfl, rfl, rfl⟩ := trodAll_nil rr0
  obtain rfl : args = #[v0] := by cases args; simp_all
  obtain ⟨rfl, rfl⟩ := trodVars_none hV
  have k0 := h0
  have lt0 : ∀ x ∈ p0, x.block < W.heap.size := by obtain ⟨m, hm⟩ := k0; exact DataW.trod_lt m _ _ _ hm
  obtain ⟨x0, rfl, m0⟩ := open_act (hval 0 23 v0 rfl rfl) h0
  clear hA0 hval0
  refine (walk x0 W m0).mono fun e W' ⟨he, bel⟩ => ?_
  subst he
  exact ⟨_, rfl, _, _, _, [], _, [], hW', trodAll_mk1 (shut_bool Try.underlying4 _), (trodAll_cons_mk (Below.trod laidOut (by kernel_rfl) (of_decide_eq_true (by kernel_rfl)) k0 bel lt0) trodAll_mk0), rfl, bel.frame _, fun h => by cases h⟩

theorem over : Rows.fnExactActOkRow.holds Try.pinned (OpenSpec.ofChange Rows.fnExactActOkSpec) :=
  OpenClaim.holds_of_wide 3 Try.f3 rfl rfl rfl rfl rfl rfl rfl ⟨rfl, rfl, rfl, rfl, rfl⟩ rfl rfl rfl rfl rfl (by kernel_rfl) Try.func3 (by kernel_rfl)
    (of_decide_eq_true (by kernel_rfl)) (by unfold Func.isWrapper; first | (rw [if_pos (by decide +kernel)]; kernel_rfl) | (rw [if_neg (by decide +kernel)]; exact ⟨rfl, rfl⟩))
    (fun os started H enc _ => lifted os started H enc)

theorem proved : Rows.FnExactActOkSaid := over
end Go.Proofs.Ytfigkoapebdlfaa.fnExactActOk

namespace Go.Proofs.Ytfigkoapebdlfaa
theorem fnExactActOk_holds : Rows.FnExactActOkSaid := fnExactActOk.proved
#print axioms fnExactActOk_holds
end Go.Proofs.Ytfigkoapebdlfaa
