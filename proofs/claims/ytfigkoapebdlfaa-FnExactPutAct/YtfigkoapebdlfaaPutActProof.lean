/- Proved: laws.FnExactPutAct answers true at every act and leaves it as it was; no condition. -/
import Derived.Test.YtfigkoapebdlfaaRows
import Derived.Test.YtfigkoapebdlfaaActPutB
import Derived.Test.YtfigkoapebdlfaaActSz
import Derived.Test.YtfigkoapebdlfaaActTo
import Derived.Test.YtfigkoapebdlfaaBytMarks
import Derived.Test.YtfigkoapebdlfaaOpenActs
import Derived.Test.YtfigkoapebdlfaaUnfBoth
import Derived.ProofKit
import Derived.OpenShut
import Derived.ShutString
import Derived.ChangeOld
import Derived.Below
namespace Go.Proofs.Ytfigkoapebdlfaa.fnExactPutAct
open Go.ChangeShapes Go.WideShapes Go.ChangeAt Go.RowKit
open Go.ChangeMaps (open_string shut_string)
set_option linter.unusedVariables false

theorem own : ownKnob Try.prog.godebug = none := by kernel_rfl
theorem laidOut : laidOutB Try.prog = true := by kernel_rfl

set_option maxRecDepth 100000 in
set_option maxHeartbeats 8000000 in
theorem walk (x0 : AV) (w : World) (m0 : x0.t.size ≤ maxLen ∧ x0.b.size ≤ maxLen) :
    Calls Try.prog 4 #[.agg #[.int .i64 x0.k, .string x0.t, .string x0.b, .int .i64 x0.n]] w fun e w' => e = .returned (.bool true) ∧ Below w.heap.size w w' := by
  obtain ⟨k, t, b, n⟩ := x0
  dsimp only at m0 ⊢
  have CZ : Hid (∀ W, Calls Try.prog 8 #[.agg #[.int .i64 k, .string t, .string b, .int .i64 n], .int .i64 1048576] W fun e w' => e = .returned (.int .i64 (leftZ 1048576 (szA ⟨k, t, b, n⟩))) ∧ Below W.heap.size W w') := fun W => szActC ⟨k, t, b, n⟩ 1048576 W (by decide) (by decide) m0
  have HZ := leftZ_le (left := 1048576) (n := szA ⟨k, t, b, n⟩) (by decide)
  generalize leftZ 1048576 (szA ⟨k, t, b, n⟩) = z at CZ HZ
  obtain ⟨hz1, hz2, hz3⟩ := HZ
  have CT : Hid (∀ W, Calls Try.prog 10 #[.agg #[.int .i64 k, .string t, .string b, .int .i64 n]] W fun e w' => e = .returned (.agg #[.int .i64 k, .string t, .string b, .int .i64 n]) ∧ Below W.heap.size W w') := fun W => toActC ⟨k, t, b, n⟩ W
  have HSZ : Hid (0 ≤ z → ((szA ⟨k, t, b, n⟩ : Nat) : Int) ≤ 1048576) := hz3
  have CS0 := fun (h1 : t.size ≤ 1048576) (h2 : b.size ≤ 1048576) W => specPutAct ⟨k, t, b, n⟩ W h1 h2
  have CI0 := fun (h1 : t.size ≤ 1048576) (h2 : b.size ≤ 1048576) W => implPutAct ⟨k, t, b, n⟩ W h1 h2
  have hU := actL_len ⟨k, t, b, n⟩
  generalize actL ⟨k, t, b, n⟩ = U at *
  clear m0 hz3
  obtain ⟨O, hO⟩ : ∃ O, O = w.alloc (.cells #[.int .i64 k, .string t, .string b, .int .i64 n] 23) := ⟨_, rfl⟩
  have bO : Below w.heap.size w O := by rw [hO]; exact (Below.refl _ _).alloc (Nat.le_refl _) _
  have AO : BAt O w.heap.size [.int .i64 k, .string t, .string b, .int .i64 n] := by rw [hO]; exact BAt.new w #[.int .i64 k, .string t, .string b, .int .i64 n] _
  go_enter Try.func4, Try.ntmps4
  go_upto_region 2 with fail
  rw [← hO]
  clear hO
  have AC := AO.below (Below.refl _ O)
  have c0 := AC.1 0 _ rfl
  have c1 := AC.1 1 _ rfl
  have c2 := AC.1 2 _ rfl
  have c3 := AC.1 3 _ rfl
  go_wp2_with fail
  refine (CZ.out _).mono ?_
  rintro e wa ⟨rfl, ba⟩
  by_cases hneg : z < 0
  · go_wp2_with fail
    go_ret
    exact ⟨rfl, bO.trans (ba.mono bO.size)⟩
  · have hsz : t.size + b.size ≤ 1048576 := by have := HSZ.out (by omega); unfold szA at this; dsimp only at this; omega
    have CS := hidB (CS0 (by omega) (by omega))
    have CI := hidB (CI0 (by omega) (by omega))
    clear CS0 CI0 HSZ CZ c0 c1 c2 c3 AC hsz
    have AC := AO.below ba
    have c0 := AC.1 0 _ rfl
    have c1 := AC.1 1 _ rfl
    have c2 := AC.1 2 _ rfl
    have c3 := AC.1 3 _ rfl
    go_wp2_with fail
    refine (CT.out _).mono ?_
    rintro e wb ⟨rfl, bb⟩
    have B1 := ba.trans (bb.mono ba.size)
    clear bb ba c0 c1 c2 c3 AC
    go_wp2_with fail
    refine (CS.out _).mono ?_
    rintro e wc ⟨vc, rfl, oc, bc⟩
    have B2 := B1.trans (bc.mono B1.size)
    have HSd := hidB (BRow.of_own oc)
    have OS := hidB oc
    have LS := hidB oc.lt
    clear bc B1 CS oc HSd
    have AC := AO.below B2
    have c0 := AC.1 0 _ rfl
    have c1 := AC.1 1 _ rfl
    have c2 := AC.1 2 _ rfl
    have c3 := AC.1 3 _ rfl
    go_wp2_with fail
    refine (CT.out _).mono ?_
    rintro e wd ⟨rfl, bd⟩
    have B3 := B2.trans (bd.mono B2.size)
    have OS2 := hidB (own_below OS.out bd)
    have zcd := bd.size
    clear bd B2 c0 c1 c2 c3 AC OS
    go_wp2_with fail
    refine (CI.out _).mono ?_
    rintro e we ⟨vi, rfl, oi, be⟩
    have B4 := B3.trans (be.mono B3.size)
    have OS3 := hidB (own_below OS2.out be)
    have OI := hidB oi
    have LI := hidB oi.lt
    clear be OS2 oi
    go_wp2_with fail
    refine (eqByteS U _ _ _ _ _ _ (by omega) OI.out OS3.out).mono ?_
    rintro e wf ⟨rfl, bf⟩
    have B5 := B4.trans (bf.mono B4.size)
    have OS4 := hidB (own_below OS3.out bf)
    have OI2 := hidB (own_below OI.out bf)
    clear bf B4 OS3 OI
    go_wp2_with fail
    refine (markByteS 1 _ _ _ _ _ (by omega) OI2.out).mono ?_
    rintro e wg ⟨rfl, og, gg⟩
    have B6 : Below O.heap.size O wg := B5.grown gg B5.size (fun x hx => by have h1 := (LI.out x hx).1; have h2 := B3.size; omega)
    have OS5 : Hid (wg.ownsRow _ _ _ vc _ _) := OS4.out.kept gg (by
      cases hx : vc.ownBlock with
      | none => exact .inl rfl
      | some x =>
        refine .inr fun hy => ?_
        have h1 := (LS.out x hx).2
        have h2 := (LI.out x hy.symm).1
        omega)
    have OI3 := hidB og
    clear og gg B5 OS4 OI2
    go_wp2_with fail
    refine (heldByteS 1 _ _ _ _ (by omega) OI3.out).mono ?_
    rintro e wh ⟨rfl, bh⟩
    have B7 := B6.trans (bh.mono B6.size)
    have OS6 := hidB (own_below OS5.out bh)
    have OI4 := hidB (own_below OI3.out bh)
    clear bh B6 OS5 OI3
    have AC := AO.below B7
    have c0 := AC.1 0 _ rfl
    have c1 := AC.1 1 _ rfl
    have c2 := AC.1 2 _ rfl
    have c3 := AC.1 3 _ rfl
    go_wp2_with fail
    refine (CT.out _).mono ?_
    rintro e wi ⟨rfl, bi⟩
    have B8 := B7.trans (bi.mono B7.size)
    have OS7 := hidB (own_below OS6.out bi)
    have OI5 := hidB (own_below OI4.out bi)
    clear bi B7 c0 c1 c2 c3 AC OS6 OI4
    go_wp2_with fail
    refine (CI.out _).mono ?_
    rintro e wj ⟨vj, rfl, oj, bj⟩
    have B9 := B8.trans (bj.mono B8.size)
    have OS8 := hidB (own_below OS7.out bj)
    have OI6 := hidB (own_below OI5.out bj)
    have OJ := hidB oj
    clear bj B8 OS7 OI5 oj
    go_wp2_with fail
    refine (eqByteS U _ _ _ _ _ _ (by omega) OJ.out OS8.out).mono ?_
    rintro e wk ⟨rfl, bk⟩
    have B10 := B9.trans (bk.mono B9.size)
    have OI7 := hidB (own_below OI6.out bk)
    clear bk B9 OS8 OI6 OJ
    go_wp2_with fail
    refine (heldByteS 1 _ _ _ _ (by omega) OI7.out).mono ?_
    rintro e wl ⟨rfl, bl⟩
    have B11 := B10.trans (bl.mono B10.size)
    clear bl B10 OI7 CT CI AO LS LI B3
    go_wp2_with fail
    go_ret
    exact ⟨rfl, bO.trans (B11.mono bO.size)⟩

set_option maxRecDepth 100000 in
theorem lifted (os : Os) (started : os.Started) (H : Type) (enc : TypeId × Value → H) :
    ReturnsInHanded {} Try.checked os 4 .any (Rows.fnExactPutActSpec.pre6 enc Try.prog Try.f4 Rows.fnExactPutActRow.domain false) (Rows.fnExactPutActSpec.post enc Try.prog Try.f4 false true false false) := by
  refine returnsInHanded_of_change (C := Try.checked) own started (by kernel_rfl) Try.func4
    (ChangeSpec.witness6 (enc := enc) (C := Try.checked) false ⟨#[], #[.agg #[.int .i64 0, .string ByteArray.empty, .string ByteArray.empty, .int .i64 0]], []⟩ 8 (by kernel_rfl) (by kernel_rfl) (by kernel_rfl) (by kernel_rfl)) ?_
  intro W base args ds gs before hval0 hW hcnd _
  have hval : ∀ (j : Nat) t v, Try.f4.params[j]? = some t → args[j]? = some v → Value.okWide Try.prog W .any base t v := hval0
  have hW' := hW
  obtain ⟨p, q, hA0, hV, rfl, hfz, hnd⟩ := hW
  have hA : DataW.TrodAll enc Try.prog W 0 (fun _ => true) true Try.f4.params.toList args.toList ds p := hA0
  rw [Try.params4] at hA hval
  obtain ⟨v0, vs0, d0, ds0, p0, qq0, hargs, rfl, rfl, h0, rr0⟩ := trodAll_cons hA
  obtain ⟨rfl, rfl, rfl⟩ := trodAll_nil rr0
  obtain rfl : args = #[v0] := by cases args; simp_all
  obtain ⟨rfl, rfl⟩ := trodVars_none hV
  have k0 := h0
  have lt0 : ∀ x ∈ p0, x.block < W.heap.size := by obtain ⟨m, hm⟩ := k0; exact DataW.trod_lt m _ _ _ hm
  obtain ⟨x0, rfl, m0⟩ := open_act (hval 0 23 v0 rfl rfl) h0
  clear hA0 hval0
  refine (walk x0 W m0).mono fun e W' ⟨he, bel⟩ => ?_
  subst he
  exact ⟨_, rfl, _, _, _, [], _, [], hW', trodAll_mk1 (shut_bool Try.underlying4 _), (trodAll_cons_mk (Below.trod laidOut (by kernel_rfl) (of_decide_eq_true (by kernel_rfl)) k0 bel lt0) trodAll_mk0), rfl, bel.frame _, fun h => by cases h⟩

theorem over : Rows.fnExactPutActRow.holds Try.pinned (OpenSpec.ofChange Rows.fnExactPutActSpec) :=
  OpenClaim.holds_of_wide 4 Try.f4 rfl rfl rfl rfl rfl rfl rfl ⟨rfl, rfl, rfl, rfl, rfl⟩ rfl rfl rfl rfl rfl (by kernel_rfl) Try.func4 (by kernel_rfl)
    (of_decide_eq_true (by kernel_rfl)) (by unfold Func.isWrapper; first | (rw [if_pos (by decide +kernel)]; kernel_rfl) | (rw [if_neg (by decide +kernel)]; exact ⟨rfl, rfl⟩))
    (fun os started H enc _ => lifted os started H enc)

theorem proved : Rows.FnExactPutActSaid := over
end Go.Proofs.Ytfigkoapebdlfaa.fnExactPutAct

namespace Go.Proofs.Ytfigkoapebdlfaa
theorem fnExactPutAct_holds : Rows.FnExactPutActSaid := fnExactPutAct.proved
#print axioms fnExactPutAct_holds
end Go.Proofs.Ytfigkoapebdlfaa
