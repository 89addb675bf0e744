/- Proved: laws.FnExactSeenOk answers true at every argument and leaves it as it was; no condition. -/
import Derived.Test.YtocgdbinfmdkcaaRows
import Derived.Test.YtocgdbinfmdkcaaSeenOkI2
import Derived.Test.YtocgdbinfmdkcaaSeenOkS2
import Derived.Test.YtocgdbinfmdkcaaMrkTo2
import Derived.Test.YtocgdbinfmdkcaaMrkEq2
import Derived.Test.YtocgdbinfmdkcaaOpenSeen
import Derived.Test.YtocgdbinfmdkcaaSeenSz
import Derived.ProofKit
import Derived.OpenShut
import Derived.ShutString
import Derived.ChangeOld
import Derived.Below
namespace Go.Proofs.Ytocgdbinfmdkcaa.fnExactSeenOk
open Go.ChangeShapes Go.WideShapes Go.ChangeAt Go.RowKit
open Go.ChangeMaps (open_string shut_string)
set_option linter.unusedVariables false

theorem own : ownKnob Try.prog.godebug = none := by kernel_rfl
theorem laidOut : laidOutB Try.prog = true := by kernel_rfl

set_option maxRecDepth 100000 in
set_option maxHeartbeats 8000000 in
theorem walk (p0 q0 : Value) (l0 : List EV) (r0 : List (List EV)) (w : World) (w0 : EntRow w p0 l0 ∧ RunRow w q0 r0) (m0 : EMx l0 ∧ RMx r0) :
    Calls Try.prog 5 #[.agg #[p0, q0]] w fun e w' => e = .returned (.bool true) ∧ Below w.heap.size w w' := by
  have HM := hidM m0
  have HW := hidM w0
  obtain ⟨pa, pc, hp0⟩ := w0.1.slice
  obtain ⟨qa, qc, hq0⟩ := w0.2.slice
  clear m0 w0
  have CZ : Hid (∀ W, Below w.heap.size w W → Calls Try.prog 19 #[.agg #[p0, q0], .int .i64 1048576] W fun e w' => e = .returned (.int .i64 (leftZ 1048576 (sumEn l0 + sumR r0))) ∧ Below W.heap.size W w') := fun W hW => szSeen l0 r0 p0 q0 1048576 W (by omega) (by omega) HM.out.1 HM.out.2 (HW.out.1.below hW) (HW.out.2.below hW)
  subst hp0 hq0
  have HZ := leftZ_le (left := 1048576) (n := sumEn l0 + sumR r0) (by decide)
  have HZS := hidM (seen_sz (m := l0) (ll := r0))
  generalize leftZ 1048576 (sumEn l0 + sumR r0) = z at CZ HZ
  obtain ⟨hz1, hz2, hz3⟩ := HZ
  have HZ3 : Hid (0 ≤ z → ((sumEn l0 + sumR r0 : Nat) : Int) ≤ 1048576) := hz3
  clear hz3
  obtain ⟨O, hO⟩ : ∃ O, O = w.alloc (.cells #[.slice pa l0.length pc, .slice qa r0.length qc] 44) := ⟨_, rfl⟩
  have bO : Below w.heap.size w O := by rw [hO]; exact (Below.refl _ _).alloc (Nat.le_refl _) _
  have AO : BAt O w.heap.size [.slice pa l0.length pc, .slice qa r0.length qc] := by rw [hO]; exact BAt.new w #[.slice pa l0.length pc, .slice qa r0.length qc] _
  go_enter Try.func5, Try.ntmps5
  go_upto_region 2 with fail
  rw [← hO]
  clear hO
  have c0 := AO.1 0 _ rfl
  have c0' := AO.1 1 _ rfl
  go_wp2_with fail
  refine (CZ.out _ bO).mono ?_
  rintro e wa ⟨rfl, ba⟩
  by_cases hneg : z < 0
  · go_wp2_with fail
    go_ret
    exact ⟨rfl, bO.trans (ba.mono bO.size)⟩
  · obtain ⟨hl1, hl2, hl3⟩ := HZS.out (by have := HZ3.out (by omega); omega)
    have HL3 := hidM hl3
    have HSM : Hid (RSm r0) := fun i hi => by have := HL3.out i hi; omega
    clear hl3
    have HA : Hid (∀ W, Below O.heap.size O W → EntRow W (.slice pa l0.length pc) l0 ∧ RunRow W (.slice qa r0.length qc) r0) := fun W hb => ⟨HW.out.1.below (bO.trans (hb.mono bO.size)), HW.out.2.below (bO.trans (hb.mono bO.size))⟩
    have CT : Hid (∀ W, Below O.heap.size O W → Calls Try.prog 21 #[.agg #[.slice pa l0.length pc, .slice qa r0.length qc]] W fun e w' => ∃ ao ac bo bc, e = .returned (.agg #[.slice ao l0.length ac, .slice bo r0.length bc]) ∧ SnOwn w' W.heap.size w'.heap.size (.slice ao l0.length ac) (.slice bo r0.length bc) l0 r0 ∧ Below W.heap.size W w') := fun W hb => toSeen l0 r0 _ _ W (by omega) (by omega) HSM.out (HA.out W hb).1 (HA.out W hb).2
    have c1 := (AO.below ba).1 0 _ rfl
    have c1' := (AO.below ba).1 1 _ rfl
    clear CZ HZ3 c0 c0'
    go_wp2_with fail
    refine (CT.out _ ba).mono ?_
    rintro e wb ⟨bo, bc, b1, b2, rfl, rb, bb⟩
    have B1 := ba.trans (bb.mono ba.size)
    have CS := hidM (specSeenOk l0 r0 (.slice bo l0.length bc) (.slice b1 r0.length b2) wb hl1 hl2 HL3.out (EntRow.of_own' rb.mem) rb.runs.row)
    clear rb bb ba c1 c1'
    obtain ⟨S, hS⟩ : ∃ S, sokS l0 r0 = S := ⟨_, rfl⟩
    rw [hS] at CS
    have HSS := hidM hS
    clear hS
    go_wp2_with fail
    refine CS.out.mono ?_
    rintro e wc ⟨rfl, bc⟩
    have B2 := B1.trans (bc.mono B1.size)
    have c2 := (AO.below B2).1 0 _ rfl
    have c2' := (AO.below B2).1 1 _ rfl
    clear bc B1 CS
    go_wp2_with fail
    refine (CT.out _ B2).mono ?_
    rintro e wd ⟨co, cc, d1, d2, rfl, rd, bd⟩
    have B3 := B2.trans (bd.mono B2.size)
    have RD : Hid (EntRow wd (.slice co l0.length cc) l0 ∧ RunRow wd (.slice d1 r0.length d2) r0) := ⟨EntRow.of_own' rd.mem, rd.runs.row⟩
    clear rd bd B2 c2 c2'
    go_upto_region 7 with fail
    obtain ⟨U, hU⟩ : ∃ U, U = wd.alloc (.cells #[.slice co l0.length cc, .slice d1 r0.length d2] 27) := ⟨_, rfl⟩
    have bU : Below wd.heap.size wd U := by rw [hU]; exact (Below.refl _ _).alloc (Nat.le_refl _) _
    have AU : BAt U wd.heap.size [.slice co l0.length cc, .slice d1 r0.length d2] := by rw [hU]; exact BAt.new wd #[.slice co l0.length cc, .slice d1 r0.length d2] _
    rw [← hU]
    clear hU
    have B4 := B3.trans (bU.mono B3.size)
    have RU : Hid (EntRow U (.slice co l0.length cc) l0 ∧ RunRow U (.slice d1 r0.length d2) r0) := ⟨RD.out.1.below bU, RD.out.2.below bU⟩
    have e0 := AU.1 0 _ rfl
    have e0' := AU.1 1 _ rfl
    have CI := hidM (implSeenOk l0 r0 (.slice co l0.length cc) (.slice d1 r0.length d2) U hl1 hl2 HL3.out RU.out.1 RU.out.2)
    clear bU B3 RD
    rw [HSS.out] at CI
    generalize wd.heap.size = D at *
    go_wp2_with fail
    refine CI.out.mono ?_
    rintro e we ⟨rfl, be⟩
    have B5 := B4.trans (be.mono B4.size)
    have RE : Hid (EntRow we (.slice co l0.length cc) l0 ∧ RunRow we (.slice d1 r0.length d2) r0) := ⟨RU.out.1.below be, RU.out.2.below be⟩
    have c3 := (AO.below B5).1 0 _ rfl
    have c3' := (AO.below B5).1 1 _ rfl
    have AE := AU.below be
    have e1 := AE.1 0 _ rfl
    have e1' := AE.1 1 _ rfl
    have hDE := AE.2.2
    have CE : Hid (∀ W p q, Below we.heap.size we W → EntRow W p l0 → RunRow W q r0 → Calls Try.prog 22 #[.agg #[.slice co l0.length cc, .slice d1 r0.length d2], .agg #[p, q]] W fun e w' => e = .returned (.bool true) ∧ Below W.heap.size W w') := fun W p q hW h1 h2 => eqSeen l0 r0 _ _ p q W (by omega) (by omega) (fun i hi => by have := HL3.out i hi; omega) (RE.out.1.below hW) (RE.out.2.below hW) h1 h2
    clear be B4 RU e0 e0' AU CI
    go_wp2_with fail
    go_region_with (first
      | (go_at_call 21; refine (CT.out _ B5.drew).mono ?_; rintro e wf ⟨fo, fc, f1, f2, rfl, rf, bf⟩; have f0 := (bf.cell (p := ⟨D, 0, none⟩) hDE).trans e1; have f0' := (bf.cell (p := ⟨D, 1, none⟩) hDE).trans e1')
      | (go_at_call 22; refine (CE.out _ _ _ (Below.trans (Below.refl _ _).drew bf) (EntRow.of_own' rf.mem) rf.runs.row).mono ?_; rintro e wg ⟨rfl, bg⟩))
    all_goals
      have B6 := B5.drew.trans (bf.mono B5.size)
      have B7 := B6.trans (bg.mono B6.size)
      go_wp2_with fail
      go_ret
      exact ⟨rfl, bO.trans (B7.mono bO.size)⟩

set_option maxRecDepth 100000 in
theorem lifted (os : Os) (started : os.Started) (H : Type) (enc : TypeId × Value → H) :
    ReturnsInHanded {} Try.checked os 5 .any (Rows.fnExactSeenOkSpec.pre6 enc Try.prog Try.f5 Rows.fnExactSeenOkRow.domain false) (Rows.fnExactSeenOkSpec.post enc Try.prog Try.f5 false true false false) := by
  refine returnsInHanded_of_change (C := Try.checked) own started (by kernel_rfl) Try.func5
    (ChangeSpec.witness6 (enc := enc) (C := Try.checked) false ⟨#[], #[.agg #[.slice none 0 0, .slice none 0 0]], []⟩ 8 (by kernel_rfl) (by kernel_rfl) (by kernel_rfl) (by kernel_rfl)) ?_
  intro W base args ds gs before hval0 hW hcnd _
  have hval : ∀ (j : Nat) t v, Try.f5.params[j]? = some t → args[j]? = some v → Value.okWide Try.prog W .any base t v := hval0
  have hW' := hW
  obtain ⟨p, q, hA0, hV, rfl, hfz, hnd⟩ := hW
  have hA : DataW.TrodAll enc Try.prog W 0 (fun _ => true) true Try.f5.params.toList args.toList ds p := hA0
  rw [Try.params5] at hA hval
  obtain ⟨v0, vs0, d0, ds0, p0, qq0, hargs, rfl, rfl, h0, rr0⟩ := trodAll_cons hA
  obtain ⟨rfl, rfl, rfl⟩ := trodAll_nil rr0
  obtain rfl : args = #[v0] := by cases args; simp_all
  obtain ⟨rfl, rfl⟩ := trodVars_none hV
  have k0 := h0
  have lt0 : ∀ x ∈ p0, x.block < W.heap.size := by obtain ⟨m, hm⟩ := k0; exact DataW.trod_lt m _ _ _ hm
  obtain ⟨x0, y0, l0, r0, rfl, w0, m0⟩ := open_seen (hval 0 44 v0 rfl rfl) h0
  clear hA0 hval0
  refine (walk x0 y0 l0 r0 W w0 m0).mono fun e W' ⟨he, bel⟩ => ?_
  subst he
  exact ⟨_, rfl, _, _, _, [], _, [], hW', trodAll_mk1 (shut_bool Try.underlying4 _), (trodAll_cons_mk (Below.trod laidOut (by kernel_rfl) (of_decide_eq_true (by kernel_rfl)) k0 bel lt0) trodAll_mk0), rfl, bel.frame _, fun h => by cases h⟩

theorem over : Rows.fnExactSeenOkRow.holds Try.pinned (OpenSpec.ofChange Rows.fnExactSeenOkSpec) :=
  OpenClaim.holds_of_wide 5 Try.f5 rfl rfl rfl rfl rfl rfl rfl ⟨rfl, rfl, rfl, rfl, rfl⟩ rfl rfl rfl rfl rfl (by kernel_rfl) Try.func5 (by kernel_rfl)
    (of_decide_eq_true (by kernel_rfl)) (by unfold Func.isWrapper; first | (rw [if_pos (by decide +kernel)]; kernel_rfl) | (rw [if_neg (by decide +kernel)]; exact ⟨rfl, rfl⟩))
    (fun os started H enc _ => lifted os started H enc)

theorem proved : Rows.FnExactSeenOkSaid := over
end Go.Proofs.Ytocgdbinfmdkcaa.fnExactSeenOk

namespace Go.Proofs.Ytocgdbinfmdkcaa
theorem fnExactSeenOk_holds : Rows.FnExactSeenOkSaid := fnExactSeenOk.proved
#print axioms fnExactSeenOk_holds
end Go.Proofs.Ytocgdbinfmdkcaa
