/- Proved: laws.FnExactRobotsText answers true at every robots and leaves it as it was; no condition. -/
import Derived.Test.YtjdnemjcjodboaaRows
import Derived.Test.YtjdnemjcjodboaaOpenRob
import Derived.Test.YtjdnemjcjodboaaRobTo2
import Derived.Test.YtjdnemjcjodboaaRobEq
import Derived.Test.YtjdnemjcjodboaaRobText
import Derived.Test.YtjdnemjcjodboaaRobTextI
import Derived.ProofKit
import Derived.OpenShut
import Derived.ShutString
import Derived.ChangeOld
import Derived.Below
namespace Go.Proofs.Ytjdnemjcjodboaa.fnExactRobotsText
open Go.ChangeShapes Go.WideShapes Go.ChangeAt Go.RowKit
open Go.ChangeMaps (open_string shut_string)
set_option linter.unusedVariables false

theorem own : ownKnob Try.prog.godebug = none := by kernel_rfl
theorem laidOut : laidOutB Try.prog = true := by kernel_rfl

set_option maxRecDepth 100000 in
set_option maxHeartbeats 8000000 in
theorem walk (p0 : Value) (l0 : List PT) (w : World) (w0 : PartRow w p0 l0) (m0 : PMx l0) :
    Calls Try.prog 6 #[.agg #[p0]] w fun e w' => e = .returned (.bool true) ∧ Below w.heap.size w w' := by
  have HM : Hid (PMx l0) := m0
  have HW : Hid (PartRow w p0 l0) := w0
  obtain ⟨ao, cap, hp0⟩ := w0.slice
  clear m0 w0
  have CZ : Hid (∀ W, Below w.heap.size w W → Calls Try.prog 14 #[.agg #[p0], .int .i64 1048576] W fun e w' => e = .returned (.int .i64 (leftZ 1048576 (sumP l0))) ∧ Below W.heap.size W w') := fun W hW => szRobots l0 p0 1048576 W (by decide) (by decide) HM.out (HW.out.below hW)
  subst hp0
  have HZ := leftZ_le (left := 1048576) (n := sumP l0) (by decide)
  generalize leftZ 1048576 (sumP l0) = z at CZ HZ
  obtain ⟨hz1, hz2, hz3⟩ := HZ
  have HZ3 : Hid (0 ≤ z → ((sumP l0 : Nat) : Int) ≤ 1048576) := hz3
  clear hz3
  obtain ⟨O, hO⟩ : ∃ O, O = w.alloc (.cells #[.slice ao l0.length cap] 40) := ⟨_, rfl⟩
  have bO : Below w.heap.size w O := by rw [hO]; exact (Below.refl _ _).alloc (Nat.le_refl _) _
  have AO : BAt O w.heap.size [.slice ao l0.length cap] := by rw [hO]; exact BAt.new w #[.slice ao l0.length cap] _
  go_enter Try.func6, Try.ntmps6
  go_upto_region 2 with fail
  rw [← hO]
  clear hO
  have c0 := AO.1 0 _ rfl
  go_wp2_with fail
  refine (CZ.out _ bO).mono ?_
  rintro e wa ⟨rfl, ba⟩
  by_cases hneg : z < 0
  · go_wp2_with fail
    go_ret
    exact ⟨rfl, bO.trans (ba.mono bO.size)⟩
  · have HN : Hid (sumP l0 ≤ 1048576) := by have := HZ3.out (by omega); show _ ≤ _; omega
    have hll : l0.length ≤ 1073741824 := by have := HN.out; unfold sumP at this; omega
    have HS : Hid (PSm l0) := fun i hi => by have := part_lens HN.out hi; omega
    have HE : Hid (PSz l0) := fun i hi => by have := part_lens HN.out hi; omega
    have HA : Hid (∀ W, Below O.heap.size O W → PartRow W (.slice ao l0.length cap) l0) := fun W hb => HW.out.below (bO.trans (hb.mono bO.size))
    have c1 := (AO.below ba).1 0 _ rfl
    clear CZ HZ3 c0
    go_wp2_with fail
    refine (toRobots l0 _ _ hll HS.out (HA.out _ ba)).mono ?_
    rintro e wb ⟨bo, bc, rfl, rb, bb⟩
    have B1 := ba.trans (bb.mono ba.size)
    have RB : Hid (PartRow wb (.slice bo l0.length bc) l0) := rb.row
    clear rb bb ba c1
    go_wp2_with fail
    refine (specRobotsText l0 _ _ HN.out RB.out).mono ?_
    rintro e wc ⟨rfl, bc⟩
    have B2 := B1.trans (bc.mono B1.size)
    have c2 := (AO.below B2).1 0 _ rfl
    clear bc B1 RB
    go_wp2_with fail
    refine (toRobots l0 _ _ hll HS.out (HA.out _ B2)).mono ?_
    rintro e wd ⟨co, cc, rfl, rd, bd⟩
    have B3 := B2.trans (bd.mono B2.size)
    have RD : Hid (PartRow wd (.slice co l0.length cc) l0) := rd.row
    clear rd bd B2 c2
    go_upto_region 7 with fail
    obtain ⟨U, hU⟩ : ∃ U, U = wd.alloc (.cells #[.slice co l0.length cc] 26) := ⟨_, rfl⟩
    have bU : Below wd.heap.size wd U := by rw [hU]; exact (Below.refl _ _).alloc (Nat.le_refl _) _
    have AU : BAt U wd.heap.size [.slice co l0.length cc] := by rw [hU]; exact BAt.new wd #[.slice co l0.length cc] _
    rw [← hU]
    clear hU
    have B4 := B3.trans (bU.mono B3.size)
    have RU : Hid (PartRow U (.slice co l0.length cc) l0) := RD.out.below bU
    have d0 := AU.1 0 _ rfl
    have CI : Hid (Calls Try.prog 23 #[.agg #[.slice co l0.length cc]] U fun e w' => e = .returned (.string ⟨(robT l0).toArray⟩) ∧ Below U.heap.size U w') := implRobotsText l0 _ _ HN.out RU.out
    clear bU B3 RD
    generalize wd.heap.size = D at *
    go_wp2_with fail
    refine CI.out.mono ?_
    rintro e we ⟨rfl, be⟩
    have B5 := B4.trans (be.mono B4.size)
    have RE : Hid (PartRow we (.slice co l0.length cc) l0) := RU.out.below be
    have c3 := (AO.below B5).1 0 _ rfl
    have AE := AU.below be
    have e0 := AE.1 0 _ rfl
    have hDE := AE.2.2
    clear be B4 RU d0 AU CI
    go_wp2_with fail
    go_region_with (first
      | (go_at_call 16; refine (toRobots l0 _ _ hll HS.out (HA.out _ B5.drew)).mono ?_; rintro e wf ⟨fo, fc, rfl, rf, bf⟩; have f0 := (bf.cell (p := ⟨D, 0, none⟩) hDE).trans e0)
      | (go_at_call 18; refine (eqRobots l0 _ _ _ (by omega) HE.out (RE.out.below (w := we.drew) bf) rf.row).mono ?_; rintro e wg ⟨rfl, bg⟩))
    all_goals
      have B6 := B5.drew.trans (bf.mono B5.size)
      have B7 := B6.trans (bg.mono B6.size)
      clear bf bg B6 rf f0 RE
      go_wp2_with fail
      go_ret
      exact ⟨rfl, bO.trans (B7.mono bO.size)⟩

set_option maxRecDepth 100000 in
theorem lifted (os : Os) (started : os.Started) (H : Type) (enc : TypeId × Value → H) :
    ReturnsInHanded {} Try.checked os 6 .any (Rows.fnExactRobotsTextSpec.pre6 enc Try.prog Try.f6 Rows.fnExactRobotsTextRow.domain false) (Rows.fnExactRobotsTextSpec.post enc Try.prog Try.f6 false true false false) := by
  refine returnsInHanded_of_change (C := Try.checked) own started (by kernel_rfl) Try.func6
    (ChangeSpec.witness6 (enc := enc) (C := Try.checked) false ⟨#[], #[.agg #[.slice none 0 0]], []⟩ 8 (by kernel_rfl) (by kernel_rfl) (by kernel_rfl) (by kernel_rfl)) ?_
  intro W base args ds gs before hval0 hW hcnd _
  have hval : ∀ (j : Nat) t v, Try.f6.params[j]? = some t → args[j]? = some v → Value.okWide Try.prog W .any base t v := hval0
  have hW' := hW
  obtain ⟨p, q, hA0, hV, rfl, hfz, hnd⟩ := hW
  have hA : DataW.TrodAll enc Try.prog W 0 (fun _ => true) true Try.f6.params.toList args.toList ds p := hA0
  rw [Try.params6] at hA hval
  obtain ⟨v0, vs0, d0, ds0, p0, qq0, hargs, rfl, rfl, h0, rr0⟩ := trodAll_cons hA
  obtain ⟨rfl, rfl, rfl⟩ := trodAll_nil rr0
  obtain rfl : args = #[v0] := by cases args; simp_all
  obtain ⟨rfl, rfl⟩ := trodVars_none hV
  have k0 := h0
  have lt0 : ∀ x ∈ p0, x.block < W.heap.size := by obtain ⟨m, hm⟩ := k0; exact DataW.trod_lt m _ _ _ hm
  obtain ⟨q0, l0, rfl, w0, m0⟩ := open_robots (hval 0 40 v0 rfl rfl) h0
  clear hA0 hval0
  refine (walk q0 l0 W w0 m0).mono fun e W' ⟨he, bel⟩ => ?_
  subst he
  exact ⟨_, rfl, _, _, _, [], _, [], hW', trodAll_mk1 (shut_bool Try.underlying4 _), (trodAll_cons_mk (Below.trod laidOut (by kernel_rfl) (of_decide_eq_true (by kernel_rfl)) k0 bel lt0) trodAll_mk0), rfl, bel.frame _, fun h => by cases h⟩

theorem over : Rows.fnExactRobotsTextRow.holds Try.pinned (OpenSpec.ofChange Rows.fnExactRobotsTextSpec) :=
  OpenClaim.holds_of_wide 6 Try.f6 rfl rfl rfl rfl rfl rfl rfl ⟨rfl, rfl, rfl, rfl, rfl⟩ rfl rfl rfl rfl rfl (by kernel_rfl) Try.func6 (by kernel_rfl)
    (of_decide_eq_true (by kernel_rfl)) (by unfold Func.isWrapper; first | (rw [if_pos (by decide +kernel)]; kernel_rfl) | (rw [if_neg (by decide +kernel)]; exact ⟨rfl, rfl⟩))
    (fun os started H enc _ => lifted os started H enc)

theorem proved : Rows.FnExactRobotsTextSaid := over
end Go.Proofs.Ytjdnemjcjodboaa.fnExactRobotsText

namespace Go.Proofs.Ytjdnemjcjodboaa
theorem fnExactRobotsText_holds : Rows.FnExactRobotsTextSaid := fnExactRobotsText.proved
#print axioms fnExactRobotsText_holds
end Go.Proofs.Ytjdnemjcjodboaa
