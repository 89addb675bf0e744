/- Proved: laws.FnExactSitemapText answers true at every list and leaves it as it was, package impl's table of escapes being as its text lays it; no other condition. -/
import Derived.Test.YtfdgehlobbeomaaDoorRows
import Derived.Test.YtfdgehlobbeomaaDoorCards
import Derived.Test.YtfdgehlobbeomaaDoorTie
import Derived.Test.YtfdgehlobbeomaaDoorLaidEsc
import Derived.Test.YtfdgehlobbeomaaDoorLaidEsc
import Derived.Test.YtfdgehlobbeomaaDoorOpenEnts
import Derived.Test.YtfdgehlobbeomaaDoorMapHelp
import Derived.Test.YtfdgehlobbeomaaDoorEntLaw
import Derived.Test.YtfdgehlobbeomaaDoorMapImpl
import Derived.OpenShut
import Derived.ShutString
import Derived.ChangeOld
import Derived.Below
namespace Go.Proofs.YtfdgehlobbeomaaDoor.fnExactSitemapText
open Go.ChangeShapes Go.WideShapes Go.ChangeAt Go.RowKit
open Go.ChangeMaps (open_string shut_string)
set_option linter.unusedVariables false

theorem laidOut : laidOutB Tryd.prog = true := by kernel_rfl
set_option maxRecDepth 100000 in
set_option maxHeartbeats 8000000 in
theorem walk (b0 : Bool) (p0 : Value) (l0 : List EV) (w : World) (w0 : EntRow w p0 l0) (m0 : EMx l0) (hE : Esc w) :
    Calls Tryd.prog 3 #[.agg #[.bool b0, p0]] w fun e w' => e = .returned (.bool true) ∧ Below w.heap.size w w' := by
  have HE0 : Hid (Esc w) := hE
  have HM : Hid (EMx l0) := m0
  have HW : Hid (EntRow w p0 l0) := w0
  obtain ⟨ao, cap, hp0⟩ := w0.slice
  clear m0 w0 hE
  have CZ : Hid (∀ W, Below w.heap.size w W → Calls Tryd.prog 4 #[.agg #[.bool b0, p0], .int .i64 1048576] W fun e w' => e = .returned (.int .i64 (leftZ 1048576 (sumEn l0))) ∧ Below W.heap.size W w') := fun W hW => szMap b0 l0 p0 1048576 W (by omega) (by omega) HM.out (HW.out.below hW)
  subst hp0
  have HZ := leftZ_le (left := 1048576) (n := sumEn l0) (by decide)
  generalize leftZ 1048576 (sumEn l0) = z at CZ HZ
  obtain ⟨hz1, hz2, hz3⟩ := HZ
  have HZ3 : Hid (0 ≤ z → ((sumEn l0 : Nat) : Int) ≤ 1048576) := hz3
  clear hz3
  obtain ⟨O, hO⟩ : ∃ O, O = w.alloc (.cells #[.bool b0, .slice ao l0.length cap] 24) := ⟨_, rfl⟩
  have bO : Below w.heap.size w O := by rw [hO]; exact (Below.refl _ _).alloc (Nat.le_refl _) _
  have AO : BAt O w.heap.size [.bool b0, .slice ao l0.length cap] := by rw [hO]; exact BAt.new w #[.bool b0, .slice ao l0.length cap] _
  go_enter Tryd.func3, Tryd.ntmps3
  go_upto_region 2 with fail
  rw [← hO]
  clear hO
  have c0 := AO.1 0 _ rfl
  have c0' := AO.1 1 _ rfl
  go_wp2_with fail
  refine (CZ.out _ bO).mono ?_
  rintro e wa ⟨rfl, ba⟩
  by_cases hneg : z < 0
  · go_wp2_with fail
    go_ret
    exact ⟨rfl, bO.trans (ba.mono bO.size)⟩
  · have HN : Hid (sumEn l0 ≤ 1048576) := by have := HZ3.out (by omega); show _ ≤ _; omega
    have hll : l0.length ≤ 1073741824 := (ent_sz HN.out).1
    have HA : Hid (∀ W, Below O.heap.size O W → EntRow W (.slice ao l0.length cap) l0) := fun W hb => HW.out.below (bO.trans (hb.mono bO.size))
    have c1 := (AO.below ba).1 0 _ rfl
    have c1' := (AO.below ba).1 1 _ rfl
    clear CZ HZ3 c0 c0'
    go_wp2_with fail
    refine (toMap b0 l0 _ _ hll (HA.out _ ba)).mono ?_
    rintro e wb ⟨bo, bc, rfl, rb, bb⟩
    have B1 := ba.trans (bb.mono ba.size)
    have RB : Hid (EntRow wb (.slice bo l0.length bc) l0) := EntRow.of_own' rb
    clear rb bb ba c1 c1'
    go_wp2_with fail
    refine (specSitemapText b0 l0 _ _ HN.out RB.out).mono ?_
    rintro e wc ⟨rfl, bc⟩
    have B2 := B1.trans (bc.mono B1.size)
    have c2 := (AO.below B2).1 0 _ rfl
    have c2' := (AO.below B2).1 1 _ rfl
    clear bc B1 RB
    go_wp2_with fail
    refine (toMap b0 l0 _ _ hll (HA.out _ B2)).mono ?_
    rintro e wd ⟨co, cc, rfl, rd, bd⟩
    have B3 := B2.trans (bd.mono B2.size)
    have RD : Hid (EntRow wd (.slice co l0.length cc) l0) := EntRow.of_own' rd
    clear rd bd B2 c2 c2'
    go_upto_region 7 with fail
    obtain ⟨U, hU⟩ : ∃ U, U = wd.alloc (.cells #[.bool b0, .slice co l0.length cc] 29) := ⟨_, rfl⟩
    have bU : Below wd.heap.size wd U := by rw [hU]; exact (Below.refl _ _).alloc (Nat.le_refl _) _
    have AU : BAt U wd.heap.size [.bool b0, .slice co l0.length cc] := by rw [hU]; exact BAt.new wd #[.bool b0, .slice co l0.length cc] _
    rw [← hU]
    clear hU
    have B4 := B3.trans (bU.mono B3.size)
    have RU : Hid (EntRow U (.slice co l0.length cc) l0) := RD.out.below bU
    have d0 := AU.1 0 _ rfl
    have d0' := AU.1 1 _ rfl
    have CI : Hid (Calls Tryd.prog 7 #[.agg #[.bool b0, .slice co l0.length cc]] U fun e w' => e = .returned (.string ⟨(mapT b0 l0).toArray⟩) ∧ Below U.heap.size U w') := implSitemapText b0 l0 _ _ HN.out (HE0.out.later (bO.trans (B4.mono bO.size))) RU.out
    clear bU B3 RD
    generalize wd.heap.size = D at *
    go_wp2_with fail
    refine CI.out.mono ?_
    rintro e we ⟨rfl, be⟩
    have B5 := B4.trans (be.mono B4.size)
    have RE : Hid (EntRow we (.slice co l0.length cc) l0) := RU.out.below be
    have c3 := (AO.below B5).1 0 _ rfl
    have c3' := (AO.below B5).1 1 _ rfl
    have AE := AU.below be
    have e0 := AE.1 0 _ rfl
    have e0' := AE.1 1 _ rfl
    have hDE := AE.2.2
    clear be B4 RU d0 d0' AU CI
    go_wp2_with fail
    go_region_with (first
      | (go_at_call 6; refine (toMap b0 l0 _ _ hll (HA.out _ B5.drew)).mono ?_; rintro e wf ⟨fo, fc, rfl, rf, bf⟩; have f0 := (bf.cell (p := ⟨D, 0, none⟩) hDE).trans e0; have f0' := (bf.cell (p := ⟨D, 1, none⟩) hDE).trans e0')
      | (go_at_call 8; refine (eqMap b0 l0 _ _ _ (by omega) (RE.out.below (w := we.drew) bf) (EntRow.of_own' rf)).mono ?_; rintro e wg ⟨rfl, bg⟩))
    all_goals
      have B6 := B5.drew.trans (bf.mono B5.size)
      have B7 := B6.trans (bg.mono B6.size)
      go_wp2_with fail
      go_ret
      exact ⟨rfl, bO.trans (B7.mono bO.size)⟩

set_option maxRecDepth 100000 in
theorem contract (H : Type) (enc : TypeId × Value → H) (W : World) (base : Nat) (args : Array Value) (ds gs : List (DataW H)) (before : List MemPlace)
    (hval : ∀ (j : Nat) t v, Tryd.f3.params[j]? = some t → args[j]? = some v → Value.okWide Tryd.prog W .any base t v)
    (hW : DataW.Whole enc Tryd.prog Tryd.f3.params.toList Rows.fnExactSitemapTextSpec.vars false W args.toList ds gs before) (hL : laidMet Tryd.prog laidEsc W) :
    Calls Tryd.prog 3 args W fun e W' => ∃ v, e = .returned v ∧ Rows.fnExactSitemapTextSpec.post enc Tryd.prog Tryd.f3 false true false false W args v W' := by
  have hW' := hW
  obtain ⟨p, q, hA0, hV, rfl, hfz, hnd⟩ := hW
  have hA : DataW.TrodAll enc Tryd.prog W 0 (fun _ => true) true Tryd.f3.params.toList args.toList ds p := hA0
  rw [Tryd.params3] at hA hval
  obtain ⟨v0, vs0, d0, ds0, p0, qq0, hargs, rfl, rfl, h0, rr0⟩ := trodAll_cons hA
  obtain ⟨rfl, rfl, rfl⟩ := trodAll_nil rr0
  obtain rfl : args = #[v0] := by cases args; simp_all
  have hV2 : DataW.TrodVars enc Tryd.prog W (fun _ => true) ["loop.example/g00191/impl.escapes"] gs q := hV
  obtain ⟨g1, rfl⟩ := vars_one hV2
  have k0 := h0
  have lt0 : ∀ x ∈ p0, x.block < W.heap.size := by obtain ⟨m, hm⟩ := k0; exact DataW.trod_lt m _ _ _ hm
  obtain ⟨b0, q0, l0, rfl, w0, m0⟩ := open_map (hval 0 24 v0 rfl rfl) h0
  clear hA0
  refine (walk b0 q0 l0 W w0 m0 (laid_esc hL)).mono fun e W' ⟨he, bel⟩ => ?_
  subst he
  exact ⟨_, rfl, _, _, _, [], _, _, hW', trodAll_mk1 (shut_bool Tryd.underlying4 _), (trodAll_cons_mk (Below.trod laidOut (by kernel_rfl) (of_decide_eq_true (by kernel_rfl)) k0 bel lt0) trodAll_mk0), bel.trodVars laidOutMarks (by kernel_rfl) hV, bel.frame _, fun h => by cases h⟩

theorem witness_row (os : Os) {H : Type} (enc : TypeId × Value → H) :
    (OpenSpec.ofChange Rows.fnExactSitemapTextSpec).preRow enc Tryd.prog Tryd.f3 Rows.fnExactSitemapTextRow.domain false laidEsc (({ World.holding Tryd.prog os ⟨#[], #[], []⟩ with heap := escHeap (World.holding Tryd.prog os ⟨#[], #[], []⟩).heap } : World).forCall (fun _ _ => 0) ⟨#[], #[.agg #[.bool false, .slice none 0 0]], []⟩).memory #[.agg #[.bool false, .slice none 0 0]] := by
  have hw : (DataW.whole enc Tryd.prog (({ World.holding Tryd.prog os ⟨#[], #[], []⟩ with heap := escHeap (World.holding Tryd.prog os ⟨#[], #[], []⟩).heap } : World).forCall (fun _ _ => 0) ⟨#[], #[.agg #[.bool false, .slice none 0 0]], []⟩).memory Tryd.f3.params.toList Rows.fnExactSitemapTextSpec.vars false (#[.agg #[.bool false, .slice none 0 0]] : Array Value).toList 8).map (fun x => (x.1, x.2.1)) =
      some ([.agg [.lit (.bool false), .nil]], [Rows.laid_loop_example_g00191_impl_escapes]) := by kernel_rfl
  obtain ⟨⟨x1, x2, x3⟩, hx, hx1⟩ := Option.map_eq_some_iff.1 hw
  simp only [Prod.mk.injEq] at hx1
  obtain ⟨rfl, rfl⟩ := hx1
  exact OpenSpec.preRow_of_cond 8 hx (by kernel_rfl) (fun k hk => by cases hk) (by kernel_rfl) (esc_met os _)

set_option maxRecDepth 100000 in
set_option maxHeartbeats 2000000 in
theorem lifted (os : Os) (started : os.Started) (H : Type) (enc : TypeId × Value → H) (F : Stop.Interp) :
    ReturnsInHanded {} Tryd.checked os 3 .any ((OpenSpec.ofChange Rows.fnExactSitemapTextSpec).preRow enc Tryd.prog Tryd.f3 Rows.fnExactSitemapTextRow.domain false laidEsc) (((OpenSpec.ofChange Rows.fnExactSitemapTextSpec).at F).post enc Tryd.prog Tryd.f3 false true false false) := by
  refine returnsInHanded_of_row (C := Tryd.checked) (s := OpenSpec.ofChange Rows.fnExactSitemapTextSpec) ownMarks started (by kernel_rfl) Tryd.func3
    (witness_row_atRef (enc := enc) (C := Tryd.checked) false ({ World.holding Tryd.prog os ⟨#[], #[], []⟩ with heap := escHeap (World.holding Tryd.prog os ⟨#[], #[], []⟩).heap }) #[.agg #[.bool false, .slice none 0 0]] rfl (by kernel_rfl) (by kernel_rfl) (by kernel_rfl) (witness_row os enc)) ?_
  intro W base args ds gs before hval hW _ _ _ hL _ _
  exact contract H enc W base args ds gs before hval hW hL

theorem said : Rows.FnExactSitemapTextSaid :=
  OpenClaim.holds_of_cond 3 Tryd.f3 rfl rfl rfl rfl rfl rfl rfl ⟨rfl, rfl, rfl, rfl, rfl⟩ rfl rfl rfl rfl rfl (by kernel_rfl) Tryd.func3 (by kernel_rfl)
    (of_decide_eq_true (by kernel_rfl)) (by unfold Func.isWrapper; first | (rw [if_pos (by decide +kernel)]; kernel_rfl) | (rw [if_neg (by decide +kernel)]; exact ⟨rfl, rfl⟩))
    (fun os started H enc _ F => by rw [OpenClaim.pre_eq_preRow]; exact lifted os started H enc F)

theorem plain (f : FuncId) (fn : Func) (hf : Tryd.pinned.checked.prog.funcNamed "loop.example/g00191/laws.FnExactSitemapText" = some f) (hfn : Tryd.pinned.checked.prog.funcs[f]? = some fn) :
    false = Tryd.pinned.checked.prog.looks [] ∧ ∀ (j : Nat) t, fn.params[j]? = some t → Tryd.pinned.checked.prog.wantsStandIn t = false := by
  obtain rfl : f = 3 := Option.some.inj ((show Tryd.prog.funcNamed "loop.example/g00191/laws.FnExactSitemapText" = some 3 by kernel_rfl).symm.trans hf) |>.symm
  obtain rfl : fn = Tryd.f3 := (Option.some.inj (Tryd.func3.symm.trans hfn)).symm
  refine ⟨by kernel_rfl, fun j t ht => ?_⟩
  rw [Tryd.params3] at ht
  obtain rfl : t = 24 := by simpa using Array.mem_of_getElem? ht
  exact (show Tryd.prog.wantsStandIn 24 = false by kernel_rfl)

theorem card : Rows.FnExactSitemapTextCardSaid :=
  Claim7.holds_tied_plain_at .later [] _ _ _ _ said (fun _ h => by cases h) (by kernel_rfl) (fun _ h => by cases h) fnExactSitemapText_row_tie rfl ⟨rfl, rfl⟩ (by kernel_rfl) rfl plain (by kernel_rfl)
end Go.Proofs.YtfdgehlobbeomaaDoor.fnExactSitemapText

namespace Go.Proofs.YtfdgehlobbeomaaDoor
theorem fnExactSitemapText_holds : Rows.FnExactSitemapTextCardSaid := fnExactSitemapText.card
#print axioms fnExactSitemapText_holds
end Go.Proofs.YtfdgehlobbeomaaDoor
