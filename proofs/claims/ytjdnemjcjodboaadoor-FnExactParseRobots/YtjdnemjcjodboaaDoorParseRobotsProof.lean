/- Proved: laws.FnExactParseRobots answers true at every string and leaves it as it was, package impl's two arrays of truths and package utf8's two tables being as their text lays them; no other condition. -/
import Derived.Test.YtjdnemjcjodboaaDoorRows
import Derived.Test.YtjdnemjcjodboaaDoorCards
import Derived.Test.YtjdnemjcjodboaaDoorTie
import Derived.Test.YtjdnemjcjodboaaDoorRp03
import Derived.Test.YtjdnemjcjodboaaDoorRp16
import Derived.Test.YtjdnemjcjodboaaDoorRp18
import Derived.Test.YtjdnemjcjodboaaDoorRp17
import Derived.OpenShut
import Derived.ShutString
namespace Go.Proofs.YtjdnemjcjodboaaDoor.fnExactParseRobots
open Go.ChangeShapes Go.WideShapes Go.ChangeAt Go.RowKit
open Go.ChangeMaps (open_string shut_string)
set_option linter.unusedVariables false

set_option maxRecDepth 100000 in
set_option maxHeartbeats 8000000 in
theorem walk (a0 : ByteArray) (w0 : a0.size ≤ maxLen) (w : World) (hK : Marks w) (hM : MaxI w) :
    Calls Tryd.prog 4 #[.string a0] w fun e w' => e = .returned (.bool true) ∧ Below w.heap.size w w' := by
  by_cases hbig : 1048576 < (a0.size : Int)
  · clear hK hM
    go_enter Tryd.func4, Tryd.ntmps4
    go_wp2
    go_ret
    exact ⟨rfl, Below.refl _ _⟩
  · have hs : a0.size ≤ 1048576 := by omega
    have hsum : sumP (robV a0) ≤ 1048576 := Nat.le_trans (rob_sum a0) (by decide)
    have HLL : (robV a0).length ≤ 1048576 := by unfold sumP at hsum; omega
    have HE : Hid (PSz (robV a0)) := fun i hi => by have := part_lens hsum hi; omega
    have HKM := kP_most hsum
    have CS : Hid (∀ W, Calls Tryd.prog 12 #[.string a0] W fun e w' => ∃ ao c, e = .returned (.agg #[.slice ao (robV a0).length c]) ∧ RobOwn w' W.heap.size w'.heap.size (.slice ao (robV a0).length c) (robV a0) ∧ Below W.heap.size W w') := fun W => (specParseRobots a0 W hs).mono fun e w' ⟨v, he, hr, hb⟩ => by
      obtain ⟨ao, c, rfl⟩ := hr.row.slice
      exact ⟨ao, c, he, hr, hb⟩
    have CI : Hid (∀ W, Below w.heap.size w W → Calls Tryd.prog 7 #[.string a0] W fun e w' => ∃ ao c, e = .returned (.agg #[.slice ao (robV a0).length c]) ∧ RobOwn w' W.heap.size w'.heap.size (.slice ao (robV a0).length c) (robV a0) ∧ Below W.heap.size W w') := fun W hW => (implParseRobots a0 W hs (hK.later hW) (max_below hM hW)).mono fun e w' ⟨v, he, hr, hb⟩ => by
      obtain ⟨ao, c, rfl⟩ := hr.row.slice
      exact ⟨ao, c, he, hr, hb⟩
    obtain ⟨y, hy⟩ : ∃ y : Int, ((kP 1 (robV a0) (robV a0).length : Nat) : Int) = y := ⟨_, rfl⟩
    have hy0 : ¬ y < 0 := by omega
    have CE : Hid (∀ va vb W, PartRow W va (robV a0) → PartRow W vb (robV a0) → Calls Tryd.prog 13 #[.agg #[va], .agg #[vb]] W fun e w' => e = .returned (.bool true) ∧ Below W.heap.size W w') := fun va vb W h1 h2 => eqRobots (robV a0) va vb W (by omega) HE.out h1 h2
    have CM : Hid (∀ v base top W, top ≤ W.heap.size → RobOwn W base top v (robV a0) → Calls Tryd.prog 14 #[.agg #[v], .int .i64 1] W fun e w' => e = .returned (.int .i64 y) ∧ RobOwn w' base top v (markP 1 (robV a0)) ∧ Only base top W w') := fun v base top W ht h => by rw [← hy]; exact markRobots (robV a0) v 1 base top W (by decide) HLL HKM ht h
    have CH : Hid (∀ v base top W, top ≤ W.heap.size → RobOwn W base top v (markP 1 (robV a0)) → Calls Tryd.prog 15 #[.agg #[v], .int .i64 1] W fun e w' => e = .returned (.int .i64 y) ∧ Below W.heap.size W w') := fun v base top W ht h => by rw [← hy]; exact heldRobots (robV a0) v 1 base top W (by decide) HLL HKM ht h
    clear hy hK hM HE HKM HLL hsum
    generalize markP 1 (robV a0) = X at *
    generalize robV a0 = R at *
    go_enter Tryd.func4, Tryd.ntmps4
    go_wp2_with fail
    refine (CS.out _).mono ?_
    rintro e w1 ⟨a1, c1, rfl, r1, b1⟩
    have R1 : Hid (RobOwn w1 w.heap.size w1.heap.size (.slice a1 R.length c1) R) := r1
    clear r1 CS
    go_upto_region 4 with fail
    obtain ⟨U1, hU1⟩ : ∃ U1, U1 = w1.alloc (.cells #[.slice a1 R.length c1] 26) := ⟨_, rfl⟩
    have HU1 : Hid (U1 = w1.alloc (.cells #[.slice a1 R.length c1] 26)) := hU1
    have bU1 : Below w.heap.size w U1 := by rw [hU1]; exact b1.alloc b1.size _
    rw [← hU1]
    clear hU1
    go_wp2_with fail
    refine (CI.out _ bU1).mono ?_
    rintro e w2 ⟨a2, c2, rfl, r2, b2⟩
    have R2 : Hid (RobOwn w2 U1.heap.size w2.heap.size (.slice a2 R.length c2) R) := r2
    clear r2
    go_upto_region 5 with fail
    obtain ⟨U2, hU2⟩ : ∃ U2, U2 = w2.alloc (.cells #[.slice a2 R.length c2] 26) := ⟨_, rfl⟩
    have ST := RobSt.new HU1.out hU2 R1.out b1 R2.out b2
    have hwB : w.heap.size ≤ U1.heap.size := bU1.size
    rw [← hU2]
    clear hU2 HU1 R1 R2 b1 b2 bU1
    generalize w2.heap.size = p2 at *
    generalize w1.heap.size = p1 at *
    generalize U1.heap.size = B2 at *
    have d1 := ST.a1.1 0 _ rfl
    have d2 := ST.a2.1 0 _ rfl
    have HS : Hid (RobSt w U2 p1 B2 p2 (.slice a1 R.length c1) (.slice a2 R.length c2) R R) := ST
    clear ST
    go_wp2_with fail
    refine (CE.out _ _ _ HS.out.r2.row HS.out.r1.row).mono ?_
    rintro e w3 ⟨rfl, b3⟩
    have H3 : Hid (RobSt w w3 p1 B2 p2 (.slice a1 R.length c1) (.slice a2 R.length c2) R R) := HS.out.below b3
    have d3 := H3.out.a2.1 0 _ rfl
    clear HS b3 d1 d2
    go_wp2_with fail
    refine (CM.out _ _ _ _ (Nat.le_of_lt H3.out.l3) H3.out.r2).mono ?_
    rintro e w4 ⟨rfl, r4, o4⟩
    have H4 : Hid (RobSt w w4 p1 B2 p2 (.slice a1 R.length c1) (.slice a2 R.length c2) R X) := H3.out.only o4 r4 hwB
    have d4 := H4.out.a2.1 0 _ rfl
    clear H3 d3 r4 o4 CM
    go_wp2_with fail
    refine (CH.out _ _ _ _ (Nat.le_of_lt H4.out.l3) H4.out.r2).mono ?_
    rintro e w5 ⟨rfl, b5⟩
    have H5 : Hid (RobSt w w5 p1 B2 p2 (.slice a1 R.length c1) (.slice a2 R.length c2) R X) := H4.out.below b5
    clear H4 d4 b5
    go_wp2_with fail
    refine (CI.out _ H5.out.b).mono ?_
    rintro e w6 ⟨a6, c6, rfl, r6, b6⟩
    have H6 : Hid (RobSt w w6 p1 B2 p2 (.slice a1 R.length c1) (.slice a2 R.length c2) R X) := H5.out.below b6
    have R6 : Hid (PartRow w6 (.slice a6 R.length c6) R) := r6.row
    clear r6 b6 H5 CI
    go_upto_region 16 with fail
    obtain ⟨U3, hU3⟩ : ∃ U3, U3 = w6.alloc (.cells #[.slice a6 R.length c6] 26) := ⟨_, rfl⟩
    have bU3 : Below w6.heap.size w6 U3 := by rw [hU3]; exact (Below.refl _ _).alloc (Nat.le_refl _) _
    have A3 : BAt U3 w6.heap.size [.slice a6 R.length c6] := by rw [hU3]; exact BAt.new w6 #[.slice a6 R.length c6] _
    have H7 : Hid (RobSt w U3 p1 B2 p2 (.slice a1 R.length c1) (.slice a2 R.length c2) R X) := H6.out.below bU3
    have R7 : Hid (PartRow U3 (.slice a6 R.length c6) R) := R6.out.below bU3
    rw [← hU3]
    clear hU3 bU3 R6 H6
    have d7 := A3.1 0 _ rfl
    have d1 := H7.out.a1.1 0 _ rfl
    go_wp2_with fail
    refine (CE.out _ _ _ R7.out H7.out.r1.row).mono ?_
    rintro e w8 ⟨rfl, b8⟩
    have H8 : Hid (RobSt w w8 p1 B2 p2 (.slice a1 R.length c1) (.slice a2 R.length c2) R X) := H7.out.below b8
    have d8 := H8.out.a2.1 0 _ rfl
    clear H7 R7 d7 d1 b8 CE A3
    go_wp2_with fail
    refine (CH.out _ _ _ _ (Nat.le_of_lt H8.out.l3) H8.out.r2).mono ?_
    rintro e w9 ⟨rfl, b9⟩
    have B9 := (H8.out.below b9).b
    go_wp2_with fail
    go_ret
    exact ⟨rfl, B9⟩

set_option maxRecDepth 100000 in
theorem contract (H : Type) (enc : TypeId × Value → H) (W : World) (base : Nat) (args : Array Value) (ds gs : List (DataW H)) (before : List MemPlace)
    (hval : ∀ (j : Nat) t v, Tryd.f4.params[j]? = some t → args[j]? = some v → Value.okWide Tryd.prog W .any base t v)
    (hW : DataW.Whole enc Tryd.prog Tryd.f4.params.toList Rows.fnExactParseRobotsSpec.vars false W args.toList ds gs before) (hL : laidMet Tryd.prog laidRob W) (hSh : W.ShapedOpen Tryd.prog) :
    Calls Tryd.prog 4 args W fun e W' => ∃ v, e = .returned v ∧ Rows.fnExactParseRobotsSpec.post enc Tryd.prog Tryd.f4 false true false false W args v W' := by
  have hW' := hW
  obtain ⟨p, q, hA0, hV, rfl, hfz, hnd⟩ := hW
  have hA : DataW.TrodAll enc Tryd.prog W 0 (fun _ => true) true Tryd.f4.params.toList args.toList ds p := hA0
  rw [Tryd.params4] at hA hval
  obtain ⟨v0, vs0, d0, ds0, p0, q0, hargs, rfl, rfl, h0, r0⟩ := trodAll_cons hA
  obtain ⟨rfl, rfl, rfl⟩ := trodAll_nil r0
  obtain rfl : args = #[v0] := by cases args; simp_all
  have hV2 : DataW.TrodVars enc Tryd.prog W (fun _ => true) ["loop.example/g00191/impl.keptMarks", "loop.example/g00191/impl.plainMarks"] gs q := hV
  obtain ⟨g1, g2, rfl⟩ := vars_two hV2
  obtain ⟨a0, rfl, rfl, rfl, w0⟩ := open_string Tryd.underlying9 (hval 0 9 v0 rfl rfl) h0
  clear hA0
  refine (walk a0 w0 W (rob_marks hL) (max_shaped hSh)).mono fun e W' ⟨he, bel⟩ => ?_
  subst he
  exact ⟨_, rfl, _, _, _, [], [], _, hW', trodAll_cons_mk (shut_bool Tryd.underlying4 _) trodAll_mk0, (trodAll_cons_mk (shut_string Tryd.underlying9 w0) trodAll_mk0), bel.trodVars laidOutMarks (by kernel_rfl) hV, bel.frame _, fun h => by cases h⟩

theorem witness_row (os : Os) {H : Type} (enc : TypeId × Value → H) :
    (OpenSpec.ofChange Rows.fnExactParseRobotsSpec).preRow enc Tryd.prog Tryd.f4 Rows.fnExactParseRobotsRow.domain false laidRob (({ World.holding Tryd.prog os ⟨#[], #[], []⟩ with heap := robHeap (World.holding Tryd.prog os ⟨#[], #[], []⟩).heap } : World).forCall (fun _ _ => 0) ⟨#[], #[.string ⟨#[]⟩], []⟩).memory #[.string ⟨#[]⟩] := by
  have hw : (DataW.whole enc Tryd.prog (({ World.holding Tryd.prog os ⟨#[], #[], []⟩ with heap := robHeap (World.holding Tryd.prog os ⟨#[], #[], []⟩).heap } : World).forCall (fun _ _ => 0) ⟨#[], #[.string ⟨#[]⟩], []⟩).memory Tryd.f4.params.toList Rows.fnExactParseRobotsSpec.vars false (#[.string ⟨#[]⟩] : Array Value).toList 8).map (fun x => (x.1, x.2.1)) =
      some ([.lit (.string [])], [Rows.laid_loop_example_g00191_impl_keptMarks, Rows.laid_loop_example_g00191_impl_plainMarks]) := by kernel_rfl
  obtain ⟨⟨x1, x2, x3⟩, hx, hx1⟩ := Option.map_eq_some_iff.1 hw
  simp only [Prod.mk.injEq] at hx1
  obtain ⟨rfl, rfl⟩ := hx1
  exact OpenSpec.preRow_of_cond 8 hx (by kernel_rfl) (fun k hk => by cases hk) (by kernel_rfl) (rob_met os _)

set_option maxRecDepth 100000 in
set_option maxHeartbeats 2000000 in
theorem lifted (os : Os) (started : os.Started) (H : Type) (enc : TypeId × Value → H) (F : Stop.Interp) :
    ReturnsInHanded {} Tryd.checked os 4 .any ((OpenSpec.ofChange Rows.fnExactParseRobotsSpec).preRow enc Tryd.prog Tryd.f4 Rows.fnExactParseRobotsRow.domain false laidRob) (((OpenSpec.ofChange Rows.fnExactParseRobotsSpec).at F).post enc Tryd.prog Tryd.f4 false true false false) := by
  refine returnsInHanded_of_row (C := Tryd.checked) (s := OpenSpec.ofChange Rows.fnExactParseRobotsSpec) ownMarks started (by kernel_rfl) Tryd.func4
    (witness_row_atRef (enc := enc) (C := Tryd.checked) false ({ World.holding Tryd.prog os ⟨#[], #[], []⟩ with heap := robHeap (World.holding Tryd.prog os ⟨#[], #[], []⟩).heap }) #[.string ⟨#[]⟩] rfl (by kernel_rfl) (by kernel_rfl) (by kernel_rfl) (witness_row os enc)) ?_
  intro W base args ds gs before hval hW _ _ _ hL hSh _
  exact contract H enc W base args ds gs before hval hW hL hSh

theorem said : Rows.FnExactParseRobotsSaid :=
  OpenClaim.holds_of_cond 4 Tryd.f4 rfl rfl rfl rfl rfl rfl rfl ⟨rfl, rfl, rfl, rfl, rfl⟩ rfl rfl rfl rfl rfl (by kernel_rfl) Tryd.func4 (by kernel_rfl)
    (of_decide_eq_true (by kernel_rfl)) (by unfold Func.isWrapper; first | (rw [if_pos (by decide +kernel)]; kernel_rfl) | (rw [if_neg (by decide +kernel)]; exact ⟨rfl, rfl⟩))
    (fun os started H enc _ F => by rw [OpenClaim.pre_eq_preRow]; exact lifted os started H enc F)

theorem plain (f : FuncId) (fn : Func) (hf : Tryd.pinned.checked.prog.funcNamed "loop.example/g00191/laws.FnExactParseRobots" = some f) (hfn : Tryd.pinned.checked.prog.funcs[f]? = some fn) :
    false = Tryd.pinned.checked.prog.looks [] ∧ ∀ (j : Nat) t, fn.params[j]? = some t → Tryd.pinned.checked.prog.wantsStandIn t = false := by
  obtain rfl : f = 4 := Option.some.inj ((show Tryd.prog.funcNamed "loop.example/g00191/laws.FnExactParseRobots" = some 4 by kernel_rfl).symm.trans hf) |>.symm
  obtain rfl : fn = Tryd.f4 := (Option.some.inj (Tryd.func4.symm.trans hfn)).symm
  refine ⟨by kernel_rfl, fun j t ht => ?_⟩
  rw [Tryd.params4] at ht
  obtain rfl : t = 9 := by simpa using Array.mem_of_getElem? ht
  exact (show Tryd.prog.wantsStandIn 9 = false by kernel_rfl)

theorem card : Rows.FnExactParseRobotsCardSaid :=
  Claim7.holds_tied_plain_at .later [] _ _ _ _ said (fun _ h => by cases h) (by kernel_rfl) (fun _ h => by cases h) fnExactParseRobots_row_tie rfl ⟨rfl, rfl⟩ (by kernel_rfl) rfl plain (by kernel_rfl)
end Go.Proofs.YtjdnemjcjodboaaDoor.fnExactParseRobots

namespace Go.Proofs.YtjdnemjcjodboaaDoor
theorem fnExactParseRobots_holds : Rows.FnExactParseRobotsCardSaid := fnExactParseRobots.card
#print axioms fnExactParseRobots_holds
end Go.Proofs.YtjdnemjcjodboaaDoor
