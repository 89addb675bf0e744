/- Proved: laws.FnExactIp6Text answers true at every eight ints and leaves them as they were, the tables of package math/bits and of internal/strconv being as their text lays them; no condition. -/
import Derived.Test.YtophgcneckjdjaaDoorRows
import Derived.Test.YtophgcneckjdjaaDoorCards
import Derived.Test.YtophgcneckjdjaaDoorTie
import Derived.Test.YtophgcneckjdjaaDoorLaidPow
import Derived.Test.YtophgcneckjdjaaDoorIp6Both
import Derived.Test.YtophgcneckjdjaaDoorArrMarks
import Derived.Test.YtophgcneckjdjaaDoorLaidBru
import Derived.OpenShut
import Derived.ShutString
namespace Go.Proofs.YtophgcneckjdjaaDoor.fnExactIp6Text
open Go.ChangeShapes Go.WideShapes Go.ChangeAt Go.RowKit
open Go.ChangeMaps (open_string shut_string)
set_option linter.unusedVariables false

theorem walk (z0 : List Int) (l0 : z0.length = 8) (w0 : ∀ z ∈ z0, (Lit.int .i64 z).wf = true) (w : World) (hT : Pow w) (hM : MaxI w) (hD : Bruijn w) :
    Calls Tryd.prog 7 #[.agg (z0.map (Value.int .i64)).toArray] w fun e w' => e = .returned (.bool true) ∧ Below w.heap.size w w' := by
  have HB : Hid (Bruijn w) := hD
  clear hT hM hD
  obtain ⟨x0, x1, x2, x3, x4, x5, x6, x7, rfl⟩ := list8 z0 l0
  clear w0 l0
  have hv : (.agg ([x0, x1, x2, x3, x4, x5, x6, x7].map (Value.int .i64)).toArray : Value) = .agg #[.int .i64 x0, .int .i64 x1, .int .i64 x2, .int .i64 x3, .int .i64 x4, .int .i64 x5, .int .i64 x6, .int .i64 x7] := rfl
  rw [hv]
  clear hv
  have CT : Hid (∀ W, Calls Tryd.prog 21 #[.agg #[.int .i64 x0, .int .i64 x1, .int .i64 x2, .int .i64 x3, .int .i64 x4, .int .i64 x5, .int .i64 x6, .int .i64 x7]] W fun e w' => e = .returned (.agg #[.int .i64 x0, .int .i64 x1, .int .i64 x2, .int .i64 x3, .int .i64 x4, .int .i64 x5, .int .i64 x6, .int .i64 x7]) ∧ Below W.heap.size W w') := fun W => toIntA8 x0 x1 x2 x3 x4 x5 x6 x7 W
  have CS : Hid (∀ W, Calls Tryd.prog 20 #[.agg #[.int .i64 x0, .int .i64 x1, .int .i64 x2, .int .i64 x3, .int .i64 x4, .int .i64 x5, .int .i64 x6, .int .i64 x7]] W fun e w' => e = .returned (.string ⟨(ip6L [x0, x1, x2, x3, x4, x5, x6, x7]).toArray⟩) ∧ Below W.heap.size W w') := fun W => specIp6Text x0 x1 x2 x3 x4 x5 x6 x7 W
  have CI : Hid (∀ W, Bruijn W → Calls Tryd.prog 14 #[.agg #[.int .i64 x0, .int .i64 x1, .int .i64 x2, .int .i64 x3, .int .i64 x4, .int .i64 x5, .int .i64 x6, .int .i64 x7]] W fun e w' => e = .returned (.string ⟨(ip6L [x0, x1, x2, x3, x4, x5, x6, x7]).toArray⟩) ∧ Below W.heap.size W w') := fun W h => implIp6Text x0 x1 x2 x3 x4 x5 x6 x7 W h
  generalize (⟨(ip6L [x0, x1, x2, x3, x4, x5, x6, x7]).toArray⟩ : ByteArray) = T at CS CI
  go_enter Tryd.func7, Tryd.ntmps7
  go_wp2_with fail
  refine (CT.out _).mono ?_
  rintro e w1 ⟨rfl, b1⟩
  go_wp2_with fail
  refine (CS.out _).mono ?_
  rintro e w2 ⟨rfl, b2⟩
  have B0 := b1.trans (b2.mono b1.size)
  have a0 : w2.cell? ⟨w.heap.size, 0, none⟩ = some (.int .i64 x0) := cell_later B0 (cell8 w x0 x1 x2 x3 x4 x5 x6 x7 0 (by decide))
  have a1 : w2.cell? ⟨w.heap.size, 1, none⟩ = some (.int .i64 x1) := cell_later B0 (cell8 w x0 x1 x2 x3 x4 x5 x6 x7 1 (by decide))
  have a2 : w2.cell? ⟨w.heap.size, 2, none⟩ = some (.int .i64 x2) := cell_later B0 (cell8 w x0 x1 x2 x3 x4 x5 x6 x7 2 (by decide))
  have a3 : w2.cell? ⟨w.heap.size, 3, none⟩ = some (.int .i64 x3) := cell_later B0 (cell8 w x0 x1 x2 x3 x4 x5 x6 x7 3 (by decide))
  have a4 : w2.cell? ⟨w.heap.size, 4, none⟩ = some (.int .i64 x4) := cell_later B0 (cell8 w x0 x1 x2 x3 x4 x5 x6 x7 4 (by decide))
  have a5 : w2.cell? ⟨w.heap.size, 5, none⟩ = some (.int .i64 x5) := cell_later B0 (cell8 w x0 x1 x2 x3 x4 x5 x6 x7 5 (by decide))
  have a6 : w2.cell? ⟨w.heap.size, 6, none⟩ = some (.int .i64 x6) := cell_later B0 (cell8 w x0 x1 x2 x3 x4 x5 x6 x7 6 (by decide))
  have a7 : w2.cell? ⟨w.heap.size, 7, none⟩ = some (.int .i64 x7) := cell_later B0 (cell8 w x0 x1 x2 x3 x4 x5 x6 x7 7 (by decide))
  have B2 : Below w.heap.size w w2 := ((Below.refl _ w).alloc (Nat.le_refl _) _).trans (B0.mono (by simp))
  clear b1 b2 B0
  go_wp2_with fail
  refine (CT.out _).mono ?_
  rintro e w3 ⟨rfl, b3⟩
  have B3 := B2.trans (b3.mono B2.size)
  clear b3 a0 a1 a2 a3 a4 a5 a6 a7
  go_wp2_with fail
  refine (CI.out _ (bruijn_below HB.out B3)).mono ?_
  rintro e w4 ⟨rfl, b4⟩
  have B4 := B3.trans (b4.mono B3.size)
  clear b4 B3 B2
  go_wp2_with fail
  go_ret
  exact ⟨rfl, B4⟩

set_option maxRecDepth 100000 in
theorem contract (H : Type) (enc : TypeId × Value → H) (W : World) (base : Nat) (args : Array Value) (ds gs : List (DataW H)) (before : List MemPlace)
    (hval : ∀ (j : Nat) t v, Tryd.f7.params[j]? = some t → args[j]? = some v → Value.okWide Tryd.prog W .any base t v)
    (hW : DataW.Whole enc Tryd.prog Tryd.f7.params.toList Rows.fnExactIp6TextSpec.vars false W args.toList ds gs before) (hL : laidMet Tryd.prog laidPow W) (hSh : W.ShapedOpen Tryd.prog) :
    Calls Tryd.prog 7 args W fun e W' => ∃ v, e = .returned v ∧ Rows.fnExactIp6TextSpec.post enc Tryd.prog Tryd.f7 false true false false W args v W' := by
  have hW' := hW
  obtain ⟨p, q, hA0, hV, rfl, hfz, hnd⟩ := hW
  have hA : DataW.TrodAll enc Tryd.prog W 0 (fun _ => true) true Tryd.f7.params.toList args.toList ds p := hA0
  rw [Tryd.params7] at hA hval
  obtain ⟨v0, vs0, d0, ds0, p0, q0, hargs, rfl, rfl, h0, r0⟩ := trodAll_cons hA
  obtain ⟨rfl, rfl, rfl⟩ := trodAll_nil r0
  obtain rfl : args = #[v0] := by cases args; simp_all
  obtain ⟨rfl, rfl⟩ := trodVars_none hV
  obtain ⟨cs, rfl, hsz, _⟩ : ∃ cs, v0 = .agg cs ∧ cs.size = Tryd.prog.cellsOf 24 ∧ Row.okWide Tryd.prog W .any base 24 cs := by
    have := hval 0 24 v0 rfl rfl
    simpa [Value.okWide, Tryd.underlying24] using this
  have k0 := h0
  have lt0 : ∀ x ∈ p0, x.block < W.heap.size := by obtain ⟨m, hm⟩ := k0; exact DataW.trod_lt m _ _ _ hm
  obtain ⟨z0, hz0, l0, w0⟩ : ∃ zs : List Int, cs = (zs.map (Value.int .i64)).toArray ∧ zs.length = 8 ∧ ∀ z ∈ zs, (Lit.int .i64 z).wf = true := by
    obtain ⟨fuel, hf⟩ := h0
    obtain ⟨zs, hc, hl, hw⟩ := ints_of_array Tryd.underlying24 Tryd.underlying3 (by kernel_rfl) (by kernel_rfl) hf
    refine ⟨zs, ?_, hl, hw⟩
    apply Array.ext'
    simpa [Value.cells] using hc
  subst hz0
  clear hA0
  refine (walk z0 l0 w0 W (pow_laid hL) (max_shaped hSh) (bru_laid hL)).mono fun e W' ⟨he, bel⟩ => ?_
  subst he
  exact ⟨_, rfl, _, _, _, [], _, [], hW', trodAll_mk1 (shut_bool Tryd.underlying4 _), (trodAll_cons_mk (Below.trod laidOutPow (by kernel_rfl) (of_decide_eq_true (by kernel_rfl)) k0 bel lt0) trodAll_mk0), rfl, bel.frame _, fun h => by cases h⟩

theorem witness_row (os : Os) {H : Type} (enc : TypeId × Value → H) :
    (OpenSpec.ofChange Rows.fnExactIp6TextSpec).preRow enc Tryd.prog Tryd.f7 Rows.fnExactIp6TextRow.domain false laidPow (({ World.holding Tryd.prog os ⟨#[], #[], []⟩ with heap := powHeap (World.holding Tryd.prog os ⟨#[], #[], []⟩).heap } : World).forCall (fun _ _ => 0) ⟨#[], #[.agg #[.int .i64 0, .int .i64 0, .int .i64 0, .int .i64 0, .int .i64 0, .int .i64 0, .int .i64 0, .int .i64 0]], []⟩).memory #[.agg #[.int .i64 0, .int .i64 0, .int .i64 0, .int .i64 0, .int .i64 0, .int .i64 0, .int .i64 0, .int .i64 0]] := by
  have hw : (DataW.whole enc Tryd.prog (({ World.holding Tryd.prog os ⟨#[], #[], []⟩ with heap := powHeap (World.holding Tryd.prog os ⟨#[], #[], []⟩).heap } : World).forCall (fun _ _ => 0) ⟨#[], #[.agg #[.int .i64 0, .int .i64 0, .int .i64 0, .int .i64 0, .int .i64 0, .int .i64 0, .int .i64 0, .int .i64 0]], []⟩).memory Tryd.f7.params.toList Rows.fnExactIp6TextSpec.vars false (#[.agg #[.int .i64 0, .int .i64 0, .int .i64 0, .int .i64 0, .int .i64 0, .int .i64 0, .int .i64 0, .int .i64 0]] : Array Value).toList 8).map (fun x => (x.1, x.2.1)) =
      some ([.agg [.lit (.int .i64 0), .lit (.int .i64 0), .lit (.int .i64 0), .lit (.int .i64 0), .lit (.int .i64 0), .lit (.int .i64 0), .lit (.int .i64 0), .lit (.int .i64 0)]], []) := by kernel_rfl
  obtain ⟨⟨x1, x2, x3⟩, hx, hx1⟩ := Option.map_eq_some_iff.1 hw
  simp only [Prod.mk.injEq] at hx1
  obtain ⟨rfl, rfl⟩ := hx1
  exact OpenSpec.preRow_of_cond 8 hx (by kernel_rfl) (fun k hk => by cases hk) (by kernel_rfl) (pow_met os _)

set_option maxRecDepth 100000 in
set_option maxHeartbeats 2000000 in
theorem lifted (os : Os) (started : os.Started) (H : Type) (enc : TypeId × Value → H) (F : Stop.Interp) :
    ReturnsInHanded {} Tryd.checked os 7 .any ((OpenSpec.ofChange Rows.fnExactIp6TextSpec).preRow enc Tryd.prog Tryd.f7 Rows.fnExactIp6TextRow.domain false laidPow) (((OpenSpec.ofChange Rows.fnExactIp6TextSpec).at F).post enc Tryd.prog Tryd.f7 false true false false) := by
  refine returnsInHanded_of_row (C := Tryd.checked) (s := OpenSpec.ofChange Rows.fnExactIp6TextSpec) ownPow started (by kernel_rfl) Tryd.func7
    (witness_row_atRef (enc := enc) (C := Tryd.checked) false ({ World.holding Tryd.prog os ⟨#[], #[], []⟩ with heap := powHeap (World.holding Tryd.prog os ⟨#[], #[], []⟩).heap }) #[.agg #[.int .i64 0, .int .i64 0, .int .i64 0, .int .i64 0, .int .i64 0, .int .i64 0, .int .i64 0, .int .i64 0]] rfl (by kernel_rfl) (by kernel_rfl) (by kernel_rfl) (witness_row os enc)) ?_
  intro W base args ds gs before hval hW _ _ _ hL hSh _
  exact contract H enc W base args ds gs before hval hW hL hSh

theorem said : Rows.FnExactIp6TextSaid :=
  OpenClaim.holds_of_cond 7 Tryd.f7 rfl rfl rfl rfl rfl rfl rfl ⟨rfl, rfl, rfl, rfl, rfl⟩ rfl rfl rfl rfl rfl (by kernel_rfl) Tryd.func7 (by kernel_rfl)
    (of_decide_eq_true (by kernel_rfl)) (by unfold Func.isWrapper; first | (rw [if_pos (by decide +kernel)]; kernel_rfl) | (rw [if_neg (by decide +kernel)]; exact ⟨rfl, rfl⟩))
    (fun os started H enc _ F => by rw [OpenClaim.pre_eq_preRow]; exact lifted os started H enc F)

theorem plain (f : FuncId) (fn : Func) (hf : Tryd.pinned.checked.prog.funcNamed "loop.example/g00191/laws.FnExactIp6Text" = some f) (hfn : Tryd.pinned.checked.prog.funcs[f]? = some fn) :
    false = Tryd.pinned.checked.prog.looks [] ∧ ∀ (j : Nat) t, fn.params[j]? = some t → Tryd.pinned.checked.prog.wantsStandIn t = false := by
  obtain rfl : f = 7 := Option.some.inj ((show Tryd.prog.funcNamed "loop.example/g00191/laws.FnExactIp6Text" = some 7 by kernel_rfl).symm.trans hf) |>.symm
  obtain rfl : fn = Tryd.f7 := (Option.some.inj (Tryd.func7.symm.trans hfn)).symm
  refine ⟨by kernel_rfl, fun j t ht => ?_⟩
  rw [Tryd.params7] at ht
  obtain rfl : t = 24 := by simpa using Array.mem_of_getElem? ht
  exact (show Tryd.prog.wantsStandIn 24 = false by kernel_rfl)

theorem card : Rows.FnExactIp6TextCardSaid :=
  Claim7.holds_tied_plain_at .later [] _ _ _ _ said (fun _ h => by cases h) (by kernel_rfl) (fun _ h => by cases h) fnExactIp6Text_row_tie rfl ⟨rfl, rfl⟩ (by kernel_rfl) rfl plain (by kernel_rfl)
end Go.Proofs.YtophgcneckjdjaaDoor.fnExactIp6Text

namespace Go.Proofs.YtophgcneckjdjaaDoor
theorem fnExactIp6Text_holds : Rows.FnExactIp6TextCardSaid := fnExactIp6Text.card
#print axioms fnExactIp6Text_holds
end Go.Proofs.YtophgcneckjdjaaDoor
