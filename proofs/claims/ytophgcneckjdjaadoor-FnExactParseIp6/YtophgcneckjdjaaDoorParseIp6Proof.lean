/- Proved: laws.FnExactParseIp6 answers true at every string and leaves it as it was, the tables of package math/bits and of internal/strconv being as their text lays them; no condition. -/
import Derived.Test.YtophgcneckjdjaaDoorRows
import Derived.Test.YtophgcneckjdjaaDoorCards
import Derived.Test.YtophgcneckjdjaaDoorTie
import Derived.Test.YtophgcneckjdjaaDoorLaidPow
import Derived.Test.YtophgcneckjdjaaDoorParse6Impl
import Derived.Test.YtophgcneckjdjaaDoorPar6Eight
import Derived.Test.YtophgcneckjdjaaDoorLaidBru
import Derived.OpenShut
import Derived.ShutString
namespace Go.Proofs.YtophgcneckjdjaaDoor.fnExactParseIp6
open Go.ChangeShapes Go.WideShapes Go.ChangeAt Go.RowKit
open Go.ChangeMaps (open_string shut_string)
set_option linter.unusedVariables false

theorem walk (a0 : ByteArray) (w0 : a0.size ≤ maxLen) (w : World) (hT : Pow w) (hM : MaxI w) (hD : Bruijn w) :
    Calls Tryd.prog 8 #[.string a0] w fun e w' => e = .returned (.bool true) ∧ Below w.heap.size w w' := by
  by_cases hbig : 1048576 < (a0.size : Int)
  · clear hT hM hD
    go_enter Tryd.func8, Tryd.ntmps8
    go_wp2
    go_ret
    exact ⟨rfl, Below.refl _ _⟩
  · have hs : a0.size ≤ 1048576 := by omega
    have CS : Hid (Calls Tryd.prog 22 #[.string a0] w fun e w' => e = .returned (parV (par6 a0.data.toList)) ∧ Below w.heap.size w w') := specParseIp6 a0 w hs
    have CI : Hid (∀ W, Pow W → Bruijn W → MaxI W → Calls Tryd.prog 15 #[.string a0] W fun e w' => e = .returned (parV (par6 a0.data.toList)) ∧ Below W.heap.size W w') := fun W a b c => implParseIp6 a0 W hs a b c
    have HT : Hid (Pow w) := hT
    have HD : Hid (Bruijn w) := hD
    have HM : Hid (MaxI w) := hM
    clear hT hD hM
    obtain ⟨x0, x1, x2, x3, x4, x5, x6, x7, b, hx⟩ := parV_eight (par6_eight a0.data.toList)
    rw [hx] at CS CI
    clear hx
    have CE : Hid (∀ W, Calls Tryd.prog 23 #[.agg #[.int .i64 x0, .int .i64 x1, .int .i64 x2, .int .i64 x3, .int .i64 x4, .int .i64 x5, .int .i64 x6, .int .i64 x7], .agg #[.int .i64 x0, .int .i64 x1, .int .i64 x2, .int .i64 x3, .int .i64 x4, .int .i64 x5, .int .i64 x6, .int .i64 x7]] W fun e w' => e = .returned (.bool true) ∧ Below W.heap.size W w') := fun W => eqIntA8 x0 x1 x2 x3 x4 x5 x6 x7 W
    go_enter Tryd.func8, Tryd.ntmps8
    go_wp2_with fail
    refine CS.out.mono ?_
    rintro e w1 ⟨rfl, b1⟩
    have B1 : Hid (Below w.heap.size w (w1.alloc (.cells #[.int .i64 x0, .int .i64 x1, .int .i64 x2, .int .i64 x3, .int .i64 x4, .int .i64 x5, .int .i64 x6, .int .i64 x7] 24))) := b1.alloc b1.size _
    clear b1
    go_wp2_with fail
    refine (CI.out _ (pow_below HT.out B1.out) (bruijn_below HD.out B1.out) (max_below HM.out B1.out)).mono ?_
    rintro e w2 ⟨rfl, b2⟩
    have a0 : (w2.alloc (.cells #[.int .i64 x0, .int .i64 x1, .int .i64 x2, .int .i64 x3, .int .i64 x4, .int .i64 x5, .int .i64 x6, .int .i64 x7] 24)).cell? ⟨w1.heap.size, 0, none⟩ = some (.int .i64 x0) := cell_later ((Below.refl _ _).alloc (Nat.le_refl _) _) (cell_later b2 (cell8 w1 x0 x1 x2 x3 x4 x5 x6 x7 0 (by decide)))
    have a1 : (w2.alloc (.cells #[.int .i64 x0, .int .i64 x1, .int .i64 x2, .int .i64 x3, .int .i64 x4, .int .i64 x5, .int .i64 x6, .int .i64 x7] 24)).cell? ⟨w1.heap.size, 1, none⟩ = some (.int .i64 x1) := cell_later ((Below.refl _ _).alloc (Nat.le_refl _) _) (cell_later b2 (cell8 w1 x0 x1 x2 x3 x4 x5 x6 x7 1 (by decide)))
    have a2 : (w2.alloc (.cells #[.int .i64 x0, .int .i64 x1, .int .i64 x2, .int .i64 x3, .int .i64 x4, .int .i64 x5, .int .i64 x6, .int .i64 x7] 24)).cell? ⟨w1.heap.size, 2, none⟩ = some (.int .i64 x2) := cell_later ((Below.refl _ _).alloc (Nat.le_refl _) _) (cell_later b2 (cell8 w1 x0 x1 x2 x3 x4 x5 x6 x7 2 (by decide)))
    have a3 : (w2.alloc (.cells #[.int .i64 x0, .int .i64 x1, .int .i64 x2, .int .i64 x3, .int .i64 x4, .int .i64 x5, .int .i64 x6, .int .i64 x7] 24)).cell? ⟨w1.heap.size, 3, none⟩ = some (.int .i64 x3) := cell_later ((Below.refl _ _).alloc (Nat.le_refl _) _) (cell_later b2 (cell8 w1 x0 x1 x2 x3 x4 x5 x6 x7 3 (by decide)))
    have a4 : (w2.alloc (.cells #[.int .i64 x0, .int .i64 x1, .int .i64 x2, .int .i64 x3, .int .i64 x4, .int .i64 x5, .int .i64 x6, .int .i64 x7] 24)).cell? ⟨w1.heap.size, 4, none⟩ = some (.int .i64 x4) := cell_later ((Below.refl _ _).alloc (Nat.le_refl _) _) (cell_later b2 (cell8 w1 x0 x1 x2 x3 x4 x5 x6 x7 4 (by decide)))
    have a5 : (w2.alloc (.cells #[.int .i64 x0, .int .i64 x1, .int .i64 x2, .int .i64 x3, .int .i64 x4, .int .i64 x5, .int .i64 x6, .int .i64 x7] 24)).cell? ⟨w1.heap.size, 5, none⟩ = some (.int .i64 x5) := cell_later ((Below.refl _ _).alloc (Nat.le_refl _) _) (cell_later b2 (cell8 w1 x0 x1 x2 x3 x4 x5 x6 x7 5 (by decide)))
    have a6 : (w2.alloc (.cells #[.int .i64 x0, .int .i64 x1, .int .i64 x2, .int .i64 x3, .int .i64 x4, .int .i64 x5, .int .i64 x6, .int .i64 x7] 24)).cell? ⟨w1.heap.size, 6, none⟩ = some (.int .i64 x6) := cell_later ((Below.refl _ _).alloc (Nat.le_refl _) _) (cell_later b2 (cell8 w1 x0 x1 x2 x3 x4 x5 x6 x7 6 (by decide)))
    have a7 : (w2.alloc (.cells #[.int .i64 x0, .int .i64 x1, .int .i64 x2, .int .i64 x3, .int .i64 x4, .int .i64 x5, .int .i64 x6, .int .i64 x7] 24)).cell? ⟨w1.heap.size, 7, none⟩ = some (.int .i64 x7) := cell_later ((Below.refl _ _).alloc (Nat.le_refl _) _) (cell_later b2 (cell8 w1 x0 x1 x2 x3 x4 x5 x6 x7 7 (by decide)))
    have B2 : Hid (Below w.heap.size w (w2.alloc (.cells #[.int .i64 x0, .int .i64 x1, .int .i64 x2, .int .i64 x3, .int .i64 x4, .int .i64 x5, .int .i64 x6, .int .i64 x7] 24))) := (B1.out.trans (b2.mono B1.out.size)).alloc (Nat.le_trans B1.out.size b2.size) _
    clear b2
    go_wp2_with fail
    refine (CE.out _).mono ?_
    rintro e w3 ⟨rfl, b3⟩
    have B3 : Below w.heap.size w w3 := B2.out.trans (b3.mono B2.out.size)
    clear b3 a0 a1 a2 a3 a4 a5 a6 a7
    go_wp2_with fail
    go_ret
    exact ⟨rfl, B3⟩

set_option maxRecDepth 100000 in
theorem contract (H : Type) (enc : TypeId × Value → H) (W : World) (base : Nat) (args : Array Value) (ds gs : List (DataW H)) (before : List MemPlace)
    (hval : ∀ (j : Nat) t v, Tryd.f8.params[j]? = some t → args[j]? = some v → Value.okWide Tryd.prog W .any base t v)
    (hW : DataW.Whole enc Tryd.prog Tryd.f8.params.toList Rows.fnExactParseIp6Spec.vars false W args.toList ds gs before) (hL : laidMet Tryd.prog laidPow W) (hSh : W.ShapedOpen Tryd.prog) :
    Calls Tryd.prog 8 args W fun e W' => ∃ v, e = .returned v ∧ Rows.fnExactParseIp6Spec.post enc Tryd.prog Tryd.f8 false true false false W args v W' := by
  have hW' := hW
  obtain ⟨p, q, hA0, hV, rfl, hfz, hnd⟩ := hW
  have hA : DataW.TrodAll enc Tryd.prog W 0 (fun _ => true) true Tryd.f8.params.toList args.toList ds p := hA0
  rw [Tryd.params8] at hA hval
  obtain ⟨v0, vs0, d0, ds0, p0, q0, hargs, rfl, rfl, h0, r0⟩ := trodAll_cons hA
  obtain ⟨rfl, rfl, rfl⟩ := trodAll_nil r0
  obtain rfl : args = #[v0] := by cases args; simp_all
  obtain ⟨rfl, rfl⟩ := trodVars_none hV
  obtain ⟨a0, rfl, rfl, rfl, w0⟩ := open_string Tryd.underlying9 (hval 0 9 v0 rfl rfl) h0
  clear hA0
  simp only [List.append_nil] at hW'
  refine (walk a0 w0 W (pow_laid hL) (max_shaped hSh) (bru_laid hL)).mono fun e W' ⟨he, bel⟩ => ?_
  subst he
  exact ⟨_, rfl, _, _, _, [], [], [], hW', trodAll_cons_mk (shut_bool Tryd.underlying4 _) trodAll_mk0, (trodAll_cons_mk (shut_string Tryd.underlying9 w0) trodAll_mk0), rfl, bel.frame _, fun h => by cases h⟩

theorem witness_row (os : Os) {H : Type} (enc : TypeId × Value → H) :
    (OpenSpec.ofChange Rows.fnExactParseIp6Spec).preRow enc Tryd.prog Tryd.f8 Rows.fnExactParseIp6Row.domain false laidPow (({ World.holding Tryd.prog os ⟨#[], #[], []⟩ with heap := powHeap (World.holding Tryd.prog os ⟨#[], #[], []⟩).heap } : World).forCall (fun _ _ => 0) ⟨#[], #[.string ⟨#[]⟩], []⟩).memory #[.string ⟨#[]⟩] := by
  have hw : (DataW.whole enc Tryd.prog (({ World.holding Tryd.prog os ⟨#[], #[], []⟩ with heap := powHeap (World.holding Tryd.prog os ⟨#[], #[], []⟩).heap } : World).forCall (fun _ _ => 0) ⟨#[], #[.string ⟨#[]⟩], []⟩).memory Tryd.f8.params.toList Rows.fnExactParseIp6Spec.vars false (#[.string ⟨#[]⟩] : Array Value).toList 8).map (fun x => (x.1, x.2.1)) =
      some ([.lit (.string [])], []) := by kernel_rfl
  obtain ⟨⟨x1, x2, x3⟩, hx, hx1⟩ := Option.map_eq_some_iff.1 hw
  simp only [Prod.mk.injEq] at hx1
  obtain ⟨rfl, rfl⟩ := hx1
  exact OpenSpec.preRow_of_cond 8 hx (by kernel_rfl) (fun k hk => by cases hk) (by kernel_rfl) (pow_met os _)

set_option maxRecDepth 100000 in
set_option maxHeartbeats 2000000 in
theorem lifted (os : Os) (started : os.Started) (H : Type) (enc : TypeId × Value → H) (F : Stop.Interp) :
    ReturnsInHanded {} Tryd.checked os 8 .any ((OpenSpec.ofChange Rows.fnExactParseIp6Spec).preRow enc Tryd.prog Tryd.f8 Rows.fnExactParseIp6Row.domain false laidPow) (((OpenSpec.ofChange Rows.fnExactParseIp6Spec).at F).post enc Tryd.prog Tryd.f8 false true false false) := by
  refine returnsInHanded_of_row (C := Tryd.checked) (s := OpenSpec.ofChange Rows.fnExactParseIp6Spec) ownPow started (by kernel_rfl) Tryd.func8
    (witness_row_atRef (enc := enc) (C := Tryd.checked) false ({ World.holding Tryd.prog os ⟨#[], #[], []⟩ with heap := powHeap (World.holding Tryd.prog os ⟨#[], #[], []⟩).heap }) #[.string ⟨#[]⟩] rfl (by kernel_rfl) (by kernel_rfl) (by kernel_rfl) (witness_row os enc)) ?_
  intro W base args ds gs before hval hW _ _ _ hL hSh _
  exact contract H enc W base args ds gs before hval hW hL hSh

theorem said : Rows.FnExactParseIp6Said :=
  OpenClaim.holds_of_cond 8 Tryd.f8 rfl rfl rfl rfl rfl rfl rfl ⟨rfl, rfl, rfl, rfl, rfl⟩ rfl rfl rfl rfl rfl (by kernel_rfl) Tryd.func8 (by kernel_rfl)
    (of_decide_eq_true (by kernel_rfl)) (by unfold Func.isWrapper; first | (rw [if_pos (by decide +kernel)]; kernel_rfl) | (rw [if_neg (by decide +kernel)]; exact ⟨rfl, rfl⟩))
    (fun os started H enc _ F => by rw [OpenClaim.pre_eq_preRow]; exact lifted os started H enc F)

theorem plain (f : FuncId) (fn : Func) (hf : Tryd.pinned.checked.prog.funcNamed "loop.example/g00191/laws.FnExactParseIp6" = some f) (hfn : Tryd.pinned.checked.prog.funcs[f]? = some fn) :
    false = Tryd.pinned.checked.prog.looks [] ∧ ∀ (j : Nat) t, fn.params[j]? = some t → Tryd.pinned.checked.prog.wantsStandIn t = false := by
  obtain rfl : f = 8 := Option.some.inj ((show Tryd.prog.funcNamed "loop.example/g00191/laws.FnExactParseIp6" = some 8 by kernel_rfl).symm.trans hf) |>.symm
  obtain rfl : fn = Tryd.f8 := (Option.some.inj (Tryd.func8.symm.trans hfn)).symm
  refine ⟨by kernel_rfl, fun j t ht => ?_⟩
  rw [Tryd.params8] at ht
  obtain rfl : t = 9 := by simpa using Array.mem_of_getElem? ht
  exact (show Tryd.prog.wantsStandIn 9 = false by kernel_rfl)

theorem card : Rows.FnExactParseIp6CardSaid :=
  Claim7.holds_tied_plain_at .later [] _ _ _ _ said (fun _ h => by cases h) (by kernel_rfl) (fun _ h => by cases h) fnExactParseIp6_row_tie rfl ⟨rfl, rfl⟩ (by kernel_rfl) rfl plain (by kernel_rfl)
end Go.Proofs.YtophgcneckjdjaaDoor.fnExactParseIp6

namespace Go.Proofs.YtophgcneckjdjaaDoor
theorem fnExactParseIp6_holds : Rows.FnExactParseIp6CardSaid := fnExactParseIp6.card
#print axioms fnExactParseIp6_holds
end Go.Proofs.YtophgcneckjdjaaDoor
