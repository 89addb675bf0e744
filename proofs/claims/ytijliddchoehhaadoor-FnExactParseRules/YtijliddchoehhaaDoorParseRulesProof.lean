/- Proved: laws.FnExactParseRules answers true at every string and leaves it as it was, package utf8's two tables being as their text lays them; no condition. -/
import Derived.Test.YtijliddchoehhaaDoorRows
import Derived.Test.YtijliddchoehhaaDoorCards
import Derived.Test.YtijliddchoehhaaDoorTie
import Derived.Test.YtijliddchoehhaaDoorLaidBase
import Derived.Test.YtijliddchoehhaaDoorRuleParse
import Derived.Test.YtijliddchoehhaaDoorRuleOwn
import Derived.Test.YtijliddchoehhaaDoorRuleEq
import Derived.Test.YtijliddchoehhaaDoorParseImpl
import Derived.OpenShut
import Derived.ShutString
namespace Go.Proofs.YtijliddchoehhaaDoor.fnExactParseRules
open Go.ChangeShapes Go.WideShapes Go.ChangeAt Go.RowKit
open Go.ChangeMaps (open_string shut_string)
set_option linter.unusedVariables false

theorem walk (a0 : ByteArray) (w0 : a0.size ≤ maxLen) (w : World) (hT : Lib.Utf8Tabs 1 2 w) :
    Calls Tryd.prog 4 #[.string a0] w fun e w' => e = .returned (.bool true) ∧ Below w.heap.size w w' := by
  by_cases hbig : 1048576 < (a0.size : Int)
  · go_enter Tryd.func4, Tryd.ntmps4
    go_wp2
    go_ret
    exact ⟨rfl, Below.refl _ _⟩
  · have hs : a0.size ≤ 1048576 := by omega
    have HTA : Hid (∀ W, Below w.heap.size w W → Lib.Utf8Tabs 1 2 W) := fun W hb => tabs_below hT hb
    have CS : Hid (∀ W, Calls Tryd.prog 13 #[.string a0] W fun e w' => ∃ v, e = .returned (.tuple #[v, .int .i64 (parseR a0).2]) ∧ RuleRow w' v (parseR a0).1 ∧ Below W.heap.size W w') := fun W => specParseRules a0 W hs
    have CI : Hid (∀ W, Below w.heap.size w W → Calls Tryd.prog 10 #[.string a0] W fun e w' => ∃ v, e = .returned (.tuple #[v, .int .i64 (parseR a0).2]) ∧ RuleOwn w' W.heap.size v (parseR a0).1 ∧ Below W.heap.size W w') := fun W hW => implParseRules a0 W hs (HTA.out W hW)
    have hrb : rulesB (parseR a0).1 = true := parse_ok a0
    have hl : (parseR a0).1.length ≤ 60 := rules_60 hrb
    have HZ : Hid (∀ r ∈ (parseR a0).1, r.ps.length ≤ 2097152) := fun r hr => (rules_sz hrb r hr).1
    have HK : Hid (∀ i, i ≤ (parseR a0).1.length → kAt 1 (parseR a0).1 i ≤ 1000000000) := fun i hi => by
      have := kAt_le 1 (parseR a0).1 8 (fun r hr => (ruleB_yes (rules_each hrb r hr)).1.2) i hi
      omega
    clear hrb hT HTA
    generalize (parseR a0).1 = l at CS CI hl HZ HK
    generalize (parseR a0).2 = z at CS CI
    go_enter Tryd.func4, Tryd.ntmps4
    go_wp2_with fail
    refine (CS.out _).mono ?_
    rintro e w1 ⟨v0, rfl, r1, b1⟩
    have R1 : Hid (RuleRow w1 v0 l) := r1
    clear r1 CS
    go_wp2_with fail
    refine (CI.out _ b1).mono ?_
    rintro e w2 ⟨g0, rfl, o2, b2⟩
    have B2 := b1.trans (b2.mono b1.size)
    have O2 := hid_own o2
    have R2 : Hid (RuleRow w2 v0 l) := R1.out.below b2
    have HB2 : Hid (Below w1.heap.size w1 w2) := b2
    have h12 := b2.size
    clear o2 b2
    go_wp2_with fail
    refine (eqRules l _ _ _ (by omega) HZ.out O2.out.row R2.out).mono ?_
    rintro e w3 ⟨rfl, b3⟩
    have B3 := B2.trans (b3.mono B2.size)
    have O3 := hid_own (O2.out.below b3)
    have HB3 : Hid (Below w1.heap.size w1 w3) := HB2.out.trans (b3.mono HB2.out.size)
    clear b3 B2 O2 R2 HB2
    go_wp2_with fail
    refine (markRules l _ 1 _ _ (by decide) (by omega) HK.out O3.out).mono ?_
    rintro e w4 ⟨rfl, o4, b4⟩
    have B4 := B3.trans (b4.mono b1.size)
    have O4 := hid_own o4
    have HB4 : Hid (Below w1.heap.size w1 w4) := HB3.out.trans b4
    clear o4 b4 B3 O3 HB3
    go_wp2_with fail
    refine (heldRules l _ 1 _ _ (by decide) (by omega) HK.out O4.out).mono ?_
    rintro e w5 ⟨rfl, b5⟩
    have B5 := B4.trans (b5.mono B4.size)
    have O5 := hid_own (O4.out.below b5)
    have HB5 : Hid (Below w1.heap.size w1 w5) := HB4.out.trans (b5.mono HB4.out.size)
    have hk1 := HK.out _ (Nat.le_refl _)
    have hk0 := kAt_ge 1 l l.length
    clear b5 B4 O4 HB4
    generalize hkk : kAt 1 l l.length = K at *
    have HKK : Hid (kAt 1 l l.length = K) := hkk
    clear hkk
    have hKi : ¬ (K : Int) < 0 := by omega
    go_wp2_with fail
    refine (CI.out _ B5).mono ?_
    rintro e w6 ⟨h0, rfl, o6, b6⟩
    have B6 := B5.trans (b6.mono B5.size)
    have O6 := hid_own (O5.out.below b6)
    have N6 := hid_own o6
    have R6 : Hid (RuleRow w6 v0 l) := R1.out.below (HB5.out.trans (b6.mono HB5.out.size))
    clear o6 b6 B5 O5 HB5 R1
    go_wp2_with fail
    refine (eqRules l _ _ _ (by omega) HZ.out N6.out.row R6.out).mono ?_
    rintro e w7 ⟨rfl, b7⟩
    have B7 := B6.trans (b7.mono B6.size)
    have O7 := hid_own (O6.out.below b7)
    clear b7 B6 O6 N6 R6
    go_wp2_with fail
    refine (heldRules l _ 1 _ _ (by decide) (by omega) HK.out O7.out).mono ?_
    rintro e w8 ⟨rfl, b8⟩
    have B8 := B7.trans (b8.mono B7.size)
    rw [HKK.out]
    clear b8 B7 O7
    go_wp2_with fail
    go_ret
    exact ⟨rfl, B8⟩

set_option maxRecDepth 100000 in
theorem contract (H : Type) (enc : TypeId × Value → H) (W : World) (base : Nat) (args : Array Value) (ds gs : List (DataW H)) (before : List MemPlace)
    (hval : ∀ (j : Nat) t v, Tryd.f4.params[j]? = some t → args[j]? = some v → Value.okWide Tryd.prog W .any base t v)
    (hW : DataW.Whole enc Tryd.prog Tryd.f4.params.toList Rows.fnExactParseRulesSpec.vars false W args.toList ds gs before) (hL : laidMet Tryd.prog laidTwo W) :
    Calls Tryd.prog 4 args W fun e W' => ∃ v, e = .returned v ∧ Rows.fnExactParseRulesSpec.post enc Tryd.prog Tryd.f4 false true false false W args v W' := by
  have hW' := hW
  obtain ⟨p, q, hA0, hV, rfl, hfz, hnd⟩ := hW
  have hA : DataW.TrodAll enc Tryd.prog W 0 (fun _ => true) true Tryd.f4.params.toList args.toList ds p := hA0
  rw [Tryd.params4] at hA hval
  obtain ⟨v0, vs0, d0, ds0, p0, q0, hargs, rfl, rfl, h0, r0⟩ := trodAll_cons hA
  obtain ⟨rfl, rfl, rfl⟩ := trodAll_nil r0
  obtain rfl : args = #[v0] := by cases args; simp_all
  obtain ⟨rfl, rfl⟩ := trodVars_none hV
  obtain ⟨a0, rfl, rfl, rfl, w0⟩ := open_string Tryd.underlying9 (hval 0 9 v0 rfl rfl) h0
  clear hA0
  simp only [List.append_nil] at hW'
  refine (walk a0 w0 W (tabs hL)).mono fun e W' ⟨he, bel⟩ => ?_
  subst he
  exact ⟨_, rfl, _, _, _, [], [], [], hW', trodAll_cons_mk (shut_bool Tryd.underlying4 _) trodAll_mk0, (trodAll_cons_mk (shut_string Tryd.underlying9 w0) trodAll_mk0), rfl, bel.frame _, fun h => by cases h⟩

theorem witness_row (os : Os) {H : Type} (enc : TypeId × Value → H) :
    (OpenSpec.ofChange Rows.fnExactParseRulesSpec).preRow enc Tryd.prog Tryd.f4 Rows.fnExactParseRulesRow.domain false laidTwo (({ World.holding Tryd.prog os ⟨#[], #[], []⟩ with heap := laidHeap (World.holding Tryd.prog os ⟨#[], #[], []⟩).heap } : World).forCall (fun _ _ => 0) ⟨#[], #[.string ⟨#[]⟩], []⟩).memory #[.string ⟨#[]⟩] := by
  have hw : (DataW.whole enc Tryd.prog (({ World.holding Tryd.prog os ⟨#[], #[], []⟩ with heap := laidHeap (World.holding Tryd.prog os ⟨#[], #[], []⟩).heap } : World).forCall (fun _ _ => 0) ⟨#[], #[.string ⟨#[]⟩], []⟩).memory Tryd.f4.params.toList Rows.fnExactParseRulesSpec.vars false (#[.string ⟨#[]⟩] : Array Value).toList 8).map (fun x => (x.1, x.2.1)) =
      some ([.lit (.string [])], []) := by kernel_rfl
  obtain ⟨⟨x1, x2, x3⟩, hx, hx1⟩ := Option.map_eq_some_iff.1 hw
  simp only [Prod.mk.injEq] at hx1
  obtain ⟨rfl, rfl⟩ := hx1
  exact OpenSpec.preRow_of_cond 8 hx (by kernel_rfl) (fun k hk => by cases hk) (by kernel_rfl) (laid_met os _)

set_option maxRecDepth 100000 in
set_option maxHeartbeats 2000000 in
theorem lifted (os : Os) (started : os.Started) (H : Type) (enc : TypeId × Value → H) (F : Stop.Interp) :
    ReturnsInHanded {} Tryd.checked os 4 .any ((OpenSpec.ofChange Rows.fnExactParseRulesSpec).preRow enc Tryd.prog Tryd.f4 Rows.fnExactParseRulesRow.domain false laidTwo) (((OpenSpec.ofChange Rows.fnExactParseRulesSpec).at F).post enc Tryd.prog Tryd.f4 false true false false) := by
  refine returnsInHanded_of_row (C := Tryd.checked) (s := OpenSpec.ofChange Rows.fnExactParseRulesSpec) own started (by kernel_rfl) Tryd.func4
    (witness_row_atRef (enc := enc) (C := Tryd.checked) false ({ World.holding Tryd.prog os ⟨#[], #[], []⟩ with heap := laidHeap (World.holding Tryd.prog os ⟨#[], #[], []⟩).heap }) #[.string ⟨#[]⟩] rfl (by kernel_rfl) (by kernel_rfl) (by kernel_rfl) (witness_row os enc)) ?_
  intro W base args ds gs before hval hW _ _ _ hL _ _
  exact contract H enc W base args ds gs before hval hW hL

theorem said : Rows.FnExactParseRulesSaid :=
  OpenClaim.holds_of_cond 4 Tryd.f4 rfl rfl rfl rfl rfl rfl rfl ⟨rfl, rfl, rfl, rfl, rfl⟩ rfl rfl rfl rfl rfl (by kernel_rfl) Tryd.func4 (by kernel_rfl)
    (of_decide_eq_true (by kernel_rfl)) (by unfold Func.isWrapper; first | (rw [if_pos (by decide +kernel)]; kernel_rfl) | (rw [if_neg (by decide +kernel)]; exact ⟨rfl, rfl⟩))
    (fun os started H enc _ F => by rw [OpenClaim.pre_eq_preRow]; exact lifted os started H enc F)

theorem plain (f : FuncId) (fn : Func) (hf : Tryd.pinned.checked.prog.funcNamed "loop.example/g00191/laws.FnExactParseRules" = some f) (hfn : Tryd.pinned.checked.prog.funcs[f]? = some fn) :
    false = Tryd.pinned.checked.prog.looks [] ∧ ∀ (j : Nat) t, fn.params[j]? = some t → Tryd.pinned.checked.prog.wantsStandIn t = false := by
  obtain rfl : f = 4 := Option.some.inj ((show Tryd.prog.funcNamed "loop.example/g00191/laws.FnExactParseRules" = some 4 by kernel_rfl).symm.trans hf) |>.symm
  obtain rfl : fn = Tryd.f4 := (Option.some.inj (Tryd.func4.symm.trans hfn)).symm
  refine ⟨by kernel_rfl, fun j t ht => ?_⟩
  rw [Tryd.params4] at ht
  obtain rfl : t = 9 := by simpa using Array.mem_of_getElem? ht
  exact (show Tryd.prog.wantsStandIn 9 = false by kernel_rfl)

theorem card : Rows.FnExactParseRulesCardSaid :=
  Claim7.holds_tied_plain_at .later [] _ _ _ _ said (fun _ h => by cases h) (by kernel_rfl) (fun _ h => by cases h) fnExactParseRules_row_tie rfl ⟨rfl, rfl⟩ (by kernel_rfl) rfl plain (by kernel_rfl)
end Go.Proofs.YtijliddchoehhaaDoor.fnExactParseRules

namespace Go.Proofs.YtijliddchoehhaaDoor
theorem fnExactParseRules_holds : Rows.FnExactParseRulesCardSaid := fnExactParseRules.card
#print axioms fnExactParseRules_holds
end Go.Proofs.YtijliddchoehhaaDoor
