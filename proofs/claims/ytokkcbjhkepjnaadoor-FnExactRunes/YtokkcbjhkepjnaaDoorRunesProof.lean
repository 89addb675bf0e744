/- Proved: laws.FnExactRunes answers true at every string and leaves it as it was, package utf8's two tables being as their text lays them; no condition. -/
import Derived.Test.YtokkcbjhkepjnaaDoorRows
import Derived.Test.YtokkcbjhkepjnaaDoorCards
import Derived.Test.YtokkcbjhkepjnaaDoorTie
import Derived.Test.YtokkcbjhkepjnaaDoorLaidBase
import Derived.Test.YtokkcbjhkepjnaaDoorRunesWalk
import Derived.OpenShut
import Derived.ShutString
namespace Go.Proofs.YtokkcbjhkepjnaaDoor.fnExactRunes
open Go.ChangeShapes Go.WideShapes Go.ChangeAt Go.RowKit
open Go.ChangeMaps (open_string shut_string)
set_option linter.unusedVariables false

theorem walk (a0 : ByteArray) (w0 : a0.size ≤ maxLen) (w : World) (hT : Lib.Utf8Tabs 1 2 w) :
    Calls Tryd.prog 8 #[.string a0] w fun e w' => e = .returned (.bool true) ∧ Below w.heap.size w w' := by
  by_cases hbig : 1048576 < (a0.size : Int)
  · go_enter Tryd.func8, Tryd.ntmps8
    go_wp2
    go_ret
    exact ⟨rfl, Below.refl _ _⟩
  · have hs : a0.size ≤ 1048576 := by omega
    have hn : (finR a0).2.length ≤ 1048576 := by
      have h1 := stR_len' a0 a0.size
      have h2 := stR_le a0 a0.size
      unfold finR
      omega
    go_enter Tryd.func8, Tryd.ntmps8
    go_wp2_with fail
    refine (specRunes _ _ hs).mono ?_
    rintro e wa ha
    by_cases hfin : (finR a0).1 = a0.size
    · replace ha : ∃ v, e = .returned (.tuple #[v, .bool true]) ∧ wa.ownsRow w.heap.size 3 1 v (finR a0).2.length (icells (finR a0).2) ∧ Below w.heap.size w wa := by
        rcases ha with ⟨hx, r⟩ | ⟨hx, r⟩
        · exact r
        · exact absurd hfin hx
      obtain ⟨va, rfl, oa, ba⟩ := ha
      have za := ba.size
      go_wp2_with fail
      refine (implRunes _ _ hs (tabs_below hT ba)).mono ?_
      rintro e wb hb
      replace hb : ∃ v, e = .returned (.tuple #[v, .bool true]) ∧ wb.ownsRow wa.heap.size 3 1 v (finR a0).2.length (icells (finR a0).2) ∧ Below wa.heap.size wa wb := by
        rcases hb with ⟨hx, r⟩ | ⟨hx, r⟩
        · exact r
        · exact absurd hfin hx
      obtain ⟨vb, rfl, ob, bb⟩ := hb
      have zb := bb.size
      have Bb : Below w.heap.size w wb := ba.trans (bb.mono za)
      have oa2 := own_below oa bb
      go_wp2_with fail
      refine (eqIntS (finR a0).2 _ _ _ _ _ _ (by omega) ob oa2).mono ?_
      rintro e wc ⟨rfl, bc⟩
      have zc := bc.size
      have Bc : Below w.heap.size w wc := Bb.trans (bc.mono (by omega))
      have oa3 := own_below oa2 bc
      have ob3 := own_below ob bc
      go_wp2_with fail
      refine (markIntS 1 _ _ _ _ _ (by omega) ob3).mono ?_
      rintro e wd ⟨rfl, ob4, gd⟩
      have zd := gd.size
      have Bd : Below w.heap.size w wd := Bc.grown gd (by omega) (fun k hk => by have := (ob.lt k hk).1; omega)
      have oa4 : wd.ownsRow _ _ _ va _ _ := oa3.kept gd (by
        cases hx : va.ownBlock with
        | none => exact .inl rfl
        | some x =>
          refine .inr fun hy => ?_
          have h1 := (oa.lt x hx).2
          have h2 := (ob.lt x hy.symm).1
          omega)
      go_wp2_with fail
      refine (heldIntS 1 _ _ _ _ (by omega) ob4).mono ?_
      rintro e we ⟨rfl, be⟩
      have ze := be.size
      have Be : Below w.heap.size w we := Bd.trans (be.mono (by omega))
      have oa5 := own_below oa4 be
      have ob5 := own_below ob4 be
      go_wp2_with fail
      refine (implRunes _ _ hs (tabs_below hT Be)).mono ?_
      rintro e wf hf
      replace hf : ∃ v, e = .returned (.tuple #[v, .bool true]) ∧ wf.ownsRow we.heap.size 3 1 v (finR a0).2.length (icells (finR a0).2) ∧ Below we.heap.size we wf := by
        rcases hf with ⟨hx, r⟩ | ⟨hx, r⟩
        · exact r
        · exact absurd hfin hx
      obtain ⟨vc, rfl, oc, bf⟩ := hf
      have zf := bf.size
      have Bf : Below w.heap.size w wf := Be.trans (bf.mono (by omega))
      have oa6 := own_below oa5 bf
      have ob6 := own_below ob5 bf
      go_wp2_with fail
      refine (eqIntS (finR a0).2 _ _ _ _ _ _ (by omega) oc oa6).mono ?_
      rintro e wg ⟨rfl, bg⟩
      have zg := bg.size
      have Bg : Below w.heap.size w wg := Bf.trans (bg.mono (by omega))
      have ob7 := own_below ob6 bg
      go_wp2_with fail
      refine (heldIntS 1 _ _ _ _ (by omega) ob7).mono ?_
      rintro e wh ⟨rfl, bh⟩
      have Bh : Below w.heap.size w wh := Bg.trans (bh.mono (by omega))
      clear oa oa2 oa3 oa4 oa5 oa6 ob ob3 ob4 ob5 ob6 ob7 oc ba bb bc gd be bf bg bh Bb Bc Bd Be Bf Bg hT
      go_wp2
      go_ret
      exact ⟨rfl, Bh⟩
    · replace ha : ∃ v, e = .returned (.tuple #[v, .bool false]) ∧ wa.ownsRow w.heap.size 3 1 v 0 (icells []) ∧ Below w.heap.size w wa := by
        rcases ha with ⟨hx, r⟩ | ⟨hx, r⟩
        · exact absurd hx hfin
        · exact r
      obtain ⟨va, rfl, oa, ba⟩ := ha
      have za := ba.size
      go_wp2_with fail
      refine (implRunes _ _ hs (tabs_below hT ba)).mono ?_
      rintro e wb hb
      replace hb : ∃ v, e = .returned (.tuple #[v, .bool false]) ∧ wb.ownsRow wa.heap.size 3 1 v 0 (icells []) ∧ Below wa.heap.size wa wb := by
        rcases hb with ⟨hx, r⟩ | ⟨hx, r⟩
        · exact absurd hx hfin
        · exact r
      obtain ⟨vb, rfl, ob, bb⟩ := hb
      have zb := bb.size
      have Bb : Below w.heap.size w wb := ba.trans (bb.mono za)
      have oa2 := own_below oa bb
      go_wp2_with fail
      refine (eqIntS [] _ _ _ _ _ _ (by omega) ob oa2).mono ?_
      rintro e wc ⟨rfl, bc⟩
      have zc := bc.size
      have Bc : Below w.heap.size w wc := Bb.trans (bc.mono (by omega))
      have oa3 := own_below oa2 bc
      have ob3 := own_below ob bc
      go_wp2_with fail
      refine (markIntS 1 _ _ _ _ _ (by omega) ob3).mono ?_
      rintro e wd ⟨rfl, ob4, gd⟩
      have zd := gd.size
      have Bd : Below w.heap.size w wd := Bc.grown gd (by omega) (fun k hk => by have := (ob.lt k hk).1; omega)
      have oa4 : wd.ownsRow _ _ _ va _ _ := oa3.kept gd (by
        cases hx : va.ownBlock with
        | none => exact .inl rfl
        | some x =>
          refine .inr fun hy => ?_
          have h1 := (oa.lt x hx).2
          have h2 := (ob.lt x hy.symm).1
          omega)
      go_wp2_with fail
      refine (heldIntS 1 _ _ _ _ (by omega) ob4).mono ?_
      rintro e we ⟨rfl, be⟩
      have ze := be.size
      have Be : Below w.heap.size w we := Bd.trans (be.mono (by omega))
      have oa5 := own_below oa4 be
      have ob5 := own_below ob4 be
      go_wp2_with fail
      refine (implRunes _ _ hs (tabs_below hT Be)).mono ?_
      rintro e wf hf
      replace hf : ∃ v, e = .returned (.tuple #[v, .bool false]) ∧ wf.ownsRow we.heap.size 3 1 v 0 (icells []) ∧ Below we.heap.size we wf := by
        rcases hf with ⟨hx, r⟩ | ⟨hx, r⟩
        · exact absurd hx hfin
        · exact r
      obtain ⟨vc, rfl, oc, bf⟩ := hf
      have zf := bf.size
      have Bf : Below w.heap.size w wf := Be.trans (bf.mono (by omega))
      have oa6 := own_below oa5 bf
      have ob6 := own_below ob5 bf
      go_wp2_with fail
      refine (eqIntS [] _ _ _ _ _ _ (by omega) oc oa6).mono ?_
      rintro e wg ⟨rfl, bg⟩
      have zg := bg.size
      have Bg : Below w.heap.size w wg := Bf.trans (bg.mono (by omega))
      have ob7 := own_below ob6 bg
      go_wp2_with fail
      refine (heldIntS 1 _ _ _ _ (by omega) ob7).mono ?_
      rintro e wh ⟨rfl, bh⟩
      have Bh : Below w.heap.size w wh := Bg.trans (bh.mono (by omega))
      clear oa oa2 oa3 oa4 oa5 oa6 ob ob3 ob4 ob5 ob6 ob7 oc ba bb bc gd be bf bg bh Bb Bc Bd Be Bf Bg hT
      go_wp2
      go_ret
      exact ⟨rfl, Bh⟩

set_option maxRecDepth 100000 in
theorem contract (H : Type) (enc : TypeId × Value → H) (W : World) (base : Nat) (args : Array Value) (ds gs : List (DataW H)) (before : List MemPlace)
    (hval : ∀ (j : Nat) t v, Tryd.f8.params[j]? = some t → args[j]? = some v → Value.okWide Tryd.prog W .any base t v)
    (hW : DataW.Whole enc Tryd.prog Tryd.f8.params.toList Rows.fnExactRunesSpec.vars false W args.toList ds gs before) (hL : laidMet Tryd.prog laidTwo W) :
    Calls Tryd.prog 8 args W fun e W' => ∃ v, e = .returned v ∧ Rows.fnExactRunesSpec.post enc Tryd.prog Tryd.f8 false true false false W args v W' := by
  have hW' := hW
  obtain ⟨p, q, hA0, hV, rfl, hfz, hnd⟩ := hW
  have hA : DataW.TrodAll enc Tryd.prog W 0 (fun _ => true) true Tryd.f8.params.toList args.toList ds p := hA0
  rw [Tryd.params8] at hA hval
  obtain ⟨v0, vs0, d0, ds0, p0, q0, hargs, rfl, rfl, h0, r0⟩ := trodAll_cons hA
  obtain ⟨rfl, rfl, rfl⟩ := trodAll_nil r0
  obtain rfl : args = #[v0] := by cases args; simp_all
  obtain ⟨rfl, rfl⟩ := trodVars_none hV
  obtain ⟨a0, rfl, rfl, rfl, w0⟩ := open_string Tryd.underlying9 (hval 0 9 v0 rfl rfl) h0
  clear hA0
  simp only [List.append_nil] at hW'
  refine (walk a0 w0 W (tabs hL)).mono fun e W' ⟨he, bel⟩ => ?_
  subst he
  exact ⟨_, rfl, _, _, _, [], [], [], hW', trodAll_cons_mk (shut_bool Tryd.underlying4 _) trodAll_mk0, (trodAll_cons_mk (shut_string Tryd.underlying9 w0) trodAll_mk0), rfl, bel.frame _, fun h => by cases h⟩

theorem witness_row (os : Os) {H : Type} (enc : TypeId × Value → H) :
    (OpenSpec.ofChange Rows.fnExactRunesSpec).preRow enc Tryd.prog Tryd.f8 Rows.fnExactRunesRow.domain false laidTwo (({ World.holding Tryd.prog os ⟨#[], #[], []⟩ with heap := laidHeap (World.holding Tryd.prog os ⟨#[], #[], []⟩).heap } : World).forCall (fun _ _ => 0) ⟨#[], #[.string ⟨#[]⟩], []⟩).memory #[.string ⟨#[]⟩] := by
  have hw : (DataW.whole enc Tryd.prog (({ World.holding Tryd.prog os ⟨#[], #[], []⟩ with heap := laidHeap (World.holding Tryd.prog os ⟨#[], #[], []⟩).heap } : World).forCall (fun _ _ => 0) ⟨#[], #[.string ⟨#[]⟩], []⟩).memory Tryd.f8.params.toList Rows.fnExactRunesSpec.vars false (#[.string ⟨#[]⟩] : Array Value).toList 8).map (fun x => (x.1, x.2.1)) =
      some ([.lit (.string [])], []) := by kernel_rfl
  obtain ⟨⟨x1, x2, x3⟩, hx, hx1⟩ := Option.map_eq_some_iff.1 hw
  simp only [Prod.mk.injEq] at hx1
  obtain ⟨rfl, rfl⟩ := hx1
  exact OpenSpec.preRow_of_cond 8 hx (by kernel_rfl) (fun k hk => by cases hk) (by kernel_rfl) (laid_met os _)

set_option maxRecDepth 100000 in
set_option maxHeartbeats 2000000 in
theorem lifted (os : Os) (started : os.Started) (H : Type) (enc : TypeId × Value → H) (F : Stop.Interp) :
    ReturnsInHanded {} Tryd.checked os 8 .any ((OpenSpec.ofChange Rows.fnExactRunesSpec).preRow enc Tryd.prog Tryd.f8 Rows.fnExactRunesRow.domain false laidTwo) (((OpenSpec.ofChange Rows.fnExactRunesSpec).at F).post enc Tryd.prog Tryd.f8 false true false false) := by
  refine returnsInHanded_of_row (C := Tryd.checked) (s := OpenSpec.ofChange Rows.fnExactRunesSpec) own started (by kernel_rfl) Tryd.func8
    (witness_row_atRef (enc := enc) (C := Tryd.checked) false ({ World.holding Tryd.prog os ⟨#[], #[], []⟩ with heap := laidHeap (World.holding Tryd.prog os ⟨#[], #[], []⟩).heap }) #[.string ⟨#[]⟩] rfl (by kernel_rfl) (by kernel_rfl) (by kernel_rfl) (witness_row os enc)) ?_
  intro W base args ds gs before hval hW _ _ _ hL _ _
  exact contract H enc W base args ds gs before hval hW hL

theorem said : Rows.FnExactRunesSaid :=
  OpenClaim.holds_of_cond 8 Tryd.f8 rfl rfl rfl rfl rfl rfl rfl ⟨rfl, rfl, rfl, rfl, rfl⟩ rfl rfl rfl rfl rfl (by kernel_rfl) Tryd.func8 (by kernel_rfl)
    (of_decide_eq_true (by kernel_rfl)) (by unfold Func.isWrapper; first | (rw [if_pos (by decide +kernel)]; kernel_rfl) | (rw [if_neg (by decide +kernel)]; exact ⟨rfl, rfl⟩))
    (fun os started H enc _ F => by rw [OpenClaim.pre_eq_preRow]; exact lifted os started H enc F)

theorem plain (f : FuncId) (fn : Func) (hf : Tryd.pinned.checked.prog.funcNamed "loop.example/g00191/laws.FnExactRunes" = some f) (hfn : Tryd.pinned.checked.prog.funcs[f]? = some fn) :
    false = Tryd.pinned.checked.prog.looks [] ∧ ∀ (j : Nat) t, fn.params[j]? = some t → Tryd.pinned.checked.prog.wantsStandIn t = false := by
  obtain rfl : f = 8 := Option.some.inj ((show Tryd.prog.funcNamed "loop.example/g00191/laws.FnExactRunes" = some 8 by kernel_rfl).symm.trans hf) |>.symm
  obtain rfl : fn = Tryd.f8 := (Option.some.inj (Tryd.func8.symm.trans hfn)).symm
  refine ⟨by kernel_rfl, fun j t ht => ?_⟩
  rw [Tryd.params8] at ht
  obtain rfl : t = 9 := by simpa using Array.mem_of_getElem? ht
  exact (show Tryd.prog.wantsStandIn 9 = false by kernel_rfl)

theorem card : Rows.FnExactRunesCardSaid :=
  Claim7.holds_tied_plain_at .later [] _ _ _ _ said (fun _ h => by cases h) (by kernel_rfl) (fun _ h => by cases h) fnExactRunes_row_tie rfl ⟨rfl, rfl⟩ (by kernel_rfl) rfl plain (by kernel_rfl)
end Go.Proofs.YtokkcbjhkepjnaaDoor.fnExactRunes

namespace Go.Proofs.YtokkcbjhkepjnaaDoor
theorem fnExactRunes_holds : Rows.FnExactRunesCardSaid := fnExactRunes.card
#print axioms fnExactRunes_holds
end Go.Proofs.YtokkcbjhkepjnaaDoor
