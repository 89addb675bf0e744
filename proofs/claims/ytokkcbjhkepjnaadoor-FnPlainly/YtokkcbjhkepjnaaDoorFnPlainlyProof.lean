/- Proved: laws.FnPlainly answers true at every code and leaves it as it was, package impl's two arrays of truths being as their text lays them; no condition. -/
import Derived.Test.YtokkcbjhkepjnaaDoorRows
import Derived.Test.YtokkcbjhkepjnaaDoorCards
import Derived.Test.YtokkcbjhkepjnaaDoorTie
import Derived.Test.YtokkcbjhkepjnaaDoorLaidMarks
import Derived.Test.YtokkcbjhkepjnaaDoorOkWalk
import Derived.Test.YtokkcbjhkepjnaaDoorPlainlyWalk
import Derived.Test.YtokkcbjhkepjnaaDoorDraw2Walk
import Derived.OpenShut
import Derived.ShutString
namespace Go.Proofs.YtokkcbjhkepjnaaDoor.fnPlainly
open Go.ChangeShapes Go.WideShapes Go.ChangeAt Go.RowKit
open Go.ChangeMaps (open_string shut_string)
set_option linter.unusedVariables false

def IsRow (k : IntKind) (w : World) (a : Option Addr) (len cap : Nat) (zs : List Int) : Prop :=
  (a = none ∧ len = 0 ∧ cap = 0 ∧ zs = []) ∨
  ∃ x, a = some x ∧ len ≤ cap ∧ cap ≤ maxLen ∧ zs.length = cap ∧ (∀ i, i < zs.length → w.cell? (x.add i) = some (.int k (zs.getD i 0))) ∧ ∀ n ∈ zs, (Lit.int k n).wf = true

theorem walk (a0 : Option Addr) (len0 cap0 : Nat) (z0 : List Int) (w : World) (w0 : IsRow .u8 w a0 len0 cap0 z0) (hT : Marks w) :
    Calls Tryd.prog 6 #[.slice a0 len0 cap0] w fun e w' => e = .returned (.bool true) ∧ Below w.heap.size w w' := by
  by_cases hbig : 1048576 < (len0 : Int)
  · clear hT
    go_enter Tryd.func6, Tryd.ntmps6
    go_wp2_with fail
    refine (big_yes _ _ _ _ hbig).mono ?_
    rintro e w' ⟨rfl, rfl⟩
    go_wp2
    go_ret
    exact ⟨rfl, Below.refl _ _⟩
  · have hl : len0 ≤ 1048576 := by omega
    have hcode : CodeRow w.heap.size w a0 len0 := by
      rcases w0 with ⟨rfl, rfl, rfl, rfl⟩ | ⟨x, rfl, h1, h2, h3, h4, h5⟩
      · exact .inl rfl
      · by_cases h0 : len0 = 0
        · exact .inl h0
        · obtain ⟨b, off, rfl, hc⟩ := ints_at h4 (by omega)
          refine .inr ⟨b, off, rfl, World.block_lt_of_cell? w ⟨b, off + 0, none⟩ (hc 0 (by omega)), fun i hi => ?_⟩
          refine ⟨_, hc i (by omega), ?_⟩
          have hb := bounds_u8 (h5 (z0.getD i 0) (by
            rw [List.getD_eq_getElem?_getD, List.getElem?_eq_getElem (by omega)]
            exact List.getElem_mem _))
          exact hb
    clear w0
    have HT : Hid (Marks w) := hT
    have HCO : Hid (CodeRow w.heap.size w a0 len0) := hcode
    clear hcode hT
    go_enter Tryd.func6, Tryd.ntmps6
    go_wp2_with fail
    refine (big_no _ _ _ _ (by omega)).mono ?_
    rintro e w' ⟨rfl, rfl⟩
    go_wp2_with fail
    refine (drawPlainly _ _ _ _ hl HCO.out).mono ?_
    rintro e wa ⟨s, set, hs, rfl, ba⟩
    have za := ba.size
    have MA : Hid (Marks wa) := HT.out.later ba
    have CSP : Hid (∀ W, Calls Tryd.prog 32 #[.string s, .int .i64 set] W fun e w' => e = .returned (.string ⟨(plL set s.data.toList).toArray⟩) ∧ Below W.heap.size W w') := fun W => specPlainly s set W (by omega)
    have CUS : Hid (∀ W, Calls Tryd.prog 29 #[.string s] W fun e w' => e = .returned (.string ⟨(unL s.data.toList).toArray⟩) ∧ Below W.heap.size W w') := fun W => implUnpercent s W (by omega)
    go_wp2_with fail
    refine (implPlainly _ _ _ MA.out (by omega)).mono ?_
    rintro e wb ⟨rfl, bb⟩
    have Bb : Below w.heap.size w wb := ba.trans (bb.mono za)
    have zb := Bb.size
    have MB : Hid (Marks wb) := HT.out.later Bb
    clear ba bb
    have hsl : s.data.toList.length = s.size := by simp
    have hln := pl_len set s.data.toList
    have hpz : (⟨(plL set s.data.toList).toArray⟩ : ByteArray).size = (plL set s.data.toList).length := by simp [ByteArray.size]
    have hu := un_pl set s.data.toList
    have CU : Hid (∀ W, Calls Tryd.prog 29 #[.string ⟨(plL set s.data.toList).toArray⟩] W fun e w' => e = .returned (.string ⟨(unL s.data.toList).toArray⟩) ∧ Below W.heap.size W w') := fun W => by
      have h := implUnpercent ⟨(plL set s.data.toList).toArray⟩ W (by omega)
      simp only [hu] at h
      exact h
    by_cases hv : 1 ≤ set ∧ set ≤ 3
    · have hok := ok_pl set hv s.data.toList
      have hpp := pl_pl set hv s.data.toList
      have CO : Hid (∀ W, Marks W → Calls Tryd.prog 28 #[.string ⟨(plL set s.data.toList).toArray⟩, .int .i64 set] W fun e w' => e = .returned (.bool true) ∧ Below W.heap.size W w') := fun W hW => by
        have h := implPercentOk ⟨(plL set s.data.toList).toArray⟩ set W hW (by omega)
        simp only [okS_yes hv hok] at h
        exact h
      have CP : Hid (∀ W, Marks W → Calls Tryd.prog 31 #[.string ⟨(plL set s.data.toList).toArray⟩, .int .i64 set] W fun e w' => e = .returned (.string ⟨(plL set s.data.toList).toArray⟩) ∧ Below W.heap.size W w') := fun W hW => by
        have h := implPlainly ⟨(plL set s.data.toList).toArray⟩ set W hW (by omega)
        simp only [hpp] at h
        exact h
      clear hu hok hpp hln hpz hsl CSP
      generalize (⟨(plL set s.data.toList).toArray⟩ : ByteArray) = p at *
      generalize (⟨(unL s.data.toList).toArray⟩ : ByteArray) = u at *
      obtain ⟨hv1, hv2⟩ := hv
      go_wp2_with fail
      refine (CO.out _ MB.out).mono ?_
      rintro e wc ⟨rfl, bc⟩
      have Bc : Below w.heap.size w wc := Bb.trans (bc.mono zb)
      have zc := Bc.size
      have MC : Hid (Marks wc) := HT.out.later Bc
      clear bc
      go_wp2_with fail
      refine (CP.out _ MC.out).mono ?_
      rintro e wd ⟨rfl, bd⟩
      have Bd : Below w.heap.size w wd := Bc.trans (bd.mono zc)
      have zd := Bd.size
      clear bd
      go_wp2_with fail
      refine (CU.out _).mono ?_
      rintro e we ⟨rfl, be⟩
      have Be : Below w.heap.size w we := Bd.trans (be.mono zd)
      have ze := Be.size
      clear be
      go_wp2_with fail
      refine (CUS.out _).mono ?_
      rintro e wf ⟨rfl, bf⟩
      have Bf : Below w.heap.size w wf := Be.trans (bf.mono ze)
      go_wp2_with fail
      go_ret
      exact ⟨ret_bool (by simp), Bf⟩
    · have hx : set < 1 ∨ 3 < set := by omega
      clear hu hln hpz hsl CU CUS
      generalize (⟨(plL set s.data.toList).toArray⟩ : ByteArray) = p at *
      clear hv
      rcases hx with h1 | h1
      · go_wp2_with fail
        refine (CSP.out _).mono ?_
        rintro e wd ⟨rfl, bd⟩
        go_wp2_with fail
        go_ret
        exact ⟨ret_bool (by simp), Bb.trans (bd.mono zb)⟩
      · have h3 : 1 ≤ set := by omega
        go_wp2_with fail
        refine (CSP.out _).mono ?_
        rintro e wd ⟨rfl, bd⟩
        go_wp2_with fail
        go_ret
        exact ⟨ret_bool (by simp), Bb.trans (bd.mono zb)⟩

set_option maxRecDepth 100000 in
theorem contract (H : Type) (enc : TypeId × Value → H) (W : World) (base : Nat) (args : Array Value) (ds gs : List (DataW H)) (before : List MemPlace)
    (hval : ∀ (j : Nat) t v, Tryd.f6.params[j]? = some t → args[j]? = some v → Value.okWide Tryd.prog W .any base t v)
    (hW : DataW.Whole enc Tryd.prog Tryd.f6.params.toList Rows.fnPlainlySpec.vars false W args.toList ds gs before) (hL : laidMet Tryd.prog laidMarks W) :
    Calls Tryd.prog 6 args W fun e W' => ∃ v, e = .returned v ∧ Rows.fnPlainlySpec.post enc Tryd.prog Tryd.f6 false true false false W args v W' := by
  have hW' := hW
  obtain ⟨p, q, hA0, hV, rfl, hfz, hnd⟩ := hW
  have hA : DataW.TrodAll enc Tryd.prog W 0 (fun _ => true) true Tryd.f6.params.toList args.toList ds p := hA0
  rw [Tryd.params6] at hA hval
  obtain ⟨v0, vs0, d0, ds0, p0, q0, hargs, rfl, rfl, h0, r0⟩ := trodAll_cons hA
  obtain ⟨rfl, rfl, rfl⟩ := trodAll_nil r0
  obtain rfl : args = #[v0] := by cases args; simp_all
  have hV2 : DataW.TrodVars enc Tryd.prog W (fun _ => true) ["loop.example/g00191/impl.keptMarks", "loop.example/g00191/impl.plainMarks"] gs q := hV
  obtain ⟨g1, g2, rfl⟩ := vars_two hV2
  obtain ⟨a0, len0, cap0, rfl⟩ := okWide_slice Tryd.underlying22 (hval 0 22 v0 rfl rfl)
  have k0 := h0
  have lt0 : ∀ x ∈ p0, x.block < W.heap.size := by obtain ⟨m, hm⟩ := k0; exact DataW.trod_lt m _ _ _ hm
  obtain ⟨z0, w0⟩ : ∃ zs, IsRow .u8 W a0 len0 cap0 zs := by
    obtain ⟨fuel, hf⟩ := h0
    rcases open_ints Tryd.underlying22 Tryd.underlying5 (by kernel_rfl) hf with ⟨hcs, _⟩ | ⟨x, l, c, zs, hcs, _, hl, hm, hz, _, hcell, hwz⟩
    · simp [Value.cells] at hcs
      obtain ⟨rfl, rfl, rfl⟩ := hcs
      exact ⟨[], .inl ⟨rfl, rfl, rfl, rfl⟩⟩
    · simp [Value.cells] at hcs
      obtain ⟨rfl, rfl, rfl⟩ := hcs
      exact ⟨zs, .inr ⟨_, rfl, hl, hm, by simpa using hz, hcell, hwz⟩⟩
  clear hA0
  refine (walk a0 len0 cap0 z0 W w0 (marks hL)).mono fun e W' ⟨he, bel⟩ => ?_
  subst he
  exact ⟨_, rfl, _, _, _, [], _, _, hW', trodAll_mk1 (shut_bool Tryd.underlying4 _), (trodAll_cons_mk (Below.trod laidOutMarks (by kernel_rfl) (of_decide_eq_true (by kernel_rfl)) k0 bel lt0) trodAll_mk0), bel.trodVars laidOutMarks (by kernel_rfl) hV, bel.frame _, fun h => by cases h⟩

theorem witness_row (os : Os) {H : Type} (enc : TypeId × Value → H) :
    (OpenSpec.ofChange Rows.fnPlainlySpec).preRow enc Tryd.prog Tryd.f6 Rows.fnPlainlyRow.domain false laidMarks (({ World.holding Tryd.prog os ⟨#[], #[], []⟩ with heap := marksHeap (World.holding Tryd.prog os ⟨#[], #[], []⟩).heap } : World).forCall (fun _ _ => 0) ⟨#[], #[.slice none 0 0], []⟩).memory #[.slice none 0 0] := by
  have hw : (DataW.whole enc Tryd.prog (({ World.holding Tryd.prog os ⟨#[], #[], []⟩ with heap := marksHeap (World.holding Tryd.prog os ⟨#[], #[], []⟩).heap } : World).forCall (fun _ _ => 0) ⟨#[], #[.slice none 0 0], []⟩).memory Tryd.f6.params.toList Rows.fnPlainlySpec.vars false (#[.slice none 0 0] : Array Value).toList 8).map (fun x => (x.1, x.2.1)) =
      some ([.nil], [Rows.laid_loop_example_g00191_impl_keptMarks, Rows.laid_loop_example_g00191_impl_plainMarks]) := by kernel_rfl
  obtain ⟨⟨x1, x2, x3⟩, hx, hx1⟩ := Option.map_eq_some_iff.1 hw
  simp only [Prod.mk.injEq] at hx1
  obtain ⟨rfl, rfl⟩ := hx1
  exact OpenSpec.preRow_of_cond 8 hx (by kernel_rfl) (fun k hk => by cases hk) (by kernel_rfl) (marks_met os _)

set_option maxRecDepth 100000 in
set_option maxHeartbeats 2000000 in
theorem lifted (os : Os) (started : os.Started) (H : Type) (enc : TypeId × Value → H) (F : Stop.Interp) :
    ReturnsInHanded {} Tryd.checked os 6 .any ((OpenSpec.ofChange Rows.fnPlainlySpec).preRow enc Tryd.prog Tryd.f6 Rows.fnPlainlyRow.domain false laidMarks) (((OpenSpec.ofChange Rows.fnPlainlySpec).at F).post enc Tryd.prog Tryd.f6 false true false false) := by
  refine returnsInHanded_of_row (C := Tryd.checked) (s := OpenSpec.ofChange Rows.fnPlainlySpec) ownMarks started (by kernel_rfl) Tryd.func6
    (witness_row_atRef (enc := enc) (C := Tryd.checked) false ({ World.holding Tryd.prog os ⟨#[], #[], []⟩ with heap := marksHeap (World.holding Tryd.prog os ⟨#[], #[], []⟩).heap }) #[.slice none 0 0] rfl (by kernel_rfl) (by kernel_rfl) (by kernel_rfl) (witness_row os enc)) ?_
  intro W base args ds gs before hval hW _ _ _ hL _ _
  exact contract H enc W base args ds gs before hval hW hL

theorem said : Rows.FnPlainlySaid :=
  OpenClaim.holds_of_cond 6 Tryd.f6 rfl rfl rfl rfl rfl rfl rfl ⟨rfl, rfl, rfl, rfl, rfl⟩ rfl rfl rfl rfl rfl (by kernel_rfl) Tryd.func6 (by kernel_rfl)
    (of_decide_eq_true (by kernel_rfl)) (by unfold Func.isWrapper; first | (rw [if_pos (by decide +kernel)]; kernel_rfl) | (rw [if_neg (by decide +kernel)]; exact ⟨rfl, rfl⟩))
    (fun os started H enc _ F => by rw [OpenClaim.pre_eq_preRow]; exact lifted os started H enc F)

theorem plain (f : FuncId) (fn : Func) (hf : Tryd.pinned.checked.prog.funcNamed "loop.example/g00191/laws.FnPlainly" = some f) (hfn : Tryd.pinned.checked.prog.funcs[f]? = some fn) :
    false = Tryd.pinned.checked.prog.looks [] ∧ ∀ (j : Nat) t, fn.params[j]? = some t → Tryd.pinned.checked.prog.wantsStandIn t = false := by
  obtain rfl : f = 6 := Option.some.inj ((show Tryd.prog.funcNamed "loop.example/g00191/laws.FnPlainly" = some 6 by kernel_rfl).symm.trans hf) |>.symm
  obtain rfl : fn = Tryd.f6 := (Option.some.inj (Tryd.func6.symm.trans hfn)).symm
  refine ⟨by kernel_rfl, fun j t ht => ?_⟩
  rw [Tryd.params6] at ht
  obtain rfl : t = 22 := by simpa using Array.mem_of_getElem? ht
  exact (show Tryd.prog.wantsStandIn 22 = false by kernel_rfl)

theorem card : Rows.FnPlainlyCardSaid :=
  Claim7.holds_tied_plain_at .later [] _ _ _ _ said (fun _ h => by cases h) (by kernel_rfl) (fun _ h => by cases h) fnPlainly_row_tie rfl ⟨rfl, rfl⟩ (by kernel_rfl) rfl plain (by kernel_rfl)
end Go.Proofs.YtokkcbjhkepjnaaDoor.fnPlainly

namespace Go.Proofs.YtokkcbjhkepjnaaDoor
theorem fnPlainly_holds : Rows.FnPlainlyCardSaid := fnPlainly.card
#print axioms fnPlainly_holds
end Go.Proofs.YtokkcbjhkepjnaaDoor
