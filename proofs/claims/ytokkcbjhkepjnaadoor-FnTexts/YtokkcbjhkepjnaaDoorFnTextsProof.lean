/- Proved: laws.FnTexts answers true at every code and leaves it as it was, package utf8's two tables being as their text lays them; no condition. -/
import Derived.Test.YtokkcbjhkepjnaaDoorRows
import Derived.Test.YtokkcbjhkepjnaaDoorCards
import Derived.Test.YtokkcbjhkepjnaaDoorTie
import Derived.Test.YtokkcbjhkepjnaaDoorLaidBase
import Derived.Test.YtokkcbjhkepjnaaDoorTextsPlain
import Derived.Test.YtokkcbjhkepjnaaDoorDraw1Walk
import Derived.OpenShut
import Derived.ShutString
namespace Go.Proofs.YtokkcbjhkepjnaaDoor.fnTexts
open Go.ChangeShapes Go.WideShapes Go.ChangeAt Go.RowKit
open Go.ChangeMaps (open_string shut_string)
set_option linter.unusedVariables false

def IsRow (k : IntKind) (w : World) (a : Option Addr) (len cap : Nat) (zs : List Int) : Prop :=
  (a = none ∧ len = 0 ∧ cap = 0 ∧ zs = []) ∨
  ∃ x, a = some x ∧ len ≤ cap ∧ cap ≤ maxLen ∧ zs.length = cap ∧ (∀ i, i < zs.length → w.cell? (x.add i) = some (.int k (zs.getD i 0))) ∧ ∀ n ∈ zs, (Lit.int k n).wf = true

theorem laidOut : laidOutB Tryd.prog = true := by kernel_rfl

theorem walk (a0 : Option Addr) (len0 cap0 : Nat) (z0 : List Int) (w : World) (w0 : IsRow .u8 w a0 len0 cap0 z0) (hT : Lib.Utf8Tabs 1 2 w) :
    Calls Tryd.prog 4 #[.slice a0 len0 cap0] w fun e w' => e = .returned (.bool true) ∧ Below w.heap.size w w' := by
  by_cases hbig : 1048576 < (len0 : Int)
  · go_enter Tryd.func4, Tryd.ntmps4
    go_wp2_with fail
    refine (big_yes _ _ _ _ hbig).mono ?_
    rintro e w' ⟨rfl, rfl⟩
    go_wp2
    go_ret
    exact ⟨rfl, Below.refl _ _⟩
  · have hl : len0 ≤ 1048576 := by omega
    have hcode : CodeRow w.heap.size w a0 len0 := by
      rcases w0 with ⟨rfl, rfl, rfl, rfl⟩ | ⟨x, rfl, h1, h2, h3, h4, h5⟩
      · exact .inl rfl
      · by_cases h0 : len0 = 0
        · exact .inl h0
        · obtain ⟨b, off, rfl, hc⟩ := ints_at h4 (by omega)
          refine .inr ⟨b, off, rfl, World.block_lt_of_cell? w ⟨b, off + 0, none⟩ (hc 0 (by omega)), fun i hi => ?_⟩
          refine ⟨_, hc i (by omega), ?_⟩
          have hb := bounds_u8 (h5 (z0.getD i 0) (by
            rw [List.getD_eq_getElem?_getD, List.getElem?_eq_getElem (by omega)]
            exact List.getElem_mem _))
          exact hb
    clear w0 hT
    have HCO : Hid (CodeRow w.heap.size w a0 len0) := hcode
    clear hcode
    go_enter Tryd.func4, Tryd.ntmps4
    go_wp2_with fail
    refine (big_no _ _ _ _ (by omega)).mono ?_
    rintro e w' ⟨rfl, rfl⟩
    go_wp2_with fail
    refine (drawFields _ _ _ _ hl HCO.out).mono ?_
    rintro e wa ⟨s, b, hs, hb0, hb1, rfl, ba⟩
    have za := ba.size
    go_wp2_with fail
    refine (implFields _ _ _ (by omega)).mono ?_
    rintro e wb ⟨v, rfl, ob, bb⟩
    have Bb : Below w.heap.size w wb := ba.trans (bb.mono za)
    clear ba bb
    have hjoin := fieldsL_join s b hb0 hb1
    have hsizes := fieldsL_sizes s b
    have hlen : (fieldsL s b).length ≤ 5001 := by
      have := (fieldsTo_le s b s.size).2
      simp [fieldsL]; omega
    have hpos : 0 < (fieldsL s b).length := by simp [fieldsL]
    generalize fieldsL s b = fs at *
    have HJ : Hid (jn (UInt8.ofNat b.toNat) fs = s.data.toList) := hjoin
    have HZ : Hid (∀ x ∈ fs, x.size ≤ s.size) := hsizes
    clear hjoin hsizes
    rcases own_shape ob with ⟨hz, _⟩ | ⟨_, g, cp, rfl⟩
    · omega
    generalize hN : fs.length = n at *
    have HN : Hid (fs.length = n) := hN
    clear hN
    go_wp2_with fail
    go_loopw [6, 7] (fun t i wr => ∃ (k : Nat) (z : ByteArray), k ≤ n ∧ i = .int .i64 k ∧ t = .string z ∧ z.size ≤ 5001 * k ∧ z.data.toList = jn (UInt8.ofNat b.toNat) (fs.take k) ∧ Below wb.heap.size wb wr) (fun _ i _ => n - (intOf i).toNat)
    case atStart => exact ⟨0, ⟨#[]⟩, Nat.zero_le _, rfl, rfl, by simp [ByteArray.size], rfl, Below.refl _ _⟩
    case round =>
      obtain ⟨k, z, hk, rfl, rfl, hzs, hzl, hbel⟩ := hrel
      have HZL : Hid (z.data.toList = jn (UInt8.ofNat b.toNat) (fs.take k)) := hzl
      clear hzl
      have hsz := hbel.size
      by_cases hlt : k < n
      · have cx := scell_at (own_below ob hbel) k hlt
        have hxs : (fs.getD k ByteArray.empty).size ≤ 5000 := by
          have h := HZ.out (fs.getD k ByteArray.empty) (by
            rw [List.getD_eq_getElem?_getD, List.getElem?_eq_getElem (by have := HN.out; omega)]
            exact List.getElem_mem _)
          omega
        have HT : Hid (fs.take (k + 1) = fs.take k ++ [fs.getD k ByteArray.empty]) := btake_snoc fs k (by have := HN.out; omega)
        generalize fs.getD k ByteArray.empty = x at cx hxs HT
        by_cases hk0 : 0 < k
        · have cx2 := fun o => (World.cell?_alloc_past o g k (World.block_lt_of_cell? wr ⟨g, k, none⟩ cx)).trans cx
          have hne : fs.take k ≠ [] := by
            intro e
            have h1 := congrArg List.length e
            have h2 := HN.out
            rw [List.length_take, List.length_nil] at h1
            omega
          have HNE : Hid (fs.take k ≠ []) := hne
          have hdig := run_digit (P := Tryd.prog) wr 22 9 5 Tryd.underlying22 Tryd.underlying5 Tryd.underlying9 b.toNat (by omega) b (by omega)
          have HD : Hid (UInt8.ofNat b.toNat = UInt8.ofNat b.toNat) := rfl
          generalize UInt8.ofNat b.toNat = d at *
          clear hne cx
          go_wp2_with fail
          go_roundw
          case rel =>
            refine ⟨k + 1, z ++ ⟨#[d]⟩ ++ x, by omega, by go_num, rfl, ?_, ?_, hbel.alloc hsz _⟩
            · rw [ByteArray.size_append, ByteArray.size_append]
              have : (⟨#[d]⟩ : ByteArray).size = 1 := rfl
              omega
            · rw [HT.out, jn_snoc _ _ _ HNE.out, ← HZL.out, ByteArray.data_append, ByteArray.data_append]
              simp
          case measure => simp [intOf]; omega
        · have hk1 : k = 0 := by omega
          have HE : Hid (fs.take k = []) := by show _ = _; rw [hk1]; rfl
          have HK : Hid (k = 0) := hk1
          clear hk1
          go_wp2_with fail
          go_roundw
          case rel =>
            refine ⟨k + 1, z ++ x, by omega, by go_num, rfl, ?_, ?_, hbel⟩
            · rw [ByteArray.size_append]; omega
            · rw [HT.out, HE.out, jn_one, ByteArray.data_append, Array.toList_append, HZL.out, HE.out]
              rfl
          case measure => simp [intOf]; omega
      · have hzeq : z = s := by
          apply ByteArray.ext
          apply Array.ext'
          rw [HZL.out, List.take_of_length_le (by have := HN.out; omega), HJ.out]
        subst hzeq
        have B1 : Below w.heap.size w wr := Bb.trans (hbel.mono Bb.size)
        have z1 := B1.size
        clear HZL HJ HZ hzs
        go_wp2_with fail
        refine (drawTrim _ _ _ _ hl (HCO.out.later B1)).mono ?_
        rintro e wc ⟨x, hx, rfl, bc⟩
        have B2 : Below w.heap.size w wc := B1.trans (bc.mono z1)
        have z2 := B2.size
        have hxl : x.data.toList.length = x.size := by simp
        go_wp2_with fail
        refine (implLower _ _ (by omega)).mono ?_
        rintro e wd ⟨rfl, bd⟩
        have B3 : Below w.heap.size w wd := B2.trans (bd.mono z2)
        have z3 := B3.size
        go_wp2_with fail
        refine (implTrim _ _ (by omega)).mono ?_
        rintro e we ⟨rfl, be⟩
        have B4 : Below w.heap.size w we := B3.trans (be.mono z3)
        have z4 := B4.size
        have hll := lowerL_length x.data.toList
        have hli := lowerL_idem x.data.toList
        have htl := trimS_le x.data.toList blanks4
        have hti := trimS_idem x.data.toList blanks4
        have sl : (⟨(lowerL x.data.toList).toArray⟩ : ByteArray).size = x.size := by simp only [ByteArray.size, List.size_toArray]; exact hll.trans hxl
        have st : (⟨(Lib.trimS x.data.toList blanks4).toArray⟩ : ByteArray).size ≤ x.size := by simp only [ByteArray.size, List.size_toArray]; simp only [ByteArray.size] at hxl; omega
        have CL : Hid (∀ W, Calls Tryd.prog 24 #[.string ⟨(lowerL x.data.toList).toArray⟩] W fun e w' => e = .returned (.string ⟨(lowerL x.data.toList).toArray⟩) ∧ Below W.heap.size W w') := fun W => by
          have h := implLower ⟨(lowerL x.data.toList).toArray⟩ W (by omega)
          simp only [hli] at h
          exact h
        have CT : Hid (∀ W, Calls Tryd.prog 25 #[.string ⟨(Lib.trimS x.data.toList blanks4).toArray⟩] W fun e w' => e = .returned (.string ⟨(Lib.trimS x.data.toList blanks4).toArray⟩) ∧ Below W.heap.size W w') := fun W => by
          have h := implTrim ⟨(Lib.trimS x.data.toList blanks4).toArray⟩ W (by omega)
          simp only [hti] at h
          exact h
        clear hll hli htl hti bc bd be B1 B2 B3 hxl HCO hbel Bb ob
        have slI : ((⟨(lowerL x.data.toList).toArray⟩ : ByteArray).size : Int) = (x.size : Int) := by rw [sl]
        generalize (⟨(lowerL x.data.toList).toArray⟩ : ByteArray) = A at *
        generalize (⟨(Lib.trimS x.data.toList blanks4).toArray⟩ : ByteArray) = T at *
        clear sl
        go_wp2_with fail
        refine (CL.out _).mono ?_
        rintro e wf ⟨rfl, bf⟩
        have B5 : Below w.heap.size w wf := B4.trans (bf.mono z4)
        have z5 := B5.size
        go_wp2_with fail
        refine (CT.out _).mono ?_
        rintro e wg ⟨rfl, bg⟩
        have B6 : Below w.heap.size w wg := B5.trans (bg.mono z5)
        go_wp2_with fail
        go_ret
        exact ⟨ret_bool (by simp <;> omega), B6⟩

set_option maxRecDepth 100000 in
theorem contract (H : Type) (enc : TypeId × Value → H) (W : World) (base : Nat) (args : Array Value) (ds gs : List (DataW H)) (before : List MemPlace)
    (hval : ∀ (j : Nat) t v, Tryd.f4.params[j]? = some t → args[j]? = some v → Value.okWide Tryd.prog W .any base t v)
    (hW : DataW.Whole enc Tryd.prog Tryd.f4.params.toList Rows.fnTextsSpec.vars false W args.toList ds gs before) (hL : laidMet Tryd.prog laidTwo W) :
    Calls Tryd.prog 4 args W fun e W' => ∃ v, e = .returned v ∧ Rows.fnTextsSpec.post enc Tryd.prog Tryd.f4 false true false false W args v W' := by
  have hW' := hW
  obtain ⟨p, q, hA0, hV, rfl, hfz, hnd⟩ := hW
  have hA : DataW.TrodAll enc Tryd.prog W 0 (fun _ => true) true Tryd.f4.params.toList args.toList ds p := hA0
  rw [Tryd.params4] at hA hval
  obtain ⟨v0, vs0, d0, ds0, p0, q0, hargs, rfl, rfl, h0, r0⟩ := trodAll_cons hA
  obtain ⟨rfl, rfl, rfl⟩ := trodAll_nil r0
  obtain rfl : args = #[v0] := by cases args; simp_all
  obtain ⟨rfl, rfl⟩ := trodVars_none hV
  obtain ⟨a0, len0, cap0, rfl⟩ := okWide_slice Tryd.underlying22 (hval 0 22 v0 rfl rfl)
  have k0 := h0
  have lt0 : ∀ x ∈ p0, x.block < W.heap.size := by obtain ⟨m, hm⟩ := k0; exact DataW.trod_lt m _ _ _ hm
  obtain ⟨z0, w0⟩ : ∃ zs, IsRow .u8 W a0 len0 cap0 zs := by
    obtain ⟨fuel, hf⟩ := h0
    rcases open_ints Tryd.underlying22 Tryd.underlying5 (by kernel_rfl) hf with ⟨hcs, _⟩ | ⟨x, l, c, zs, hcs, _, hl, hm, hz, _, hcell, hwz⟩
    · simp [Value.cells] at hcs
      obtain ⟨rfl, rfl, rfl⟩ := hcs
      exact ⟨[], .inl ⟨rfl, rfl, rfl, rfl⟩⟩
    · simp [Value.cells] at hcs
      obtain ⟨rfl, rfl, rfl⟩ := hcs
      exact ⟨zs, .inr ⟨_, rfl, hl, hm, by simpa using hz, hcell, hwz⟩⟩
  clear hA0
  refine (walk a0 len0 cap0 z0 W w0 (tabs hL)).mono fun e W' ⟨he, bel⟩ => ?_
  subst he
  exact ⟨_, rfl, _, _, _, [], _, [], hW', trodAll_mk1 (shut_bool Tryd.underlying4 _), (trodAll_cons_mk (Below.trod laidOut (by kernel_rfl) (of_decide_eq_true (by kernel_rfl)) k0 bel lt0) trodAll_mk0), rfl, bel.frame _, fun h => by cases h⟩

theorem witness_row (os : Os) {H : Type} (enc : TypeId × Value → H) :
    (OpenSpec.ofChange Rows.fnTextsSpec).preRow enc Tryd.prog Tryd.f4 Rows.fnTextsRow.domain false laidTwo (({ World.holding Tryd.prog os ⟨#[], #[], []⟩ with heap := laidHeap (World.holding Tryd.prog os ⟨#[], #[], []⟩).heap } : World).forCall (fun _ _ => 0) ⟨#[], #[.slice none 0 0], []⟩).memory #[.slice none 0 0] := by
  have hw : (DataW.whole enc Tryd.prog (({ World.holding Tryd.prog os ⟨#[], #[], []⟩ with heap := laidHeap (World.holding Tryd.prog os ⟨#[], #[], []⟩).heap } : World).forCall (fun _ _ => 0) ⟨#[], #[.slice none 0 0], []⟩).memory Tryd.f4.params.toList Rows.fnTextsSpec.vars false (#[.slice none 0 0] : Array Value).toList 8).map (fun x => (x.1, x.2.1)) =
      some ([.nil], []) := by kernel_rfl
  obtain ⟨⟨x1, x2, x3⟩, hx, hx1⟩ := Option.map_eq_some_iff.1 hw
  simp only [Prod.mk.injEq] at hx1
  obtain ⟨rfl, rfl⟩ := hx1
  exact OpenSpec.preRow_of_cond 8 hx (by kernel_rfl) (fun k hk => by cases hk) (by kernel_rfl) (laid_met os _)

set_option maxRecDepth 100000 in
set_option maxHeartbeats 2000000 in
theorem lifted (os : Os) (started : os.Started) (H : Type) (enc : TypeId × Value → H) (F : Stop.Interp) :
    ReturnsInHanded {} Tryd.checked os 4 .any ((OpenSpec.ofChange Rows.fnTextsSpec).preRow enc Tryd.prog Tryd.f4 Rows.fnTextsRow.domain false laidTwo) (((OpenSpec.ofChange Rows.fnTextsSpec).at F).post enc Tryd.prog Tryd.f4 false true false false) := by
  refine returnsInHanded_of_row (C := Tryd.checked) (s := OpenSpec.ofChange Rows.fnTextsSpec) own started (by kernel_rfl) Tryd.func4
    (witness_row_atRef (enc := enc) (C := Tryd.checked) false ({ World.holding Tryd.prog os ⟨#[], #[], []⟩ with heap := laidHeap (World.holding Tryd.prog os ⟨#[], #[], []⟩).heap }) #[.slice none 0 0] rfl (by kernel_rfl) (by kernel_rfl) (by kernel_rfl) (witness_row os enc)) ?_
  intro W base args ds gs before hval hW _ _ _ hL _ _
  exact contract H enc W base args ds gs before hval hW hL

theorem said : Rows.FnTextsSaid :=
  OpenClaim.holds_of_cond 4 Tryd.f4 rfl rfl rfl rfl rfl rfl rfl ⟨rfl, rfl, rfl, rfl, rfl⟩ rfl rfl rfl rfl rfl (by kernel_rfl) Tryd.func4 (by kernel_rfl)
    (of_decide_eq_true (by kernel_rfl)) (by unfold Func.isWrapper; first | (rw [if_pos (by decide +kernel)]; kernel_rfl) | (rw [if_neg (by decide +kernel)]; exact ⟨rfl, rfl⟩))
    (fun os started H enc _ F => by rw [OpenClaim.pre_eq_preRow]; exact lifted os started H enc F)

theorem plain (f : FuncId) (fn : Func) (hf : Tryd.pinned.checked.prog.funcNamed "loop.example/g00191/laws.FnTexts" = some f) (hfn : Tryd.pinned.checked.prog.funcs[f]? = some fn) :
    false = Tryd.pinned.checked.prog.looks [] ∧ ∀ (j : Nat) t, fn.params[j]? = some t → Tryd.pinned.checked.prog.wantsStandIn t = false := by
  obtain rfl : f = 4 := Option.some.inj ((show Tryd.prog.funcNamed "loop.example/g00191/laws.FnTexts" = some 4 by kernel_rfl).symm.trans hf) |>.symm
  obtain rfl : fn = Tryd.f4 := (Option.some.inj (Tryd.func4.symm.trans hfn)).symm
  refine ⟨by kernel_rfl, fun j t ht => ?_⟩
  rw [Tryd.params4] at ht
  obtain rfl : t = 22 := by simpa using Array.mem_of_getElem? ht
  exact (show Tryd.prog.wantsStandIn 22 = false by kernel_rfl)

theorem card : Rows.FnTextsCardSaid :=
  Claim7.holds_tied_plain_at .later [] _ _ _ _ said (fun _ h => by cases h) (by kernel_rfl) (fun _ h => by cases h) fnTexts_row_tie rfl ⟨rfl, rfl⟩ (by kernel_rfl) rfl plain (by kernel_rfl)
end Go.Proofs.YtokkcbjhkepjnaaDoor.fnTexts

namespace Go.Proofs.YtokkcbjhkepjnaaDoor
theorem fnTexts_holds : Rows.FnTextsCardSaid := fnTexts.card
#print axioms fnTexts_holds
end Go.Proofs.YtokkcbjhkepjnaaDoor
