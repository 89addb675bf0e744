/- Proved: laws.FnEscapes answers true at every code and leaves it as it was, package impl's table of escapes and package utf8's two tables being as their text lays them; no other condition. -/
import Derived.Test.YtjdmmmohaiiocaaDoorRows
import Derived.Test.YtjdmmmohaiiocaaDoorCards
import Derived.Test.YtjdmmmohaiiocaaDoorTie
import Derived.Test.YtjdmmmohaiiocaaDoorLaidEsc
import Derived.Test.YtjdmmmohaiiocaaDoorEscWalk
import Derived.Test.YtjdmmmohaiiocaaDoorPackF
import Derived.Test.YtjdmmmohaiiocaaDoorDraw13
import Derived.Test.YtjdmmmohaiiocaaDoorBalImpl
import Derived.OpenShut
import Derived.ShutString
namespace Go.Proofs.YtjdmmmohaiiocaaDoor.fnEscapes
open Go.ChangeShapes Go.WideShapes Go.ChangeAt Go.RowKit
open Go.ChangeMaps (open_string shut_string)
set_option linter.unusedVariables false

def IsRow (k : IntKind) (w : World) (a : Option Addr) (len cap : Nat) (zs : List Int) : Prop :=
  (a = none ∧ len = 0 ∧ cap = 0 ∧ zs = []) ∨
  ∃ x, a = some x ∧ len ≤ cap ∧ cap ≤ maxLen ∧ zs.length = cap ∧ (∀ i, i < zs.length → w.cell? (x.add i) = some (.int k (zs.getD i 0))) ∧ ∀ n ∈ zs, (Lit.int k n).wf = true

set_option maxRecDepth 100000 in
set_option maxHeartbeats 8000000 in
theorem walk (a0 : Option Addr) (len0 cap0 : Nat) (z0 : List Int) (w : World) (w0 : IsRow .u8 w a0 len0 cap0 z0) (hE : Esc w) (hM : MaxI w) :
    Calls Tryd.prog 3 #[.slice a0 len0 cap0] w fun e w' => e = .returned (.bool true) ∧ Below w.heap.size w w' := by
  have HE : Hid (Esc w) := hE
  have HMX : Hid (MaxI w) := hM
  clear hE hM
  by_cases hbig : 1048576 < (len0 : Int)
  · go_enter Tryd.func3, Tryd.ntmps3
    go_wp2_with fail
    refine (big_yes _ _ _ _ hbig).mono ?_
    rintro e w' ⟨rfl, rfl⟩
    go_wp2
    go_ret
    exact ⟨rfl, Below.refl _ _⟩
  · have hl : len0 ≤ 1048576 := by omega
    have hcode : CodeRow w.heap.size w a0 len0 := by
      rcases w0 with ⟨rfl, rfl, rfl, rfl⟩ | ⟨x, rfl, h1, h2, h3, h4, h5⟩
      · exact .inl rfl
      · by_cases h0 : len0 = 0
        · exact .inl h0
        · obtain ⟨b, off, rfl, hc⟩ := ints_at h4 (by omega)
          refine .inr ⟨b, off, rfl, World.block_lt_of_cell? w ⟨b, off + 0, none⟩ (hc 0 (by omega)), fun i hi => ?_⟩
          refine ⟨_, hc i (by omega), ?_⟩
          have hb := bounds_u8 (h5 (z0.getD i 0) (by
            rw [List.getD_eq_getElem?_getD, List.getElem?_eq_getElem (by omega)]
            exact List.getElem_mem _))
          exact hb
    have HCO : Hid (CodeRow w.heap.size w a0 len0) := hcode
    clear w0 hcode
    go_enter Tryd.func3, Tryd.ntmps3
    go_wp2_with fail
    refine (big_no _ _ _ _ (by omega)).mono ?_
    rintro e w' ⟨rfl, rfl⟩
    go_wp2_with fail
    refine (drawEscape _ _ _ _ hl HCO.out).mono ?_
    rintro e w0 ⟨s, hs, rfl, b0⟩
    obtain ⟨E, hE⟩ : ∃ E : ByteArray, (⟨(escL s.data.toList).toArray⟩ : ByteArray) = E := ⟨_, rfl⟩
    have hEd : E.data.toList = escL s.data.toList := by rw [← hE]
    have hEs : E.size ≤ 840 := by
      have h1 := esc_len s.data.toList
      have h2 : s.data.toList.length = s.size := by simp
      have h3 : E.size = E.data.toList.length := by simp
      rw [h3, hEd]
      omega
    have CE : Hid (∀ W, Below w.heap.size w W → Calls Tryd.prog 10 #[.string s] W fun e w' => e = .returned (.string E) ∧ Below W.heap.size W w') := fun W hW => by rw [← hE]; exact implEscape s W (by omega) (HE.out.later hW)
    have CU : Hid (∀ W, Below w.heap.size w W → Calls Tryd.prog 11 #[.string E] W fun e w' => e = .returned (.tuple #[.string s, .bool true]) ∧ Below W.heap.size W w') := fun W hW => by
      have := implUnescape E W (by omega) (HE.out.later hW)
      rw [hEd, un_esc, show unA (some s.data.toList) = .tuple #[.string ⟨s.data.toList.toArray⟩, .bool true] from rfl, Lib.mk_data] at this
      exact this
    obtain ⟨L, hL⟩ : ∃ L : List TV, ⟨1, vA⟩ :: ((if s.data.toList = [] then [] else [⟨3, bytesV s.data.toList⟩]) ++ [⟨2, vA⟩]) = L := ⟨_, rfl⟩
    have CT : Hid (∀ W, Below w.heap.size w W → Calls Tryd.prog 12 #[.string (⟨#[60, 97, 62]⟩ ++ E ++ ⟨#[60, 47, 97, 62]⟩)] W fun e w' => TokB W (L, 0) e w') := fun W hW => by
      have := implTokens (⟨#[60, 97, 62]⟩ ++ E ++ ⟨#[60, 47, 97, 62]⟩) W (by rw [ByteArray.size_append, ByteArray.size_append]; show 3 + E.size + 4 ≤ _; omega) (HE.out.later hW) (max_below HMX.out hW)
      rw [show (⟨#[60, 97, 62]⟩ ++ E ++ ⟨#[60, 47, 97, 62]⟩ : ByteArray).data.toList = [60, 97, 62] ++ escL s.data.toList ++ 60 :: aC by rw [← hEd]; simp [aC], tokI_esc, hL] at this
      exact this
    have CB : Hid (∀ v W, TokRow W v L → Calls Tryd.prog 13 #[v] W fun e w' => e = .returned (.bool true) ∧ Below W.heap.size W w') := fun v W h => by
      have := implBalanced L v W (by rw [← hL]; by_cases hn : s.data.toList = [] <;> simp [hn]) h
      rw [← hL, bal_esc] at this
      exact this
    have HFree : Hid (∀ k (hk : k < E.size), (E[k]'hk).toNat ≠ 60 ∧ (E[k]'hk).toNat ≠ 62 ∧ (E[k]'hk).toNat ≠ 34) := fun k hk => by
      have hm : E[k]'hk ∈ escL s.data.toList := by
        rw [← hEd]
        exact List.getElem_mem (l := E.data.toList) (n := k) (by simpa using hk)
      obtain ⟨h1, h2, h3⟩ := esc_free _ _ hm
      exact ⟨fun e => h1 (UInt8.toNat_inj.1 e), fun e => h2 (UInt8.toNat_inj.1 e), fun e => h3 (UInt8.toNat_inj.1 e)⟩
    have HLS : Hid ((s.size = 0 ∧ L.length = 2) ∨ (0 < s.size ∧ L.length = 3 ∧ L.getD 1 tv0 = ⟨3, s⟩)) := by
      have h2 : s.data.toList.length = s.size := by simp
      show _ ∨ _
      by_cases hn : s.data.toList = []
      · left
        rw [← hL, if_pos hn]
        rw [hn] at h2
        exact ⟨by simpa using h2.symm, rfl⟩
      · right
        rw [← hL, if_neg hn]
        refine ⟨by rw [← h2]; exact List.length_pos_iff.2 hn, rfl, ?_⟩
        show (⟨3, bytesV s.data.toList⟩ : TV) = _
        unfold bytesV
        rw [Lib.mk_data]
    clear hE hEd hL HCO
    go_wp2_with fail
    refine (CE.out _ b0).mono ?_
    rintro e w1 ⟨rfl, b1⟩
    have B1 := b0.trans (b1.mono b0.size)
    clear b1 b0 CE
    go_wp2_with fail
    refine (CU.out _ B1).mono ?_
    rintro e w2 ⟨rfl, b2⟩
    have B2 := B1.trans (b2.mono B1.size)
    clear b2 B1 CU
    go_wp2_with fail
    go_loop [7] (fun i => ∃ k : Nat, k ≤ E.size ∧ i = .int .i64 k) (fun i => E.size - (intOf i).toNat)
    case atStart => exact ⟨0, Nat.zero_le _, rfl⟩
    case round =>
      obtain ⟨k, hk, rfl⟩ := hrel
      by_cases hlt : k < E.size
      · have hki : (k : Int) < E.size := by omega
        obtain ⟨h1, h2, h3⟩ := HFree.out k hlt
        obtain ⟨d, hd⟩ : ∃ d : Nat, (E[k]'hlt).toNat = d := ⟨_, rfl⟩
        have ix := run_at Tryd.prog 9 Tryd.underlying9 E (k : Int) k d hlt rfl hd
        rw [hd] at h1 h2 h3
        have g1 : ((d : Int) == 60) = false := beq_eq_false_iff_ne.2 (by omega)
        have g2 : ((d : Int) == 62) = false := beq_eq_false_iff_ne.2 (by omega)
        have g3 : ((d : Int) == 34) = false := beq_eq_false_iff_ne.2 (by omega)
        clear h1 h2 h3 hd
        go_wp2_with fail
        go_round
        case rel => exact ⟨k + 1, by omega, by go_num⟩
        case measure => simp [intOf] <;> omega
      · have hki : ¬ (k : Int) < E.size := by omega
        go_wp2_with fail
        refine (CT.out _ B2).mono ?_
        rintro e w3 ⟨v3, rfl, o3, b3⟩
        have B3 := B2.trans (b3.mono B2.size)
        have R3 : Hid (TokRow w3 v3 L) := TokRow.of_own' o3
        obtain ⟨lo, lc, rfl⟩ := R3.out.slice
        clear o3 b3 CT
        go_wp2_with fail
        refine (CB.out _ _ R3.out).mono ?_
        rintro e w4 ⟨rfl, b4⟩
        have B4 := B3.trans (b4.mono B3.size)
        have R4 : Hid (TokRow w4 (.slice lo L.length lc) L) := R3.out.below b4
        clear b4 B3 CB R3
        rcases HLS.out with ⟨hs0, hL2⟩ | ⟨hs0, hL3, hg⟩
        · have hem := empty_yes hs0
          rw [hL2]
          go_wp2_with fail
          go_ret
          exact ⟨rfl, B4⟩
        · have hem := empty_no hs0
          obtain ⟨g, off, c, hv, _, hc⟩ : ∃ g off c, Value.slice lo L.length lc = .slice (some ⟨g, off, none⟩) L.length c ∧ g < w4.heap.size ∧ ∀ i, i < L.length → w4.cell? ⟨g, off + i * 2, none⟩ = some (.int .i64 (L.getD i tv0).k) ∧ w4.cell? ⟨g, off + i * 2 + 1, none⟩ = some (.string (L.getD i tv0).s) := by
            rcases R4.out with ⟨h, _⟩ | ⟨_, g, off, cc, h1, h2, h3⟩
            · rw [h] at hL3; simp at hL3
            · exact ⟨g, off, _, h1, h2, h3⟩
          have c1 := (hc 1 (by omega)).1
          have c2 := (hc 1 (by omega)).2
          rw [hg] at c1 c2
          cases hv
          clear hc hg
          rw [hL3]
          go_wp2_with fail
          go_ret
          exact ⟨rfl, B4⟩

set_option maxRecDepth 100000 in
theorem contract (H : Type) (enc : TypeId × Value → H) (W : World) (base : Nat) (args : Array Value) (ds gs : List (DataW H)) (before : List MemPlace)
    (hval : ∀ (j : Nat) t v, Tryd.f3.params[j]? = some t → args[j]? = some v → Value.okWide Tryd.prog W .any base t v)
    (hW : DataW.Whole enc Tryd.prog Tryd.f3.params.toList Rows.fnEscapesSpec.vars false W args.toList ds gs before) (hL : laidMet Tryd.prog laidEsc3 W) (hSh : W.ShapedOpen Tryd.prog) :
    Calls Tryd.prog 3 args W fun e W' => ∃ v, e = .returned v ∧ Rows.fnEscapesSpec.post enc Tryd.prog Tryd.f3 false true false false W args v W' := by
  have hW' := hW
  obtain ⟨p, q, hA0, hV, rfl, hfz, hnd⟩ := hW
  have hA : DataW.TrodAll enc Tryd.prog W 0 (fun _ => true) true Tryd.f3.params.toList args.toList ds p := hA0
  rw [Tryd.params3] at hA hval
  obtain ⟨v0, vs0, d0, ds0, p0, q0, hargs, rfl, rfl, h0, r0⟩ := trodAll_cons hA
  obtain ⟨rfl, rfl, rfl⟩ := trodAll_nil r0
  obtain rfl : args = #[v0] := by cases args; simp_all
  have hV2 : DataW.TrodVars enc Tryd.prog W (fun _ => true) ["loop.example/g00191/impl.escapes"] gs q := hV
  obtain ⟨g1, rfl⟩ := vars_one hV2
  obtain ⟨a0, len0, cap0, rfl⟩ := okWide_slice Tryd.underlying22 (hval 0 22 v0 rfl rfl)
  have k0 := h0
  have lt0 : ∀ x ∈ p0, x.block < W.heap.size := by obtain ⟨m, hm⟩ := k0; exact DataW.trod_lt m _ _ _ hm
  obtain ⟨z0, w0⟩ : ∃ zs, IsRow .u8 W a0 len0 cap0 zs := by
    obtain ⟨fuel, hf⟩ := h0
    rcases open_ints Tryd.underlying22 Tryd.underlying5 (by kernel_rfl) hf with ⟨hcs, _⟩ | ⟨x, l, c, zs, hcs, _, hl, hm, hz, _, hcell, hwz⟩
    · simp [Value.cells] at hcs
      obtain ⟨rfl, rfl, rfl⟩ := hcs
      exact ⟨[], .inl ⟨rfl, rfl, rfl, rfl⟩⟩
    · simp [Value.cells] at hcs
      obtain ⟨rfl, rfl, rfl⟩ := hcs
      exact ⟨zs, .inr ⟨_, rfl, hl, hm, by simpa using hz, hcell, hwz⟩⟩
  clear hA0
  refine (walk a0 len0 cap0 z0 W w0 (laid_esc3 hL) (max_shaped hSh)).mono fun e W' ⟨he, bel⟩ => ?_
  subst he
  exact ⟨_, rfl, _, _, _, [], _, _, hW', trodAll_mk1 (shut_bool Tryd.underlying4 _), (trodAll_cons_mk (Below.trod laidOutMarks (by kernel_rfl) (of_decide_eq_true (by kernel_rfl)) k0 bel lt0) trodAll_mk0), bel.trodVars laidOutMarks (by kernel_rfl) hV, bel.frame _, fun h => by cases h⟩

theorem witness_row (os : Os) {H : Type} (enc : TypeId × Value → H) :
    (OpenSpec.ofChange Rows.fnEscapesSpec).preRow enc Tryd.prog Tryd.f3 Rows.fnEscapesRow.domain false laidEsc3 (({ World.holding Tryd.prog os ⟨#[], #[], []⟩ with heap := esc3Heap (World.holding Tryd.prog os ⟨#[], #[], []⟩).heap } : World).forCall (fun _ _ => 0) ⟨#[], #[.slice none 0 0], []⟩).memory #[.slice none 0 0] := by
  have hw : (DataW.whole enc Tryd.prog (({ World.holding Tryd.prog os ⟨#[], #[], []⟩ with heap := esc3Heap (World.holding Tryd.prog os ⟨#[], #[], []⟩).heap } : World).forCall (fun _ _ => 0) ⟨#[], #[.slice none 0 0], []⟩).memory Tryd.f3.params.toList Rows.fnEscapesSpec.vars false (#[.slice none 0 0] : Array Value).toList 8).map (fun x => (x.1, x.2.1)) =
      some ([.nil], [Rows.laid_loop_example_g00191_impl_escapes]) := by kernel_rfl
  obtain ⟨⟨x1, x2, x3⟩, hx, hx1⟩ := Option.map_eq_some_iff.1 hw
  simp only [Prod.mk.injEq] at hx1
  obtain ⟨rfl, rfl⟩ := hx1
  exact OpenSpec.preRow_of_cond 8 hx (by kernel_rfl) (fun k hk => by cases hk) (by kernel_rfl) (esc3_met os _)

set_option maxRecDepth 100000 in
set_option maxHeartbeats 2000000 in
theorem lifted (os : Os) (started : os.Started) (H : Type) (enc : TypeId × Value → H) (F : Stop.Interp) :
    ReturnsInHanded {} Tryd.checked os 3 .any ((OpenSpec.ofChange Rows.fnEscapesSpec).preRow enc Tryd.prog Tryd.f3 Rows.fnEscapesRow.domain false laidEsc3) (((OpenSpec.ofChange Rows.fnEscapesSpec).at F).post enc Tryd.prog Tryd.f3 false true false false) := by
  refine returnsInHanded_of_row (C := Tryd.checked) (s := OpenSpec.ofChange Rows.fnEscapesSpec) ownMarks started (by kernel_rfl) Tryd.func3
    (witness_row_atRef (enc := enc) (C := Tryd.checked) false ({ World.holding Tryd.prog os ⟨#[], #[], []⟩ with heap := esc3Heap (World.holding Tryd.prog os ⟨#[], #[], []⟩).heap }) #[.slice none 0 0] rfl (by kernel_rfl) (by kernel_rfl) (by kernel_rfl) (witness_row os enc)) ?_
  intro W base args ds gs before hval hW _ _ _ hL hSh _
  exact contract H enc W base args ds gs before hval hW hL hSh

theorem said : Rows.FnEscapesSaid :=
  OpenClaim.holds_of_cond 3 Tryd.f3 rfl rfl rfl rfl rfl rfl rfl ⟨rfl, rfl, rfl, rfl, rfl⟩ rfl rfl rfl rfl rfl (by kernel_rfl) Tryd.func3 (by kernel_rfl)
    (of_decide_eq_true (by kernel_rfl)) (by unfold Func.isWrapper; first | (rw [if_pos (by decide +kernel)]; kernel_rfl) | (rw [if_neg (by decide +kernel)]; exact ⟨rfl, rfl⟩))
    (fun os started H enc _ F => by rw [OpenClaim.pre_eq_preRow]; exact lifted os started H enc F)

theorem plain (f : FuncId) (fn : Func) (hf : Tryd.pinned.checked.prog.funcNamed "loop.example/g00191/laws.FnEscapes" = some f) (hfn : Tryd.pinned.checked.prog.funcs[f]? = some fn) :
    false = Tryd.pinned.checked.prog.looks [] ∧ ∀ (j : Nat) t, fn.params[j]? = some t → Tryd.pinned.checked.prog.wantsStandIn t = false := by
  obtain rfl : f = 3 := Option.some.inj ((show Tryd.prog.funcNamed "loop.example/g00191/laws.FnEscapes" = some 3 by kernel_rfl).symm.trans hf) |>.symm
  obtain rfl : fn = Tryd.f3 := (Option.some.inj (Tryd.func3.symm.trans hfn)).symm
  refine ⟨by kernel_rfl, fun j t ht => ?_⟩
  rw [Tryd.params3] at ht
  obtain rfl : t = 22 := by simpa using Array.mem_of_getElem? ht
  exact (show Tryd.prog.wantsStandIn 22 = false by kernel_rfl)

theorem card : Rows.FnEscapesCardSaid :=
  Claim7.holds_tied_plain_at .later [] _ _ _ _ said (fun _ h => by cases h) (by kernel_rfl) (fun _ h => by cases h) fnEscapes_row_tie rfl ⟨rfl, rfl⟩ (by kernel_rfl) rfl plain (by kernel_rfl)
end Go.Proofs.YtjdmmmohaiiocaaDoor.fnEscapes

namespace Go.Proofs.YtjdmmmohaiiocaaDoor
theorem fnEscapes_holds : Rows.FnEscapesCardSaid := fnEscapes.card
#print axioms fnEscapes_holds
end Go.Proofs.YtjdmmmohaiiocaaDoor
