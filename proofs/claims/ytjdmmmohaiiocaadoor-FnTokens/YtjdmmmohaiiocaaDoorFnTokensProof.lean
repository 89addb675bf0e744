/- Proved: laws.FnTokens answers true at every code and leaves it as it was, package impl's table of escapes and package utf8's two tables being as their text lays them; no other condition. -/
import Derived.Test.YtjdmmmohaiiocaaDoorRows
import Derived.Test.YtjdmmmohaiiocaaDoorCards
import Derived.Test.YtjdmmmohaiiocaaDoorTie
import Derived.Test.YtjdmmmohaiiocaaDoorLaidEsc
import Derived.Test.YtjdmmmohaiiocaaDoorPackF
import Derived.Test.YtjdmmmohaiiocaaDoorDraw13
import Derived.Test.YtjdmmmohaiiocaaDoorBalImpl
import Derived.Test.YtjdmmmohaiiocaaDoorTokSpec6
import Derived.OpenShut
import Derived.ShutString
namespace Go.Proofs.YtjdmmmohaiiocaaDoor.fnTokens
open Go.ChangeShapes Go.WideShapes Go.ChangeAt Go.RowKit
open Go.ChangeMaps (open_string shut_string)
set_option linter.unusedVariables false

def IsRow (k : IntKind) (w : World) (a : Option Addr) (len cap : Nat) (zs : List Int) : Prop :=
  (a = none ∧ len = 0 ∧ cap = 0 ∧ zs = []) ∨
  ∃ x, a = some x ∧ len ≤ cap ∧ cap ≤ maxLen ∧ zs.length = cap ∧ (∀ i, i < zs.length → w.cell? (x.add i) = some (.int k (zs.getD i 0))) ∧ ∀ n ∈ zs, (Lit.int k n).wf = true

set_option maxRecDepth 100000 in
set_option maxHeartbeats 8000000 in
theorem walk (a0 : Option Addr) (len0 cap0 : Nat) (z0 : List Int) (w : World) (w0 : IsRow .u8 w a0 len0 cap0 z0) (hE : Esc w) (hM : MaxI w) :
    Calls Tryd.prog 4 #[.slice a0 len0 cap0] w fun e w' => e = .returned (.bool true) ∧ Below w.heap.size w w' := by
  have HE : Hid (Esc w) := hE
  have HMX : Hid (MaxI w) := hM
  clear hE hM
  by_cases hbig : 1048576 < (len0 : Int)
  · go_enter Tryd.func4, Tryd.ntmps4
    go_wp2_with fail
    refine (big_yes _ _ _ _ hbig).mono ?_
    rintro e w' ⟨rfl, rfl⟩
    go_wp2
    go_ret
    exact ⟨rfl, Below.refl _ _⟩
  · have hl : len0 ≤ 1048576 := by omega
    have hcode : CodeRow w.heap.size w a0 len0 := by
      rcases w0 with ⟨rfl, rfl, rfl, rfl⟩ | ⟨x, rfl, h1, h2, h3, h4, h5⟩
      · exact .inl rfl
      · by_cases h0 : len0 = 0
        · exact .inl h0
        · obtain ⟨b, off, rfl, hc⟩ := ints_at h4 (by omega)
          refine .inr ⟨b, off, rfl, World.block_lt_of_cell? w ⟨b, off + 0, none⟩ (hc 0 (by omega)), fun i hi => ?_⟩
          refine ⟨_, hc i (by omega), ?_⟩
          have hb := bounds_u8 (h5 (z0.getD i 0) (by
            rw [List.getD_eq_getElem?_getD, List.getElem?_eq_getElem (by omega)]
            exact List.getElem_mem _))
          exact hb
    have HCO : Hid (CodeRow w.heap.size w a0 len0) := hcode
    clear w0 hcode
    go_enter Tryd.func4, Tryd.ntmps4
    go_wp2_with fail
    refine (big_no _ _ _ _ (by omega)).mono ?_
    rintro e w' ⟨rfl, rfl⟩
    go_wp2_with fail
    refine (drawTokens _ _ _ _ hl HCO.out).mono ?_
    rintro e w0 ⟨s, ⟨hs, HDR⟩, rfl, b0⟩
    have hsame := drawn_same HDR.out
    have BE0 := b0
    have hmost := toks_most s.data.toList
    have hfault := @toks_fault s.data.toList
    obtain ⟨L, cd, hLc⟩ : ∃ L cd, toksL s.data.toList = (L, cd) := ⟨_, _, rfl⟩
    rw [hLc] at hmost hfault
    have hll : L.length ≤ 3000 := hmost
    have HFT : Hid (cd ≠ 0 → L = []) := hfault
    have CI : Hid (∀ W, Below w.heap.size w W → Calls Tryd.prog 12 #[.string s] W fun e w' => TokB W (L, cd) e w') := fun W hW => by rw [← hLc, ← hsame]; exact implTokens s W (by omega) (HE.out.later hW) (max_below HMX.out hW)
    have CS : Hid (∀ W, Calls Tryd.prog 15 #[.string s] W fun e w' => TokB W (L, cd) e w') := fun W => by rw [← hLc]; exact specTokens s W (by omega)
    have CP : Hid (cd = 0 → ∀ W, Below w.heap.size w W → Calls Tryd.prog 12 #[.string (⟨#[60, 122, 122, 62]⟩ ++ s ++ ⟨#[60, 47, 122, 122, 62]⟩)] W fun e w' => TokB W (if L.length ≤ 2998 then (⟨1, vZ⟩ :: (L ++ [⟨2, vZ⟩]), 0) else ([], 3)) e w') := fun h W hW => by
      have := implTokens (⟨#[60, 122, 122, 62]⟩ ++ s ++ ⟨#[60, 47, 122, 122, 62]⟩) W (by rw [ByteArray.size_append, ByteArray.size_append]; show 4 + s.size + 5 ≤ _; omega) (HE.out.later hW) (max_below HMX.out hW)
      rw [show (⟨#[60, 122, 122, 62]⟩ ++ s ++ ⟨#[60, 47, 122, 122, 62]⟩ : ByteArray).data.toList = [60, 122, 122, 62] ++ s.data.toList ++ 60 :: zC by simp [zC], tokI_pair (by rw [hLc, h])] at this
      exact this
    clear hLc hmost hfault HCO hsame HDR BE0
    have hcc : ((cd : Int) != (cd : Int)) = false := by simp
    go_wp2_with fail
    refine (CI.out _ b0).mono ?_
    rintro e w1 ⟨v1, rfl, o1, b1⟩
    have B1 := b0.trans (b1.mono b0.size)
    have R1 : Hid (TokRow w1 v1 L) := TokRow.of_own' o1
    obtain ⟨lo, lc, rfl⟩ := R1.out.slice
    clear o1 b1 b0 CI
    go_wp2_with fail
    refine (CS.out _).mono ?_
    rintro e w2 ⟨v2, rfl, o2, b2⟩
    have B2 := B1.trans (b2.mono B1.size)
    have R2 : Hid (TokRow w2 (.slice lo L.length lc) L) := R1.out.below b2
    clear o2 b2 B1 R1 CS
    by_cases hc0 : cd = 0
    · subst hc0
      have CP2 := CP.out rfl
      clear CP HFT
      by_cases hm : L.length ≤ 2998
      · rw [if_pos hm] at CP2
        have CP3 : Hid (∀ W, Below w.heap.size w W → Calls Tryd.prog 12 #[.string (⟨#[60, 122, 122, 62]⟩ ++ s ++ ⟨#[60, 47, 122, 122, 62]⟩)] W fun e w' => TokB W (⟨1, vZ⟩ :: (L ++ [⟨2, vZ⟩]), 0) e w') := CP2
        obtain ⟨M, hM⟩ : ∃ M : List TV, ⟨1, vZ⟩ :: (L ++ [⟨2, vZ⟩]) = M := ⟨_, rfl⟩
        rw [hM] at CP3
        have hMl : M.length = L.length + 2 := by rw [← hM]; simp
        have HMat : Hid (∀ k, k < L.length → M.getD (k + 1) tv0 = L.getD k tv0) := fun k hk => by
          rw [← hM, List.getD_eq_getElem?_getD, List.getElem?_cons_succ, List.getElem?_append_left hk, List.getD_eq_getElem?_getD]
        have CBL : Hid (∀ v W, TokRow W v L → Calls Tryd.prog 13 #[v] W fun e w' => e = .returned (.bool (balL L)) ∧ Below W.heap.size W w') := fun v W h => implBalanced L v W (by omega) h
        have CBM : Hid (∀ v W, TokRow W v M → Calls Tryd.prog 13 #[v] W fun e w' => e = .returned (.bool (balL M)) ∧ Below W.heap.size W w') := fun v W h => implBalanced M v W (by omega) h
        have HBal : Hid (balL L = true → balL M = true) := fun h => by rw [← hM]; exact bal_pair h
        have hmi : ¬ 2998 < (L.length : Int) := by omega
        have HML : Hid (M.length = L.length + 2) := hMl
        have hM3 : M.length ≤ 3000 := by omega
        clear CP2 hM hMl
        go_wp2_with fail
        refine (CP3.out _ B2).mono ?_
        rintro e w3 ⟨v3, rfl, o3, b3⟩
        have B3 := B2.trans (b3.mono B2.size)
        have R3 : Hid (TokRow w3 (.slice lo L.length lc) L) := R2.out.below b3
        have S3 : Hid (TokRow w3 v3 M) := TokRow.of_own' o3
        obtain ⟨mo, mc, rfl⟩ := S3.out.slice
        clear o3 b3 B2 R2 CP3
        obtain ⟨g', off', mc', hv', hg', hc'⟩ : ∃ g off c, Value.slice mo M.length mc = .slice (some ⟨g, off, none⟩) M.length c ∧ g < w3.heap.size ∧ ∀ i, i < M.length → w3.cell? ⟨g, off + i * 2, none⟩ = some (.int .i64 (M.getD i tv0).k) ∧ w3.cell? ⟨g, off + i * 2 + 1, none⟩ = some (.string (M.getD i tv0).s) := by
          rcases S3.out with ⟨h, _⟩ | ⟨_, g, off, cc, h1, h2, h3⟩
          · have hMl := HML.out; rw [h] at hMl; simp at hMl
          · exact ⟨g, off, _, h1, h2, h3⟩
        cases hv'
        have HCM : Hid (∀ i, i < M.length → w3.cell? ⟨g', off' + i * 2, none⟩ = some (.int .i64 (M.getD i tv0).k) ∧ w3.cell? ⟨g', off' + i * 2 + 1, none⟩ = some (.string (M.getD i tv0).s)) := hc'
        clear hc'
        go_wp2_with fail
        go_loopw [10] (fun i wr => ∃ k : Nat, k ≤ L.length ∧ i = .int .i64 k ∧ Below w3.heap.size w3 wr) (fun i _ => L.length - (intOf i).toNat)
        case atStart => exact ⟨0, Nat.zero_le _, rfl, Below.refl _ _⟩
        case round =>
          obtain ⟨k, hk, rfl, hbel⟩ := hrel
          by_cases hlt : k < L.length
          · have hki : (k : Int) < L.length := by omega
            obtain ⟨g, off, lc', hv, hg, hc⟩ : ∃ g off c, Value.slice lo L.length lc = .slice (some ⟨g, off, none⟩) L.length c ∧ g < w3.heap.size ∧ ∀ i, i < L.length → w3.cell? ⟨g, off + i * 2, none⟩ = some (.int .i64 (L.getD i tv0).k) ∧ w3.cell? ⟨g, off + i * 2 + 1, none⟩ = some (.string (L.getD i tv0).s) := by
              rcases R3.out with ⟨h, _⟩ | ⟨_, g, off, cc, h1, h2, h3⟩
              · rw [h] at hlt; simp at hlt
              · exact ⟨g, off, _, h1, h2, h3⟩
            cases hv
            obtain ⟨c1, c2⟩ := hc k hlt
            obtain ⟨d1, d2⟩ := HCM.out (k + 1) (by have := HML.out; omega)
            rw [HMat.out k hlt] at d1 d2
            have c1w := (hbel.cell (p := ⟨g, off + k * 2, none⟩) hg).trans c1
            have c2w := (hbel.cell (p := ⟨g, off + k * 2 + 1, none⟩) hg).trans c2
            have d1w := (hbel.cell (p := ⟨g', off' + (k + 1) * 2, none⟩) hg').trans d1
            have d2w := (hbel.cell (p := ⟨g', off' + (k + 1) * 2 + 1, none⟩) hg').trans d2
            clear c1 c2 d1 d2
            generalize (L.getD k tv0).k = tk at *
            generalize (L.getD k tv0).s = ts at *
            clear hc
            have hge2 : (k : Int) + 1 < M.length := by have := HML.out; omega
            have hge : decide ((M.length : Int) ≤ (k : Int) + 1) = false := decide_eq_false (by omega)
            go_wp2_with fail
            go_quiet (fail)
            go_wp2_with fail
            go_roundw
            case rel => exact ⟨k + 1, by omega, by go_num, below_drewN hbel _⟩
            case measure => simp [intOf] <;> omega
          · have hki : ¬ (k : Int) < L.length := by omega
            have hml : ((M.length : Int) == (L.length : Int) + 2) = true := beq_iff_eq.2 (by have := HML.out; omega)
            have RL : Hid (TokRow wr (.slice lo L.length lc) L) := R3.out.below hbel
            have RM : Hid (TokRow wr (.slice (some ⟨g', off', none⟩) M.length mc) M) := S3.out.below hbel
            have BW := B3.trans (hbel.mono B3.size)
            cases hbL : balL L with
            | false =>
              rw [hbL] at CBL
              clear hbL
              go_wp2_with fail
              refine (CBL.out _ _ RL.out).mono ?_
              rintro e w4 ⟨rfl, b4⟩
              have B4 := BW.trans (b4.mono BW.size)
              clear b4
              go_wp2_with fail
              go_ret
              exact ⟨rfl, B4⟩
            | true =>
              have hbM := HBal.out hbL
              rw [hbL] at CBL
              rw [hbM] at CBM
              clear hbL hbM
              go_wp2_with fail
              refine (CBL.out _ _ RL.out).mono ?_
              rintro e w4 ⟨rfl, b4⟩
              have B4 := BW.trans (b4.mono BW.size)
              have RM4 : Hid (TokRow w4 (.slice (some ⟨g', off', none⟩) M.length mc) M) := RM.out.below b4
              clear b4
              go_wp2_with fail
              refine (CBM.out _ _ RM4.out).mono ?_
              rintro e w5 ⟨rfl, b5⟩
              have B5 := B4.trans (b5.mono B4.size)
              clear b5
              go_wp2_with fail
              go_ret
              exact ⟨rfl, B5⟩
      · rw [if_neg hm] at CP2
        have CP3 : Hid (∀ W, Below w.heap.size w W → Calls Tryd.prog 12 #[.string (⟨#[60, 122, 122, 62]⟩ ++ s ++ ⟨#[60, 47, 122, 122, 62]⟩)] W fun e w' => TokB W ([], 3) e w') := CP2
        have hmi : 2998 < (L.length : Int) := by omega
        clear CP2
        go_wp2_with fail
        refine (CP3.out _ B2).mono ?_
        rintro e w3 ⟨v3, rfl, o3, b3⟩
        have B3 := B2.trans (b3.mono B2.size)
        clear o3 b3
        go_wp2_with fail
        go_ret
        exact ⟨rfl, B3⟩
    · have hci : ((cd : Int) != 0) = true := bne_iff_ne.2 (by omega)
      obtain rfl := HFT.out hc0
      clear CP HFT hc0
      go_wp2_with fail
      go_ret
      exact ⟨rfl, B2⟩

set_option maxRecDepth 100000 in
theorem contract (H : Type) (enc : TypeId × Value → H) (W : World) (base : Nat) (args : Array Value) (ds gs : List (DataW H)) (before : List MemPlace)
    (hval : ∀ (j : Nat) t v, Tryd.f4.params[j]? = some t → args[j]? = some v → Value.okWide Tryd.prog W .any base t v)
    (hW : DataW.Whole enc Tryd.prog Tryd.f4.params.toList Rows.fnTokensSpec.vars false W args.toList ds gs before) (hL : laidMet Tryd.prog laidEsc3 W) (hSh : W.ShapedOpen Tryd.prog) :
    Calls Tryd.prog 4 args W fun e W' => ∃ v, e = .returned v ∧ Rows.fnTokensSpec.post enc Tryd.prog Tryd.f4 false true false false W args v W' := by
  have hW' := hW
  obtain ⟨p, q, hA0, hV, rfl, hfz, hnd⟩ := hW
  have hA : DataW.TrodAll enc Tryd.prog W 0 (fun _ => true) true Tryd.f4.params.toList args.toList ds p := hA0
  rw [Tryd.params4] at hA hval
  obtain ⟨v0, vs0, d0, ds0, p0, q0, hargs, rfl, rfl, h0, r0⟩ := trodAll_cons hA
  obtain ⟨rfl, rfl, rfl⟩ := trodAll_nil r0
  obtain rfl : args = #[v0] := by cases args; simp_all
  have hV2 : DataW.TrodVars enc Tryd.prog W (fun _ => true) ["loop.example/g00191/impl.escapes"] gs q := hV
  obtain ⟨g1, rfl⟩ := vars_one hV2
  obtain ⟨a0, len0, cap0, rfl⟩ := okWide_slice Tryd.underlying22 (hval 0 22 v0 rfl rfl)
  have k0 := h0
  have lt0 : ∀ x ∈ p0, x.block < W.heap.size := by obtain ⟨m, hm⟩ := k0; exact DataW.trod_lt m _ _ _ hm
  obtain ⟨z0, w0⟩ : ∃ zs, IsRow .u8 W a0 len0 cap0 zs := by
    obtain ⟨fuel, hf⟩ := h0
    rcases open_ints Tryd.underlying22 Tryd.underlying5 (by kernel_rfl) hf with ⟨hcs, _⟩ | ⟨x, l, c, zs, hcs, _, hl, hm, hz, _, hcell, hwz⟩
    · simp [Value.cells] at hcs
      obtain ⟨rfl, rfl, rfl⟩ := hcs
      exact ⟨[], .inl ⟨rfl, rfl, rfl, rfl⟩⟩
    · simp [Value.cells] at hcs
      obtain ⟨rfl, rfl, rfl⟩ := hcs
      exact ⟨zs, .inr ⟨_, rfl, hl, hm, by simpa using hz, hcell, hwz⟩⟩
  clear hA0
  refine (walk a0 len0 cap0 z0 W w0 (laid_esc3 hL) (max_shaped hSh)).mono fun e W' ⟨he, bel⟩ => ?_
  subst he
  exact ⟨_, rfl, _, _, _, [], _, _, hW', trodAll_mk1 (shut_bool Tryd.underlying4 _), (trodAll_cons_mk (Below.trod laidOutMarks (by kernel_rfl) (of_decide_eq_true (by kernel_rfl)) k0 bel lt0) trodAll_mk0), bel.trodVars laidOutMarks (by kernel_rfl) hV, bel.frame _, fun h => by cases h⟩

theorem witness_row (os : Os) {H : Type} (enc : TypeId × Value → H) :
    (OpenSpec.ofChange Rows.fnTokensSpec).preRow enc Tryd.prog Tryd.f4 Rows.fnTokensRow.domain false laidEsc3 (({ World.holding Tryd.prog os ⟨#[], #[], []⟩ with heap := esc3Heap (World.holding Tryd.prog os ⟨#[], #[], []⟩).heap } : World).forCall (fun _ _ => 0) ⟨#[], #[.slice none 0 0], []⟩).memory #[.slice none 0 0] := by
  have hw : (DataW.whole enc Tryd.prog (({ World.holding Tryd.prog os ⟨#[], #[], []⟩ with heap := esc3Heap (World.holding Tryd.prog os ⟨#[], #[], []⟩).heap } : World).forCall (fun _ _ => 0) ⟨#[], #[.slice none 0 0], []⟩).memory Tryd.f4.params.toList Rows.fnTokensSpec.vars false (#[.slice none 0 0] : Array Value).toList 8).map (fun x => (x.1, x.2.1)) =
      some ([.nil], [Rows.laid_loop_example_g00191_impl_escapes]) := by kernel_rfl
  obtain ⟨⟨x1, x2, x3⟩, hx, hx1⟩ := Option.map_eq_some_iff.1 hw
  simp only [Prod.mk.injEq] at hx1
  obtain ⟨rfl, rfl⟩ := hx1
  exact OpenSpec.preRow_of_cond 8 hx (by kernel_rfl) (fun k hk => by cases hk) (by kernel_rfl) (esc3_met os _)

set_option maxRecDepth 100000 in
set_option maxHeartbeats 2000000 in
theorem lifted (os : Os) (started : os.Started) (H : Type) (enc : TypeId × Value → H) (F : Stop.Interp) :
    ReturnsInHanded {} Tryd.checked os 4 .any ((OpenSpec.ofChange Rows.fnTokensSpec).preRow enc Tryd.prog Tryd.f4 Rows.fnTokensRow.domain false laidEsc3) (((OpenSpec.ofChange Rows.fnTokensSpec).at F).post enc Tryd.prog Tryd.f4 false true false false) := by
  refine returnsInHanded_of_row (C := Tryd.checked) (s := OpenSpec.ofChange Rows.fnTokensSpec) ownMarks started (by kernel_rfl) Tryd.func4
    (witness_row_atRef (enc := enc) (C := Tryd.checked) false ({ World.holding Tryd.prog os ⟨#[], #[], []⟩ with heap := esc3Heap (World.holding Tryd.prog os ⟨#[], #[], []⟩).heap }) #[.slice none 0 0] rfl (by kernel_rfl) (by kernel_rfl) (by kernel_rfl) (witness_row os enc)) ?_
  intro W base args ds gs before hval hW _ _ _ hL hSh _
  exact contract H enc W base args ds gs before hval hW hL hSh

theorem said : Rows.FnTokensSaid :=
  OpenClaim.holds_of_cond 4 Tryd.f4 rfl rfl rfl rfl rfl rfl rfl ⟨rfl, rfl, rfl, rfl, rfl⟩ rfl rfl rfl rfl rfl (by kernel_rfl) Tryd.func4 (by kernel_rfl)
    (of_decide_eq_true (by kernel_rfl)) (by unfold Func.isWrapper; first | (rw [if_pos (by decide +kernel)]; kernel_rfl) | (rw [if_neg (by decide +kernel)]; exact ⟨rfl, rfl⟩))
    (fun os started H enc _ F => by rw [OpenClaim.pre_eq_preRow]; exact lifted os started H enc F)

theorem plain (f : FuncId) (fn : Func) (hf : Tryd.pinned.checked.prog.funcNamed "loop.example/g00191/laws.FnTokens" = some f) (hfn : Tryd.pinned.checked.prog.funcs[f]? = some fn) :
    false = Tryd.pinned.checked.prog.looks [] ∧ ∀ (j : Nat) t, fn.params[j]? = some t → Tryd.pinned.checked.prog.wantsStandIn t = false := by
  obtain rfl : f = 4 := Option.some.inj ((show Tryd.prog.funcNamed "loop.example/g00191/laws.FnTokens" = some 4 by kernel_rfl).symm.trans hf) |>.symm
  obtain rfl : fn = Tryd.f4 := (Option.some.inj (Tryd.func4.symm.trans hfn)).symm
  refine ⟨by kernel_rfl, fun j t ht => ?_⟩
  rw [Tryd.params4] at ht
  obtain rfl : t = 22 := by simpa using Array.mem_of_getElem? ht
  exact (show Tryd.prog.wantsStandIn 22 = false by kernel_rfl)

theorem card : Rows.FnTokensCardSaid :=
  Claim7.holds_tied_plain_at .later [] _ _ _ _ said (fun _ h => by cases h) (by kernel_rfl) (fun _ h => by cases h) fnTokens_row_tie rfl ⟨rfl, rfl⟩ (by kernel_rfl) rfl plain (by kernel_rfl)
end Go.Proofs.YtjdmmmohaiiocaaDoor.fnTokens

namespace Go.Proofs.YtjdmmmohaiiocaaDoor
theorem fnTokens_holds : Rows.FnTokensCardSaid := fnTokens.card
#print axioms fnTokens_holds
end Go.Proofs.YtjdmmmohaiiocaaDoor
