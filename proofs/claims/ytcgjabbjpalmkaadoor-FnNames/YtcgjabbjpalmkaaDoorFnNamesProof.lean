/- Proved: laws.FnNames answers true at every code and leaves it as it was, package utf8's two tables being as their text lays them; no condition. -/
import Derived.Test.YtcgjabbjpalmkaaDoorRows
import Derived.Test.YtcgjabbjpalmkaaDoorCards
import Derived.Test.YtcgjabbjpalmkaaDoorTie
import Derived.Test.YtcgjabbjpalmkaaDoorLaidBase
import Derived.Test.YtcgjabbjpalmkaaDoorNameImpl
import Derived.Test.YtcgjabbjpalmkaaDoorNamesBack
import Derived.Test.YtcgjabbjpalmkaaDoorDraw4Walk
import Derived.OpenShut
import Derived.ShutString
namespace Go.Proofs.YtcgjabbjpalmkaaDoor.fnNames
open Go.ChangeShapes Go.WideShapes Go.ChangeAt Go.RowKit
open Go.ChangeMaps (open_string shut_string)
set_option linter.unusedVariables false

def IsRow (k : IntKind) (w : World) (a : Option Addr) (len cap : Nat) (zs : List Int) : Prop :=
  (a = none ∧ len = 0 ∧ cap = 0 ∧ zs = []) ∨
  ∃ x, a = some x ∧ len ≤ cap ∧ cap ≤ maxLen ∧ zs.length = cap ∧ (∀ i, i < zs.length → w.cell? (x.add i) = some (.int k (zs.getD i 0))) ∧ ∀ n ∈ zs, (Lit.int k n).wf = true

theorem laidOut : laidOutB Tryd.prog = true := by kernel_rfl

theorem walk (a0 : Option Addr) (len0 cap0 : Nat) (z0 : List Int) (w : World) (w0 : IsRow .u8 w a0 len0 cap0 z0) (hT : Lib.Utf8Tabs 0 1 w) :
    Calls Tryd.prog 4 #[.slice a0 len0 cap0] w fun e w' => e = .returned (.bool true) ∧ Below w.heap.size w w' := by
  by_cases hbig : 1048576 < (len0 : Int)
  · go_enter Tryd.func4, Tryd.ntmps4
    go_wp2_with fail
    refine (big_yes _ _ _ _ hbig).mono ?_
    rintro e w' ⟨rfl, rfl⟩
    go_wp2
    go_ret
    exact ⟨rfl, Below.refl _ _⟩
  · have hl : len0 ≤ 1048576 := by omega
    have hcode : CodeRow w.heap.size w a0 len0 := by
      rcases w0 with ⟨rfl, rfl, rfl, rfl⟩ | ⟨x, rfl, h1, h2, h3, h4, h5⟩
      · exact .inl rfl
      · by_cases h0 : len0 = 0
        · exact .inl h0
        · obtain ⟨b, off, rfl, hc⟩ := ints_at h4 (by omega)
          refine .inr ⟨b, off, rfl, World.block_lt_of_cell? w ⟨b, off + 0, none⟩ (hc 0 (by omega)), fun i hi => ?_⟩
          refine ⟨_, hc i (by omega), ?_⟩
          have hb := bounds_u8 (h5 (z0.getD i 0) (by
            rw [List.getD_eq_getElem?_getD, List.getElem?_eq_getElem (by omega)]
            exact List.getElem_mem _))
          exact hb
    have HT : Hid (Lib.Utf8Tabs 0 1 w) := hT
    clear w0 hT
    have HCO : Hid (CodeRow w.heap.size w a0 len0) := hcode
    clear hcode
    go_enter Tryd.func4, Tryd.ntmps4
    go_wp2_with fail
    refine (big_no _ _ _ _ (by omega)).mono ?_
    rintro e w' ⟨rfl, rfl⟩
    go_wp2_with fail
    refine (drawNameOf _ _ _ _ hl HCO.out).mono ?_
    rintro e wa ⟨s, hs, rfl, ba⟩
    have za := ba.size
    have CI : Hid (∀ W, Lib.Utf8Tabs 0 1 W → Calls Tryd.prog 15 #[.string s] W fun e w' => e = .returned (ansS (nameL s)) ∧ Below W.heap.size W w') := fun W h => implNameOf s W (by omega) h
    have CS : Hid (∀ W, Calls Tryd.prog 16 #[.string s] W fun e w' => e = .returned (ansS (nameL s)) ∧ Below W.heap.size W w') := fun W => specNameOf s W (by omega)
    cases hn : nameL s with
    | none =>
      rw [hn] at CI CS
      unfold ansS at CI CS
      clear hn
      go_wp2_with fail
      refine (CI.out _ (tabs_below HT.out ba)).mono ?_
      rintro e wb ⟨rfl, bb⟩
      have Bb : Below w.heap.size w wb := ba.trans (bb.mono za)
      clear ba bb
      go_wp2_with fail
      refine (CS.out _).mono ?_
      rintro e wc ⟨rfl, bc⟩
      have Bc : Below w.heap.size w wc := Bb.trans (bc.mono Bb.size)
      clear Bb bc
      go_wp2
      go_ret
      exact ⟨rfl, Bc⟩
    | some n =>
      obtain ⟨ls, hne, hll, hnl, hlab, hnj, hnn, hpp, hn0⟩ := name_back hn
      rw [hn] at CI CS
      unfold ansS at CI CS
      clear hn
      obtain ⟨N, hN⟩ : ∃ N : ByteArray, N = ⟨n.toArray⟩ := ⟨_, rfl⟩
      have hNs : N.size = n.length := by rw [hN]; exact List.size_toArray
      have HNd : Hid (N.data.toList = n) := by show _ = _; rw [hN]
      simp only [← hN] at CI CS
      rw [← hN] at hnn hpp
      have CN : Hid (∀ W, Lib.Utf8Tabs 0 1 W → Calls Tryd.prog 15 #[.string N] W fun e w' => e = .returned (.tuple #[.string N, .bool true]) ∧ Below W.heap.size W w') := fun W h => by
        have h2 := implNameOf N W (by omega) h
        rw [hnn] at h2
        unfold ansS at h2
        simp only [← hN] at h2
        exact h2
      have CP : Hid (∀ W, Calls Tryd.prog 17 #[.string N] W fun e w' => ∃ v, e = .returned v ∧ w'.ownsRow W.heap.size 9 1 v ls.length (scells ls.reverse) ∧ Below W.heap.size W w') := fun W => by
        have h2 := implParts N W (by omega)
        rw [hpp, List.length_reverse] at h2
        exact h2
      have CQ : Hid (∀ W, Calls Tryd.prog 17 #[.string ⟨#[]⟩] W fun e w' => ∃ v, e = .returned v ∧ w'.ownsRow W.heap.size 9 1 v 0 [] ∧ Below W.heap.size W w') := fun W => implParts ⟨#[]⟩ W (by decide)
      have hlp : 0 < ls.length := by
        apply Nat.pos_of_ne_zero
        intro h
        exact hne (List.eq_nil_of_length_eq_zero h)
      have HLB : Hid (∀ a ∈ ls, labL a.data.toList = true ∧ a.size ≤ 63) := hlab
      have HNJ : Hid (N.data.toList = jn 46 ls) := HNd.out.trans hnj
      have hNb : (N.size : Int) ≤ 253 := by omega
      have hst := str_eq (rfl : N = N)
      clear hnj hlab hnn hpp hN hNs hne hn0 hnl HNd
      go_wp2_with fail
      refine (CI.out _ (tabs_below HT.out ba)).mono ?_
      rintro e wb ⟨rfl, bb⟩
      have Bb : Below w.heap.size w wb := ba.trans (bb.mono za)
      have Zb := Bb.size
      clear ba bb
      go_wp2_with fail
      refine (CS.out _).mono ?_
      rintro e wc ⟨rfl, bc⟩
      have Bc : Below w.heap.size w wc := Bb.trans (bc.mono Zb)
      have Zc := Bc.size
      clear Bb bc
      go_wp2_with fail
      refine (CN.out _ (tabs_below HT.out Bc)).mono ?_
      rintro e wd ⟨rfl, bd⟩
      have Bd : Below w.heap.size w wd := Bc.trans (bd.mono Zc)
      have Zd := Bd.size
      clear Bc bd
      go_wp2_with fail
      refine (CP.out _).mono ?_
      rintro e we ⟨ve, rfl, oe, be⟩
      have Be : Below w.heap.size w we := Bd.trans (be.mono Zd)
      have Ze := Be.size
      clear Bd be
      rcases own_shape oe with ⟨h, _⟩ | ⟨_, g, cp, rfl⟩
      · omega
      · have HC : Hid (∀ j, j < ls.length → we.cell? ⟨g, j, none⟩ = some (.string (ls.reverse.getD j ByteArray.empty))) := fun j hj => scell_at oe j hj
        have HNL : Hid (N.data.toList = jn 46 ls) := HNJ.out
        clear oe
        go_wp2_with fail
        go_loop [11, 12] (fun t i => ∃ (k : Nat) (z : ByteArray), k ≤ ls.length ∧ i = .int .i64 k ∧ t = .string z ∧ z.data.toList = jn 46 (ls.drop (ls.length - k)) ∧ z.size ≤ 64 * k) (fun _ i => ls.length - (intOf i).toNat)
        case atStart => exact ⟨0, ⟨#[]⟩, Nat.zero_le _, rfl, rfl, by rw [Nat.sub_zero, List.drop_length]; rfl, by decide⟩
        case round =>
          obtain ⟨k, z, hk, rfl, rfl, hz, hzs⟩ := hrel
          have HZ : Hid (z.data.toList = jn 46 (ls.drop (ls.length - k))) := hz
          clear hz
          by_cases hlt : k < ls.length
          · have hc := HC.out k hlt
            have HJP := jn_part ls k hlt
            have hmem : ls.reverse.getD k ByteArray.empty ∈ ls := by
              have h2 : k < ls.reverse.length := by rw [List.length_reverse]; exact hlt
              rw [List.getD_eq_getElem?_getD, List.getElem?_eq_getElem h2]
              exact List.mem_reverse.1 (List.getElem_mem h2)
            obtain ⟨hlb, hy⟩ := HLB.out _ hmem
            clear hmem
            generalize ls.reverse.getD k ByteArray.empty = y at hc HJP hlb hy
            have CL : Hid (∀ W, Calls Tryd.prog 13 #[.string y] W fun e w' => e = .returned (.bool true) ∧ W = w') := fun W => by
              have h2 := implLabelOk y W (by unfold maxLen; omega)
              rw [hlb] at h2
              exact h2
            have hkl : (k : Int) < ls.length := by omega
            clear hlb
            by_cases h0 : 0 < k
            · rw [if_pos h0] at HJP
              have h0' : 0 < (k : Int) := by omega
              have HJ : Hid ((y ++ ((⟨#[46]⟩ : ByteArray) ++ z)).data.toList = jn 46 (ls.drop (ls.length - (k + 1)))) := by
                show _ = _
                rw [HJP, ← HZ.out]
                simp
              have hd1 : (⟨#[46]⟩ : ByteArray).size = 1 := rfl
              have hzz : (y ++ ((⟨#[46]⟩ : ByteArray) ++ z)).size ≤ 64 * (k + 1) := by
                rw [ByteArray.size_append, ByteArray.size_append, hd1]; omega
              clear HJP
              go_wp2_with fail
              refine (CL.out _).mono ?_
              rintro e w' ⟨rfl, rfl⟩
              go_wp2_with fail
              go_round
              case rel => exact ⟨k + 1, _, by omega, by go_num, rfl, HJ.out, hzz⟩
              case measure => simp [intOf]; omega
            · rw [if_neg h0] at HJP
              have h00 : k = 0 := by omega
              subst h00
              have hz0 : z = ⟨#[]⟩ := by
                rw [← arr_data z, HZ.out, Nat.sub_zero, List.drop_length]
                rfl
              subst hz0
              have HJ : Hid ((y ++ (⟨#[]⟩ : ByteArray)).data.toList = jn 46 (ls.drop (ls.length - (0 + 1)))) := by
                show _ = _
                rw [HJP]
                simp
              have hzz : (y ++ (⟨#[]⟩ : ByteArray)).size ≤ 64 * (0 + 1) := by
                rw [ByteArray.size_append]
                have hd0 : (⟨#[]⟩ : ByteArray).size = 0 := rfl
                omega
              clear HJP
              go_wp2_with fail
              refine (CL.out _).mono ?_
              rintro e w' ⟨rfl, rfl⟩
              go_wp2_with fail
              go_round
              case rel => exact ⟨0 + 1, _, by omega, by go_num, rfl, HJ.out, hzz⟩
              case measure => simp [intOf]; omega
          · have hks : k = ls.length := by omega
            subst hks
            have hzN : z = N := data_inj (by
              rw [HZ.out, Nat.sub_self, List.drop_zero]
              exact HNL.out.symm)
            subst hzN
            clear hzs
            go_wp2_with fail
            refine (CQ.out _).mono ?_
            rintro e wf ⟨vf, rfl, of, bf⟩
            have Bf : Below w.heap.size w wf := Be.trans (bf.mono Ze)
            clear Be bf
            rcases own_shape of with ⟨_, _, ao, cf, rfl⟩ | ⟨h, _⟩
            · clear of
              go_wp2
              go_ret
              exact ⟨rfl, Bf⟩
            · omega

set_option maxRecDepth 100000 in
theorem contract (H : Type) (enc : TypeId × Value → H) (W : World) (base : Nat) (args : Array Value) (ds gs : List (DataW H)) (before : List MemPlace)
    (hval : ∀ (j : Nat) t v, Tryd.f4.params[j]? = some t → args[j]? = some v → Value.okWide Tryd.prog W .any base t v)
    (hW : DataW.Whole enc Tryd.prog Tryd.f4.params.toList Rows.fnNamesSpec.vars false W args.toList ds gs before) (hL : laidMet Tryd.prog laidTwo W) :
    Calls Tryd.prog 4 args W fun e W' => ∃ v, e = .returned v ∧ Rows.fnNamesSpec.post enc Tryd.prog Tryd.f4 false true false false W args v W' := by
  have hW' := hW
  obtain ⟨p, q, hA0, hV, rfl, hfz, hnd⟩ := hW
  have hA : DataW.TrodAll enc Tryd.prog W 0 (fun _ => true) true Tryd.f4.params.toList args.toList ds p := hA0
  rw [Tryd.params4] at hA hval
  obtain ⟨v0, vs0, d0, ds0, p0, q0, hargs, rfl, rfl, h0, r0⟩ := trodAll_cons hA
  obtain ⟨rfl, rfl, rfl⟩ := trodAll_nil r0
  obtain rfl : args = #[v0] := by cases args; simp_all
  obtain ⟨rfl, rfl⟩ := trodVars_none hV
  obtain ⟨a0, len0, cap0, rfl⟩ := okWide_slice Tryd.underlying22 (hval 0 22 v0 rfl rfl)
  have k0 := h0
  have lt0 : ∀ x ∈ p0, x.block < W.heap.size := by obtain ⟨m, hm⟩ := k0; exact DataW.trod_lt m _ _ _ hm
  obtain ⟨z0, w0⟩ : ∃ zs, IsRow .u8 W a0 len0 cap0 zs := by
    obtain ⟨fuel, hf⟩ := h0
    rcases open_ints Tryd.underlying22 Tryd.underlying5 (by kernel_rfl) hf with ⟨hcs, _⟩ | ⟨x, l, c, zs, hcs, _, hl, hm, hz, _, hcell, hwz⟩
    · simp [Value.cells] at hcs
      obtain ⟨rfl, rfl, rfl⟩ := hcs
      exact ⟨[], .inl ⟨rfl, rfl, rfl, rfl⟩⟩
    · simp [Value.cells] at hcs
      obtain ⟨rfl, rfl, rfl⟩ := hcs
      exact ⟨zs, .inr ⟨_, rfl, hl, hm, by simpa using hz, hcell, hwz⟩⟩
  clear hA0
  refine (walk a0 len0 cap0 z0 W w0 (tabs hL)).mono fun e W' ⟨he, bel⟩ => ?_
  subst he
  exact ⟨_, rfl, _, _, _, [], _, [], hW', trodAll_mk1 (shut_bool Tryd.underlying4 _), (trodAll_cons_mk (Below.trod laidOut (by kernel_rfl) (of_decide_eq_true (by kernel_rfl)) k0 bel lt0) trodAll_mk0), rfl, bel.frame _, fun h => by cases h⟩

theorem witness_row (os : Os) {H : Type} (enc : TypeId × Value → H) :
    (OpenSpec.ofChange Rows.fnNamesSpec).preRow enc Tryd.prog Tryd.f4 Rows.fnNamesRow.domain false laidTwo (({ World.holding Tryd.prog os ⟨#[], #[], []⟩ with heap := laidHeap (World.holding Tryd.prog os ⟨#[], #[], []⟩).heap } : World).forCall (fun _ _ => 0) ⟨#[], #[.slice none 0 0], []⟩).memory #[.slice none 0 0] := by
  have hw : (DataW.whole enc Tryd.prog (({ World.holding Tryd.prog os ⟨#[], #[], []⟩ with heap := laidHeap (World.holding Tryd.prog os ⟨#[], #[], []⟩).heap } : World).forCall (fun _ _ => 0) ⟨#[], #[.slice none 0 0], []⟩).memory Tryd.f4.params.toList Rows.fnNamesSpec.vars false (#[.slice none 0 0] : Array Value).toList 8).map (fun x => (x.1, x.2.1)) =
      some ([.nil], []) := by kernel_rfl
  obtain ⟨⟨x1, x2, x3⟩, hx, hx1⟩ := Option.map_eq_some_iff.1 hw
  simp only [Prod.mk.injEq] at hx1
  obtain ⟨rfl, rfl⟩ := hx1
  exact OpenSpec.preRow_of_cond 8 hx (by kernel_rfl) (fun k hk => by cases hk) (by kernel_rfl) (laid_met os _)

set_option maxRecDepth 100000 in
set_option maxHeartbeats 2000000 in
theorem lifted (os : Os) (started : os.Started) (H : Type) (enc : TypeId × Value → H) (F : Stop.Interp) :
    ReturnsInHanded {} Tryd.checked os 4 .any ((OpenSpec.ofChange Rows.fnNamesSpec).preRow enc Tryd.prog Tryd.f4 Rows.fnNamesRow.domain false laidTwo) (((OpenSpec.ofChange Rows.fnNamesSpec).at F).post enc Tryd.prog Tryd.f4 false true false false) := by
  refine returnsInHanded_of_row (C := Tryd.checked) (s := OpenSpec.ofChange Rows.fnNamesSpec) own started (by kernel_rfl) Tryd.func4
    (witness_row_atRef (enc := enc) (C := Tryd.checked) false ({ World.holding Tryd.prog os ⟨#[], #[], []⟩ with heap := laidHeap (World.holding Tryd.prog os ⟨#[], #[], []⟩).heap }) #[.slice none 0 0] rfl (by kernel_rfl) (by kernel_rfl) (by kernel_rfl) (witness_row os enc)) ?_
  intro W base args ds gs before hval hW _ _ _ hL _ _
  exact contract H enc W base args ds gs before hval hW hL

theorem said : Rows.FnNamesSaid :=
  OpenClaim.holds_of_cond 4 Tryd.f4 rfl rfl rfl rfl rfl rfl rfl ⟨rfl, rfl, rfl, rfl, rfl⟩ rfl rfl rfl rfl rfl (by kernel_rfl) Tryd.func4 (by kernel_rfl)
    (of_decide_eq_true (by kernel_rfl)) (by unfold Func.isWrapper; first | (rw [if_pos (by decide +kernel)]; kernel_rfl) | (rw [if_neg (by decide +kernel)]; exact ⟨rfl, rfl⟩))
    (fun os started H enc _ F => by rw [OpenClaim.pre_eq_preRow]; exact lifted os started H enc F)

theorem plain (f : FuncId) (fn : Func) (hf : Tryd.pinned.checked.prog.funcNamed "loop.example/g00191/laws.FnNames" = some f) (hfn : Tryd.pinned.checked.prog.funcs[f]? = some fn) :
    false = Tryd.pinned.checked.prog.looks [] ∧ ∀ (j : Nat) t, fn.params[j]? = some t → Tryd.pinned.checked.prog.wantsStandIn t = false := by
  obtain rfl : f = 4 := Option.some.inj ((show Tryd.prog.funcNamed "loop.example/g00191/laws.FnNames" = some 4 by kernel_rfl).symm.trans hf) |>.symm
  obtain rfl : fn = Tryd.f4 := (Option.some.inj (Tryd.func4.symm.trans hfn)).symm
  refine ⟨by kernel_rfl, fun j t ht => ?_⟩
  rw [Tryd.params4] at ht
  obtain rfl : t = 22 := by simpa using Array.mem_of_getElem? ht
  exact (show Tryd.prog.wantsStandIn 22 = false by kernel_rfl)

theorem card : Rows.FnNamesCardSaid :=
  Claim7.holds_tied_plain_at .later [] _ _ _ _ said (fun _ h => by cases h) (by kernel_rfl) (fun _ h => by cases h) fnNames_row_tie rfl ⟨rfl, rfl⟩ (by kernel_rfl) rfl plain (by kernel_rfl)
end Go.Proofs.YtcgjabbjpalmkaaDoor.fnNames

namespace Go.Proofs.YtcgjabbjpalmkaaDoor
theorem fnNames_holds : Rows.FnNamesCardSaid := fnNames.card
#print axioms fnNames_holds
end Go.Proofs.YtcgjabbjpalmkaaDoor
