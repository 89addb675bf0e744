/- Proved: laws.FnRunes answers true at every code and leaves it as it was, package utf8's two tables being as their text lays them; no condition. -/
import Derived.Test.YtokkcbjhkepjnaaDoorRows
import Derived.Test.YtokkcbjhkepjnaaDoorCards
import Derived.Test.YtokkcbjhkepjnaaDoorTie
import Derived.Test.YtokkcbjhkepjnaaDoorLaidBase
import Derived.Test.YtokkcbjhkepjnaaDoorRunesBack
import Derived.Test.YtokkcbjhkepjnaaDoorRunesWalk
import Derived.Test.YtokkcbjhkepjnaaDoorDraw1Walk
import Derived.OpenShut
import Derived.ShutString
namespace Go.Proofs.YtokkcbjhkepjnaaDoor.fnRunes
open Go.ChangeShapes Go.WideShapes Go.ChangeAt Go.RowKit
open Go.ChangeMaps (open_string shut_string)
set_option linter.unusedVariables false

def IsRow (k : IntKind) (w : World) (a : Option Addr) (len cap : Nat) (zs : List Int) : Prop :=
  (a = none ∧ len = 0 ∧ cap = 0 ∧ zs = []) ∨
  ∃ x, a = some x ∧ len ≤ cap ∧ cap ≤ maxLen ∧ zs.length = cap ∧ (∀ i, i < zs.length → w.cell? (x.add i) = some (.int k (zs.getD i 0))) ∧ ∀ n ∈ zs, (Lit.int k n).wf = true

theorem laidOut : laidOutB Tryd.prog = true := by kernel_rfl

theorem walk (a0 : Option Addr) (len0 cap0 : Nat) (z0 : List Int) (w : World) (w0 : IsRow .u8 w a0 len0 cap0 z0) (hT : Lib.Utf8Tabs 1 2 w) :
    Calls Tryd.prog 3 #[.slice a0 len0 cap0] w fun e w' => e = .returned (.bool true) ∧ Below w.heap.size w w' := by
  by_cases hbig : 1048576 < (len0 : Int)
  · go_enter Tryd.func3, Tryd.ntmps3
    go_wp2_with fail
    refine (big_yes _ _ _ _ hbig).mono ?_
    rintro e w' ⟨rfl, rfl⟩
    go_wp2
    go_ret
    exact ⟨rfl, Below.refl _ _⟩
  · have hl : len0 ≤ 1048576 := by omega
    have hcode : CodeRow w.heap.size w a0 len0 := by
      rcases w0 with ⟨rfl, rfl, rfl, rfl⟩ | ⟨x, rfl, h1, h2, h3, h4, h5⟩
      · exact .inl rfl
      · by_cases h0 : len0 = 0
        · exact .inl h0
        · obtain ⟨b, off, rfl, hc⟩ := ints_at h4 (by omega)
          refine .inr ⟨b, off, rfl, World.block_lt_of_cell? w ⟨b, off + 0, none⟩ (hc 0 (by omega)), fun i hi => ?_⟩
          refine ⟨_, hc i (by omega), ?_⟩
          have hb := bounds_u8 (h5 (z0.getD i 0) (by
            rw [List.getD_eq_getElem?_getD, List.getElem?_eq_getElem (by omega)]
            exact List.getElem_mem _))
          exact hb
    clear w0
    go_enter Tryd.func3, Tryd.ntmps3
    go_wp2_with fail
    refine (big_no _ _ _ _ (by omega)).mono ?_
    rintro e w' ⟨rfl, rfl⟩
    go_wp2_with fail
    refine (drawPutRunes _ _ _ _ hl hcode).mono ?_
    rintro e wa ⟨v, zl, hzl, rfl, oa, ba⟩
    have za := ba.size
    by_cases hok : allOk zl
    · go_wp2_with fail
      refine (implPutRunes_ok zl _ _ _ _ (by omega) hok oa).mono ?_
      rintro e wb ⟨rfl, bb⟩
      have zb := bb.size
      have oa2 := own_below oa bb
      go_wp2_with fail
      refine (specPutRunes_ok zl _ _ _ _ (by omega) hok oa2).mono ?_
      rintro e wc ⟨rfl, bc⟩
      have zc := bc.size
      have Bc : Below w.heap.size w wc := (ba.trans (bb.mono (by omega))).trans (bc.mono (by omega))
      have ol0 := own_below oa2 bc
      have hsz : (⟨(encAll zl).toArray⟩ : ByteArray).size ≤ 1048576 := by
        have := encAll_le zl
        simp only [ByteArray.size, List.size_toArray]
        omega
      have hfin := fin_put zl hok
      go_wp2_with fail
      refine (implRunes _ _ hsz (tabs_below hT Bc)).mono ?_
      rintro e we he
      replace he : ∃ v, e = .returned (.tuple #[v, .bool true]) ∧ we.ownsRow wc.heap.size 3 1 v zl.length (icells zl) ∧ Below wc.heap.size wc we := by
        rcases he with ⟨hx, r⟩ | ⟨hx, r⟩
        · rw [hfin] at r; exact r
        · rw [hfin] at hx; exact absurd rfl hx
      obtain ⟨vx, rfl, ox, be⟩ := he
      have ze := be.size
      have Be : Below w.heap.size w we := Bc.trans (be.mono (by omega))
      have ol := own_below ol0 be
      go_wp2_with fail
      refine (drawRunes _ _ _ _ hl (hcode.later Be)).mono ?_
      rintro e wf ⟨t, ht, rfl, bf⟩
      have zf := bf.size
      have Bf : Below w.heap.size w wf := Be.trans (bf.mono (by omega))
      have CS : Hid (t.size ≤ 5000) := ht
      go_wp2_with fail
      refine (implRunes t _ (by omega) (tabs_below hT Bf)).mono ?_
      rintro e wg hg
      by_cases hgood : (finR t).1 = t.size
      · replace hg : ∃ v, e = .returned (.tuple #[v, .bool true]) ∧ wg.ownsRow wf.heap.size 3 1 v (finR t).2.length (icells (finR t).2) ∧ Below wf.heap.size wf wg := by
          rcases hg with ⟨hx, r⟩ | ⟨hx, r⟩
          · exact r
          · exact absurd hgood hx
        cases hasc : asciiB t.data.toList with
        | true =>
          obtain ⟨vy, rfl, oy, by_⟩ := hg
          have zg := by_.size
          have Bg : Below w.heap.size w wg := Bf.trans (by_.mono (by omega))
          obtain ⟨hyok, hyback⟩ := fin_back t hgood
          have hylen : (finR t).2.length ≤ 5000 := by
            have h1 := stR_len' t t.size
            have h2 := stR_le t t.size
            unfold finR
            omega
          go_wp2_with fail
          refine (implPutRunes_ok (finR t).2 _ _ _ _ (by omega) hyok oy).mono ?_
          rintro e wh ⟨rfl, bh⟩
          have hteq : (⟨(encAll (finR t).2).toArray⟩ : ByteArray) = t := by rw [hyback]
          rw [hteq]
          have Bh : Below w.heap.size w wh := Bg.trans (bh.mono (by omega))
          have ox2 := own_below (own_below (own_below ox bf) by_) bh
          have ol2 := own_below (own_below (own_below ol bf) by_) bh
          clear CS hcode
          go_wp2_with fail
          refine (sameInts zl _ _ _ _ _ _ (by omega) ox2 ol2).mono ?_
          rintro e wi ⟨rfl, bi⟩
          have zh := Bh.size
          have Bi : Below w.heap.size w wi := Bh.trans (bi.mono (by omega))
          go_wp2_with fail
          refine (implAscii t _ (by unfold maxLen; omega)).mono ?_
          rw [hasc]
          rintro e wj ⟨rfl, rfl⟩
          go_wp2_with fail
          go_ret
          exact ⟨rfl, Bi⟩
        | false =>
          obtain ⟨vy, rfl, oy, by_⟩ := hg
          have zg := by_.size
          have Bg : Below w.heap.size w wg := Bf.trans (by_.mono (by omega))
          obtain ⟨hyok, hyback⟩ := fin_back t hgood
          have hylen : (finR t).2.length ≤ 5000 := by
            have h1 := stR_len' t t.size
            have h2 := stR_le t t.size
            unfold finR
            omega
          go_wp2_with fail
          refine (implPutRunes_ok (finR t).2 _ _ _ _ (by omega) hyok oy).mono ?_
          rintro e wh ⟨rfl, bh⟩
          have hteq : (⟨(encAll (finR t).2).toArray⟩ : ByteArray) = t := by rw [hyback]
          rw [hteq]
          have Bh : Below w.heap.size w wh := Bg.trans (bh.mono (by omega))
          have ox2 := own_below (own_below (own_below ox bf) by_) bh
          have ol2 := own_below (own_below (own_below ol bf) by_) bh
          clear CS hcode
          go_wp2_with fail
          refine (sameInts zl _ _ _ _ _ _ (by omega) ox2 ol2).mono ?_
          rintro e wi ⟨rfl, bi⟩
          have zh := Bh.size
          have Bi : Below w.heap.size w wi := Bh.trans (bi.mono (by omega))
          go_wp2_with fail
          refine (implAscii t _ (by unfold maxLen; omega)).mono ?_
          rw [hasc]
          rintro e wj ⟨rfl, rfl⟩
          go_wp2_with fail
          refine (implAscii t _ (by unfold maxLen; omega)).mono ?_
          rw [hasc]
          rintro e wj ⟨rfl, rfl⟩
          go_wp2_with fail
          go_ret
          exact ⟨rfl, Bi⟩
      · replace hg : ∃ v, e = .returned (.tuple #[v, .bool false]) ∧ wg.ownsRow wf.heap.size 3 1 v 0 (icells []) ∧ Below wf.heap.size wf wg := by
          rcases hg with ⟨hx, r⟩ | ⟨hx, r⟩
          · exact absurd hx hgood
          · exact r
        have hasc : asciiB t.data.toList = false := by
          cases h : asciiB t.data.toList with
          | false => rfl
          | true => exact absurd (ascii_fin t h) hgood
        obtain ⟨vy, rfl, oy, by_⟩ := hg
        have zg := by_.size
        have Bg : Below w.heap.size w wg := Bf.trans (by_.mono (by omega))
        have hyshape : ∃ (ay : Option Addr) (cy : Nat), vy = .slice ay 0 cy := by
          rcases own_shape oy with ⟨_, _, ay, cy, h⟩ | ⟨h, _⟩
          · exact ⟨ay, cy, h⟩
          · omega
        obtain ⟨ay, cy, rfl⟩ := hyshape
        go_wp2_with fail
        refine (implPutRunes_ok [] _ _ _ _ (by omega) (fun r hr => by simp at hr) oy).mono ?_
        rintro e wh ⟨rfl, bh⟩
        have Bh : Below w.heap.size w wh := Bg.trans (bh.mono (by omega))
        have ox2 := own_below (own_below (own_below ox bf) by_) bh
        have ol2 := own_below (own_below (own_below ol bf) by_) bh
        clear CS hcode
        go_wp2_with fail
        refine (sameInts zl _ _ _ _ _ _ (by omega) ox2 ol2).mono ?_
        rintro e wi ⟨rfl, bi⟩
        have zh := Bh.size
        have Bi : Below w.heap.size w wi := Bh.trans (bi.mono (by omega))
        go_wp2_with fail
        refine (implAscii t _ (by unfold maxLen; omega)).mono ?_
        rw [hasc]
        rintro e wj ⟨rfl, rfl⟩
        go_wp2_with fail
        refine (implAscii t _ (by unfold maxLen; omega)).mono ?_
        rw [hasc]
        rintro e wj ⟨rfl, rfl⟩
        go_wp2_with fail
        go_ret
        exact ⟨rfl, Bi⟩
    · go_wp2_with fail
      refine (implPutRunes_no zl _ _ _ _ (by omega) hok oa).mono ?_
      rintro e wb ⟨rfl, bb⟩
      have zb := bb.size
      have oa2 := own_below oa bb
      go_wp2_with fail
      refine (specPutRunes_no zl _ _ _ _ (by omega) hok oa2).mono ?_
      rintro e wc ⟨rfl, bc⟩
      have zc := bc.size
      have Bc : Below w.heap.size w wc := (ba.trans (bb.mono (by omega))).trans (bc.mono (by omega))
      have ol0 := own_below oa2 bc
      have hfin : (finR ⟨#[]⟩).1 = (⟨#[]⟩ : ByteArray).size := by rfl
      go_wp2_with fail
      refine (implRunes _ _ (by decide) (tabs_below hT Bc)).mono ?_
      rintro e we he
      replace he : ∃ v, e = .returned (.tuple #[v, .bool true]) ∧ Below wc.heap.size wc we := by
        rcases he with ⟨hx, v, r1, _, r3⟩ | ⟨hx, r⟩
        · exact ⟨v, r1, r3⟩
        · exact absurd hfin hx
      obtain ⟨vx, rfl, be⟩ := he
      have ze := be.size
      have Be : Below w.heap.size w we := Bc.trans (be.mono (by omega))
      go_wp2_with fail
      refine (drawRunes _ _ _ _ hl (hcode.later Be)).mono ?_
      rintro e wf ⟨t, ht, rfl, bf⟩
      have zf := bf.size
      have Bf : Below w.heap.size w wf := Be.trans (bf.mono (by omega))
      have CS : Hid (t.size ≤ 5000) := ht
      go_wp2_with fail
      refine (implRunes t _ (by omega) (tabs_below hT Bf)).mono ?_
      rintro e wg hg
      by_cases hgood : (finR t).1 = t.size
      · replace hg : ∃ v, e = .returned (.tuple #[v, .bool true]) ∧ wg.ownsRow wf.heap.size 3 1 v (finR t).2.length (icells (finR t).2) ∧ Below wf.heap.size wf wg := by
          rcases hg with ⟨hx, r⟩ | ⟨hx, r⟩
          · exact r
          · exact absurd hgood hx
        cases hasc : asciiB t.data.toList with
        | true =>
          obtain ⟨vy, rfl, oy, by_⟩ := hg
          have zg := by_.size
          have Bg : Below w.heap.size w wg := Bf.trans (by_.mono (by omega))
          obtain ⟨hyok, hyback⟩ := fin_back t hgood
          have hylen : (finR t).2.length ≤ 5000 := by
            have h1 := stR_len' t t.size
            have h2 := stR_le t t.size
            unfold finR
            omega
          go_wp2_with fail
          refine (implPutRunes_ok (finR t).2 _ _ _ _ (by omega) hyok oy).mono ?_
          rintro e wh ⟨rfl, bh⟩
          have hteq : (⟨(encAll (finR t).2).toArray⟩ : ByteArray) = t := by rw [hyback]
          rw [hteq]
          have Bh : Below w.heap.size w wh := Bg.trans (bh.mono (by omega))
          clear CS hcode
          have Bi : Below w.heap.size w wh := Bh
          go_wp2_with fail
          refine (implAscii t _ (by unfold maxLen; omega)).mono ?_
          rw [hasc]
          rintro e wj ⟨rfl, rfl⟩
          go_wp2_with fail
          go_ret
          exact ⟨rfl, Bi⟩
        | false =>
          obtain ⟨vy, rfl, oy, by_⟩ := hg
          have zg := by_.size
          have Bg : Below w.heap.size w wg := Bf.trans (by_.mono (by omega))
          obtain ⟨hyok, hyback⟩ := fin_back t hgood
          have hylen : (finR t).2.length ≤ 5000 := by
            have h1 := stR_len' t t.size
            have h2 := stR_le t t.size
            unfold finR
            omega
          go_wp2_with fail
          refine (implPutRunes_ok (finR t).2 _ _ _ _ (by omega) hyok oy).mono ?_
          rintro e wh ⟨rfl, bh⟩
          have hteq : (⟨(encAll (finR t).2).toArray⟩ : ByteArray) = t := by rw [hyback]
          rw [hteq]
          have Bh : Below w.heap.size w wh := Bg.trans (bh.mono (by omega))
          clear CS hcode
          have Bi : Below w.heap.size w wh := Bh
          go_wp2_with fail
          refine (implAscii t _ (by unfold maxLen; omega)).mono ?_
          rw [hasc]
          rintro e wj ⟨rfl, rfl⟩
          go_wp2_with fail
          refine (implAscii t _ (by unfold maxLen; omega)).mono ?_
          rw [hasc]
          rintro e wj ⟨rfl, rfl⟩
          go_wp2_with fail
          go_ret
          exact ⟨rfl, Bi⟩
      · replace hg : ∃ v, e = .returned (.tuple #[v, .bool false]) ∧ wg.ownsRow wf.heap.size 3 1 v 0 (icells []) ∧ Below wf.heap.size wf wg := by
          rcases hg with ⟨hx, r⟩ | ⟨hx, r⟩
          · exact absurd hx hgood
          · exact r
        have hasc : asciiB t.data.toList = false := by
          cases h : asciiB t.data.toList with
          | false => rfl
          | true => exact absurd (ascii_fin t h) hgood
        obtain ⟨vy, rfl, oy, by_⟩ := hg
        have zg := by_.size
        have Bg : Below w.heap.size w wg := Bf.trans (by_.mono (by omega))
        have hyshape : ∃ (ay : Option Addr) (cy : Nat), vy = .slice ay 0 cy := by
          rcases own_shape oy with ⟨_, _, ay, cy, h⟩ | ⟨h, _⟩
          · exact ⟨ay, cy, h⟩
          · omega
        obtain ⟨ay, cy, rfl⟩ := hyshape
        go_wp2_with fail
        refine (implPutRunes_ok [] _ _ _ _ (by omega) (fun r hr => by simp at hr) oy).mono ?_
        rintro e wh ⟨rfl, bh⟩
        have Bh : Below w.heap.size w wh := Bg.trans (bh.mono (by omega))
        clear CS hcode
        have Bi : Below w.heap.size w wh := Bh
        go_wp2_with fail
        refine (implAscii t _ (by unfold maxLen; omega)).mono ?_
        rw [hasc]
        rintro e wj ⟨rfl, rfl⟩
        go_wp2_with fail
        refine (implAscii t _ (by unfold maxLen; omega)).mono ?_
        rw [hasc]
        rintro e wj ⟨rfl, rfl⟩
        go_wp2_with fail
        go_ret
        exact ⟨rfl, Bi⟩

set_option maxRecDepth 100000 in
theorem contract (H : Type) (enc : TypeId × Value → H) (W : World) (base : Nat) (args : Array Value) (ds gs : List (DataW H)) (before : List MemPlace)
    (hval : ∀ (j : Nat) t v, Tryd.f3.params[j]? = some t → args[j]? = some v → Value.okWide Tryd.prog W .any base t v)
    (hW : DataW.Whole enc Tryd.prog Tryd.f3.params.toList Rows.fnRunesSpec.vars false W args.toList ds gs before) (hL : laidMet Tryd.prog laidTwo W) :
    Calls Tryd.prog 3 args W fun e W' => ∃ v, e = .returned v ∧ Rows.fnRunesSpec.post enc Tryd.prog Tryd.f3 false true false false W args v W' := by
  have hW' := hW
  obtain ⟨p, q, hA0, hV, rfl, hfz, hnd⟩ := hW
  have hA : DataW.TrodAll enc Tryd.prog W 0 (fun _ => true) true Tryd.f3.params.toList args.toList ds p := hA0
  rw [Tryd.params3] at hA hval
  obtain ⟨v0, vs0, d0, ds0, p0, q0, hargs, rfl, rfl, h0, r0⟩ := trodAll_cons hA
  obtain ⟨rfl, rfl, rfl⟩ := trodAll_nil r0
  obtain rfl : args = #[v0] := by cases args; simp_all
  obtain ⟨rfl, rfl⟩ := trodVars_none hV
  obtain ⟨a0, len0, cap0, rfl⟩ := okWide_slice Tryd.underlying22 (hval 0 22 v0 rfl rfl)
  have k0 := h0
  have lt0 : ∀ x ∈ p0, x.block < W.heap.size := by obtain ⟨m, hm⟩ := k0; exact DataW.trod_lt m _ _ _ hm
  obtain ⟨z0, w0⟩ : ∃ zs, IsRow .u8 W a0 len0 cap0 zs := by
    obtain ⟨fuel, hf⟩ := h0
    rcases open_ints Tryd.underlying22 Tryd.underlying5 (by kernel_rfl) hf with ⟨hcs, _⟩ | ⟨x, l, c, zs, hcs, _, hl, hm, hz, _, hcell, hwz⟩
    · simp [Value.cells] at hcs
      obtain ⟨rfl, rfl, rfl⟩ := hcs
      exact ⟨[], .inl ⟨rfl, rfl, rfl, rfl⟩⟩
    · simp [Value.cells] at hcs
      obtain ⟨rfl, rfl, rfl⟩ := hcs
      exact ⟨zs, .inr ⟨_, rfl, hl, hm, by simpa using hz, hcell, hwz⟩⟩
  clear hA0
  refine (walk a0 len0 cap0 z0 W w0 (tabs hL)).mono fun e W' ⟨he, bel⟩ => ?_
  subst he
  exact ⟨_, rfl, _, _, _, [], _, [], hW', trodAll_mk1 (shut_bool Tryd.underlying4 _), (trodAll_cons_mk (Below.trod laidOut (by kernel_rfl) (of_decide_eq_true (by kernel_rfl)) k0 bel lt0) trodAll_mk0), rfl, bel.frame _, fun h => by cases h⟩

theorem witness_row (os : Os) {H : Type} (enc : TypeId × Value → H) :
    (OpenSpec.ofChange Rows.fnRunesSpec).preRow enc Tryd.prog Tryd.f3 Rows.fnRunesRow.domain false laidTwo (({ World.holding Tryd.prog os ⟨#[], #[], []⟩ with heap := laidHeap (World.holding Tryd.prog os ⟨#[], #[], []⟩).heap } : World).forCall (fun _ _ => 0) ⟨#[], #[.slice none 0 0], []⟩).memory #[.slice none 0 0] := by
  have hw : (DataW.whole enc Tryd.prog (({ World.holding Tryd.prog os ⟨#[], #[], []⟩ with heap := laidHeap (World.holding Tryd.prog os ⟨#[], #[], []⟩).heap } : World).forCall (fun _ _ => 0) ⟨#[], #[.slice none 0 0], []⟩).memory Tryd.f3.params.toList Rows.fnRunesSpec.vars false (#[.slice none 0 0] : Array Value).toList 8).map (fun x => (x.1, x.2.1)) =
      some ([.nil], []) := by kernel_rfl
  obtain ⟨⟨x1, x2, x3⟩, hx, hx1⟩ := Option.map_eq_some_iff.1 hw
  simp only [Prod.mk.injEq] at hx1
  obtain ⟨rfl, rfl⟩ := hx1
  exact OpenSpec.preRow_of_cond 8 hx (by kernel_rfl) (fun k hk => by cases hk) (by kernel_rfl) (laid_met os _)

set_option maxRecDepth 100000 in
set_option maxHeartbeats 2000000 in
theorem lifted (os : Os) (started : os.Started) (H : Type) (enc : TypeId × Value → H) (F : Stop.Interp) :
    ReturnsInHanded {} Tryd.checked os 3 .any ((OpenSpec.ofChange Rows.fnRunesSpec).preRow enc Tryd.prog Tryd.f3 Rows.fnRunesRow.domain false laidTwo) (((OpenSpec.ofChange Rows.fnRunesSpec).at F).post enc Tryd.prog Tryd.f3 false true false false) := by
  refine returnsInHanded_of_row (C := Tryd.checked) (s := OpenSpec.ofChange Rows.fnRunesSpec) own started (by kernel_rfl) Tryd.func3
    (witness_row_atRef (enc := enc) (C := Tryd.checked) false ({ World.holding Tryd.prog os ⟨#[], #[], []⟩ with heap := laidHeap (World.holding Tryd.prog os ⟨#[], #[], []⟩).heap }) #[.slice none 0 0] rfl (by kernel_rfl) (by kernel_rfl) (by kernel_rfl) (witness_row os enc)) ?_
  intro W base args ds gs before hval hW _ _ _ hL _ _
  exact contract H enc W base args ds gs before hval hW hL

theorem said : Rows.FnRunesSaid :=
  OpenClaim.holds_of_cond 3 Tryd.f3 rfl rfl rfl rfl rfl rfl rfl ⟨rfl, rfl, rfl, rfl, rfl⟩ rfl rfl rfl rfl rfl (by kernel_rfl) Tryd.func3 (by kernel_rfl)
    (of_decide_eq_true (by kernel_rfl)) (by unfold Func.isWrapper; first | (rw [if_pos (by decide +kernel)]; kernel_rfl) | (rw [if_neg (by decide +kernel)]; exact ⟨rfl, rfl⟩))
    (fun os started H enc _ F => by rw [OpenClaim.pre_eq_preRow]; exact lifted os started H enc F)

theorem plain (f : FuncId) (fn : Func) (hf : Tryd.pinned.checked.prog.funcNamed "loop.example/g00191/laws.FnRunes" = some f) (hfn : Tryd.pinned.checked.prog.funcs[f]? = some fn) :
    false = Tryd.pinned.checked.prog.looks [] ∧ ∀ (j : Nat) t, fn.params[j]? = some t → Tryd.pinned.checked.prog.wantsStandIn t = false := by
  obtain rfl : f = 3 := Option.some.inj ((show Tryd.prog.funcNamed "loop.example/g00191/laws.FnRunes" = some 3 by kernel_rfl).symm.trans hf) |>.symm
  obtain rfl : fn = Tryd.f3 := (Option.some.inj (Tryd.func3.symm.trans hfn)).symm
  refine ⟨by kernel_rfl, fun j t ht => ?_⟩
  rw [Tryd.params3] at ht
  obtain rfl : t = 22 := by simpa using Array.mem_of_getElem? ht
  exact (show Tryd.prog.wantsStandIn 22 = false by kernel_rfl)

theorem card : Rows.FnRunesCardSaid :=
  Claim7.holds_tied_plain_at .later [] _ _ _ _ said (fun _ h => by cases h) (by kernel_rfl) (fun _ h => by cases h) fnRunes_row_tie rfl ⟨rfl, rfl⟩ (by kernel_rfl) rfl plain (by kernel_rfl)
end Go.Proofs.YtokkcbjhkepjnaaDoor.fnRunes

namespace Go.Proofs.YtokkcbjhkepjnaaDoor
theorem fnRunes_holds : Rows.FnRunesCardSaid := fnRunes.card
#print axioms fnRunes_holds
end Go.Proofs.YtokkcbjhkepjnaaDoor
