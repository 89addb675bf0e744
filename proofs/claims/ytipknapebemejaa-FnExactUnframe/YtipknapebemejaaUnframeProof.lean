/- Proved: laws.FnExactUnframe answers true at every slice of bytes and every int and leaves them as they were; no condition. -/
import Derived.Test.YtipknapebemejaaRows
import Derived.Test.YtipknapebemejaaBytMarks
import Derived.Test.YtipknapebemejaaUnfBoth
import Derived.ProofKit
import Derived.OpenShut
import Derived.ShutString
import Derived.ChangeOld
import Derived.Below
namespace Go.Proofs.Ytipknapebemejaa.fnExactUnframe
open Go.ChangeShapes Go.WideShapes Go.ChangeAt Go.RowKit
open Go.ChangeMaps (open_string shut_string)
set_option linter.unusedVariables false

theorem own : ownKnob Try.prog.godebug = none := by kernel_rfl
theorem laidOut : laidOutB Try.prog = true := by kernel_rfl

/-- WHAT THE WALK IS TOLD OF A SLICE OF INTEGERS THAT CAME IN: it is nil; or it leads to a row of 'cap' cells, the numbers 'zs' (the first 'len' are its elements, the rest its spare room), each fitting its kind. -/
def IsRow (k : IntKind) (w : World) (a : Option Addr) (len cap : Nat) (zs : List Int) : Prop :=
  (a = none ∧ len = 0 ∧ cap = 0 ∧ zs = []) ∨
  ∃ x, a = some x ∧ len ≤ cap ∧ cap ≤ maxLen ∧ zs.length = cap ∧ (∀ i, i < zs.length → w.cell? (x.add i) = some (.int k (zs.getD i 0))) ∧ ∀ n ∈ zs, (Lit.int k n).wf = true

set_option maxHeartbeats 8000000 in
theorem walk (a0 : Option Addr) (len0 cap0 : Nat) (z0 : List Int) (a1 : Int) (w : World) (w0 : IsRow .u8 w a0 len0 cap0 z0) (w1 : (Lit.int .i64 a1).wf = true) :
    Calls Try.prog 11 #[.slice a0 len0 cap0, .int .i64 a1] w fun e w' => e = .returned (.bool true) ∧ Below w.heap.size w w' := by
  by_cases hbig : 1048576 < (len0 : Int)
  · clear w0
    go_enter Try.func11, Try.ntmps11
    go_wp2
    go_ret
    exact ⟨rfl, Below.refl _ _⟩
  · obtain ⟨l, hl, hb⟩ := open_bytes w0
    subst hl
    have hn : l.length ≤ 1048576 := by omega
    have HB : Hid (BRow w (.slice a0 l.length cap0) l) := hb
    clear w0 hb
    have hm : (unfB l (unfL l a1)).length ≤ 4194304 := by exact Nat.le_trans (unfB_le l a1) (by omega)
    have HSp := hidB (fun v W h => specUnframe a1 v l W h (by omega))
    have HIm := hidB (fun v W h => implUnframe a1 v l W h (by omega))
    generalize unfB l (unfL l a1) = U at *
    generalize unfP a1 (unfL l a1) = P1 at *
    generalize (unfL l a1).isSome = P2 at *
    go_enter Try.func11, Try.ntmps11
    go_wp2_with fail
    refine (toByteS _ l _ HB.out (by omega)).mono ?_
    rintro e wa ⟨va, rfl, oa, ba⟩
    have za := ba.size
    have wa2 := BRow.of_own oa
    go_wp2_with fail
    refine (HSp.out _ _ wa2).mono ?_
    rintro e wb ⟨vb, rfl, ob, bb⟩
    have zb := bb.size
    have Bb : Below w.heap.size w wb := ba.trans (bb.mono za)
    clear oa wa2
    go_wp2_with fail
    refine (toByteS _ l _ (HB.out.below Bb) (by omega)).mono ?_
    rintro e wc ⟨vc, rfl, oc, bc⟩
    have zc := bc.size
    have Bc : Below w.heap.size w wc := Bb.trans (bc.mono (by omega))
    have ob2 := own_below ob bc
    have wc2 := BRow.of_own oc
    go_wp2_with fail
    refine (HIm.out _ _ wc2).mono ?_
    rintro e wd ⟨vd, rfl, od, bd⟩
    have zd := bd.size
    have Bd : Below w.heap.size w wd := Bc.trans (bd.mono (by omega))
    have ob3 := own_below ob2 bd
    have oc3 := own_below oc bd
    go_wp2_with fail
    refine (eqByteS U _ _ _ _ _ _ (by omega) od ob3).mono ?_
    rintro e we ⟨rfl, be⟩
    have ze := be.size
    have Be : Below w.heap.size w we := Bd.trans (be.mono (by omega))
    have ob4 := own_below ob3 be
    have oc4 := own_below oc3 be
    have od4 := own_below od be
    go_wp2_with fail
    refine (toByteS _ l _ (HB.out.below Be) (by omega)).mono ?_
    rintro e wf ⟨vf, rfl, of, bf⟩
    have zf := bf.size
    have Bf : Below w.heap.size w wf := Be.trans (bf.mono (by omega))
    have ob5 := own_below ob4 bf
    have oc5 := own_below oc4 bf
    have od5 := own_below od4 bf
    go_wp2_with fail
    refine (eqByteS l _ _ _ _ _ _ (by omega) oc5 of).mono ?_
    rintro e wg ⟨rfl, bg⟩
    have zg := bg.size
    have Bg : Below w.heap.size w wg := Bf.trans (bg.mono (by omega))
    have ob6 := own_below ob5 bg
    have oc6 := own_below oc5 bg
    have od6 := own_below od5 bg
    clear of
    go_wp2_with fail
    refine (markByteS 1 _ _ _ _ _ (by omega) oc6).mono ?_
    rintro e wh ⟨rfl, oc7, gh⟩
    have zh := gh.size
    have Bh : Below w.heap.size w wh := Bg.grown gh (by omega) (fun k hk => by have := (oc.lt k hk).1; omega)
    have ob7 : wh.ownsRow _ _ _ vb _ _ := ob6.kept gh (by
      cases hx : vb.ownBlock with
      | none => exact .inl rfl
      | some x =>
        refine .inr fun hy => ?_
        have h1 := (ob.lt x hx).2
        have h2 := (oc.lt x hy.symm).1
        omega)
    have od7 : wh.ownsRow _ _ _ vd _ _ := od6.kept gh (by
      cases hx : vd.ownBlock with
      | none => exact .inl rfl
      | some x =>
        refine .inr fun hy => ?_
        have h1 := (od.lt x hx).1
        have h2 := (oc.lt x hy.symm).2
        omega)
    clear oc6 oc7 oc5 oc4 oc3
    go_wp2_with fail
    refine (eqByteS U _ _ _ _ _ _ (by omega) od7 ob7).mono ?_
    rintro e wi ⟨rfl, bi⟩
    have zi := bi.size
    have Bi : Below w.heap.size w wi := Bh.trans (bi.mono (by omega))
    have ob8 := own_below ob7 bi
    have od8 := own_below od7 bi
    go_wp2_with fail
    refine (markByteS 1 _ _ _ _ _ (by omega) od8).mono ?_
    rintro e wj ⟨rfl, od9, gj⟩
    have zj := gj.size
    have Bj : Below w.heap.size w wj := Bi.grown gj (by omega) (fun k hk => by have := (od.lt k hk).1; omega)
    have ob9 : wj.ownsRow _ _ _ vb _ _ := ob8.kept gj (by
      cases hx : vb.ownBlock with
      | none => exact .inl rfl
      | some x =>
        refine .inr fun hy => ?_
        have h1 := (ob.lt x hx).2
        have h2 := (od.lt x hy.symm).1
        omega)
    go_wp2_with fail
    refine (heldByteS 1 _ _ _ _ (by omega) od9).mono ?_
    rintro e wk ⟨rfl, bk⟩
    have zk := bk.size
    have Bk : Below w.heap.size w wk := Bj.trans (bk.mono (by omega))
    have ob10 := own_below ob9 bk
    have od10 := own_below od9 bk
    go_wp2_with fail
    refine (toByteS _ l _ (HB.out.below Bk) (by omega)).mono ?_
    rintro e wl ⟨vl, rfl, ol, bl⟩
    have zl := bl.size
    have Bl : Below w.heap.size w wl := Bk.trans (bl.mono (by omega))
    have ob11 := own_below ob10 bl
    have od11 := own_below od10 bl
    have wl2 := BRow.of_own ol
    go_wp2_with fail
    refine (HIm.out _ _ wl2).mono ?_
    rintro e wm ⟨vm, rfl, om, bm⟩
    have zm := bm.size
    have Bm : Below w.heap.size w wm := Bl.trans (bm.mono (by omega))
    have ob12 := own_below ob11 bm
    have od12 := own_below od11 bm
    go_wp2_with fail
    refine (eqByteS U _ _ _ _ _ _ (by omega) om ob12).mono ?_
    rintro e wn ⟨rfl, bn⟩
    have zn := bn.size
    have Bn : Below w.heap.size w wn := Bm.trans (bn.mono (by omega))
    have od13 := own_below od12 bn
    go_wp2_with fail
    refine (heldByteS 1 _ _ _ _ (by omega) od13).mono ?_
    rintro e wo ⟨rfl, bo⟩
    have Bo : Below w.heap.size w wo := Bn.trans (bo.mono (by omega))
    clear ob ob2 ob3 ob4 ob5 ob6 ob7 ob8 ob9 ob10 ob11 ob12 oc od od4 od5 od6 od7 od8 od9 od10 od11 od12 od13 ol om ba bb bc bd be bf bg gh bi gj bk bl bm bn bo Bb Bc Bd Be Bf Bg Bh Bi Bj Bk Bl Bm Bn wc2 wl2 HB
    go_wp2
    go_ret
    exact ⟨rfl, Bo⟩

set_option maxRecDepth 100000 in
theorem lifted (os : Os) (started : os.Started) (H : Type) (enc : TypeId × Value → H) :
    ReturnsInHanded {} Try.checked os 11 .any (Rows.fnExactUnframeSpec.pre6 enc Try.prog Try.f11 Rows.fnExactUnframeRow.domain false) (Rows.fnExactUnframeSpec.post enc Try.prog Try.f11 false true false false) := by
  refine returnsInHanded_of_change (C := Try.checked) own started (by kernel_rfl) Try.func11
    (ChangeSpec.witness6 (enc := enc) (C := Try.checked) false ⟨#[], #[.slice none 0 0, .int .i64 0], []⟩ 8 (by kernel_rfl) (by kernel_rfl) (by kernel_rfl) (by kernel_rfl)) ?_
  intro W base args ds gs before hval0 hW hcnd _
  have hval : ∀ (j : Nat) t v, Try.f11.params[j]? = some t → args[j]? = some v → Value.okWide Try.prog W .any base t v := hval0
  have hW' := hW
  obtain ⟨p, q, hA0, hV, rfl, hfz, hnd⟩ := hW
  have hA : DataW.TrodAll enc Try.prog W 0 (fun _ => true) true Try.f11.params.toList args.toList ds p := hA0
  rw [Try.params11] at hA hval
  obtain ⟨v0, vs0, d0, ds0, p0, q0, hargs, rfl, rfl, h0, r0⟩ := trodAll_cons hA
  obtain ⟨v1, vs1, d1, ds1, p1, q1, rfl, rfl, rfl, h1, r1⟩ := trodAll_cons r0
  obtain ⟨rfl, rfl, rfl⟩ := trodAll_nil r1
  obtain rfl : args = #[v0, v1] := by cases args; simp_all
  obtain ⟨rfl, rfl⟩ := trodVars_none hV
  obtain ⟨a0, len0, cap0, rfl⟩ := okWide_slice Try.underlying22 (hval 0 22 v0 rfl rfl)
  have k0 := h0
  have lt0 : ∀ x ∈ p0, x.block < W.heap.size := by obtain ⟨m, hm⟩ := k0; exact DataW.trod_lt m _ _ _ hm
  obtain ⟨z0, w0⟩ : ∃ zs, IsRow .u8 W a0 len0 cap0 zs := by
    obtain ⟨fuel, hf⟩ := h0
    rcases open_ints Try.underlying22 Try.underlying5 (by kernel_rfl) hf with ⟨hcs, _⟩ | ⟨x, l, c, zs, hcs, _, hl, hm, hz, _, hcell, hwz⟩
    · simp [Value.cells] at hcs
      obtain ⟨rfl, rfl, rfl⟩ := hcs
      exact ⟨[], .inl ⟨rfl, rfl, rfl, rfl⟩⟩
    · simp [Value.cells] at hcs
      obtain ⟨rfl, rfl, rfl⟩ := hcs
      exact ⟨zs, .inr ⟨_, rfl, hl, hm, by simpa using hz, hcell, hwz⟩⟩
  obtain ⟨a1, rfl, rfl, rfl, w1⟩ := open_int Try.underlying3 (hval 1 3 v1 rfl rfl) h1
  clear hA0 hval0
  refine (walk a0 len0 cap0 z0 a1 W w0 w1).mono fun e W' ⟨he, bel⟩ => ?_
  subst he
  exact ⟨_, rfl, _, _, _, [], _, [], hW', trodAll_mk1 (shut_bool Try.underlying4 _), (trodAll_cons_mk (Below.trod laidOut (by kernel_rfl) (of_decide_eq_true (by kernel_rfl)) k0 bel lt0) (trodAll_cons_mk (shut_int Try.underlying3 w1) trodAll_mk0)), rfl, bel.frame _, fun h => by cases h⟩

theorem over : Rows.fnExactUnframeRow.holds Try.pinned (OpenSpec.ofChange Rows.fnExactUnframeSpec) :=
  OpenClaim.holds_of_wide 11 Try.f11 rfl rfl rfl rfl rfl rfl rfl ⟨rfl, rfl, rfl, rfl, rfl⟩ rfl rfl rfl rfl rfl (by kernel_rfl) Try.func11 (by kernel_rfl)
    (of_decide_eq_true (by kernel_rfl)) (by unfold Func.isWrapper; first | (rw [if_pos (by decide +kernel)]; kernel_rfl) | (rw [if_neg (by decide +kernel)]; exact ⟨rfl, rfl⟩))
    (fun os started H enc _ => lifted os started H enc)

theorem proved : Rows.FnExactUnframeSaid := over
end Go.Proofs.Ytipknapebemejaa.fnExactUnframe

namespace Go.Proofs.Ytipknapebemejaa
theorem fnExactUnframe_holds : Rows.FnExactUnframeSaid := fnExactUnframe.proved
#print axioms fnExactUnframe_holds
end Go.Proofs.Ytipknapebemejaa
