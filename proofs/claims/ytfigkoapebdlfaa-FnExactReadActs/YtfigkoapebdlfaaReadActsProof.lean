/- Proved: laws.FnExactReadActs answers true at every slice of bytes and leaves it as it was; no condition. -/
import Derived.Test.YtfigkoapebdlfaaRows
import Derived.Test.YtfigkoapebdlfaaBytMarks
import Derived.Test.YtfigkoapebdlfaaActAll
import Derived.Test.YtfigkoapebdlfaaActEq
import Derived.Test.YtfigkoapebdlfaaActMark
import Derived.ProofKit
import Derived.OpenShut
import Derived.ShutString
import Derived.ChangeOld
import Derived.Below
namespace Go.Proofs.Ytfigkoapebdlfaa.fnExactReadActs
open Go.ChangeShapes Go.WideShapes Go.ChangeAt Go.RowKit
open Go.ChangeMaps (open_string shut_string)
set_option linter.unusedVariables false

theorem own : ownKnob Try.prog.godebug = none := by kernel_rfl
theorem laidOut : laidOutB Try.prog = true := by kernel_rfl

/-- WHAT THE WALK IS TOLD OF A SLICE OF INTEGERS THAT CAME IN: it is nil; or it leads to a row of 'cap' cells, the numbers 'zs' (the first 'len' are its elements, the rest its spare room), each fitting its kind. -/
def IsRow (k : IntKind) (w : World) (a : Option Addr) (len cap : Nat) (zs : List Int) : Prop :=
  (a = none ∧ len = 0 ∧ cap = 0 ∧ zs = []) ∨
  ∃ x, a = some x ∧ len ≤ cap ∧ cap ≤ maxLen ∧ zs.length = cap ∧ (∀ i, i < zs.length → w.cell? (x.add i) = some (.int k (zs.getD i 0))) ∧ ∀ n ∈ zs, (Lit.int k n).wf = true

set_option maxHeartbeats 8000000 in
theorem walk (a0 : Option Addr) (len0 cap0 : Nat) (z0 : List Int) (w : World) (w0 : IsRow .u8 w a0 len0 cap0 z0) :
    Calls Try.prog 7 #[.slice a0 len0 cap0] w fun e w' => e = .returned (.bool true) ∧ Below w.heap.size w w' := by
  by_cases hbig : 1048576 < (len0 : Int)
  · clear w0
    go_enter Try.func7, Try.ntmps7
    go_wp2
    go_ret
    exact ⟨rfl, Below.refl _ _⟩
  · obtain ⟨l, hl, hb⟩ := open_bytes w0
    subst hl
    have hn : l.length ≤ 1048576 := by omega
    have HB : Hid (BRow w (.slice a0 l.length cap0) l) := hb
    clear w0 hb
    have hrl := readL_len l
    have CT : Hid (∀ W, Below w.heap.size w W → Calls Try.prog 18 #[.slice a0 l.length cap0] W fun e w' => ∃ v', e = .returned v' ∧ w'.ownsRow W.heap.size 5 1 v' l.length (bcells l) ∧ Below W.heap.size W w') := fun W hW => toByteS _ l W (HB.out.below hW) (by omega)
    have CS : Hid (∀ v W, BRow W v l → Calls Try.prog 27 #[v] W fun e w' => ActsR W (readL l) e w') := fun v W h => specReadActs v l W h (by omega)
    have CI : Hid (∀ v W, BRow W v l → Calls Try.prog 28 #[v] W fun e w' => ActsR W (readL l) e w') := fun v W h => implReadActs v l W h (by omega)
    obtain ⟨L, p, hLp⟩ : ∃ L p, readL l = (L, p) := ⟨_, _, rfl⟩
    rw [hLp] at CS CI hrl
    obtain ⟨hL, hp⟩ := hrl
    dsimp only at hL hp
    clear hLp
    have hpp : ((p : Int) != (p : Int)) = false := by simp
    go_enter Try.func7, Try.ntmps7
    go_wp2_with fail
    refine (CT.out _ (Below.refl _ _)).mono ?_
    rintro e wa ⟨va, rfl, oa, ba⟩
    have RA := hidB (BRow.of_own oa)
    clear oa
    go_wp2_with fail
    refine (CS.out _ _ RA.out).mono ?_
    rintro e wb ⟨vb, rfl, ob, bb⟩
    have B1 := ba.trans (bb.mono ba.size)
    have OS : Hid (wb.ownsRow wa.heap.size 26 4 vb L.length (acells L)) := ob
    have LS := hidB ob.lt
    clear bb ba ob RA CS
    go_wp2_with fail
    refine (CT.out _ B1).mono ?_
    rintro e wc ⟨vc, rfl, oc, bc⟩
    have B2 := B1.trans (bc.mono B1.size)
    have OS2 := hidB (own_below OS.out bc)
    have OX := hidB oc
    have LX := hidB oc.lt
    have zbc := bc.size
    clear bc oc OS
    go_wp2_with fail
    refine (CI.out _ _ (BRow.of_own OX.out)).mono ?_
    rintro e wd ⟨vd, rfl, od, bd⟩
    have B3 := B2.trans (bd.mono B2.size)
    have OS3 := hidB (own_below OS2.out bd)
    have OX2 := hidB (own_below OX.out bd)
    have OI : Hid (wd.ownsRow wc.heap.size 26 4 vd L.length (acells L)) := od
    have LI := hidB od.lt
    have zcd := bd.size
    clear bd od OS2 OX
    go_wp2_with fail
    refine (eqActs L _ _ _ (by omega) (ActRow.of_own OI.out) (ActRow.of_own OS3.out)).mono ?_
    rintro e we ⟨rfl, be⟩
    have B4 := B3.trans (be.mono B3.size)
    have OS4 := hidB (own_below OS3.out be)
    have OX3 := hidB (own_below OX2.out be)
    have OI2 := hidB (own_below OI.out be)
    clear be OS3 OX2 OI
    go_wp2_with fail
    refine (CT.out _ B4).mono ?_
    rintro e wf ⟨vf, rfl, of, bf⟩
    have B5 := B4.trans (bf.mono B4.size)
    have OS5 := hidB (own_below OS4.out bf)
    have OX4 := hidB (own_below OX3.out bf)
    have OI3 := hidB (own_below OI2.out bf)
    have OF := hidB of
    clear bf of OS4 OX3 OI2 B4
    go_wp2_with fail
    refine (eqByteS l _ _ _ _ _ _ (by omega) OX4.out OF.out).mono ?_
    rintro e wg ⟨rfl, bg⟩
    have B6 := B5.trans (bg.mono B5.size)
    have OS6 := hidB (own_below OS5.out bg)
    have OX5 := hidB (own_below OX4.out bg)
    have OI4 := hidB (own_below OI3.out bg)
    clear bg OF OS5 OX4 OI3 B5
    go_wp2_with fail
    refine (markByteS 1 _ _ _ _ _ (by omega) OX5.out).mono ?_
    rintro e wh ⟨rfl, _, gh⟩
    have B7 : Below w.heap.size w wh := B6.grown gh B6.size (fun x hx => by have h1 := (LX.out x hx).1; have h2 := B1.size; omega)
    have OS7 : Hid (wh.ownsRow _ _ _ vb _ _) := OS6.out.kept gh (by
      cases hx : vb.ownBlock with
      | none => exact .inl rfl
      | some x =>
        refine .inr fun hy => ?_
        have h1 := (LS.out x hx).2
        have h2 := (LX.out x hy.symm).1
        omega)
    have OI5 : Hid (wh.ownsRow _ _ _ vd _ _) := OI4.out.kept gh (by
      cases hx : vd.ownBlock with
      | none => exact .inl rfl
      | some x =>
        refine .inr fun hy => ?_
        have h1 := (LI.out x hx).1
        have h2 := (LX.out x hy.symm).2
        omega)
    clear gh OX5 B6 OS6 OI4
    go_wp2_with fail
    refine (eqActs L _ _ _ (by omega) (ActRow.of_own OI5.out) (ActRow.of_own OS7.out)).mono ?_
    rintro e wi ⟨rfl, bi⟩
    have B8 := B7.trans (bi.mono B7.size)
    have OS8 := hidB (own_below OS7.out bi)
    have OI6 := hidB (own_below OI5.out bi)
    clear bi OS7 OI5 B7
    go_wp2_with fail
    refine (markActs L _ 1 _ _ (by decide) (by omega) OI6.out).mono ?_
    rintro e wj ⟨rfl, oj, gj⟩
    have B9 : Below w.heap.size w wj := B8.grown gj B8.size (fun x hx => by have h1 := (LI.out x hx).1; have h2 := B2.size; omega)
    have OS9 : Hid (wj.ownsRow _ _ _ vb _ _) := OS8.out.kept gj (by
      cases hx : vb.ownBlock with
      | none => exact .inl rfl
      | some x =>
        refine .inr fun hy => ?_
        have h1 := (LS.out x hx).2
        have h2 := (LI.out x hy.symm).1
        omega)
    have OI7 : Hid (wj.ownsRow wc.heap.size 26 4 vd L.length (acells (mkAL 1 L.length))) := oj
    clear oj gj OS8 OI6 B8
    have CH : Hid (∀ W, W.ownsRow wc.heap.size 26 4 vd L.length (acells (mkAL 1 L.length)) → Calls Try.prog 29 #[vd, .int .i64 1] W fun e w' => e = .returned (.int .i64 ((1 + 4 * L.length : Nat) : Int)) ∧ Below W.heap.size W w') := fun W h => heldActs L.length vd 1 W (by decide) (by omega) (ActRow.of_own (by rw [mkAL_length]; exact h))
    go_wp2_with fail
    refine (CH.out _ OI7.out).mono ?_
    rintro e wk ⟨rfl, bk⟩
    have B10 := B9.trans (bk.mono B9.size)
    have OS10 := hidB (own_below OS9.out bk)
    have OI8 := hidB (own_below OI7.out bk)
    clear bk OS9 OI7 B9
    go_wp2_with fail
    refine (CT.out _ B10).mono ?_
    rintro e wl ⟨vl, rfl, ol, bl⟩
    have B11 := B10.trans (bl.mono B10.size)
    have OS11 := hidB (own_below OS10.out bl)
    have OI9 := hidB (own_below OI8.out bl)
    have RL := hidB (BRow.of_own ol)
    clear bl ol OS10 OI8 B10
    go_wp2_with fail
    refine (CI.out _ _ RL.out).mono ?_
    rintro e wm ⟨vm, rfl, om, bm⟩
    have B12 := B11.trans (bm.mono B11.size)
    have OS12 := hidB (own_below OS11.out bm)
    have OI10 := hidB (own_below OI9.out bm)
    have OM : Hid (wm.ownsRow wl.heap.size 26 4 vm L.length (acells L)) := om
    clear bm om OS11 OI9 B11 RL CI CT
    go_wp2_with fail
    refine (eqActs L _ _ _ (by omega) (ActRow.of_own OM.out) (ActRow.of_own OS12.out)).mono ?_
    rintro e wn ⟨rfl, bn⟩
    have B13 := B12.trans (bn.mono B12.size)
    have OI11 := hidB (own_below OI10.out bn)
    clear bn OS12 OI10 B12 OM
    go_wp2_with fail
    refine (CH.out _ OI11.out).mono ?_
    rintro e wo ⟨rfl, bo⟩
    have B14 := B13.trans (bo.mono B13.size)
    clear bo OI11 B13 B1 B2 B3 LS LI LX CH
    go_wp2_with fail
    go_ret
    exact ⟨rfl, B14⟩

set_option maxRecDepth 100000 in
theorem lifted (os : Os) (started : os.Started) (H : Type) (enc : TypeId × Value → H) :
    ReturnsInHanded {} Try.checked os 7 .any (Rows.fnExactReadActsSpec.pre6 enc Try.prog Try.f7 Rows.fnExactReadActsRow.domain false) (Rows.fnExactReadActsSpec.post enc Try.prog Try.f7 false true false false) := by
  refine returnsInHanded_of_change (C := Try.checked) own started (by kernel_rfl) Try.func7
    (ChangeSpec.witness6 (enc := enc) (C := Try.checked) false ⟨#[], #[.slice none 0 0], []⟩ 8 (by kernel_rfl) (by kernel_rfl) (by kernel_rfl) (by kernel_rfl)) ?_
  intro W base args ds gs before hval0 hW hcnd _
  have hval : ∀ (j : Nat) t v, Try.f7.params[j]? = some t → args[j]? = some v → Value.okWide Try.prog W .any base t v := hval0
  have hW' := hW
  obtain ⟨p, q, hA0, hV, rfl, hfz, hnd⟩ := hW
  have hA : DataW.TrodAll enc Try.prog W 0 (fun _ => true) true Try.f7.params.toList args.toList ds p := hA0
  rw [Try.params7] at hA hval
  obtain ⟨v0, vs0, d0, ds0, p0, q0, hargs, rfl, rfl, h0, r0⟩ := trodAll_cons hA
  obtain ⟨rfl, rfl, rfl⟩ := trodAll_nil r0
  obtain rfl : args = #[v0] := by cases args; simp_all
  obtain ⟨rfl, rfl⟩ := trodVars_none hV
  obtain ⟨a0, len0, cap0, rfl⟩ := okWide_slice Try.underlying29 (hval 0 29 v0 rfl rfl)
  have k0 := h0
  have lt0 : ∀ x ∈ p0, x.block < W.heap.size := by obtain ⟨m, hm⟩ := k0; exact DataW.trod_lt m _ _ _ hm
  obtain ⟨z0, w0⟩ : ∃ zs, IsRow .u8 W a0 len0 cap0 zs := by
    obtain ⟨fuel, hf⟩ := h0
    rcases open_ints Try.underlying29 Try.underlying5 (by kernel_rfl) hf with ⟨hcs, _⟩ | ⟨x, l, c, zs, hcs, _, hl, hm, hz, _, hcell, hwz⟩
    · simp [Value.cells] at hcs
      obtain ⟨rfl, rfl, rfl⟩ := hcs
      exact ⟨[], .inl ⟨rfl, rfl, rfl, rfl⟩⟩
    · simp [Value.cells] at hcs
      obtain ⟨rfl, rfl, rfl⟩ := hcs
      exact ⟨zs, .inr ⟨_, rfl, hl, hm, by simpa using hz, hcell, hwz⟩⟩
  clear hA0 hval0
  refine (walk a0 len0 cap0 z0 W w0).mono fun e W' ⟨he, bel⟩ => ?_
  subst he
  exact ⟨_, rfl, _, _, _, [], _, [], hW', trodAll_mk1 (shut_bool Try.underlying4 _), (trodAll_cons_mk (Below.trod laidOut (by kernel_rfl) (of_decide_eq_true (by kernel_rfl)) k0 bel lt0) trodAll_mk0), rfl, bel.frame _, fun h => by cases h⟩

theorem over : Rows.fnExactReadActsRow.holds Try.pinned (OpenSpec.ofChange Rows.fnExactReadActsSpec) :=
  OpenClaim.holds_of_wide 7 Try.f7 rfl rfl rfl rfl rfl rfl rfl ⟨rfl, rfl, rfl, rfl, rfl⟩ rfl rfl rfl rfl rfl (by kernel_rfl) Try.func7 (by kernel_rfl)
    (of_decide_eq_true (by kernel_rfl)) (by unfold Func.isWrapper; first | (rw [if_pos (by decide +kernel)]; kernel_rfl) | (rw [if_neg (by decide +kernel)]; exact ⟨rfl, rfl⟩))
    (fun os started H enc _ => lifted os started H enc)

theorem proved : Rows.FnExactReadActsSaid := over
end Go.Proofs.Ytfigkoapebdlfaa.fnExactReadActs

namespace Go.Proofs.Ytfigkoapebdlfaa
theorem fnExactReadActs_holds : Rows.FnExactReadActsSaid := fnExactReadActs.proved
#print axioms fnExactReadActs_holds
end Go.Proofs.Ytfigkoapebdlfaa
