/- Proved: laws.FnNums answers true at every slice of bytes and leaves it as it was; no condition. -/
import Derived.Test.YtipknapebemejaaRows
import Derived.Test.YtipknapebemejaaDraw16
import Derived.Test.YtipknapebemejaaNumPut
import Derived.Test.YtipknapebemejaaNumGet
import Derived.Test.YtipknapebemejaaUnfBoth
import Derived.ProofKit
import Derived.OpenShut
import Derived.ShutString
import Derived.ChangeOld
import Derived.Below
namespace Go.Proofs.Ytipknapebemejaa.fnNums
open Go.ChangeShapes Go.WideShapes Go.ChangeAt Go.RowKit
open Go.ChangeMaps (open_string shut_string)
set_option linter.unusedVariables false

theorem own : ownKnob Try.prog.godebug = none := by kernel_rfl
theorem laidOut : laidOutB Try.prog = true := by kernel_rfl

/-- WHAT THE WALK IS TOLD OF A SLICE OF INTEGERS THAT CAME IN: it is nil; or it leads to a row of 'cap' cells, the numbers 'zs' (the first 'len' are its elements, the rest its spare room), each fitting its kind. -/
def IsRow (k : IntKind) (w : World) (a : Option Addr) (len cap : Nat) (zs : List Int) : Prop :=
  (a = none ∧ len = 0 ∧ cap = 0 ∧ zs = []) ∨
  ∃ x, a = some x ∧ len ≤ cap ∧ cap ≤ maxLen ∧ zs.length = cap ∧ (∀ i, i < zs.length → w.cell? (x.add i) = some (.int k (zs.getD i 0))) ∧ ∀ n ∈ zs, (Lit.int k n).wf = true

set_option maxHeartbeats 8000000 in
theorem walk (a0 : Option Addr) (len0 cap0 : Nat) (z0 : List Int) (w : World) (w0 : IsRow .u8 w a0 len0 cap0 z0) :
    Calls Try.prog 3 #[.slice a0 len0 cap0] w fun e w' => e = .returned (.bool true) ∧ Below w.heap.size w w' := by
  by_cases hbig : 1048576 < (len0 : Int)
  · go_enter Try.func3, Try.ntmps3
    go_wp2_with fail
    refine (big_yes _ _ _ _ hbig).mono ?_
    rintro e w' ⟨rfl, rfl⟩
    go_wp2
    go_ret
    exact ⟨rfl, Below.refl _ _⟩
  · have hl : len0 ≤ 1048576 := by omega
    have hcode : CodeRow w.heap.size w a0 len0 := by
      rcases w0 with ⟨rfl, rfl, rfl, rfl⟩ | ⟨x, rfl, h1, h2, h3, h4, h5⟩
      · exact .inl rfl
      · by_cases h0 : len0 = 0
        · exact .inl h0
        · obtain ⟨b, off, rfl, hc⟩ := ints_at h4 (by omega)
          refine .inr ⟨b, off, rfl, World.block_lt_of_cell? w ⟨b, off + 0, none⟩ (hc 0 (by omega)), fun i hi => ?_⟩
          refine ⟨_, hc i (by omega), ?_⟩
          have hb := bounds_u8 (h5 (z0.getD i 0) (by
            rw [List.getD_eq_getElem?_getD, List.getElem?_eq_getElem (by omega)]
            exact List.getElem_mem _))
          exact hb
    have HCO : Hid (CodeRow w.heap.size w a0 len0) := hcode
    clear w0 hcode
    go_enter Try.func3, Try.ntmps3
    go_wp2_with fail
    refine (big_no _ _ _ _ (by omega)).mono ?_
    rintro e w' ⟨rfl, rfl⟩
    go_wp2_with fail
    refine (drawPutNum _ _ _ _ hl HCO.out).mono ?_
    rintro e wa ⟨v, l, x, h9, rfl, ov, ba⟩
    have HV : Hid (BRow wa v l) := BRow.of_own ov
    have za := ba.size
    obtain ⟨vo, vc, hve⟩ := (BRow.of_own ov).slice
    have HP := hidB (fun W h => implPutNum x v l W h (by omega))
    have e1 : getL (l ++ numL x) (l.length : Int) = some (numC x, l.length + (numL x).length) := by
      have := getL_numL l [] x
      rwa [List.append_nil] at this
    have e2 : getL (partL (l ++ numL x) 0 (l.length + (numL x).length - 1)) (l.length : Int) = none := by
      have := getL_cut l x
      rw [List.length_append] at this
      exact this
    have hnl := numL_len x
    have hle := numC_le x
    obtain ⟨x0, h3, HX⟩ : ∃ x0 : Int, ((x < 0 ∧ ¬ 1000000000 < x ∧ x0 = 0) ∨ (1000000000 < x ∧ ¬ x < 0 ∧ x0 = 1000000000) ∨ (¬ x < 0 ∧ ¬ 1000000000 < x ∧ x0 = x)) ∧ Hid (x0 = (numC x : Int)) := by
      refine ⟨_, ?_, rfl⟩
      unfold numC
      repeat' split
      all_goals omega
    obtain ⟨M, HM⟩ : ∃ M, Hid (M = l.length + (numL x).length) := ⟨_, rfl⟩
    have hM1 : 1 ≤ M ∧ M ≤ 14 := by have := HM.out; omega
    obtain ⟨hM0, hM14⟩ := hM1
    have HRL : Hid ((l ++ numL x).length = M) := by rw [HM.out, List.length_append]; rfl
    rw [← HM.out] at e1 e2
    have HE1 := hidB e1
    have HE2 := hidB e2
    have HP2 : Hid (∀ W : World, BRow W v l → Calls Try.prog 14 #[v, .int .i64 x] W fun e w' => ∃ v', e = .returned v' ∧ w'.ownsRow W.heap.size 5 1 v' M (bcells (l ++ numL x)) ∧ Below W.heap.size W w') := fun W h => by
      have := HP.out W h
      rw [← HM.out] at this
      exact this
    subst hve
    clear e1 e2 HP ov HM hnl
    generalize l ++ numL x = T at *
    generalize numC x = N at *
    obtain ⟨L, HL⟩ : ∃ L, Hid (L = l.length) := ⟨_, rfl⟩
    have hL9 : L ≤ 9 := by have := HL.out; omega
    rw [← HL.out] at HE1 HE2 HV HP2 ⊢
    clear HL h9
    go_wp2_with fail
    refine (HP2.out _ HV.out).mono ?_
    rintro e wb ⟨vp, rfl, op, bp⟩
    have zb := bp.size
    have Bb : Below w.heap.size w wb := ba.trans (bp.mono za)
    have HBP := hidB (BRow.of_own op)
    rcases own_shape op with ⟨hz, _⟩ | ⟨_, g, pc, hvp⟩
    · exact absurd hz (by omega)
    subst hvp
    have hpc : M ≤ pc := by
      rcases op.2 with ⟨h, _⟩ | ⟨g', cap', cur, h, _, _, hnc, _⟩
      · cases h
      · injection h with _ _ h3
        omega
    have HPT : Hid (BRow wb (.slice (some ⟨g, 0, none⟩) (M - 1) pc) (partL T 0 (M - 1))) := by
      rcases HBP.out with ⟨h, _⟩ | ⟨h0, g', off', cap', h1, h2, h3⟩
      · rw [h] at HRL
        have := HRL.out
        simp at this
        omega
      · injection h1 with h1
        injection h1 with h1
        injection h1 with h1 h1b
        subst h1 h1b
        exact BRow.part h2 h3 (a := 0) (n := M - 1) (by have := HRL.out; omega) (by omega) rfl
    have HG1 := hidB (implGetNum (L : Int) _ T wb HBP.out (by have := HRL.out; omega))
    have HG2 := hidB (implGetNum (L : Int) _ _ wb HPT.out (by rw [partL_len (by have := HRL.out; omega)]; omega))
    rw [HE1.out] at HG1
    rw [HE2.out] at HG2
    clear op HBP HPT HE1 HE2 HRL HV HP2
    have HCb := hidB (HCO.out.later Bb)
    go_wp2_with fail
    refine HG1.out.mono ?_
    rintro e w1 ⟨rfl, rfl⟩
    unfold getV
    clear HG1
    have HF := hidB (drawPutText a0 len0 cap0 wb hl HCb.out)
    have eM : IntKind.i64.wrap ((M : Int) - 1) = ((M - 1 : Nat) : Int) := by
      rw [i64_wrap_small _ (by omega) (by omega)]
      omega
    rcases h3 with ⟨c1, c2, rfl⟩ | ⟨c1, c2, rfl⟩ | ⟨c1, c2, rfl⟩
    all_goals
      go_wp2_with fail
      refine HG2.out.mono ?_
      rintro e w1 ⟨rfl, rfl⟩
      unfold getV
      go_wp2_with fail
      refine HF.out.mono ?_
      rintro e wc ⟨v2, c, s, hc9, hs9, rfl, ov2, bc⟩
      have zc := bc.size
      have Bc : Below w.heap.size w wc := Bb.trans (bc.mono (by omega))
      have HV2 := hidB (BRow.of_own ov2)
      obtain ⟨vo2, vc2, hve2⟩ := (BRow.of_own ov2).slice
      subst hve2
      have hss : (⟨s.toArray⟩ : ByteArray).size = s.length := by simp [ByteArray.size]
      have HPT2 := hidB (implPutText ⟨s.toArray⟩ _ c wc HV2.out (by omega) (by rw [hss]; omega))
      have HB1 := hidB (text_back c s (by omega))
      have HB2 := hidB (text_part c s (s.length : Int))
      rw [hss] at HPT2
      have HTL : Hid ((c ++ (numL s.length ++ s)).length = c.length + (numL s.length).length + s.length) := by show _ = _; simp [Nat.add_assoc]
      have hnl2 := numL_len s.length
      have hs2 : (⟨s.toArray⟩ : ByteArray).data.toList = s := rfl
      rw [hs2] at HPT2
      generalize c ++ (numL s.length ++ s) = T2 at *
      clear hs2 hss ov2 HG2 HF HV2
      obtain ⟨C, HC⟩ : ∃ C, Hid (C = c.length) := ⟨_, rfl⟩
      obtain ⟨Q, HQ⟩ : ∃ Q, Hid (Q = T2.length) := ⟨_, rfl⟩
      have hQ : Q ≤ 23 := by have := HTL.out; have := HQ.out; omega
      rw [← HC.out, ← HQ.out] at HPT2
      rw [← HC.out] at HB1 HB2 ⊢
      go_wp2_with fail
      refine HPT2.out.mono ?_
      rintro e wd ⟨vq, rfl, oq, bq⟩
      have Bd : Below w.heap.size w wd := Bc.trans (bq.mono (by omega))
      have HGT := hidB (implGetText (C : Int) _ T2 wd (BRow.of_own oq) (by have := HQ.out; omega))
      rw [HB1.out] at HGT
      have HTV : Hid (textV T2 (some (C + (numL s.length).length, s.length)) = .tuple #[.string ⟨s.toArray⟩, .int .i64 (Q : Int), .bool true]) := by
        show Value.tuple #[.string ⟨(partL T2 (C + (numL s.length).length) s.length).toArray⟩, .int .i64 ((C + (numL s.length).length + s.length : Nat) : Int), .bool true] = _
        rw [HB2.out, HQ.out, HTL.out, HC.out]
      rw [HTV.out] at HGT
      obtain ⟨qo, qc, hqe⟩ := (BRow.of_own oq).slice
      rw [← HQ.out] at hqe
      subst hqe
      clear oq HTV HB1 HB2 HTL HPT2 HQ HC
      go_wp2_with fail
      refine HGT.out.mono ?_
      rintro e w1 ⟨rfl, rfl⟩
      have hx := HX.out
      clear HGT
      go_wp2
      go_ret
      exact ⟨rfl, Bd⟩

set_option maxRecDepth 100000 in
theorem lifted (os : Os) (started : os.Started) (H : Type) (enc : TypeId × Value → H) :
    ReturnsInHanded {} Try.checked os 3 .any (Rows.fnNumsSpec.pre6 enc Try.prog Try.f3 Rows.fnNumsRow.domain false) (Rows.fnNumsSpec.post enc Try.prog Try.f3 false true false false) := by
  refine returnsInHanded_of_change (C := Try.checked) own started (by kernel_rfl) Try.func3
    (ChangeSpec.witness6 (enc := enc) (C := Try.checked) false ⟨#[], #[.slice none 0 0], []⟩ 8 (by kernel_rfl) (by kernel_rfl) (by kernel_rfl) (by kernel_rfl)) ?_
  intro W base args ds gs before hval0 hW hcnd _
  have hval : ∀ (j : Nat) t v, Try.f3.params[j]? = some t → args[j]? = some v → Value.okWide Try.prog W .any base t v := hval0
  have hW' := hW
  obtain ⟨p, q, hA0, hV, rfl, hfz, hnd⟩ := hW
  have hA : DataW.TrodAll enc Try.prog W 0 (fun _ => true) true Try.f3.params.toList args.toList ds p := hA0
  rw [Try.params3] at hA hval
  obtain ⟨v0, vs0, d0, ds0, p0, q0, hargs, rfl, rfl, h0, r0⟩ := trodAll_cons hA
  obtain ⟨rfl, rfl, rfl⟩ := trodAll_nil r0
  obtain rfl : args = #[v0] := by cases args; simp_all
  obtain ⟨rfl, rfl⟩ := trodVars_none hV
  obtain ⟨a0, len0, cap0, rfl⟩ := okWide_slice Try.underlying22 (hval 0 22 v0 rfl rfl)
  have k0 := h0
  have lt0 : ∀ x ∈ p0, x.block < W.heap.size := by obtain ⟨m, hm⟩ := k0; exact DataW.trod_lt m _ _ _ hm
  obtain ⟨z0, w0⟩ : ∃ zs, IsRow .u8 W a0 len0 cap0 zs := by
    obtain ⟨fuel, hf⟩ := h0
    rcases open_ints Try.underlying22 Try.underlying5 (by kernel_rfl) hf with ⟨hcs, _⟩ | ⟨x, l, c, zs, hcs, _, hl, hm, hz, _, hcell, hwz⟩
    · simp [Value.cells] at hcs
      obtain ⟨rfl, rfl, rfl⟩ := hcs
      exact ⟨[], .inl ⟨rfl, rfl, rfl, rfl⟩⟩
    · simp [Value.cells] at hcs
      obtain ⟨rfl, rfl, rfl⟩ := hcs
      exact ⟨zs, .inr ⟨_, rfl, hl, hm, by simpa using hz, hcell, hwz⟩⟩
  clear hA0 hval0
  refine (walk a0 len0 cap0 z0 W w0).mono fun e W' ⟨he, bel⟩ => ?_
  subst he
  exact ⟨_, rfl, _, _, _, [], _, [], hW', trodAll_mk1 (shut_bool Try.underlying4 _), (trodAll_cons_mk (Below.trod laidOut (by kernel_rfl) (of_decide_eq_true (by kernel_rfl)) k0 bel lt0) trodAll_mk0), rfl, bel.frame _, fun h => by cases h⟩

theorem over : Rows.fnNumsRow.holds Try.pinned (OpenSpec.ofChange Rows.fnNumsSpec) :=
  OpenClaim.holds_of_wide 3 Try.f3 rfl rfl rfl rfl rfl rfl rfl ⟨rfl, rfl, rfl, rfl, rfl⟩ rfl rfl rfl rfl rfl (by kernel_rfl) Try.func3 (by kernel_rfl)
    (of_decide_eq_true (by kernel_rfl)) (by unfold Func.isWrapper; first | (rw [if_pos (by decide +kernel)]; kernel_rfl) | (rw [if_neg (by decide +kernel)]; exact ⟨rfl, rfl⟩))
    (fun os started H enc _ => lifted os started H enc)

theorem proved : Rows.FnNumsSaid := over
end Go.Proofs.Ytipknapebemejaa.fnNums

namespace Go.Proofs.Ytipknapebemejaa
theorem fnNums_holds : Rows.FnNumsSaid := fnNums.proved
#print axioms fnNums_holds
end Go.Proofs.Ytipknapebemejaa
