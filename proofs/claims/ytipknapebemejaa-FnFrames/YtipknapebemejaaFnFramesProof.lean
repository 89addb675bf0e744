/- Proved: laws.FnFrames answers true at every slice of bytes and leaves it as it was; no condition. -/
import Derived.Test.YtipknapebemejaaRows
import Derived.Test.YtipknapebemejaaDraw16
import Derived.Test.YtipknapebemejaaBytMarks
import Derived.Test.YtipknapebemejaaUnfBoth
import Derived.Test.YtipknapebemejaaFrmLaw
import Derived.ProofKit
import Derived.OpenShut
import Derived.ShutString
import Derived.ChangeOld
import Derived.Below
namespace Go.Proofs.Ytipknapebemejaa.fnFrames
open Go.ChangeShapes Go.WideShapes Go.ChangeAt Go.RowKit
open Go.ChangeMaps (open_string shut_string)
set_option linter.unusedVariables false

theorem own : ownKnob Try.prog.godebug = none := by kernel_rfl
theorem laidOut : laidOutB Try.prog = true := by kernel_rfl

/-- WHAT THE WALK IS TOLD OF A SLICE OF INTEGERS THAT CAME IN: it is nil; or it leads to a row of 'cap' cells, the numbers 'zs' (the first 'len' are its elements, the rest its spare room), each fitting its kind. -/
def IsRow (k : IntKind) (w : World) (a : Option Addr) (len cap : Nat) (zs : List Int) : Prop :=
  (a = none ∧ len = 0 ∧ cap = 0 ∧ zs = []) ∨
  ∃ x, a = some x ∧ len ≤ cap ∧ cap ≤ maxLen ∧ zs.length = cap ∧ (∀ i, i < zs.length → w.cell? (x.add i) = some (.int k (zs.getD i 0))) ∧ ∀ n ∈ zs, (Lit.int k n).wf = true

set_option maxHeartbeats 8000000 in
theorem walk (a0 : Option Addr) (len0 cap0 : Nat) (z0 : List Int) (w : World) (w0 : IsRow .u8 w a0 len0 cap0 z0) :
    Calls Try.prog 4 #[.slice a0 len0 cap0] w fun e w' => e = .returned (.bool true) ∧ Below w.heap.size w w' := by
  by_cases hbig : 1048576 < (len0 : Int)
  · go_enter Try.func4, Try.ntmps4
    go_wp2_with fail
    refine (big_yes _ _ _ _ hbig).mono ?_
    rintro e w' ⟨rfl, rfl⟩
    go_wp2
    go_ret
    exact ⟨rfl, Below.refl _ _⟩
  · have hl : len0 ≤ 1048576 := by omega
    have hcode : CodeRow w.heap.size w a0 len0 := by
      rcases w0 with ⟨rfl, rfl, rfl, rfl⟩ | ⟨x, rfl, h1, h2, h3, h4, h5⟩
      · exact .inl rfl
      · by_cases h0 : len0 = 0
        · exact .inl h0
        · obtain ⟨b, off, rfl, hc⟩ := ints_at h4 (by omega)
          refine .inr ⟨b, off, rfl, World.block_lt_of_cell? w ⟨b, off + 0, none⟩ (hc 0 (by omega)), fun i hi => ?_⟩
          refine ⟨_, hc i (by omega), ?_⟩
          have hb := bounds_u8 (h5 (z0.getD i 0) (by
            rw [List.getD_eq_getElem?_getD, List.getElem?_eq_getElem (by omega)]
            exact List.getElem_mem _))
          exact hb
    have HCO : Hid (CodeRow w.heap.size w a0 len0) := hcode
    clear w0 hcode
    go_enter Try.func4, Try.ntmps4
    go_wp2_with fail
    refine (big_no _ _ _ _ (by omega)).mono ?_
    rintro e w' ⟨rfl, rfl⟩
    go_wp2_with fail
    refine (drawFrame _ _ _ _ hl HCO.out).mono ?_
    rintro e wa ⟨vb, l, h9, rfl, ob, ba⟩
    have za := ba.size
    have HB := hidB (BRow.of_own ob)
    have HFr := hidB (implFrame vb l wa HB.out (by omega))
    have HFl := hidB (frame_len l (by omega))
    have HU1 := hidB (frame_back l [7, 7] (by omega))
    have HU2 := hidB (frame_part l [7, 7] (by omega))
    have HU3 := hidB (fun k h0 h1 c hc => frame_turned l (by omega) k h0 h1 c hc)
    have HU4 := hidB (fun m h => frame_cut l (by omega) m h)
    rw [HFl.out] at HFr
    generalize frameL l = FL at *
    obtain ⟨L, HL⟩ : ∃ L, Hid (L = l.length) := ⟨_, rfl⟩
    have hL9 : L ≤ 9 := by have := HL.out; omega
    rw [← HL.out] at HFl HFr HU1 HU2 HU3 HU4 ob
    obtain ⟨bo, bc, hbe⟩ := (BRow.of_own ob).slice
    rw [← HL.out] at hbe
    subst hbe
    clear h9
    go_wp2_with fail
    refine HFr.out.mono ?_
    rintro e wb ⟨vf, rfl, of, bf⟩
    have zb := bf.size
    have Bb : Below w.heap.size w wb := ba.trans (bf.mono za)
    have ob2 := own_below ob bf
    have HF := hidB (BRow.of_own of)
    rcases own_shape of with ⟨hz, _⟩ | ⟨_, g, fc, hvf⟩
    · exact absurd hz (by omega)
    subst hvf
    have hfc : L + 5 ≤ fc := by
      rcases of.2 with ⟨h, _⟩ | ⟨g', cap', cur, h, _, _, hnc, _⟩
      · cases h
      · injection h with _ _ h3
        omega
    have hgb := of.lt g rfl
    clear HFr ob of HB
    go_wp2_with (at_builtin; refine wpList_append_brow rfl _ _ 22 rfl wb.heap.size 5 Try.underlying22 Try.infoByte _ 0 [] rfl (World.ownsRow_lit wb #[] 0 (Nat.le_refl _) (by decide) rfl) _ FL rfl (HF.out.below ((Below.refl _ _).alloc (Nat.le_refl _) _)) (by have := HFl.out; omega) (by simp) ?_)
    intro vg wc oc g2 _
    have bc1 : Below wb.heap.size wb wc := ((Below.refl _ _).alloc (Nat.le_refl _) _).grown g2 (by simp) (fun k hk => by cases hk; exact Nat.le_refl _)
    have zc := bc1.size
    rw [HFl.out] at oc
    clear g2
    go_wp2_with (at_builtin; refine wpList_append_newAt _ rfl _ _ 22 rfl wb.heap.size 5 (.int .u8 0) 1 Try.underlying22 Try.infoByte rfl _ _ _ rfl oc #[.int .u8 7, .int .u8 7] 2 rfl rfl (by intro u hu; simp at hu; rcases hu with rfl | rfl <;> rfl) (by omega) (by unfold maxLen; omega) zc ?_)
    intro vh wd od g3 _
    have bd : Below wb.heap.size wb wd := bc1.grown g3 zc (fun k hk => (oc.lt k hk).1)
    have zd := bd.size
    have Bd : Below w.heap.size w wd := Bb.trans (bd.mono (by omega))
    have ED : Hid (bcells FL ++ (#[Value.int .u8 7, Value.int .u8 7]).toList = bcells (FL ++ [7, 7])) := by show _ = _; rw [bcells_append]; rfl
    rw [ED.out] at od
    have HUn := hidB (implUnframe 0 _ _ wd (BRow.of_own od) (by rw [List.length_append, HFl.out]; simp; omega))
    rw [HU1.out] at HUn
    have EB : Hid (unfB (FL ++ [7, 7]) (some (1, L)) = l) := HU2.out
    rw [EB.out, ← HL.out] at HUn
    have EP : Hid (unfP 0 (some (1, L)) = (L : Int) + 5) := by
      show ((1 + L + 4 : Nat) : Int) = _
      omega
    rw [EP.out] at HUn
    have ob3 := own_below (own_below ob2 bd) (Below.refl _ _)
    have HF3 := hidB (HF.out.below bd)
    clear oc g3 od ED ob2 HU1 HU2 EB HF
    go_wp2_with fail
    refine HUn.out.mono ?_
    rintro e we ⟨vi, rfl, oi, be⟩
    have ze := be.size
    have Be : Below w.heap.size w we := Bd.trans (be.mono (by omega))
    have ob4 := own_below ob3 be
    have HF4 := hidB (HF3.out.below be)
    have HCe := hidB (HCO.out.later Be)
    clear ob3 HF3 HUn
    go_wp2_with fail
    refine (sameBytes l L _ _ _ _ _ (by omega) oi ob4).mono ?_
    rintro e wf ⟨rfl, bf2⟩
    have zf := bf2.size
    have Bf : Below w.heap.size w wf := Be.trans (bf2.mono (by omega))
    have HF5 := hidB (HF4.out.below bf2)
    have HCf := hidB (HCO.out.later Bf)
    clear ob4 oi HF4 HCe
    go_wp2_with fail
    refine (lawsAt 2 _ _ _ _ _ (by omega) hl HCf.out).mono ?_
    rintro e w1 ⟨y2, hy2, rfl, rfl⟩
    go_wp2_with fail
    refine (lawsAt 3 _ _ _ _ _ (by omega) hl HCf.out).mono ?_
    rintro e w1 ⟨y3, hy3, rfl, rfl⟩
    go_upto_region 9 with fail
    obtain ⟨J, E, hK, hJ1, hJ2, hE8⟩ : ∃ J E : Nat, wrap64 (8 + ((y2 : Int) * 256 + (y3 : Int)) % (8 * ((L : Int) + 5) - 8)) = ((8 * J + E : Nat) : Int) ∧ 1 ≤ J ∧ J < L + 5 ∧ E < 8 := by
      obtain ⟨r, hr, hr1⟩ : ∃ r : Nat, ((y2 : Int) * 256 + (y3 : Int)) % (8 * ((L : Int) + 5) - 8) = (r : Int) ∧ r < 8 * (L + 5) - 8 := by
        have h1 := Int.emod_nonneg ((y2 : Int) * 256 + (y3 : Int)) (show (8 * ((L : Int) + 5) - 8) ≠ 0 by omega)
        have h2 := Int.emod_lt_of_pos ((y2 : Int) * 256 + (y3 : Int)) (show 0 < (8 * ((L : Int) + 5) - 8) by omega)
        exact ⟨_, (Int.toNat_of_nonneg h1).symm, by omega⟩
      rw [hr, w64_in _ (by omega)]
      exact ⟨(8 + r) / 8, (8 + r) % 8, by omega, by omega, by omega, by omega⟩
    rw [hK]
    obtain ⟨K, HK⟩ : ∃ K, Hid (K = 8 * J + E) := ⟨_, rfl⟩
    rw [← HK.out]
    have eJ : (K : Int) / 8 = (J : Int) := by have := HK.out; omega
    have eE : (K : Int) % 8 = (E : Int) := by have := HK.out; omega
    have hK2 : K ≤ 200 := by have := HK.out; omega
    clear hK HK
    go_wp2_with (at_builtin; refine wpList_append_brow rfl _ _ 22 rfl wf.heap.size 5 Try.underlying22 Try.infoByte _ 0 [] rfl (World.ownsRow_lit wf #[] 0 (Nat.le_refl _) (by decide) rfl) _ FL rfl (HF5.out.below ((Below.refl _ _).alloc (Nat.le_refl _) _)) (by have := HFl.out; omega) (by simp) ?_)
    intro vt wg og g4 _
    have bg : Below wf.heap.size wf wg := ((Below.refl _ _).alloc (Nat.le_refl _) _).grown g4 (by simp) (fun k hk => by cases hk; exact Nat.le_refl _)
    have zg := bg.size
    rw [HFl.out] at og
    rcases own_shape og with ⟨hz, _⟩ | ⟨_, gt, tc, hvt⟩
    · exact absurd hz (by omega)
    subst hvt
    have hgt := og.lt gt rfl
    have HF6 := hidB (HF5.out.below bg)
    have Bg : Below w.heap.size w wg := Bf.trans (bg.mono (by omega))
    have cJ := bcell_at og J hJ2
    have hfz := og.frozenAt J
    have hrJ : (FL.getD J 0).toNat < 256 := (FL.getD J 0).toNat_lt
    obtain ⟨t, ht1, ht2, ht3⟩ := turn_other (FL.getD J 0).toNat E hrJ hE8
    have R := og.stored J (.int .u8 (t : Int))
    have ES : Hid ((bcells FL).set J (.int .u8 (t : Int)) = bcells (FL.set J (UInt8.ofNat t))) := by
      show _ = _
      rw [bcells, bcells, List.map_set, ofNat_toNat ht1]
    rw [ES.out] at R
    obtain ⟨R1, R2⟩ := R
    have HT := hidB (HU3.out J hJ1 (by omega) (UInt8.ofNat t) (fun e => ht2 (by rw [e, ofNat_toNat ht1])))
    generalize (FL.getD J 0).toNat = r at *
    clear g4 og ES HF5 HCf HU3
    go_wp2_with fail
    have Bh : Below w.heap.size w (wg.setCell ⟨gt, J, none⟩ (.int .u8 (t : Int))) := Bg.grown R2 (by omega) (fun k hk => by cases hk; omega)
    have HF7 : Hid (BRow (wg.setCell ⟨gt, J, none⟩ (.int .u8 (t : Int))) (.slice (some ⟨g, 0, none⟩) (L + 5) fc) FL) := by
      rcases HF6.out with h | ⟨h0, g', off', cap', h1, h2, h3⟩
      · exact .inl h
      · refine .inr ⟨h0, g', off', cap', h1, Nat.lt_of_lt_of_le h2 R2.size, fun i hi => ?_⟩
        rw [← h3 i hi]
        refine World.cell?_of_block (R2.block g' h2 ?_)
        injection h1 with h1
        injection h1 with h1
        injection h1 with h1
        subst h1
        intro e
        injection e with e
        omega
    generalize wg.setCell ⟨gt, J, none⟩ (.int .u8 (t : Int)) = wh at *
    have zh := R2.size
    have HUt := hidB (implUnframe 0 _ _ wh (BRow.of_own R1) (by rw [List.length_set, HFl.out]; omega))
    rw [HT.out] at HUt
    clear R1 R2 HT HF6 cJ hfz ht3 eJ eE
    refine HUt.out.mono ?_
    rintro e wi ⟨vj, rfl, _, bi⟩
    have zi := bi.size
    have Bi : Below w.heap.size w wi := Bh.trans (bi.mono Bh.size)
    have HF8 := hidB (HF7.out.below bi)
    have HCi := hidB (HCO.out.later Bi)
    clear HUt HF7
    go_wp2_with fail
    refine (lawsAt 4 _ _ _ _ _ (by omega) hl HCi.out).mono ?_
    rintro e w1 ⟨y4, hy4, rfl, rfl⟩
    obtain ⟨m, hm, hm5⟩ : ∃ m : Nat, (y4 : Int) % ((L : Int) + 5) = (m : Int) ∧ m < L + 5 := ⟨y4 % (L + 5), by norm_cast, Nat.mod_lt _ (by omega)⟩
    have hmc : ¬ fc = 0 := by omega
    have HPm : Hid (BRow wi (.slice (some ⟨g, 0, none⟩) m fc) (FL.take m)) := by
      rcases HF8.out with ⟨h, _⟩ | ⟨h0, g', off', cap', h1, h2, h3⟩
      · rw [h] at HFl
        have := HFl.out
        simp at this
      · injection h1 with h1
        injection h1 with h1
        injection h1 with h1 h1b
        subst h1 h1b
        exact BRow.part h2 h3 (a := 0) (n := m) (by have := HFl.out; omega) (by omega) rfl
    have HUm := hidB (implUnframe 0 _ _ wi HPm.out (by rw [List.length_take]; omega))
    rw [HU4.out m hm5] at HUm
    clear HPm HF8 HU4
    go_wp2_with fail
    refine HUm.out.mono ?_
    rintro e wj ⟨vk, rfl, _, bj⟩
    have Bj : Below w.heap.size w wj := Bi.trans (bj.mono Bi.size)
    clear HUm bj bi hm
    go_wp2
    go_ret
    exact ⟨rfl, Bj⟩

set_option maxRecDepth 100000 in
theorem lifted (os : Os) (started : os.Started) (H : Type) (enc : TypeId × Value → H) :
    ReturnsInHanded {} Try.checked os 4 .any (Rows.fnFramesSpec.pre6 enc Try.prog Try.f4 Rows.fnFramesRow.domain false) (Rows.fnFramesSpec.post enc Try.prog Try.f4 false true false false) := by
  refine returnsInHanded_of_change (C := Try.checked) own started (by kernel_rfl) Try.func4
    (ChangeSpec.witness6 (enc := enc) (C := Try.checked) false ⟨#[], #[.slice none 0 0], []⟩ 8 (by kernel_rfl) (by kernel_rfl) (by kernel_rfl) (by kernel_rfl)) ?_
  intro W base args ds gs before hval0 hW hcnd _
  have hval : ∀ (j : Nat) t v, Try.f4.params[j]? = some t → args[j]? = some v → Value.okWide Try.prog W .any base t v := hval0
  have hW' := hW
  obtain ⟨p, q, hA0, hV, rfl, hfz, hnd⟩ := hW
  have hA : DataW.TrodAll enc Try.prog W 0 (fun _ => true) true Try.f4.params.toList args.toList ds p := hA0
  rw [Try.params4] at hA hval
  obtain ⟨v0, vs0, d0, ds0, p0, q0, hargs, rfl, rfl, h0, r0⟩ := trodAll_cons hA
  obtain ⟨rfl, rfl, rfl⟩ := trodAll_nil r0
  obtain rfl : args = #[v0] := by cases args; simp_all
  obtain ⟨rfl, rfl⟩ := trodVars_none hV
  obtain ⟨a0, len0, cap0, rfl⟩ := okWide_slice Try.underlying22 (hval 0 22 v0 rfl rfl)
  have k0 := h0
  have lt0 : ∀ x ∈ p0, x.block < W.heap.size := by obtain ⟨m, hm⟩ := k0; exact DataW.trod_lt m _ _ _ hm
  obtain ⟨z0, w0⟩ : ∃ zs, IsRow .u8 W a0 len0 cap0 zs := by
    obtain ⟨fuel, hf⟩ := h0
    rcases open_ints Try.underlying22 Try.underlying5 (by kernel_rfl) hf with ⟨hcs, _⟩ | ⟨x, l, c, zs, hcs, _, hl, hm, hz, _, hcell, hwz⟩
    · simp [Value.cells] at hcs
      obtain ⟨rfl, rfl, rfl⟩ := hcs
      exact ⟨[], .inl ⟨rfl, rfl, rfl, rfl⟩⟩
    · simp [Value.cells] at hcs
      obtain ⟨rfl, rfl, rfl⟩ := hcs
      exact ⟨zs, .inr ⟨_, rfl, hl, hm, by simpa using hz, hcell, hwz⟩⟩
  clear hA0 hval0
  refine (walk a0 len0 cap0 z0 W w0).mono fun e W' ⟨he, bel⟩ => ?_
  subst he
  exact ⟨_, rfl, _, _, _, [], _, [], hW', trodAll_mk1 (shut_bool Try.underlying4 _), (trodAll_cons_mk (Below.trod laidOut (by kernel_rfl) (of_decide_eq_true (by kernel_rfl)) k0 bel lt0) trodAll_mk0), rfl, bel.frame _, fun h => by cases h⟩

theorem over : Rows.fnFramesRow.holds Try.pinned (OpenSpec.ofChange Rows.fnFramesSpec) :=
  OpenClaim.holds_of_wide 4 Try.f4 rfl rfl rfl rfl rfl rfl rfl ⟨rfl, rfl, rfl, rfl, rfl⟩ rfl rfl rfl rfl rfl (by kernel_rfl) Try.func4 (by kernel_rfl)
    (of_decide_eq_true (by kernel_rfl)) (by unfold Func.isWrapper; first | (rw [if_pos (by decide +kernel)]; kernel_rfl) | (rw [if_neg (by decide +kernel)]; exact ⟨rfl, rfl⟩))
    (fun os started H enc _ => lifted os started H enc)

theorem proved : Rows.FnFramesSaid := over
end Go.Proofs.Ytipknapebemejaa.fnFrames

namespace Go.Proofs.Ytipknapebemejaa
theorem fnFrames_holds : Rows.FnFramesSaid := fnFrames.proved
#print axioms fnFrames_holds
end Go.Proofs.Ytipknapebemejaa
