/- The contract of the code's DropDots. -/
import Derived.Test.YtamnhegianpedaaRows
import Derived.Test.YtamnhegianpedaaDotImpl
import Derived.Test.YtamnhegianpedaaDropDotsSpec
namespace Go.Proofs.Ytamnhegianpedaa
open Go.RowKit

theorem prefix_rooted (p : ByteArray) : Lib.hasPrefix p.data.toList (⟨#[47]⟩ : ByteArray).data.toList = rooted p := by
  unfold Lib.hasPrefix rooted
  show List.isPrefixOf [47] p.data.toList = _
  cases p.data.toList with
  | nil => rfl
  | cons a r =>
    simp only [List.isPrefixOf, List.head?_cons, Bool.and_true]
    rw [Bool.eq_iff_iff]
    simp only [beq_iff_eq, Option.some.injEq]
    exact eq_comm

theorem lit_box {tb te : TypeId} {w : World} : ∃ v, Boxed (((w.alloc (.cells #[] te)).alloc (.cells #[.slice (some ⟨w.heap.size, 0, none⟩) 0 0] tb))) (w.heap.size + 1) tb v ∧ (((w.alloc (.cells #[] te)).alloc (.cells #[.slice (some ⟨w.heap.size, 0, none⟩) 0 0] tb))).ownsRow w.heap.size te 1 v 0 [] := by
  refine ⟨.slice (some ⟨w.heap.size, 0, none⟩) 0 0, ?_, ?_⟩
  · have h := Boxed.new (w.alloc (.cells #[] te)) tb (.slice (some ⟨w.heap.size, 0, none⟩) 0 0)
    rwa [World.size_alloc] at h
  · exact (World.ownsRow_lit w #[] 0 (Nat.le_refl _) (by decide) rfl).alloc _

set_option maxHeartbeats 1000000 in
theorem implKeeping (w : World) :
    Calls Try.prog 24 #[] w fun e w' => e = .returned (.tuple #[.func (.func 35) #[] #[.pointer (some ⟨w.heap.size + 1, 0, none⟩)], .func (.func 36) #[] #[.pointer (some ⟨w.heap.size + 1, 0, none⟩)]]) ∧
      (∃ v, Boxed w' (w.heap.size + 1) 26 v ∧ w'.ownsRow w.heap.size 9 1 v 0 []) ∧ w'.heap.size = w.heap.size + 2 ∧ Below w.heap.size w w' := by
  have hmf : ∀ (fn : Fn) (first cap : Array Value) (w : World), (Instr.makeFunc fn first cap).run Try.prog w = .ok (.func fn first cap) w := fun _ _ _ _ => rfl
  go_enter Try.func24, Try.ntmps24
  go_wp2
  go_ret2
  refine ⟨rfl, lit_box, by simp, ((Below.refl _ w).alloc (Nat.le_refl _) _).alloc (by simp) _⟩

theorem kept_zero {l : List ByteArray} (h : isd (toL (lastD l)) = 0) : foldD l = keptD l := by unfold keptD; rw [if_pos h]
theorem kept_dot {l : List ByteArray} (h : isd (toL (lastD l)) ≠ 0) : stepD (foldD l) ⟨#[]⟩ = keptD l := by
  unfold keptD
  rw [if_neg h, step_zero (show isd (toL (⟨#[]⟩ : ByteArray)) = 0 from isd_nil)]
  rfl

set_option maxRecDepth 100000 in
set_option maxHeartbeats 4000000 in
theorem implDropDots (p : ByteArray) (w : World) (hs : p.size ≤ 1048576) :
    Calls Try.prog 10 #[.string p] w fun e w' => e = .returned (.string (dropT p)) ∧ Below w.heap.size w w' := by
  have CP : Hid (∀ W, Calls Try.prog 22 #[.string p, .string ⟨#[47]⟩] W fun e w' => e = .returned (.bool (rooted p)) ∧ W = w') := fun W =>
    (Try.strings_HasPrefix p ⟨#[47]⟩ W).mono fun e w' h => ⟨by rw [h.1, prefix_rooted], h.2.symm⟩
  cases hr : rooted p with
  | false =>
    have HD : Hid (p = dropT p) := (dropT_no hr).symm
    rw [hr] at CP
    clear hr
    go_enter Try.func10, Try.ntmps10
    go_wp2_with fail
    refine (CP.out _).mono ?_
    rintro e w' ⟨rfl, rfl⟩
    go_wp2_with fail
    refine (strClone _ _ (by omega)).mono ?_
    rintro e wa ⟨rfl, ba⟩
    go_wp2
    go_ret
    exact ⟨ret_bytes HD.out, ba⟩
  | true =>
    rw [hr] at CP
    have HD : Hid ((⟨(slL (keptD (partsD p))).toArray⟩ : ByteArray) = dropT p) := dropT_yes hr
    have hfp := fields_parts hr
    have hlp := parts_pos hr
    have hll : (partsD p).length ≤ 1048577 := by
      have h1 := (fieldsTo_le p 47 p.size).2
      have h2 : (fieldsL p 47).length = (partsD p).length + 1 := by rw [hfp]; rfl
      unfold fieldsL at h2
      rw [List.length_append, List.length_singleton] at h2
      omega
    have hxs : ∀ j, j < (partsD p).length → ((partsD p).getD j ByteArray.empty).size ≤ 1048576 := fun j hj => by
      have hm : (partsD p).getD j ByteArray.empty ∈ fieldsL p 47 := by
        rw [hfp, List.getD_eq_getElem?_getD, List.getElem?_eq_getElem hj]
        exact List.mem_cons_of_mem _ (List.getElem_mem hj)
      have h1 := fieldsL_sizes _ _ _ hm
      omega
    have hkz : ((slL (keptD (partsD p))).length : Int) ≤ 1048577 := by
      have h1 := kept_size (partsD p)
      rw [sl_parts hr] at h1
      have h2 : p.data.toList.length = p.size := by simp
      omega
    have CF : Hid (∀ W, Calls Try.prog 11 #[.string p, .int .u8 47] W fun e w' => ∃ v, e = .returned v ∧ w'.ownsRow W.heap.size 9 1 v ((partsD p).length + 1) (scells (ByteArray.empty :: partsD p)) ∧ Below W.heap.size W w') := fun W => by
      have h1 := implFields p 47 W hs
      rw [hfp] at h1
      exact h1
    clear hfp hr
    generalize partsD p = l at HD hlp hll hxs hkz CF
    have HX : Hid (∀ j, j < l.length → (l.getD j ByteArray.empty).size ≤ 1048576) := hxs
    have HKZ : Hid (((slL (keptD l)).length : Int) ≤ 1048577) := hkz
    clear hxs hkz
    go_enter Try.func10, Try.ntmps10
    go_wp2_with fail
    refine (CP.out _).mono ?_
    rintro e w' ⟨rfl, rfl⟩
    go_wp2_with fail
    refine (implKeeping _).mono ?_
    rintro e wa ⟨rfl, ⟨v0, hb0, ho0⟩, za, ba⟩
    go_wp2_with fail
    refine (CF.out _).mono ?_
    rintro e wb ⟨vb, rfl, ob, bb⟩
    have zb := bb.size
    rcases own_shape ob with ⟨h, _⟩ | ⟨_, g, cp, rfl⟩
    · omega
    have hglt := ob.lt g rfl
    have hcap := own_cap ob
    have HC : Hid (∀ j, j < l.length → wb.cell? ⟨g, j + 1, none⟩ = some (.string (l.getD j ByteArray.empty))) := fun j hj => by
      have h1 := scell_at ob (j + 1) (by omega)
      rw [h1]
      rfl
    have hgB : g ≠ w.heap.size + 1 := by omega
    have K0 : KeepI 26 9 w.heap.size (w.heap.size + 1) g [] wb := by
      refine ⟨v0, box_below hb0 bb, ?_, ?_, hglt.2⟩
      · exact ho0.kept (grown_of bb) (by cases hv : v0.ownBlock <;> simp)
      · intro e
        have := (ho0.lt g e.symm).2
        omega
    have B0 : Below w.heap.size w wb := ba.trans (bb.mono (by omega))
    clear ob hb0 ho0 ba bb
    have hl0 : 0 < (l.length : Int) := by omega
    have HG : Hid (wa.heap.size ≤ g ∧ g < wb.heap.size) := hglt
    have HK0 : Hid (KeepI 26 9 w.heap.size (w.heap.size + 1) g [] wb) := K0
    have HB0 : Hid (Below w.heap.size w wb) := B0
    have HGB : Hid (g ≠ w.heap.size + 1) := hgB
    clear hglt K0 B0 hgB
    go_wp2_with fail
    go_loopw [22] (fun i wr => ∃ k : Nat, k ≤ l.length ∧ i = .int .i64 k ∧ KeepI 26 9 w.heap.size (w.heap.size + 1) g (foldD (l.take k)) wr ∧ wr.heap[g]? = wb.heap[g]? ∧ Below w.heap.size w wr)
      (fun i _ => l.length - (intOf i).toNat)
    case atStart => exact ⟨0, Nat.zero_le _, rfl, HK0.out, rfl, HB0.out⟩
    case round =>
      obtain ⟨k, hk, rfl, hkeep, hgs, hbel⟩ := hrel
      have HKP : Hid (KeepI 26 9 w.heap.size (w.heap.size + 1) g (foldD (l.take k)) wr) := hkeep
      have HGS : Hid (wr.heap[g]? = wb.heap[g]?) := hgs
      have HBL : Hid (Below w.heap.size w wr) := hbel
      have hfl : (foldD (l.take k)).length ≤ 1048577 := by
        have h1 := fold_length (l.take k)
        rw [List.length_take] at h1
        omega
      clear hkeep hgs hbel
      by_cases hlt : k < l.length
      · have hc : wr.cell? ⟨g, 1 + k, none⟩ = some (.string (l.getD k ByteArray.empty)) := by
          rw [cell_same HGS.out, Nat.add_comm 1 k]
          exact HC.out k hlt
        have hx := HX.out k hlt
        have HF : Hid (foldD (l.take (k + 1)) = stepD (foldD (l.take k)) (l.getD k ByteArray.empty)) := fold_take l k hlt
        generalize l.getD k ByteArray.empty = x at hc hx HF
        have hxi : (x.size : Int) ≤ 1048576 := by omega
        go_wp2_with fail
        refine (implTake w.heap.size (w.heap.size + 1) g (foldD (l.take k)) x wr hx hfl HGB.out (by omega) HKP.out).mono ?_
        rintro e wc ⟨rfl, kc, gc, bc⟩
        have KC : Hid (KeepI 26 9 w.heap.size (w.heap.size + 1) g (foldD (l.take (k + 1))) wc) := by show KeepI _ _ _ _ _ _ _; rw [HF.out]; exact kc
        have GC : Hid (wc.heap[g]? = wb.heap[g]?) := gc.trans HGS.out
        have BC : Hid (Below w.heap.size w wc) := HBL.out.trans bc
        clear kc gc bc
        go_wp2_with fail
        go_roundw
        case rel => exact ⟨k + 1, by omega, by go_num, KC.out, GC.out, BC.out⟩
        case measure => simp [intOf]; omega
      · have hke : k = l.length := by omega
        rw [hke, List.take_length] at HKP
        rw [hke, List.take_length] at hfl
        have hc : wr.cell? ⟨g, 1 + (l.length - 1), none⟩ = some (.string (lastD l)) := by
          rw [cell_same HGS.out, Nat.add_comm 1 _]
          exact HC.out (l.length - 1) (by omega)
        have hx : (lastD l).size ≤ 1048576 := HX.out (l.length - 1) (by omega)
        have HZ : Hid (∀ h : isd (toL (lastD l)) = 0, foldD l = keptD l) := kept_zero
        have HT : Hid (∀ h : isd (toL (lastD l)) ≠ 0, stepD (foldD l) ⟨#[]⟩ = keptD l) := kept_dot
        have HKN : Hid (keptD l ≠ []) := kept_ne hlp
        have HKL : Hid (((keptD l).length : Int) ≤ 1048577) := by
          show _ ≤ _
          have := kept_length l
          omega
        generalize lastD l = x at hc hx HZ HT
        have CI : Hid (∀ W, Calls Try.prog 12 #[.string x] W fun e w' => e = .returned (.int .i64 (isd x.data.toList : Int)) ∧ Below W.heap.size W w') := fun W => implIsDot x W hx
        have hd := isd_le x.data.toList
        clear hke
        by_cases d0 : isd x.data.toList = 0
        · have HN : Hid (foldD l = keptD l) := HZ.out d0
          have hdi : ¬ 0 < (isd x.data.toList : Int) := by omega
          clear d0 HZ HT hd
          go_wp2_with fail
          refine (CI.out _).mono ?_
          rintro e wc ⟨rfl, bc⟩
          have zc := bc.size
          have KC : Hid (KeepI 26 9 w.heap.size (w.heap.size + 1) g (keptD l) wc) := by show KeepI _ _ _ _ _ _ _; rw [← HN.out]; exact keepI_below HKP.out bc
          have BC : Hid (Below w.heap.size w wc) := HBL.out.trans (bc.mono HBL.out.size)
          clear bc
          go_wp2_with fail
          refine (implKeptText w.heap.size (w.heap.size + 1) g (keptD l) wc HKN.out HKL.out HKZ.out KC.out).mono ?_
          rintro e wd ⟨rfl, bd⟩
          have BD : Hid (Below w.heap.size w wd) := BC.out.trans (bd.mono BC.out.size)
          clear bd
          go_wp2
          go_ret
          exact ⟨ret_bytes HD.out, BD.out⟩
        · have HN : Hid (stepD (foldD l) ⟨#[]⟩ = keptD l) := HT.out d0
          have hdi : 0 < (isd x.data.toList : Int) := by omega
          clear d0 HZ HT hd
          go_wp2_with fail
          refine (CI.out _).mono ?_
          rintro e wc ⟨rfl, bc⟩
          have zc := bc.size
          have KC : Hid (KeepI 26 9 w.heap.size (w.heap.size + 1) g (foldD l) wc) := keepI_below HKP.out bc
          have BC : Hid (Below w.heap.size w wc) := HBL.out.trans (bc.mono HBL.out.size)
          clear bc
          go_wp2_with fail
          refine (implTake w.heap.size (w.heap.size + 1) g (foldD l) ⟨#[]⟩ wc (by decide) hfl HGB.out (by omega) KC.out).mono ?_
          rintro e wd ⟨rfl, kd, gd, bd⟩
          have KD : Hid (KeepI 26 9 w.heap.size (w.heap.size + 1) g (keptD l) wd) := by show KeepI _ _ _ _ _ _ _; rw [← HN.out]; exact kd
          have BD : Hid (Below w.heap.size w wd) := BC.out.trans bd
          clear kd gd bd
          go_wp2_with fail
          refine (implKeptText w.heap.size (w.heap.size + 1) g (keptD l) wd HKN.out HKL.out HKZ.out KD.out).mono ?_
          rintro e we ⟨rfl, be⟩
          have BE : Hid (Below w.heap.size w we) := BD.out.trans (be.mono BD.out.size)
          clear be
          go_wp2
          go_ret
          exact ⟨ret_bytes HD.out, BE.out⟩
end Go.Proofs.Ytamnhegianpedaa
