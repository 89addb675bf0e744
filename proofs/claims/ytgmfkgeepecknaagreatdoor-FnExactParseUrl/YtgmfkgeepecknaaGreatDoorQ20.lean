/- DropDotsImpl, UrlImpl1. -/
import Derived.Test.YtgmfkgeepecknaaGreatDoorQ19
set_option maxHeartbeats 4000000
set_option maxRecDepth 100000
namespace Go.Proofs.YtgmfkgeepecknaaGreatDoor
open Go.RowKit
theorem prefix_rooted (p : ByteArray) : Lib.hasPrefix p.data.toList (⟨#[47]⟩ : ByteArray).data.toList = rooted p := by
 unfold Lib.hasPrefix rooted
 show List.isPrefixOf [47] p.data.toList = _
 cases p.data.toList with
 | nil => rfl
 | cons a r =>
  simp only [List.isPrefixOf, List.head?_cons, Bool.and_true]
  rw [Bool.eq_iff_iff]
  simp only [beq_iff_eq, Option.some.injEq]
  exact eq_comm
theorem lit_box {tb te : TypeId} {w : World} : ∃ v, Boxed (((w.alloc (.cells #[] te)).alloc (.cells #[.slice (some ⟨w.heap.size, 0, none⟩) 0 0] tb))) (w.heap.size + 1) tb v ∧ (((w.alloc (.cells #[] te)).alloc (.cells #[.slice (some ⟨w.heap.size, 0, none⟩) 0 0] tb))).ownsRow w.heap.size te 1 v 0 [] := by
 refine ⟨.slice (some ⟨w.heap.size, 0, none⟩) 0 0, ?_, ?_⟩
 ·have h := Boxed.new (w.alloc (.cells #[] te)) tb (.slice (some ⟨w.heap.size, 0, none⟩) 0 0)
  rwa [World.size_alloc] at h
 exact (World.ownsRow_lit w #[] 0 (Nat.le_refl _) (by decide) rfl).alloc _
theorem implKeeping (w : World) :
  Calls Tryz.prog 113 #[] w fun e w' => e = .returned (.tuple #[.func (.func 156) #[] #[.pointer (some ⟨w.heap.size + 1, 0, none⟩)], .func (.func 157) #[] #[.pointer (some ⟨w.heap.size + 1, 0, none⟩)]]) ∧
   (∃ v, Boxed w' (w.heap.size + 1) 84 v ∧ w'.ownsRow w.heap.size 9 1 v 0 []) ∧ w'.heap.size = w.heap.size + 2 ∧ Below w.heap.size w w' := by
 have hmf : ∀ (fn : Fn) (first cap : Array Value) (w : World), (Instr.makeFunc fn first cap).run Tryz.prog w = .ok (.func fn first cap) w := fun _ _ _ _ => rfl
 go_enter Tryz.func113, Tryz.ntmps113
 go_wp2
 go_ret2
 refine ⟨rfl, lit_box, by simp, ((Below.refl _ w).alloc (Nat.le_refl _) _).alloc (by simp) _⟩
theorem kept_zero {l : List ByteArray} (h : isd (toL (lastD l)) = 0) : foldD l = keptD l := by unfold keptD; rw [if_pos h]
theorem kept_dot {l : List ByteArray} (h : isd (toL (lastD l)) ≠ 0) : stepD (foldD l) ⟨#[]⟩ = keptD l := by
 unfold keptD
 rw [if_neg h, step_zero (show isd (toL (⟨#[]⟩ : ByteArray)) = 0 from isd_nil)]
 rfl
theorem implDropDots (p : ByteArray) (w : World) (hs : p.size ≤ 1048576) :
  Calls Tryz.prog 71 #[.string p] w fun e w' => e = .returned (.string (dropT p)) ∧ Below w.heap.size w w' := by
 have CP : Hid (∀ W, CS 69 #[.string p, .string ⟨#[47]⟩] W (.bool (rooted p))) := fun W =>
  (Tryz.strings_HasPrefix p ⟨#[47]⟩ W).mono fun e w' h => ⟨by rw [h.1, prefix_rooted], h.2.symm⟩
 cases hr : rooted p with
 | false =>
  have HD : Hid (p = dropT p) := (dropT_no hr).symm
  rw [hr] at CP
  clear hr
  go_enter Tryz.func71, Tryz.ntmps71
  go_wp2_with fail
  refine (CP.out _).mono ?_
  rintro e w' ⟨rfl, rfl⟩
  go_wp2_with fail
  refine (strClone _ _ (by omega)).mono ?_
  rintro e wa ⟨rfl, ba⟩
  go_wp2
  go_ret
  exact ⟨ret_bytes HD.out, ba⟩
 | true =>
  rw [hr] at CP
  have HD : Hid ((⟨(slL (keptD (partsD p))).toArray⟩ : ByteArray) = dropT p) := dropT_yes hr
  have hfp := fields_parts hr
  have hlp := parts_pos hr
  have hll : (partsD p).length ≤ 1048577 := by
   have h1 := (fieldsTo_le p 47 p.size).2
   have h2 : (fieldsL p 47).length = (partsD p).length + 1 := by rw [hfp]; rfl
   unfold fieldsL at h2
   rw [List.length_append, List.length_singleton] at h2
   omega
  have hxs : ∀ j, j < (partsD p).length → ((partsD p).getD j ByteArray.empty).size ≤ 1048576 := fun j hj => by
   have hm : (partsD p).getD j ByteArray.empty ∈ fieldsL p 47 := by
    rw [hfp, List.getD_eq_getElem?_getD, List.getElem?_eq_getElem hj]
    exact List.mem_cons_of_mem _ (List.getElem_mem hj)
   have h1 := fieldsL_sizes _ _ _ hm
   omega
  have hkz : ((slL (keptD (partsD p))).length : Int) ≤ 1048577 := by
   have h1 := kept_size (partsD p)
   rw [sl_parts hr] at h1
   have h2 : p.data.toList.length = p.size := by simp
   omega
  have CF : Hid (∀ W, Calls Tryz.prog 114 #[.string p, .int .u8 47] W fun e w' => ∃ v, e = .returned v ∧ w'.ownsRow W.heap.size 9 1 v ((partsD p).length + 1) (scells (ByteArray.empty :: partsD p)) ∧ Below W.heap.size W w') := fun W => by
   have h1 := implFields p 47 W hs
   rw [hfp] at h1
   exact h1
  clear hfp hr
  generalize partsD p = l at HD hlp hll hxs hkz CF
  have HX : Hid (∀ j, j < l.length → (l.getD j ByteArray.empty).size ≤ 1048576) := hxs
  have HKZ : Hid (((slL (keptD l)).length : Int) ≤ 1048577) := hkz
  clear hxs hkz
  go_enter Tryz.func71, Tryz.ntmps71
  go_wp2_with fail
  refine (CP.out _).mono ?_
  rintro e w' ⟨rfl, rfl⟩
  go_wp2_with fail
  refine (implKeeping _).mono ?_
  rintro e wa ⟨rfl, ⟨v0, hb0, ho0⟩, za, ba⟩
  go_wp2_with fail
  refine (CF.out _).mono ?_
  rintro e wb ⟨vb, rfl, ob, bb⟩
  have zb := bb.size
  rcases own_shape ob with ⟨h, _⟩ | ⟨_, g, cp, rfl⟩
  ·omega
  have hglt := ob.lt g rfl
  have hcap := own_cap ob
  have HC : Hid (∀ j, j < l.length → wb.cell? ⟨g, j + 1, none⟩ = some (.string (l.getD j ByteArray.empty))) := fun j hj => by
   have h1 := scell_at ob (j + 1) (by omega)
   rw [h1]
   rfl
  have hgB : g ≠ w.heap.size + 1 := by omega
  have K0 : KeepI 84 9 w.heap.size (w.heap.size + 1) g [] wb := by
   refine ⟨v0, box_below hb0 bb, ?_, ?_, hglt.2⟩
   ·exact ho0.kept (grown_of bb) (by cases hv : v0.ownBlock <;> simp)
   intro e
   have := (ho0.lt g e.symm).2
   omega
  have B0 : Below w.heap.size w wb := ba.trans (bb.mono (by omega))
  clear ob hb0 ho0 ba bb
  have hl0 : 0 < (l.length : Int) := by omega
  have HG : Hid (wa.heap.size ≤ g ∧ g < wb.heap.size) := hglt
  have HK0 : Hid (KeepI 84 9 w.heap.size (w.heap.size + 1) g [] wb) := K0
  have HB0 : Hid (Below w.heap.size w wb) := B0
  have HGB : Hid (g ≠ w.heap.size + 1) := hgB
  clear hglt K0 B0 hgB
  go_wp2_with fail
  go_loopw [22] (fun i wr => ∃ k : Nat, k ≤ l.length ∧ i = .int .i64 k ∧ KeepI 84 9 w.heap.size (w.heap.size + 1) g (foldD (l.take k)) wr ∧ wr.heap[g]? = wb.heap[g]? ∧ Below w.heap.size w wr)
   (fun i _ => l.length - (intOf i).toNat)
  case atStart => exact ⟨0, Nat.zero_le _, rfl, HK0.out, rfl, HB0.out⟩
  obtain ⟨k, hk, rfl, hkeep, hgs, hbel⟩ := hrel
  have HKP : Hid (KeepI 84 9 w.heap.size (w.heap.size + 1) g (foldD (l.take k)) wr) := hkeep
  have HGS : Hid (wr.heap[g]? = wb.heap[g]?) := hgs
  have HBL : Hid (Below w.heap.size w wr) := hbel
  have hfl : (foldD (l.take k)).length ≤ 1048577 := by
   have h1 := fold_length (l.take k)
   rw [List.length_take] at h1
   omega
  clear hkeep hgs hbel
  by_cases hlt : k < l.length
  ·have hc : wr.cell? ⟨g, 1 + k, none⟩ = some (.string (l.getD k ByteArray.empty)) := by
    rw [cell_same HGS.out, Nat.add_comm 1 k]
    exact HC.out k hlt
   have hx := HX.out k hlt
   have HF : Hid (foldD (l.take (k + 1)) = stepD (foldD (l.take k)) (l.getD k ByteArray.empty)) := fold_take l k hlt
   generalize l.getD k ByteArray.empty = x at hc hx HF
   have hxi : (x.size : Int) ≤ 1048576 := by omega
   go_wp2_with fail
   refine (implTake w.heap.size (w.heap.size + 1) g (foldD (l.take k)) x wr hx hfl HGB.out (by omega) HKP.out).mono ?_
   rintro e wc ⟨rfl, kc, gc, bc⟩
   have KC : Hid (KeepI 84 9 w.heap.size (w.heap.size + 1) g (foldD (l.take (k + 1))) wc) := by show KeepI _ _ _ _ _ _ _; rw [HF.out]; exact kc
   have GC : Hid (wc.heap[g]? = wb.heap[g]?) := gc.trans HGS.out
   have BC : Hid (Below w.heap.size w wc) := HBL.out.trans bc
   clear kc gc bc
   go_wp2_with fail
   go_roundw
   case rel => exact ⟨k + 1, by omega, by go_num, KC.out, GC.out, BC.out⟩
   case measure => simp [intOf]; omega
  have hke : k = l.length := by omega
  rw [hke, List.take_length] at HKP
  rw [hke, List.take_length] at hfl
  have hc : wr.cell? ⟨g, 1 + (l.length - 1), none⟩ = some (.string (lastD l)) := by
   rw [cell_same HGS.out, Nat.add_comm 1 _]
   exact HC.out (l.length - 1) (by omega)
  have hx : (lastD l).size ≤ 1048576 := HX.out (l.length - 1) (by omega)
  have HZ : Hid (∀ h : isd (toL (lastD l)) = 0, foldD l = keptD l) := kept_zero
  have HT : Hid (∀ h : isd (toL (lastD l)) ≠ 0, stepD (foldD l) ⟨#[]⟩ = keptD l) := kept_dot
  have HKN : Hid (keptD l ≠ []) := kept_ne hlp
  have HKL : Hid (((keptD l).length : Int) ≤ 1048577) := by
   show _ ≤ _
   have := kept_length l
   omega
  generalize lastD l = x at hc hx HZ HT
  have CI : Hid (∀ W, CB 115 #[.string x] W (.int .i64 (isd x.data.toList : Int))) := fun W => implIsDot x W hx
  have hd := isd_le x.data.toList
  clear hke
  by_cases d0 : isd x.data.toList = 0
  ·have HN : Hid (foldD l = keptD l) := HZ.out d0
   have hdi : ¬ 0 < (isd x.data.toList : Int) := by omega
   clear d0 HZ HT hd
   go_wp2_with fail
   refine (CI.out _).mono ?_
   rintro e wc ⟨rfl, bc⟩
   have zc := bc.size
   have KC : Hid (KeepI 84 9 w.heap.size (w.heap.size + 1) g (keptD l) wc) := by show KeepI _ _ _ _ _ _ _; rw [← HN.out]; exact keepI_below HKP.out bc
   have BC : Hid (Below w.heap.size w wc) := HBL.out.trans (bc.mono HBL.out.size)
   clear bc
   go_wp2_with fail
   refine (implKeptText w.heap.size (w.heap.size + 1) g (keptD l) wc HKN.out HKL.out HKZ.out KC.out).mono ?_
   rintro e wd ⟨rfl, bd⟩
   have BD : Hid (Below w.heap.size w wd) := BC.out.trans (bd.mono BC.out.size)
   clear bd
   go_wp2
   go_ret
   exact ⟨ret_bytes HD.out, BD.out⟩
  have HN : Hid (stepD (foldD l) ⟨#[]⟩ = keptD l) := HT.out d0
  have hdi : 0 < (isd x.data.toList : Int) := by omega
  clear d0 HZ HT hd
  go_wp2_with fail
  refine (CI.out _).mono ?_
  rintro e wc ⟨rfl, bc⟩
  have zc := bc.size
  have KC : Hid (KeepI 84 9 w.heap.size (w.heap.size + 1) g (foldD l) wc) := keepI_below HKP.out bc
  have BC : Hid (Below w.heap.size w wc) := HBL.out.trans (bc.mono HBL.out.size)
  clear bc
  go_wp2_with fail
  refine (implTake w.heap.size (w.heap.size + 1) g (foldD l) ⟨#[]⟩ wc (by decide) hfl HGB.out (by omega) KC.out).mono ?_
  rintro e wd ⟨rfl, kd, gd, bd⟩
  have KD : Hid (KeepI 84 9 w.heap.size (w.heap.size + 1) g (keptD l) wd) := by show KeepI _ _ _ _ _ _ _; rw [← HN.out]; exact kd
  have BD : Hid (Below w.heap.size w wd) := BC.out.trans bd
  clear kd gd bd
  go_wp2_with fail
  refine (implKeptText w.heap.size (w.heap.size + 1) g (keptD l) wd HKN.out HKL.out HKZ.out KD.out).mono ?_
  rintro e we ⟨rfl, be⟩
  have BE : Hid (Below w.heap.size w we) := BD.out.trans (be.mono BD.out.size)
  clear be
  go_wp2
  go_ret
  exact ⟨ret_bytes HD.out, BE.out⟩
theorem beq_bytes (a b : ByteArray) : (a.toList == b.toList) = decide (a = b) := by
 rw [ByteArray.toList_eq, ByteArray.toList_eq]
 by_cases h : a = b
 ·subst h; rw [decide_eq_true rfl]; exact beq_self_eq_true _
 rw [decide_eq_false h]; exact beq_eq_false_iff_ne.2 (fun e => h (toL_inj e))
theorem size_mk (l : List UInt8) : (⟨l.toArray⟩ : ByteArray).size = l.length := List.size_toArray
def schB (s : Int) : ByteArray := if s = 1 then ⟨#[104, 116, 116, 112, 58]⟩ else if s = 2 then ⟨#[104, 116, 116, 112, 115, 58]⟩ else ⟨#[]⟩
theorem schB_ok (s : Int) : (schB s).toList.isEmpty = decide (dport s = 0) := by
 unfold schB dport
 by_cases h1 : s = 1
 ·rw [if_pos h1, if_pos h1]; exact empty_no (u := ⟨#[104, 116, 116, 112, 58]⟩) (by decide)
 rw [if_neg h1, if_neg h1]
 by_cases h2 : s = 2
 ·rw [if_pos h2, if_pos h2]; exact empty_no (u := ⟨#[104, 116, 116, 112, 115, 58]⟩) (by decide)
 rw [if_neg h2, if_neg h2]; exact empty_yes (u := ⟨#[]⟩) rfl
theorem schB_T {s : Int} (h : dport s ≠ 0) : schB s = ⟨(schT s).toArray⟩ := by
 unfold dport at h
 unfold schB schT
 by_cases h1 : s = 1
 ·subst h1; rfl
 rw [if_neg h1] at h
 by_cases h2 : s = 2
 ·subst h2; rfl
 rw [if_neg h2] at h; exact absurd rfl h
theorem implSchemeText (s : Int) (w : World) :
  Calls Tryz.prog 29 #[.int .i64 s] w fun e w' => e = .returned (.string (schB s)) ∧ w = w' := by
 by_cases h1 : s = 1
 ·subst h1
  go_enter Tryz.func29, Tryz.ntmps29
  go_wp2
  go_ret
  exact ⟨rfl, rfl⟩
 have q1 : (s == 1) = false := beq_eq_false_iff_ne.2 h1
 by_cases h2 : s = 2
 ·subst h2
  go_enter Tryz.func29, Tryz.ntmps29
  go_wp2
  go_ret
  exact ⟨rfl, rfl⟩
 have q2 : (s == 2) = false := beq_eq_false_iff_ne.2 h2
 have HD : Hid (⟨#[]⟩ = schB s) := by show _ = _; unfold schB; rw [if_neg h1, if_neg h2]
 clear h1 h2
 go_enter Tryz.func29, Tryz.ntmps29
 go_wp2
 go_ret
 exact ⟨ret_bytes HD.out, rfl⟩
theorem implPortOk (n : Int) (w : World) :
  Calls Tryz.prog 31 #[.int .i64 n] w fun e w' => e = .returned (.bool (decide (1 ≤ n ∧ n ≤ 65535))) ∧ w = w' := by
 obtain ⟨b, hb⟩ : ∃ b, decide (1 ≤ n ∧ n ≤ 65535) = b := ⟨_, rfl⟩
 rw [hb]
 by_cases h1 : 0 < n
 ·by_cases h2 : n ≤ 65535
  ·have HD : Hid (b = true) := hb.symm.trans (decide_eq_true ⟨by omega, h2⟩)
   clear hb
   go_enter Tryz.func31, Tryz.ntmps31
   go_wp2
   go_ret
   exact ⟨ret_bool HD.out.symm, rfl⟩
  have HD : Hid (b = false) := hb.symm.trans (decide_eq_false (by omega))
  clear hb
  go_enter Tryz.func31, Tryz.ntmps31
  go_wp2
  go_ret
  exact ⟨ret_bool HD.out.symm, rfl⟩
 have HD : Hid (b = false) := hb.symm.trans (decide_eq_false (by omega))
 clear hb
 go_enter Tryz.func31, Tryz.ntmps31
 go_wp2
 go_ret
 exact ⟨ret_bool HD.out.symm, rfl⟩
theorem implIsPlainIn (s : ByteArray) (set : Int) (w : World) (hM : Marks w) (hs : s.size ≤ 4194304) :
  Calls Tryz.prog 70 #[.string s, .int .i64 set] w fun e w' => e = .returned (.bool (decide (plB set s = s))) ∧ Below w.heap.size w w' := by
 have CP : Hid (CB 90 #[.string s, .int .i64 set] w (.string (plB set s))) := implPlainly s set w hM (by omega)
 have HB : Hid (((plB set s).toList == s.toList) = decide (plB set s = s)) := beq_bytes _ _
 generalize decide (plB set s = s) = b at HB ⊢
 generalize plB set s = p at CP HB
 clear hM
 go_enter Tryz.func70, Tryz.ntmps70
 go_wp2_with fail
 refine CP.out.mono ?_
 rintro e wa ⟨rfl, ba⟩
 have hb := HB.out
 go_wp2
 go_ret
 exact ⟨rfl, ba⟩
theorem implPathOk (p : ByteArray) (w : World) (hM : Marks w) (hs : p.size ≤ 1048576) :
  Calls Tryz.prog 32 #[.string p] w fun e w' => e = .returned (.bool (paOk p)) ∧ Below w.heap.size w w' := by
 have CH : Hid (∀ W, CS 69 #[.string p, .string ⟨#[47]⟩] W (.bool (rooted p))) := fun W =>
  (Tryz.strings_HasPrefix p ⟨#[47]⟩ W).mono fun e w' h => ⟨by rw [h.1, prefix_rooted], h.2.symm⟩
 have CI : Hid (CB 70 #[.string p, .int .i64 1] w (.bool (decide (plB 1 p = p)))) := implIsPlainIn p 1 w hM (by omega)
 have CD : Hid (∀ W, CB 71 #[.string p] W (.string (dropT p))) := fun W => implDropDots p W hs
 have HB : Hid (((dropT p).toList == p.toList) = decide (dropT p = p)) := beq_bytes _ _
 unfold paOk
 generalize decide (dropT p = p) = b3 at HB ⊢
 generalize dropT p = q at CD HB
 generalize decide (plB 1 p = p) = b2 at CI ⊢
 generalize rooted p = b1 at CH ⊢
 clear hM
 cases b1 with
 | false =>
  go_enter Tryz.func32, Tryz.ntmps32
  go_wp2_with fail
  refine (CH.out _).mono ?_
  rintro e w' ⟨rfl, rfl⟩
  go_wp2
  go_ret
  exact ⟨rfl, Below.refl _ _⟩
 | true =>
  cases b2 with
  | false =>
   go_enter Tryz.func32, Tryz.ntmps32
   go_wp2_with fail
   refine (CH.out _).mono ?_
   rintro e w' ⟨rfl, rfl⟩
   go_wp2_with fail
   refine CI.out.mono ?_
   rintro e wa ⟨rfl, ba⟩
   go_wp2
   go_ret
   exact ⟨rfl, ba⟩
  | true =>
   go_enter Tryz.func32, Tryz.ntmps32
   go_wp2_with fail
   refine (CH.out _).mono ?_
   rintro e w' ⟨rfl, rfl⟩
   go_wp2_with fail
   refine CI.out.mono ?_
   rintro e wa ⟨rfl, ba⟩
   go_wp2_with fail
   refine (CD.out _).mono ?_
   rintro e wb ⟨rfl, bb⟩
   have hb := HB.out
   go_wp2
   go_ret
   exact ⟨rfl, ba.trans (bb.mono ba.size)⟩
theorem implQueryOk (r : ByteArray) (q : Bool) (w : World) (hM : Marks w) (hs : r.size ≤ 4194304) :
  Calls Tryz.prog 33 #[.string r, .bool q] w fun e w' => e = .returned (.bool (quOk r q)) ∧ Below w.heap.size w w' := by
 have CI : Hid (CB 70 #[.string r, .int .i64 2] w (.bool (decide (plB 2 r = r)))) := implIsPlainIn r 2 w hM hs
 have HE : Hid (r.toList.isEmpty = decide (r.size = 0)) := by
  show _ = _
  by_cases h : r.size = 0
  ·rw [empty_yes h, decide_eq_true h]
  rw [empty_no (by omega), decide_eq_false h]
 unfold quOk
 generalize decide (plB 2 r = r) = b1 at CI ⊢
 generalize decide (r.size = 0) = b2 at HE ⊢
 clear hM
 cases b1 with
 | false =>
  go_enter Tryz.func33, Tryz.ntmps33
  go_wp2_with fail
  refine CI.out.mono ?_
  rintro e wa ⟨rfl, ba⟩
  go_wp2
  go_ret
  exact ⟨rfl, ba⟩
 | true =>
  cases q with
  | true =>
   go_enter Tryz.func33, Tryz.ntmps33
   go_wp2_with fail
   refine CI.out.mono ?_
   rintro e wa ⟨rfl, ba⟩
   go_wp2
   go_ret
   exact ⟨rfl, ba⟩
  | false =>
   go_enter Tryz.func33, Tryz.ntmps33
   go_wp2_with fail
   refine CI.out.mono ?_
   rintro e wa ⟨rfl, ba⟩
   have he := HE.out
   go_wp2
   go_ret
   exact ⟨rfl, ba⟩
theorem implCutOne (c : UInt8) (s : ByteArray) (w : World) (hs : s.size ≤ 1048576) (hM : MaxI w) :
  Calls Tryz.prog 88 #[.string s, .string ⟨#[c]⟩] w fun e w' => e = .returned (.tuple #[.string ⟨(upB c s.data.toList).toArray⟩, .string ⟨(behB c s.data.toList).toArray⟩, .bool (s.data.toList.contains c)]) ∧ Below w.heap.size w w' := by
 obtain ⟨m, hm⟩ := hM
 refine (Tryz.strings_Cut s ⟨#[c]⟩ m w (by omega) hm).mono ?_
 rintro e w' ⟨rfl, n, rfl⟩
 refine ⟨?_, ⟨rfl, rfl, rfl, Nat.le_refl _, fun _ _ => rfl⟩⟩
 rw [show (⟨#[c]⟩ : ByteArray).data.toList = [c] from rfl, cut_one]
theorem brk_ix (c : UInt8) : (0 ≤ Lib.indexByte [9, 10, 13] c → brkB c = false) ∧ (Lib.indexByte [9, 10, 13] c < 0 → brkB c = true) := by
 have key : ∀ n : Nat, n < 256 → (0 ≤ Lib.indexByte [9, 10, 13] (UInt8.ofNat n) → brkB (UInt8.ofNat n) = false) ∧ (Lib.indexByte [9, 10, 13] (UInt8.ofNat n) < 0 → brkB (UInt8.ofNat n) = true) := by decide +kernel
 have h := key c.toNat c.toNat_lt
 simpa using h
theorem implWithoutBreaks (t : ByteArray) (w : World) (hts : t.size ≤ 1048576) :
  Calls Tryz.prog 127 #[.string t] w fun e w' => e = .returned (.string ⟨(t.data.toList.filter brkB).toArray⟩) ∧ Below w.heap.size w w' := by
 obtain ⟨i0, hi, hz0, hz1, hz2⟩ := info_parts Tryz.info5
 go_enter Tryz.func127, Tryz.ntmps127
 go_wp2_with (at_make; refine wpList_make_own _ rfl _ _ 22 rfl w.heap.size 5 i0 (.int .u8 0) 1 Tryz.underlying22 hi hz0 hz1 _ _ _ t.size rfl rfl (by omega) (by rw [hz2]; omega) (by unfold maxLen; omega) (Nat.le_refl _) ?_)
 intro wm hmo hgm
 have Bm : Below w.heap.size w wm := (Below.refl _ _).grown hgm (Nat.le_refl _) (fun k hk => by cases hk)
 have om : wm.ownsRow w.heap.size 5 1 (.slice (some ⟨w.heap.size, 0, none⟩) 0 t.size) 0 [] := hmo
 clear hmo hgm
 go_wp2_with fail
 go_loopw [3, 10] (fun b i wr => ∃ (k : Nat) (o : List UInt8), k ≤ t.size ∧ i = .int .i64 k ∧ o.length ≤ k ∧ wr.ownsRow w.heap.size 5 1 b o.length (bcells o) ∧ o ++ (t.data.toList.drop k).filter brkB = t.data.toList.filter brkB ∧ Below w.heap.size w wr)
  (fun _ i _ => t.size - (intOf i).toNat)
 case atStart => exact ⟨0, [], Nat.zero_le _, rfl, Nat.zero_le _, om, rfl, Bm⟩
 obtain ⟨k, o, hk, rfl, hol, hown, he, hbel⟩ := hrel
 have HE : Hid (o ++ (t.data.toList.drop k).filter brkB = t.data.toList.filter brkB) := he
 clear he om Bm hi hz0 hz1 hz2
 have hsz := hbel.size
 by_cases hlt : k < t.size
 ·have hdr := drop_at t k hlt
  rw [hdr] at HE
  clear hdr
  obtain ⟨d, hd⟩ : ∃ d : Nat, t[k].toNat = d := ⟨_, rfl⟩
  have hd2 : d < 256 := by rw [← hd]; exact t[k].toNat_lt
  have CX : Hid (∀ W, CS 178 #[.string ⟨#[9, 10, 13]⟩, .int .u8 (d : Int)] W (.int .i64 (Lib.indexByte [9, 10, 13] t[k]))) := fun W => by
   have hu : ((d : Int)).toNat.toUInt8 = t[k] := by rw [← hd]; simp
   have h := Tryz.strings_IndexByte ⟨#[9, 10, 13]⟩ (d : Int) W
   rw [hu] at h
   exact h.mono fun e w' h => ⟨h.1, h.2.symm⟩
  have hx := brk_ix t[k]
  by_cases h0 : 0 ≤ Lib.indexByte [9, 10, 13] t[k]
  ·have hb := hx.1 h0
   have HN : Hid (o ++ (t.data.toList.drop (k + 1)).filter brkB = t.data.toList.filter brkB) := by show _ = _; rw [← HE.out, List.filter_cons, hb]; rfl
   clear hx hb
   generalize Lib.indexByte [9, 10, 13] t[k] = z at CX h0
   go_wp2_with fail
   refine (CX.out _).mono ?_
   rintro e w' ⟨rfl, rfl⟩
   go_wp2
   go_roundw
   case rel => exact ⟨k + 1, o, by omega, by go_num, by omega, hown, HN.out, hbel⟩
   case measure => simp [intOf]; omega
  have hb := hx.2 (by omega)
  have HN : Hid ((o ++ [t[k]]) ++ (t.data.toList.drop (k + 1)).filter brkB = t.data.toList.filter brkB) := by show _ = _; rw [← HE.out, List.filter_cons, hb]; simp
  have HD : Hid ((d : Int) = (t[k].toNat : Int)) := by show _ = _; omega
  clear hx hb
  generalize Lib.indexByte [9, 10, 13] t[k] = z at CX h0
  go_wp2_with fail
  refine (CX.out _).mono ?_
  rintro e w' ⟨rfl, rfl⟩
  go_wp2_with (at_builtin; refine wpList_append_new _ rfl _ _ 22 rfl w.heap.size 5 (.int .u8 0) 1 Tryz.underlying22 Tryz.info5 rfl _ _ _ rfl hown #[.int .u8 (d : Int)] 1 rfl rfl (byte_one _) (by omega) (by unfold maxLen; omega) (by omega) ?_)
  intro v' w1 hown' hb1
  have R := own_byte t[k] HD.out hown'
  have B1 : Below w.heap.size w w1 := hbel.trans hb1
  clear hown' hb1 hown hbel
  go_wp2
  go_roundw
  case rel => exact ⟨k + 1, _, by omega, by go_num, by simp; omega, R, HN.out, B1⟩
  case measure => simp [intOf]; omega
 have HN : Hid (o = t.data.toList.filter brkB) := by
  show _ = _
  rw [← HE.out, List.drop_of_length_le (by simp; omega)]
  simp
 have HO := run_string_own (P := Tryz.prog) wr 22 9 5 Tryz.underlying22 Tryz.underlying5 Tryz.underlying9 hown
 go_wp2
 go_ret
 exact ⟨ret_str HN.out, hbel⟩
theorem implAddressPart (s : ByteArray) (w : World) (hs : s.size ≤ 1048576) (hM : MaxI w) :
  Calls Tryz.prog 85 #[.string s] w fun e w' => e = .returned (.string ⟨(cleanL s.data.toList).toArray⟩) ∧ Below w.heap.size w w' := by
 have hsl : s.data.toList.length = s.size := by simp
 have h1 := trimS_le s.data.toList blanks4
 have h2 := List.length_filter_le brkB (Lib.trimS s.data.toList blanks4)
 have hts : (⟨(Lib.trimS s.data.toList blanks4).toArray⟩ : ByteArray).size ≤ 1048576 := by rw [size_mk]; omega
 have hfs : (⟨((⟨(Lib.trimS s.data.toList blanks4).toArray⟩ : ByteArray).data.toList.filter brkB).toArray⟩ : ByteArray).size ≤ 1048576 := by
  rw [size_mk]
  show ((Lib.trimS s.data.toList blanks4).filter brkB).length ≤ _
  omega
 have CT : Hid (∀ W, CB 128 #[.string s] W (.string ⟨(Lib.trimS s.data.toList blanks4).toArray⟩)) := fun W => implTrim s W (by omega)
 have HC : Hid ((⟨(upB 35 (⟨((⟨(Lib.trimS s.data.toList blanks4).toArray⟩ : ByteArray).data.toList.filter brkB).toArray⟩ : ByteArray).data.toList).toArray⟩ : ByteArray) = ⟨(cleanL s.data.toList).toArray⟩) := by
  show _ = _
  rw [clean_way]
  rfl
 generalize (⟨(cleanL s.data.toList).toArray⟩ : ByteArray) = C at HC ⊢
 generalize (⟨(Lib.trimS s.data.toList blanks4).toArray⟩ : ByteArray) = T at CT hts hfs HC
 have CW : Hid (∀ W, CB 127 #[.string T] W (.string ⟨(T.data.toList.filter brkB).toArray⟩)) := fun W => implWithoutBreaks T W hts
 generalize (⟨(T.data.toList.filter brkB).toArray⟩ : ByteArray) = F at CW hfs HC
 have CC : Hid (∀ W, Below w.heap.size w W → CB 88 #[.string F, .string ⟨#[35]⟩] W (.tuple #[.string ⟨(upB 35 F.data.toList).toArray⟩, .string ⟨(behB 35 F.data.toList).toArray⟩, .bool (F.data.toList.contains 35)])) := fun W hb => implCutOne 35 F W hfs (max_below hM hb)
 clear hM h1 h2 hsl
 go_enter Tryz.func85, Tryz.ntmps85
 go_wp2_with fail
 refine (CT.out _).mono ?_
 rintro e wa ⟨rfl, ba⟩
 go_wp2_with fail
 refine (CW.out _).mono ?_
 rintro e wb ⟨rfl, bb⟩
 have b2 := ba.trans (bb.mono ba.size)
 clear bb ba
 go_wp2_with fail
 refine (CC.out _ b2).mono ?_
 rintro e wc ⟨rfl, bc⟩
 go_wp2
 go_ret
 exact ⟨ret_bytes HC.out, b2.trans (bc.mono b2.size)⟩
theorem implSchemeNamed (s : ByteArray) (w : World) (hs : s.size ≤ 1048576) :
  Calls Tryz.prog 125 #[.string s] w fun e w' => e = .returned (.int .i64 (schNm s.data.toList)) ∧ Below w.heap.size w w' := by
 have CL : Hid (CB 173 #[.string s] w (.string ⟨(lowerL s.data.toList).toArray⟩)) := implLower s w hs
 have HN : Hid (schNm s.data.toList = if (⟨(lowerL s.data.toList).toArray⟩ : ByteArray).data.toList = [104, 116, 116, 112] then 1 else if (⟨(lowerL s.data.toList).toArray⟩ : ByteArray).data.toList = [104, 116, 116, 112, 115] then 2 else 0) := rfl
 generalize (⟨(lowerL s.data.toList).toArray⟩ : ByteArray) = L at CL HN
 generalize schNm s.data.toList = z at HN ⊢
 by_cases h1 : L.data.toList = [104, 116, 116, 112]
 ·have q1 := lit_eq h1
  have HZ : Hid (1 = z) := by show _ = _; rw [HN.out, if_pos h1]
  clear h1 HN
  go_enter Tryz.func125, Tryz.ntmps125
  go_wp2_with fail
  refine CL.out.mono ?_
  rintro e wa ⟨rfl, ba⟩
  go_wp2
  go_ret
  exact ⟨ret_int HZ.out, ba⟩
 have q1 := lit_ne h1
 by_cases h2 : L.data.toList = [104, 116, 116, 112, 115]
 ·have q2 := lit_eq h2
  have HZ : Hid (2 = z) := by show _ = _; rw [HN.out, if_neg h1, if_pos h2]
  clear h1 h2 HN
  go_enter Tryz.func125, Tryz.ntmps125
  go_wp2_with fail
  refine CL.out.mono ?_
  rintro e wa ⟨rfl, ba⟩
  go_wp2
  go_ret
  exact ⟨ret_int HZ.out, ba⟩
 have q2 := lit_ne h2
 have HZ : Hid (0 = z) := by show _ = _; rw [HN.out, if_neg h1, if_neg h2]
 clear h1 h2 HN
 go_enter Tryz.func125, Tryz.ntmps125
 go_wp2_with fail
 refine CL.out.mono ?_
 rintro e wa ⟨rfl, ba⟩
 go_wp2
 go_ret
 exact ⟨ret_int HZ.out, ba⟩
def noV (c : Int) : Value := .iface 62 (.agg #[.int .i64 c])
def schAns (r : Option (Int × List UInt8)) : Value := match r with
 | none => .tuple #[.int .i64 0, .string ⟨#[]⟩, noV 2]
 | some (s, t) => .tuple #[.int .i64 s, .string ⟨(t.dropWhile slB).toArray⟩, .nilIface]
theorem trimLeft_sl (l : List UInt8) : Lib.trimLeftS l [47, 92] = l.dropWhile slB := by
 unfold Lib.trimLeftS
 congr 1
 funext c
 unfold slB
 by_cases h1 : c = 47
 ·subst h1; rfl
 by_cases h2 : c = 92
 ·subst h2; rfl
 simp [h1, h2]
theorem implReadScheme (t : ByteArray) (w : World) (hs : t.size ≤ 1048576) (hM : MaxI w) :
  Calls Tryz.prog 84 #[.string t] w fun e w' => e = .returned (schAns (schemeL t.data.toList)) ∧ Below w.heap.size w w' := by
 have hsl : t.data.toList.length = t.size := by simp
 have hu : (upB 58 t.data.toList).length ≤ t.size := by rw [← hsl]; exact (List.takeWhile_prefix _).length_le
 have hb : (behB 58 t.data.toList).length ≤ t.size := by
  rw [← hsl]
  unfold behB
  rw [List.length_drop]
  have := (List.dropWhile_suffix (fun x => x != 58) (l := t.data.toList)).length_le
  omega
 have CC : Hid (CB 88 #[.string t, .string ⟨#[58]⟩] w (.tuple #[.string ⟨(upB 58 t.data.toList).toArray⟩, .string ⟨(behB 58 t.data.toList).toArray⟩, .bool (t.data.toList.contains 58)])) := implCutOne 58 t w hs hM
 have HW : Hid (schemeL t.data.toList = if schNm (⟨(upB 58 t.data.toList).toArray⟩ : ByteArray).data.toList = 0 ∨ (⟨(behB 58 t.data.toList).toArray⟩ : ByteArray).data.toList.length - ((⟨(behB 58 t.data.toList).toArray⟩ : ByteArray).data.toList.dropWhile slB).length < 2 then none else some (schNm (⟨(upB 58 t.data.toList).toArray⟩ : ByteArray).data.toList, (⟨(behB 58 t.data.toList).toArray⟩ : ByteArray).data.toList)) := scheme_way _
 have hus : (⟨(upB 58 t.data.toList).toArray⟩ : ByteArray).size ≤ 1048576 := by rw [size_mk]; omega
 have hbs : (⟨(behB 58 t.data.toList).toArray⟩ : ByteArray).size ≤ 1048576 := by rw [size_mk]; omega
 generalize (⟨(upB 58 t.data.toList).toArray⟩ : ByteArray) = U at CC HW hus
 generalize (⟨(behB 58 t.data.toList).toArray⟩ : ByteArray) = B at CC HW hbs
 generalize schemeL t.data.toList = R at HW ⊢
 generalize t.data.toList.contains 58 = fnd at CC
 have CN : Hid (∀ W, CB 125 #[.string U] W (.int .i64 (schNm U.data.toList))) := fun W => implSchemeNamed U W hus
 have CT : Hid (∀ W, CB 126 #[.string B, .string ⟨#[47, 92]⟩] W (.string ⟨(B.data.toList.dropWhile slB).toArray⟩)) := fun W => by
  have h := Any.strings_TrimLeft_laid Tryz.lays161 (by kernel_rfl) B ⟨#[47, 92]⟩ W (by decide) (ascii_of_all (by decide))
  rw [show (⟨#[47, 92]⟩ : ByteArray).data.toList = [47, 92] from rfl, trimLeft_sl] at h
  exact h
 have hr : (⟨(B.data.toList.dropWhile slB).toArray⟩ : ByteArray).size = (B.data.toList.dropWhile slB).length := size_mk _
 have hB : B.size = B.data.toList.length := by simp
 have hle := (List.dropWhile_suffix slB (l := B.data.toList)).length_le
 have HK : Hid (B.data.toList.length - (B.data.toList.dropWhile slB).length = B.size - (⟨(B.data.toList.dropWhile slB).toArray⟩ : ByteArray).size) := by show _ = _; omega
 have HR0 : Hid (∀ s : Int, schAns (some (s, B.data.toList)) = .tuple #[.int .i64 s, .string ⟨(B.data.toList.dropWhile slB).toArray⟩, .nilIface]) := fun s => rfl
 have hrb : (⟨(B.data.toList.dropWhile slB).toArray⟩ : ByteArray).size ≤ B.size := by omega
 rw [HK.out] at HW
 generalize (⟨(B.data.toList.dropWhile slB).toArray⟩ : ByteArray) = Z at CT HW HR0 hrb
 generalize schNm U.data.toList = n at CN HW
 clear hr hB hle HK hsl hu hb hM
 go_enter Tryz.func84, Tryz.ntmps84
 go_wp2_with fail
 refine CC.out.mono ?_
 rintro e wa ⟨rfl, ba⟩
 go_wp2_with fail
 refine (CN.out _).mono ?_
 rintro e wb ⟨rfl, bb⟩
 have b2 := ba.trans (bb.mono ba.size)
 clear bb ba
 go_wp2_with fail
 refine (CT.out _).mono ?_
 rintro e wd ⟨rfl, bd⟩
 have b3 := b2.trans (bd.mono b2.size)
 clear bd b2 CC CN CT
 by_cases hn : n = 0
 ·have HZ : Hid (R = none) := by show _ = _; rw [HW.out, if_pos (.inl hn)]
  subst hn
  clear HW
  go_wp2
  go_ret3
  exact ⟨by rw [HZ.out]; rfl, b3⟩
 have qn : (n == 0) = false := beq_eq_false_iff_ne.2 hn
 by_cases h2 : B.size - Z.size < 2
 ·have HZ : Hid (R = none) := by show _ = _; rw [HW.out, if_pos (.inr h2)]
  have h2i : (B.size : Int) - (Z.size : Int) < 2 := by omega
  clear HW hn h2
  go_wp2
  go_ret3
  exact ⟨by rw [HZ.out]; rfl, b3⟩
 have HZ : Hid (R = some (n, B.data.toList)) := by show _ = _; rw [HW.out, if_neg (by omega)]
 have h2i : ¬ (B.size : Int) - (Z.size : Int) < 2 := by omega
 clear HW hn h2
 go_wp2
 go_ret3
 exact ⟨by rw [HZ.out, HR0.out]; rfl, b3⟩
theorem implCutPort (A : ByteArray) (w : World) (hs : A.size ≤ 1048576) (hM : MaxI w) :
  Calls Tryz.prog 131 #[.string A] w fun e w' => e = .returned (.tuple #[.string ⟨(hoB A).toArray⟩, .string ⟨(poB A).toArray⟩]) ∧ Below w.heap.size w w' := by
 have hA : A.data.toList.length = A.size := by simp
 obtain ⟨hf1, hf2⟩ := fr_le A
 have CL : Hid (∀ W, CS 184 #[.string A, .int .u8 93] W (.int .i64 (Lib.lastIndexByte A 93))) := fun W => (Tryz.strings_LastIndexByte A 93 (by omega) W).mono fun e w' h => ⟨h.1, h.2.symm⟩
 have hd := drop_data A (frB A)
 have ht := take_data A (frB A)
 have hes : (A.extract (frB A) A.size).size ≤ 1048576 := by rw [ByteArray.size_extract]; omega
 have CC : Hid (CB 88 #[.string (A.extract (frB A) A.size), .string ⟨#[58]⟩] w (.tuple #[.string ⟨(upB 58 (A.extract (frB A) A.size).data.toList).toArray⟩, .string ⟨(poB A).toArray⟩, .bool ((A.extract (frB A) A.size).data.toList.contains 58)])) := by
  have h := implCutOne 58 (A.extract (frB A) A.size) w hes hM
  have e : behB 58 (A.extract (frB A) A.size).data.toList = poB A := by rw [hd]; rfl
  rw [e] at h
  exact h
 have HO : Hid (A.extract 0 (frB A) ++ (⟨(upB 58 (A.extract (frB A) A.size).data.toList).toArray⟩ : ByteArray) = ⟨(hoB A).toArray⟩) := by
  apply toL_inj
  show toL _ = hoB A
  unfold hoB
  rw [← ht, ← hd]
  simp [toL]
 have hus : (⟨(upB 58 (A.extract (frB A) A.size).data.toList).toArray⟩ : ByteArray).size ≤ 1048576 := by
  rw [size_mk, hd]
  have := (List.takeWhile_prefix (fun x => x != 58) (l := A.data.toList.drop (frB A))).length_le
  unfold upB
  rw [List.length_drop] at this
  omega
 have hts : (A.extract 0 (frB A)).size ≤ 1048576 := by rw [ByteArray.size_extract]; omega
 generalize (⟨(upB 58 (A.extract (frB A) A.size).data.toList).toArray⟩ : ByteArray) = U at CC HO hus
 generalize (⟨(poB A).toArray⟩ : ByteArray) = Pt at CC ⊢
 generalize (⟨(hoB A).toArray⟩ : ByteArray) = Ho at HO ⊢
 generalize (A.extract (frB A) A.size).data.toList.contains 58 = fnd at CC
 generalize Lib.lastIndexByte A 93 = z at CL hf2
 generalize frB A = f at *
 have hz : z = (f : Int) - 1 := by omega
 subst hz
 clear hd ht hf2 hM hA hes
 have hfi : (f : Int) ≤ (A.size : Int) := by omega
 go_enter Tryz.func131, Tryz.ntmps131
 go_wp2_with fail
 refine (CL.out _).mono ?_
 rintro e w' ⟨rfl, rfl⟩
 have e1 : (f : Int) - 1 + 1 = (f : Int) := by omega
 go_wp2_with fail
 refine CC.out.mono ?_
 rintro e wa ⟨rfl, ba⟩
 go_wp2
 go_ret2
 exact ⟨by rw [← HO.out]; rfl, ba⟩
def portAns (s : Int) (p : List UInt8) : Value := if 1 ≤ portN s p ∧ portN s p ≤ 65535 then .tuple #[.int .i64 (portN s p), .nilIface] else .tuple #[.int .i64 0, noV 5]
theorem implReadPort (p : ByteArray) (s : Int) (w : World) (hs : s = 1 ∨ s = 2) :
  Calls Tryz.prog 132 #[.string p, .int .i64 s] w fun e w' => e = .returned (portAns s p.data.toList) ∧ w = w' := by
 by_cases h0 : p.size = 0
 ·have CD : Hid (∀ W, CS 17 #[.int .i64 s] W (.int .i64 (dport s))) := fun W => implDefaultPort s W
  have HP : Hid (portAns s p.data.toList = .tuple #[.int .i64 (dport s), .nilIface]) := by
   show _ = _
   have e : p.data.toList = [] := List.eq_nil_of_length_eq_zero (by simpa using h0)
   rw [e]
   rcases hs with rfl | rfl <;> rfl
  have hem := empty_yes h0
  generalize dport s = d at CD HP
  clear h0 hs
  go_enter Tryz.func132, Tryz.ntmps132
  go_wp2_with fail
  refine (CD.out _).mono ?_
  rintro e w' ⟨rfl, rfl⟩
  go_wp2
  go_ret2
  exact ⟨by rw [HP.out]; rfl, rfl⟩
 have hem := empty_no (show 0 < p.size by omega)
 have hne : p.data.toList ≠ [] := fun e => h0 (by have := congrArg List.length e; simpa using this)
 have CG : Hid (∀ W, CS 185 #[.string p, .int .i64 10, .int .i64 5] W (numA (numL 10 5 p.data.toList))) := fun W => implDigits p 10 5 W (by decide) (by decide)
 cases hn : numL 10 5 p.data.toList with
 | none =>
  have hpn : portN s p.data.toList = -1 := by unfold portN; rw [if_neg hne, hn]
  rw [hn] at CG
  have HP : Hid (portAns s p.data.toList = .tuple #[.int .i64 0, noV 5]) := by show _ = _; unfold portAns; rw [hpn, if_neg (by decide)]
  have CG2 : Hid (∀ W, CS 185 #[.string p, .int .i64 10, .int .i64 5] W (.tuple #[.int .i64 0, .bool false])) := CG
  clear h0 hs hne hn hpn CG
  go_enter Tryz.func132, Tryz.ntmps132
  go_wp2_with fail
  refine (CG2.out _).mono ?_
  rintro e w' ⟨rfl, rfl⟩
  go_wp2
  go_ret2
  exact ⟨by rw [HP.out]; rfl, rfl⟩
 | some n =>
  have hpn : portN s p.data.toList = (n : Int) := by unfold portN; rw [if_neg hne, hn]
  rw [hn] at CG
  have CG2 : Hid (∀ W, CS 185 #[.string p, .int .i64 10, .int .i64 5] W (.tuple #[.int .i64 (n : Int), .bool true])) := CG
  have CK : Hid (∀ W, CS 31 #[.int .i64 (n : Int)] W (.bool (decide (1 ≤ (n : Int) ∧ (n : Int) ≤ 65535)))) := fun W => implPortOk n W
  by_cases hk : 1 ≤ (n : Int) ∧ (n : Int) ≤ 65535
  ·have HP : Hid (portAns s p.data.toList = .tuple #[.int .i64 (n : Int), .nilIface]) := by show _ = _; unfold portAns; rw [hpn, if_pos hk]
   rw [decide_eq_true hk] at CK
   clear h0 hs hne hn hpn CG hk
   go_enter Tryz.func132, Tryz.ntmps132
   go_wp2_with fail
   refine (CG2.out _).mono ?_
   rintro e w' ⟨rfl, rfl⟩
   go_wp2_with fail
   refine (CK.out _).mono ?_
   rintro e w' ⟨rfl, rfl⟩
   go_wp2
   go_ret2
   exact ⟨by rw [HP.out]; rfl, rfl⟩
  have HP : Hid (portAns s p.data.toList = .tuple #[.int .i64 0, noV 5]) := by show _ = _; unfold portAns; rw [hpn, if_neg hk]
  rw [decide_eq_false hk] at CK
  clear h0 hs hne hn hpn CG hk
  go_enter Tryz.func132, Tryz.ntmps132
  go_wp2_with fail
  refine (CG2.out _).mono ?_
  rintro e w' ⟨rfl, rfl⟩
  go_wp2_with fail
  refine (CK.out _).mono ?_
  rintro e w' ⟨rfl, rfl⟩
  go_wp2
  go_ret2
  exact ⟨by rw [HP.out]; rfl, rfl⟩
def ptP (l : ByteArray) : ByteArray := dropT (plB 1 ⟨(backL (orSl l.data.toList)).toArray⟩)
theorem root_path : dropT (plB 1 ⟨#[47]⟩) = ⟨#[47]⟩ := by decide +kernel
theorem count_le (s : ByteArray) : Lib.countB s ⟨#[92]⟩ ≤ s.size := by
 unfold Lib.countB
 rw [show (⟨#[92]⟩ : ByteArray).data.toList = [92] from rfl]
 unfold Lib.count
 rw [countFrom_one 92 _ _ (by omega)]
 have := List.count_le_length (a := (92 : UInt8)) (l := s.data.toList)
 have e : s.data.toList.length = s.size := by simp
 omega
theorem implPlainPath (s : ByteArray) (w : World) (hs : s.size ≤ 100000) (hK : Marks w) (hM : MaxI w) :
  Calls Tryz.prog 89 #[.string s] w fun e w' => e = .returned (.string (ptP s)) ∧ Below w.heap.size w w' := by
 by_cases h0 : s.size = 0
 ·have hem := empty_yes h0
  have HP : Hid (⟨#[47]⟩ = ptP s) := by
   show _ = _
   unfold ptP
   rw [List.eq_nil_of_length_eq_zero (show s.data.toList.length = 0 by simpa using h0)]
   exact root_path.symm
  clear h0 hK hM
  go_enter Tryz.func89, Tryz.ntmps89
  go_wp2
  go_ret
  exact ⟨ret_bytes HP.out, Below.refl _ _⟩
 have hem := empty_no (show 0 < s.size by omega)
 have hne : s.data.toList ≠ [] := fun e => h0 (by have := congrArg List.length e; simpa using this)
 have hbl : (backL s.data.toList).length = s.size := by unfold backL; simp
 have hor : orSl s.data.toList = s.data.toList := by unfold orSl; rw [if_neg hne]
 have CR : Hid (CB 135 #[.string s, .string ⟨#[92]⟩, .string ⟨#[47]⟩] w (.string ⟨(backL s.data.toList).toArray⟩)) := by
  obtain ⟨m, hm⟩ := hM
  have hc := count_le s
  have h := Tryz.strings_ReplaceAll s ⟨#[92]⟩ ⟨#[47]⟩ m w (by omega) hm (by decide) (by
   rw [show (⟨#[47]⟩ : ByteArray).size = 1 from rfl]
   omega)
  rw [show (⟨#[92]⟩ : ByteArray).data.toList = [92] from rfl, show (⟨#[47]⟩ : ByteArray).data.toList = [47] from rfl, replace_one (by decide)] at h
  exact h
 have hbs : (⟨(backL s.data.toList).toArray⟩ : ByteArray).size ≤ 100000 := by rw [size_mk]; omega
 have HP : Hid (dropT (plB 1 ⟨(backL s.data.toList).toArray⟩) = ptP s) := by show _ = _; unfold ptP; rw [hor]
 generalize (⟨(backL s.data.toList).toArray⟩ : ByteArray) = Bk at CR hbs HP
 have CP : Hid (∀ W, Below w.heap.size w W → CB 90 #[.string Bk, .int .i64 1] W (.string (plB 1 Bk))) := fun W hb => implPlainly Bk 1 W (hK.later hb) (by omega)
 have hps : (plB 1 Bk).size ≤ 1048576 := by
  show (plL 1 (toL Bk)).toArray.size ≤ _
  rw [List.size_toArray]
  have h := pl_len 1 (toL Bk)
  have h2 : (toL Bk).length = Bk.size := by simp [toL]
  omega
 generalize plB 1 Bk = Pl at CP hps HP
 have CD : Hid (∀ W, CB 71 #[.string Pl] W (.string (dropT Pl))) := fun W => implDropDots Pl W hps
 generalize dropT Pl = Dr at CD HP
 clear h0 hne hbl hor hK hM
 go_enter Tryz.func89, Tryz.ntmps89
 go_wp2_with fail
 refine CR.out.mono ?_
 rintro e wa ⟨rfl, ba⟩
 go_wp2_with fail
 refine (CP.out _ ba).mono ?_
 rintro e wb ⟨rfl, bb⟩
 have b2 := ba.trans (bb.mono ba.size)
 clear bb ba
 go_wp2_with fail
 refine (CD.out _).mono ?_
 rintro e wc ⟨rfl, bc⟩
 go_wp2
 go_ret
 exact ⟨ret_bytes HP.out, b2.trans (bc.mono b2.size)⟩
end Go.Proofs.YtgmfkgeepecknaaGreatDoor
