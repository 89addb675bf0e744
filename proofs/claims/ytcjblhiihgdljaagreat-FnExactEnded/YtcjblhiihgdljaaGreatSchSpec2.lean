/- The contract of the specification's l18Sites. -/
import Derived.Test.YtcjblhiihgdljaaGreatRows
import Derived.Test.YtcjblhiihgdljaaGreatSchSpec1
import Derived.Test.YtcjblhiihgdljaaGreatSchOkI3
import Derived.Deep.RegionHeld3
namespace Go.Proofs.YtcjblhiihgdljaaGreat
open Go.RowKit
open List renaming getElem_toArray → l1, getElem_cons_zero → l2, getElem_cons_succ → l3, setIfInBounds_toArray → l4, set_cons_zero → l5, set_cons_succ → l6
set_option linter.unusedVariables false
set_option linter.unusedSimpArgs false

def waitL1 (sq : Int) (l : List WtV) (m : Nat) : Prop := inB (l.getD m wtv0).q 0 (sq - 1) = true ∧ (0 < m → wBef (l.getD (m - 1) wtv0) (l.getD m wtv0) = true)
def siteL (sq : Int) (si : List SiteV) (j : Nat) : Prop := 0 < (si.getD j sitv0).n.size ∧ inB (si.getD j sitv0).r 0 1000000000 = true ∧ (0 < j → tl (si.getD (j - 1) sitv0).n (si.getD j sitv0).n = true) ∧ ∀ m, m < (si.getD j sitv0).w.length → waitL1 sq (si.getD j sitv0).w m
def leaseL (si : List SiteV) (le : List LsV) (j : Nat) : Prop := inB (le.getD j lsv0).u 0 1000000000 = true ∧ 0 ≤ sitePos si (le.getD j lsv0).s ∧ (0 < j → tl (le.getD (j - 1) lsv0).k (le.getD j lsv0).k = true)
def SitesL (sq : Int) (si : List SiteV) (le : List LsV) : Prop := (∀ j, j < si.length → siteL sq si j) ∧ (∀ j, j < le.length → leaseL si le j) ∧ si.length ≤ 200
set_option maxRecDepth 100000 in
set_option maxHeartbeats 40000000 in
theorem specL18Sites (d sp nw sq : Int) (si : List SiteV) (le : List LsV) (p q : Value) (w : World) (hs : 0 ≤ sq ∧ sq ≤ 1000000) (hf : SitFew si) (hl : le.length ≤ 1073741824) (hp : SitRow w p si) (hq : LsRow w q le) :
  Calls Tryz.prog 102 #[.agg #[.int .i64 d, .int .i64 sp, .int .i64 nw, .int .i64 sq, p, q]] w fun e w' => AnsB (SitesL sq si le) w e w' := by
 obtain ⟨hf1, hf2⟩ := hf
 obtain ⟨hs0, hs1⟩ := hs
 have HF := hidM hf2
 have HS := hidM hp
 have HL := hidM hq
 obtain ⟨O, hO⟩ : ∃ O, O = w.alloc (.cells #[.int .i64 d, .int .i64 sp, .int .i64 nw, .int .i64 sq, p, q] 27) := ⟨_, rfl⟩
 have bO : Below w.heap.size w O := by rw [hO]; exact (Below.refl _ _).alloc (Nat.le_refl _) _
 have AO : Hid (BAt O w.heap.size [.int .i64 d, .int .i64 sp, .int .i64 nw, .int .i64 sq, p, q]) := hidM (by rw [hO]; exact BAt.new w #[.int .i64 d, .int .i64 sp, .int .i64 nw, .int .i64 sq, p, q] _)
 have HOz : Hid (O.heap.size = w.heap.size + 1) := hidM (by rw [hO]; simp)
 obtain ⟨pa, pc, hpe⟩ := hp.slice
 obtain ⟨qa, qc, hqe⟩ := hq.slice
 clear hp hq hf2
 subst hpe hqe
 go_enter Tryz.func102, Tryz.ntmps102
 go_upto_region 1 with fail
 rw [← hO]
 clear hO
 go_wp2_with fail
 go_loopw [3] (fun i wr => ∃ k : Nat, k ≤ si.length ∧ i = .int .i64 k ∧ Hid (∀ j, j < k → siteL sq si j) ∧ Below O.heap.size O wr) (fun i _ => si.length - (intOf i).toNat)
 case atStart => exact ⟨0, Nat.zero_le _, rfl, fun j h => absurd h (Nat.not_lt_zero _), Below.refl _ _⟩
 case round =>
  obtain ⟨k, hk, rfl, HN, hbO⟩ := hrel
  have hbel : Below w.heap.size w wr := bO.trans (hbO.mono bO.size)
  have d4 := (AO.out.below hbO).1 4 _ rfl
  by_cases hlt : k < si.length
  ·have hki : (k : Int) < si.length := by omega
   rcases HS.out.cases with ⟨h0, _⟩ | ⟨_, g, off, cap, hpe, hg, hc⟩
   ·rw [h0] at hlt; exact absurd hlt (Nat.not_lt_zero _)
   ·injection hpe with i1 i2 i3
    subst i1
    clear i2 i3
    obtain ⟨c0, c1, x, c2, c3⟩ := (hc k hlt).below hbel hg
    obtain ⟨V, hV⟩ : ∃ V, V = wr.alloc (.cells #[.string (si.getD k sitv0).n, .int .i64 (si.getD k sitv0).r, x] 43) := ⟨_, rfl⟩
    obtain ⟨BW, hBW⟩ : ∃ B, B = wr.heap.size := ⟨_, rfl⟩
    have BV : Below wr.heap.size wr V := by rw [hV]; exact (Below.refl _ _).alloc (Nat.le_refl _) _
    have AV : BAt V BW [.string (si.getD k sitv0).n, .int .i64 (si.getD k sitv0).r, x] := by rw [hV, hBW]; exact BAt.new wr #[.string (si.getD k sitv0).n, .int .i64 (si.getD k sitv0).r, x] _
    have v0 := hidM (AV.1 0 _ rfl)
    have v1 := hidM (AV.1 1 _ rfl)
    have v2 := hidM (AV.1 2 _ rfl)
    have BVO : Below O.heap.size O V := hbO.trans (BV.mono hbO.size)
    have o3 := hidM ((AO.out.below BVO).1 3 _ rfl)
    have o4 := hidM ((AO.out.below BVO).1 4 _ rfl)
    have HvB : Hid (BW < V.heap.size) := hidM AV.2.2
    have HvO : Hid (w.heap.size < V.heap.size) := hidM (by have := BVO.size; have := HOz.out; omega)
    have HvG : Hid (g < V.heap.size) := hidM (by have := HvO.out; omega)
    obtain ⟨XW, hXW⟩ : ∃ X, X = (si.getD k sitv0).w := ⟨_, rfl⟩
    have HXW := hidM hXW
    have HX : Hid (WtRow V x XW) := hidM (by rw [hXW]; exact c3.below BV)
    have hXL : XW.length ≤ 1073741824 := by rw [hXW]; exact HF.out k hlt
    obtain ⟨xa, xc, hxe⟩ : ∃ xa xc, x = .slice xa XW.length xc := by rw [hXW]; exact c3.slice
    have HPC : Hid (∀ j, j < si.length → V.cell? ⟨g, off + j * 3, none⟩ = some (.string (si.getD j sitv0).n)) := fun j hj => (BV.cell (p := ⟨g, off + j * 3, none⟩) (by show g < _; have := hbel.size; omega)).trans ((hbel.cell (p := ⟨g, off + j * 3, none⟩) hg).trans (hc j hj).1)
    have C1 : Hid (∀ W, Calls Tryz.prog 51 #[.int .i64 (si.getD k sitv0).r, .int .i64 0, .int .i64 1000000000] W fun e w' => e = .returned (.bool (inB (si.getD k sitv0).r 0 1000000000)) ∧ W = w') := fun W => specIn _ _ _ W
    have HNo : Hid (¬ siteL sq si k → BIs false (SitesL sq si le)) := fun h => BIs.no fun e => h (e.1 k hlt)
    have HYes : Hid (siteL sq si k → ∀ j, j < k + 1 → siteL sq si j) := fun h j hj => by
     by_cases e : j = k
     ·subst e; exact h
     ·exact HN.out j (by omega)
    have HI0 : Hid (siteL sq si k ↔ (0 < (si.getD k sitv0).n.size ∧ inB (si.getD k sitv0).r 0 1000000000 = true ∧ (0 < k → tl (si.getD (k - 1) sitv0).n (si.getD k sitv0).n = true) ∧ ∀ m, m < XW.length → waitL1 sq XW m)) := by rw [hXW]; exact Iff.rfl
    have HE : Hid ((si.getD k sitv0).n.toList.isEmpty = true ↔ ¬ 0 < (si.getD k sitv0).n.size) := emp_iff
    clear HN c3 hc BV AV hXW
    generalize (si.getD k sitv0).n = x0 at *
    generalize hb1 : inB (si.getD k sitv0).r 0 1000000000 = b1 at *
    clear hb1
    generalize (si.getD k sitv0).r = x1 at *
    subst hxe
    go_upto_region 5 with fail
    rw [← hV, ← hBW]
    clear hV hBW d4 c0 c1 c2
    by_cases he : x0.toList.isEmpty = true
    ·have HZ := hidM (HNo.out (fun h => HE.out.1 he (HI0.out.1 h).1))
     clear HNo HYes HI0 HE HPC HXW
     refine wp_region_held_drew (S := fun W => Below V.heap.size V W) (by kernel_rfl) (Below.refl _ V).drew (fun h0 => ?_)
     refine wpAnyH_take (i := 0) (v := ?_) rfl (by kernel_rfl) (by kernel_rfl) (by kernel_rfl) (fun _ _ _ h => h) (Or.inl ⟨by rfl, fun W hW => ?_⟩) h0 ?_
     rotate_left
     ·have q0 := (hW.cell (p := ⟨BW, 0, none⟩) HvB.out).trans v0.out
      have q1 := (hW.cell (p := ⟨BW, 1, none⟩) HvB.out).trans v1.out
      clear hW
      go_simp
      try with_reducible rfl
     simp only [Act.put, l1, l2, l3, l4, l5, l6]
     refine wpAnyH_take (i := 1) (v := ?_) rfl (by kernel_rfl) (by kernel_rfl) (by kernel_rfl) (fun _ _ _ h => h) (Or.inl ⟨by rfl, fun W hW => ?_⟩) h0 ?_
     rotate_left
     ·have q0 := (hW.cell (p := ⟨BW, 0, none⟩) HvB.out).trans v0.out
      have q1 := (hW.cell (p := ⟨BW, 1, none⟩) HvB.out).trans v1.out
      clear hW
      go_simp
      try with_reducible rfl
     simp only [Act.put, l1, l2, l3, l4, l5, l6]
     refine wpAnyH_take (i := 2) (v := ?_) rfl (by kernel_rfl) (by kernel_rfl) (by kernel_rfl) (fun _ _ _ h => h) (Or.inl ⟨by rfl, fun W hW => ?_⟩) h0 ?_
     rotate_left
     ·have q0 := (hW.cell (p := ⟨BW, 0, none⟩) HvB.out).trans v0.out
      have q1 := (hW.cell (p := ⟨BW, 1, none⟩) HvB.out).trans v1.out
      clear hW
      go_simp
      try with_reducible rfl
     simp only [Act.put, l1, l2, l3, l4, l5, l6]
     refine wpAnyH_take (i := 3) (v := ?_) rfl (by kernel_rfl) (by kernel_rfl) (by kernel_rfl) (fun _ _ _ h => h) (Or.inl ⟨by rfl, fun W hW => ?_⟩) h0 ?_
     rotate_left
     ·have q0 := (hW.cell (p := ⟨BW, 0, none⟩) HvB.out).trans v0.out
      have q1 := (hW.cell (p := ⟨BW, 1, none⟩) HvB.out).trans v1.out
      clear hW
      go_simp
      try with_reducible rfl
     simp only [Act.put, l1, l2, l3, l4, l5, l6]
     refine wpAnyH_take (i := 4) (v := undef) rfl (by kernel_rfl) (by kernel_rfl) (by kernel_rfl) (fun _ _ _ h => h) (Or.inr ⟨by rfl, rfl⟩) h0 ?_
     simp only [Act.put, l1, l2, l3, l4, l5, l6]
     refine wpAnyH_take (i := 5) (v := undef) rfl (by kernel_rfl) (by kernel_rfl) (by kernel_rfl) (fun _ _ _ h => h) (Or.inr ⟨by rfl, rfl⟩) h0 ?_
     simp only [Act.put, l1, l2, l3, l4, l5, l6]
     refine wpAnyH_take (i := 6) (v := undef) rfl (by kernel_rfl) (by kernel_rfl) (by kernel_rfl) (fun _ _ _ h => h) (Or.inr ⟨by rfl, rfl⟩) h0 ?_
     simp only [Act.put, l1, l2, l3, l4, l5, l6]
     refine wpAnyH_take (i := 7) (v := undef) rfl (by kernel_rfl) (by kernel_rfl) (by kernel_rfl) (fun _ _ _ h => h) (Or.inr ⟨by rfl, rfl⟩) h0 ?_
     simp only [Act.put, l1, l2, l3, l4, l5, l6]
     refine wpAnyH_take (i := 8) (v := ?_) rfl (by kernel_rfl) (by kernel_rfl) (by kernel_rfl) (fun _ _ _ h => h) (Or.inl ⟨by rfl, fun W hW => ?_⟩) h0 ?_
     rotate_left
     ·have q0 := (hW.cell (p := ⟨BW, 0, none⟩) HvB.out).trans v0.out
      have q1 := (hW.cell (p := ⟨BW, 1, none⟩) HvB.out).trans v1.out
      clear hW
      go_simp
      try with_reducible rfl
     simp only [Act.put, l1, l2, l3, l4, l5, l6]
     refine wpAnyH_take (i := 9) (v := ?_) rfl (by kernel_rfl) (by kernel_rfl) (by kernel_rfl) (fun _ _ _ h => h) (Or.inl ⟨by rfl, fun W hW => ?_⟩) h0 ?_
     rotate_left
     ·have q0 := (hW.cell (p := ⟨BW, 0, none⟩) HvB.out).trans v0.out
      have q1 := (hW.cell (p := ⟨BW, 1, none⟩) HvB.out).trans v1.out
      clear hW
      go_simp
      try with_reducible rfl
     simp only [Act.put, l1, l2, l3, l4, l5, l6]
     refine wpAnyH_take (i := 10) (v := undef) rfl (by kernel_rfl) (by kernel_rfl) (by kernel_rfl) (fun _ _ _ h => h) (Or.inr ⟨by rfl, rfl⟩) h0 ?_
     simp only [Act.put, l1, l2, l3, l4, l5, l6]
     refine wpAnyH_take (i := 11) (v := undef) rfl (by kernel_rfl) (by kernel_rfl) (by kernel_rfl) (fun _ _ _ h => h) (Or.inr ⟨by rfl, rfl⟩) h0 ?_
     simp only [Act.put, l1, l2, l3, l4, l5, l6]
     refine wpAnyH_take (i := 12) (v := undef) rfl (by kernel_rfl) (by kernel_rfl) (by kernel_rfl) (fun _ _ _ h => h) (Or.inr ⟨by rfl, rfl⟩) h0 ?_
     simp only [Act.put, l1, l2, l3, l4, l5, l6]
     refine wpAnyH_take (i := 13) (v := undef) rfl (by kernel_rfl) (by kernel_rfl) (by kernel_rfl) (fun _ _ _ h => h) (Or.inr ⟨by rfl, rfl⟩) h0 ?_
     simp only [Act.put, l1, l2, l3, l4, l5, l6]
     refine wpAnyH_take (i := 14) (v := undef) rfl (by kernel_rfl) (by kernel_rfl) (by kernel_rfl) (fun _ _ _ h => h) (Or.inr ⟨by rfl, rfl⟩) h0 ?_
     simp only [Act.put, l1, l2, l3, l4, l5, l6]
     refine wpAnyH_take (i := 15) (v := undef) rfl (by kernel_rfl) (by kernel_rfl) (by kernel_rfl) (fun _ _ _ h => h) (Or.inr ⟨by rfl, rfl⟩) h0 ?_
     simp only [Act.put, l1, l2, l3, l4, l5, l6]
     refine wpAnyH_take (i := 16) (v := undef) rfl (by kernel_rfl) (by kernel_rfl) (by kernel_rfl) (fun _ _ _ h => h) (Or.inr ⟨by rfl, rfl⟩) h0 ?_
     simp only [Act.put, l1, l2, l3, l4, l5, l6]
     refine wpAnyH_take (i := 17) (v := undef) rfl (by kernel_rfl) (by kernel_rfl) (by kernel_rfl) (fun _ _ _ h => h) (Or.inr ⟨by rfl, rfl⟩) h0 ?_
     simp only [Act.put, l1, l2, l3, l4, l5, l6]
     refine wpAnyH_take (i := 18) (v := undef) rfl (by kernel_rfl) (by kernel_rfl) (by kernel_rfl) (fun _ _ _ h => h) (Or.inr ⟨by rfl, rfl⟩) h0 ?_
     simp only [Act.put, l1, l2, l3, l4, l5, l6]
     refine wpAnyH_take (i := 19) (v := undef) rfl (by kernel_rfl) (by kernel_rfl) (by kernel_rfl) (fun _ _ _ h => h) (Or.inr ⟨by rfl, rfl⟩) h0 ?_
     simp only [Act.put, l1, l2, l3, l4, l5, l6]
     refine wpAnyH_take (i := 20) (v := undef) rfl (by kernel_rfl) (by kernel_rfl) (by kernel_rfl) (fun _ _ _ h => h) (Or.inr ⟨by rfl, rfl⟩) h0 ?_
     simp only [Act.put, l1, l2, l3, l4, l5, l6]
     refine wpAnyH_take (i := 21) (v := undef) rfl (by kernel_rfl) (by kernel_rfl) (by kernel_rfl) (fun _ _ _ h => h) (Or.inr ⟨by rfl, rfl⟩) h0 ?_
     simp only [Act.put, l1, l2, l3, l4, l5, l6]
     refine wpAnyH_take (i := 22) (v := undef) rfl (by kernel_rfl) (by kernel_rfl) (by kernel_rfl) (fun _ _ _ h => h) (Or.inr ⟨by rfl, rfl⟩) h0 ?_
     simp only [Act.put, l1, l2, l3, l4, l5, l6]
     refine wpAnyH_take (i := 23) (v := undef) rfl (by kernel_rfl) (by kernel_rfl) (by kernel_rfl) (fun _ _ _ h => h) (Or.inr ⟨by rfl, rfl⟩) h0 ?_
     simp only [Act.put, l1, l2, l3, l4, l5, l6]
     refine wpAnyH_take (i := 24) (v := ?_) rfl (by kernel_rfl) (by kernel_rfl) (by kernel_rfl) (fun _ _ _ h => h) (Or.inl ⟨by rfl, fun W hW => ?_⟩) h0 ?_
     rotate_left
     ·have q0 := (hW.cell (p := ⟨BW, 0, none⟩) HvB.out).trans v0.out
      have q1 := (hW.cell (p := ⟨BW, 1, none⟩) HvB.out).trans v1.out
      clear hW
      go_simp
      try with_reducible rfl
     simp only [Act.put, l1, l2, l3, l4, l5, l6]
     refine wpAnyH_done (by kernel_rfl) ?_ _
     have B2 := BVO.trans (h0.mono BVO.size)
     clear h0
     go_wp2_with fail
     go_ret
     exact AnsB.mk HZ.out (bO.trans (B2.mono bO.size))
    ·have he2 : x0.toList.isEmpty = false := by cases h : x0.toList.isEmpty with | true => exact absurd h he | false => rfl
     have HEP : Hid (0 < x0.size) := by
      by_cases h : 0 < x0.size
      ·exact h
      ·exact absurd (HE.out.2 h) he
     clear he HE
     cases b1 with
     | false =>
      have HZ := hidM (HNo.out (fun h => by have := (HI0.out.1 h).2.1; cases this))
      clear HNo HYes HI0 HPC HXW
      refine wp_region_held_drew (S := fun W => Below V.heap.size V W) (by kernel_rfl) (Below.refl _ V).drew (fun h0 => ?_)
      refine wpAnyH_take (i := 0) (v := ?_) rfl (by kernel_rfl) (by kernel_rfl) (by kernel_rfl) (fun _ _ _ h => h) (Or.inl ⟨by rfl, fun W hW => ?_⟩) h0 ?_
      rotate_left
      ·have q0 := (hW.cell (p := ⟨BW, 0, none⟩) HvB.out).trans v0.out
       have q1 := (hW.cell (p := ⟨BW, 1, none⟩) HvB.out).trans v1.out
       clear hW
       go_simp
       try with_reducible rfl
      simp only [Act.put, l1, l2, l3, l4, l5, l6]
      refine wpAnyH_take (i := 1) (v := ?_) rfl (by kernel_rfl) (by kernel_rfl) (by kernel_rfl) (fun _ _ _ h => h) (Or.inl ⟨by rfl, fun W hW => ?_⟩) h0 ?_
      rotate_left
      ·have q0 := (hW.cell (p := ⟨BW, 0, none⟩) HvB.out).trans v0.out
       have q1 := (hW.cell (p := ⟨BW, 1, none⟩) HvB.out).trans v1.out
       clear hW
       go_simp
       try with_reducible rfl
      simp only [Act.put, l1, l2, l3, l4, l5, l6]
      refine wpAnyH_take (i := 2) (v := ?_) rfl (by kernel_rfl) (by kernel_rfl) (by kernel_rfl) (fun _ _ _ h => h) (Or.inl ⟨by rfl, fun W hW => ?_⟩) h0 ?_
      rotate_left
      ·have q0 := (hW.cell (p := ⟨BW, 0, none⟩) HvB.out).trans v0.out
       have q1 := (hW.cell (p := ⟨BW, 1, none⟩) HvB.out).trans v1.out
       clear hW
       go_simp
       try with_reducible rfl
      simp only [Act.put, l1, l2, l3, l4, l5, l6]
      refine wpAnyH_take (i := 3) (v := ?_) rfl (by kernel_rfl) (by kernel_rfl) (by kernel_rfl) (fun _ _ _ h => h) (Or.inl ⟨by rfl, fun W hW => ?_⟩) h0 ?_
      rotate_left
      ·have q0 := (hW.cell (p := ⟨BW, 0, none⟩) HvB.out).trans v0.out
       have q1 := (hW.cell (p := ⟨BW, 1, none⟩) HvB.out).trans v1.out
       clear hW
       go_simp
       try with_reducible rfl
      simp only [Act.put, l1, l2, l3, l4, l5, l6]
      refine wpAnyH_take (i := 4) (v := ?_) rfl (by kernel_rfl) (by kernel_rfl) (by kernel_rfl) (fun _ _ _ h => h) (Or.inl ⟨by rfl, fun W hW => ?_⟩) h0 ?_
      rotate_left
      ·have q0 := (hW.cell (p := ⟨BW, 0, none⟩) HvB.out).trans v0.out
       have q1 := (hW.cell (p := ⟨BW, 1, none⟩) HvB.out).trans v1.out
       clear hW
       go_simp
       try with_reducible rfl
      simp only [Act.put, l1, l2, l3, l4, l5, l6]
      refine wpAnyH_take (i := 5) (v := ?_) rfl (by kernel_rfl) (by kernel_rfl) (by kernel_rfl) (fun _ _ _ h => h) (Or.inl ⟨by rfl, fun W hW => ?_⟩) h0 ?_
      rotate_left
      ·have q0 := (hW.cell (p := ⟨BW, 0, none⟩) HvB.out).trans v0.out
       have q1 := (hW.cell (p := ⟨BW, 1, none⟩) HvB.out).trans v1.out
       clear hW
       go_simp
       try with_reducible rfl
      simp only [Act.put, l1, l2, l3, l4, l5, l6]
      refine wpAnyH_ready (rs := [6]) (by kernel_rfl) (by simp) (AllReadyH.cons rfl (fun K hK => ?_) AllReadyH.nil)
      go_simp
      go_wp2_with (go_at_call 51; refine (C1.out _).mono ?_; rintro e wc ⟨rfl, rfl⟩)
      refine hK.out _ _ h0 (fun h1 => ?_)
      clear hK K h0
      refine wpAnyH_take (i := 7) (v := ?_) rfl (by kernel_rfl) (by kernel_rfl) (by kernel_rfl) (fun _ _ _ h => h) (Or.inl ⟨by rfl, fun W hW => ?_⟩) h1 ?_
      rotate_left
      ·have q0 := (hW.cell (p := ⟨BW, 0, none⟩) HvB.out).trans v0.out
       have q1 := (hW.cell (p := ⟨BW, 1, none⟩) HvB.out).trans v1.out
       clear hW
       go_simp
       try with_reducible rfl
      simp only [Act.put, l1, l2, l3, l4, l5, l6]
      refine wpAnyH_take (i := 8) (v := ?_) rfl (by kernel_rfl) (by kernel_rfl) (by kernel_rfl) (fun _ _ _ h => h) (Or.inl ⟨by rfl, fun W hW => ?_⟩) h1 ?_
      rotate_left
      ·have q0 := (hW.cell (p := ⟨BW, 0, none⟩) HvB.out).trans v0.out
       have q1 := (hW.cell (p := ⟨BW, 1, none⟩) HvB.out).trans v1.out
       clear hW
       go_simp
       try with_reducible rfl
      simp only [Act.put, l1, l2, l3, l4, l5, l6]
      refine wpAnyH_take (i := 9) (v := ?_) rfl (by kernel_rfl) (by kernel_rfl) (by kernel_rfl) (fun _ _ _ h => h) (Or.inl ⟨by rfl, fun W hW => ?_⟩) h1 ?_
      rotate_left
      ·have q0 := (hW.cell (p := ⟨BW, 0, none⟩) HvB.out).trans v0.out
       have q1 := (hW.cell (p := ⟨BW, 1, none⟩) HvB.out).trans v1.out
       clear hW
       go_simp
       try with_reducible rfl
      simp only [Act.put, l1, l2, l3, l4, l5, l6]
      refine wpAnyH_take (i := 10) (v := undef) rfl (by kernel_rfl) (by kernel_rfl) (by kernel_rfl) (fun _ _ _ h => h) (Or.inr ⟨by rfl, rfl⟩) h1 ?_
      simp only [Act.put, l1, l2, l3, l4, l5, l6]
      refine wpAnyH_take (i := 11) (v := undef) rfl (by kernel_rfl) (by kernel_rfl) (by kernel_rfl) (fun _ _ _ h => h) (Or.inr ⟨by rfl, rfl⟩) h1 ?_
      simp only [Act.put, l1, l2, l3, l4, l5, l6]
      refine wpAnyH_take (i := 12) (v := undef) rfl (by kernel_rfl) (by kernel_rfl) (by kernel_rfl) (fun _ _ _ h => h) (Or.inr ⟨by rfl, rfl⟩) h1 ?_
      simp only [Act.put, l1, l2, l3, l4, l5, l6]
      refine wpAnyH_take (i := 13) (v := undef) rfl (by kernel_rfl) (by kernel_rfl) (by kernel_rfl) (fun _ _ _ h => h) (Or.inr ⟨by rfl, rfl⟩) h1 ?_
      simp only [Act.put, l1, l2, l3, l4, l5, l6]
      refine wpAnyH_take (i := 14) (v := undef) rfl (by kernel_rfl) (by kernel_rfl) (by kernel_rfl) (fun _ _ _ h => h) (Or.inr ⟨by rfl, rfl⟩) h1 ?_
      simp only [Act.put, l1, l2, l3, l4, l5, l6]
      refine wpAnyH_take (i := 15) (v := undef) rfl (by kernel_rfl) (by kernel_rfl) (by kernel_rfl) (fun _ _ _ h => h) (Or.inr ⟨by rfl, rfl⟩) h1 ?_
      simp only [Act.put, l1, l2, l3, l4, l5, l6]
      refine wpAnyH_take (i := 16) (v := undef) rfl (by kernel_rfl) (by kernel_rfl) (by kernel_rfl) (fun _ _ _ h => h) (Or.inr ⟨by rfl, rfl⟩) h1 ?_
      simp only [Act.put, l1, l2, l3, l4, l5, l6]
      refine wpAnyH_take (i := 17) (v := undef) rfl (by kernel_rfl) (by kernel_rfl) (by kernel_rfl) (fun _ _ _ h => h) (Or.inr ⟨by rfl, rfl⟩) h1 ?_
      simp only [Act.put, l1, l2, l3, l4, l5, l6]
      refine wpAnyH_take (i := 18) (v := undef) rfl (by kernel_rfl) (by kernel_rfl) (by kernel_rfl) (fun _ _ _ h => h) (Or.inr ⟨by rfl, rfl⟩) h1 ?_
      simp only [Act.put, l1, l2, l3, l4, l5, l6]
      refine wpAnyH_take (i := 19) (v := undef) rfl (by kernel_rfl) (by kernel_rfl) (by kernel_rfl) (fun _ _ _ h => h) (Or.inr ⟨by rfl, rfl⟩) h1 ?_
      simp only [Act.put, l1, l2, l3, l4, l5, l6]
      refine wpAnyH_take (i := 20) (v := undef) rfl (by kernel_rfl) (by kernel_rfl) (by kernel_rfl) (fun _ _ _ h => h) (Or.inr ⟨by rfl, rfl⟩) h1 ?_
      simp only [Act.put, l1, l2, l3, l4, l5, l6]
      refine wpAnyH_take (i := 21) (v := undef) rfl (by kernel_rfl) (by kernel_rfl) (by kernel_rfl) (fun _ _ _ h => h) (Or.inr ⟨by rfl, rfl⟩) h1 ?_
      simp only [Act.put, l1, l2, l3, l4, l5, l6]
      refine wpAnyH_take (i := 22) (v := undef) rfl (by kernel_rfl) (by kernel_rfl) (by kernel_rfl) (fun _ _ _ h => h) (Or.inr ⟨by rfl, rfl⟩) h1 ?_
      simp only [Act.put, l1, l2, l3, l4, l5, l6]
      refine wpAnyH_take (i := 23) (v := undef) rfl (by kernel_rfl) (by kernel_rfl) (by kernel_rfl) (fun _ _ _ h => h) (Or.inr ⟨by rfl, rfl⟩) h1 ?_
      simp only [Act.put, l1, l2, l3, l4, l5, l6]
      refine wpAnyH_take (i := 24) (v := ?_) rfl (by kernel_rfl) (by kernel_rfl) (by kernel_rfl) (fun _ _ _ h => h) (Or.inl ⟨by rfl, fun W hW => ?_⟩) h1 ?_
      rotate_left
      ·have q0 := (hW.cell (p := ⟨BW, 0, none⟩) HvB.out).trans v0.out
       have q1 := (hW.cell (p := ⟨BW, 1, none⟩) HvB.out).trans v1.out
       clear hW
       go_simp
       try with_reducible rfl
      simp only [Act.put, l1, l2, l3, l4, l5, l6]
      refine wpAnyH_done (by kernel_rfl) ?_ _
      have B2 := BVO.trans (h1.mono BVO.size)
      clear h1
      go_wp2_with fail
      go_ret
      exact AnsB.mk HZ.out (bO.trans (B2.mono bO.size))
     | true =>
      by_cases hk0 : k = 0
      ·subst hk0
       have HI : Hid (siteL sq si 0 ↔ ∀ m, m < XW.length → waitL1 sq XW m) := hidM (HI0.out.trans ⟨fun h => h.2.2.2, fun h => ⟨HEP.out, rfl, fun h => absurd h (Nat.lt_irrefl _), h⟩⟩)
       clear HI0 HPC HEP
       refine wp_region_held_drew (S := fun W => Below V.heap.size V W) (by kernel_rfl) (Below.refl _ V).drew (fun h0 => ?_)
       refine wpAnyH_take (i := 0) (v := ?_) rfl (by kernel_rfl) (by kernel_rfl) (by kernel_rfl) (fun _ _ _ h => h) (Or.inl ⟨by rfl, fun W hW => ?_⟩) h0 ?_
       rotate_left
       ·have q0 := (hW.cell (p := ⟨BW, 0, none⟩) HvB.out).trans v0.out
        have q1 := (hW.cell (p := ⟨BW, 1, none⟩) HvB.out).trans v1.out
        clear hW
        go_simp
        try with_reducible rfl
       simp only [Act.put, l1, l2, l3, l4, l5, l6]
       refine wpAnyH_take (i := 1) (v := ?_) rfl (by kernel_rfl) (by kernel_rfl) (by kernel_rfl) (fun _ _ _ h => h) (Or.inl ⟨by rfl, fun W hW => ?_⟩) h0 ?_
       rotate_left
       ·have q0 := (hW.cell (p := ⟨BW, 0, none⟩) HvB.out).trans v0.out
        have q1 := (hW.cell (p := ⟨BW, 1, none⟩) HvB.out).trans v1.out
        clear hW
        go_simp
        try with_reducible rfl
       simp only [Act.put, l1, l2, l3, l4, l5, l6]
       refine wpAnyH_take (i := 2) (v := ?_) rfl (by kernel_rfl) (by kernel_rfl) (by kernel_rfl) (fun _ _ _ h => h) (Or.inl ⟨by rfl, fun W hW => ?_⟩) h0 ?_
       rotate_left
       ·have q0 := (hW.cell (p := ⟨BW, 0, none⟩) HvB.out).trans v0.out
        have q1 := (hW.cell (p := ⟨BW, 1, none⟩) HvB.out).trans v1.out
        clear hW
        go_simp
        try with_reducible rfl
       simp only [Act.put, l1, l2, l3, l4, l5, l6]
       refine wpAnyH_take (i := 3) (v := ?_) rfl (by kernel_rfl) (by kernel_rfl) (by kernel_rfl) (fun _ _ _ h => h) (Or.inl ⟨by rfl, fun W hW => ?_⟩) h0 ?_
       rotate_left
       ·have q0 := (hW.cell (p := ⟨BW, 0, none⟩) HvB.out).trans v0.out
        have q1 := (hW.cell (p := ⟨BW, 1, none⟩) HvB.out).trans v1.out
        clear hW
        go_simp
        try with_reducible rfl
       simp only [Act.put, l1, l2, l3, l4, l5, l6]
       refine wpAnyH_take (i := 4) (v := ?_) rfl (by kernel_rfl) (by kernel_rfl) (by kernel_rfl) (fun _ _ _ h => h) (Or.inl ⟨by rfl, fun W hW => ?_⟩) h0 ?_
       rotate_left
       ·have q0 := (hW.cell (p := ⟨BW, 0, none⟩) HvB.out).trans v0.out
        have q1 := (hW.cell (p := ⟨BW, 1, none⟩) HvB.out).trans v1.out
        clear hW
        go_simp
        try with_reducible rfl
       simp only [Act.put, l1, l2, l3, l4, l5, l6]
       refine wpAnyH_take (i := 5) (v := ?_) rfl (by kernel_rfl) (by kernel_rfl) (by kernel_rfl) (fun _ _ _ h => h) (Or.inl ⟨by rfl, fun W hW => ?_⟩) h0 ?_
       rotate_left
       ·have q0 := (hW.cell (p := ⟨BW, 0, none⟩) HvB.out).trans v0.out
        have q1 := (hW.cell (p := ⟨BW, 1, none⟩) HvB.out).trans v1.out
        clear hW
        go_simp
        try with_reducible rfl
       simp only [Act.put, l1, l2, l3, l4, l5, l6]
       refine wpAnyH_ready (rs := [6]) (by kernel_rfl) (by simp) (AllReadyH.cons rfl (fun K hK => ?_) AllReadyH.nil)
       go_simp
       go_wp2_with (go_at_call 51; refine (C1.out _).mono ?_; rintro e wc ⟨rfl, rfl⟩)
       refine hK.out _ _ h0 (fun h1 => ?_)
       clear hK K h0
       refine wpAnyH_take (i := 7) (v := ?_) rfl (by kernel_rfl) (by kernel_rfl) (by kernel_rfl) (fun _ _ _ h => h) (Or.inl ⟨by rfl, fun W hW => ?_⟩) h1 ?_
       rotate_left
       ·have q0 := (hW.cell (p := ⟨BW, 0, none⟩) HvB.out).trans v0.out
        have q1 := (hW.cell (p := ⟨BW, 1, none⟩) HvB.out).trans v1.out
        clear hW
        go_simp
        try with_reducible rfl
       simp only [Act.put, l1, l2, l3, l4, l5, l6]
       refine wpAnyH_take (i := 8) (v := ?_) rfl (by kernel_rfl) (by kernel_rfl) (by kernel_rfl) (fun _ _ _ h => h) (Or.inl ⟨by rfl, fun W hW => ?_⟩) h1 ?_
       rotate_left
       ·have q0 := (hW.cell (p := ⟨BW, 0, none⟩) HvB.out).trans v0.out
        have q1 := (hW.cell (p := ⟨BW, 1, none⟩) HvB.out).trans v1.out
        clear hW
        go_simp
        try with_reducible rfl
       simp only [Act.put, l1, l2, l3, l4, l5, l6]
       refine wpAnyH_take (i := 9) (v := ?_) rfl (by kernel_rfl) (by kernel_rfl) (by kernel_rfl) (fun _ _ _ h => h) (Or.inl ⟨by rfl, fun W hW => ?_⟩) h1 ?_
       rotate_left
       ·have q0 := (hW.cell (p := ⟨BW, 0, none⟩) HvB.out).trans v0.out
        have q1 := (hW.cell (p := ⟨BW, 1, none⟩) HvB.out).trans v1.out
        clear hW
        go_simp
        try with_reducible rfl
       simp only [Act.put, l1, l2, l3, l4, l5, l6]
       refine wpAnyH_take (i := 10) (v := ?_) rfl (by kernel_rfl) (by kernel_rfl) (by kernel_rfl) (fun _ _ _ h => h) (Or.inl ⟨by rfl, fun W hW => ?_⟩) h1 ?_
       rotate_left
       ·have q0 := (hW.cell (p := ⟨BW, 0, none⟩) HvB.out).trans v0.out
        have q1 := (hW.cell (p := ⟨BW, 1, none⟩) HvB.out).trans v1.out
        clear hW
        go_simp
        try with_reducible rfl
       simp only [Act.put, l1, l2, l3, l4, l5, l6]
       refine wpAnyH_take (i := 11) (v := ?_) rfl (by kernel_rfl) (by kernel_rfl) (by kernel_rfl) (fun _ _ _ h => h) (Or.inl ⟨by rfl, fun W hW => ?_⟩) h1 ?_
       rotate_left
       ·have q0 := (hW.cell (p := ⟨BW, 0, none⟩) HvB.out).trans v0.out
        have q1 := (hW.cell (p := ⟨BW, 1, none⟩) HvB.out).trans v1.out
        clear hW
        go_simp
        try with_reducible rfl
       simp only [Act.put, l1, l2, l3, l4, l5, l6]
       refine wpAnyH_take (i := 12) (v := ?_) rfl (by kernel_rfl) (by kernel_rfl) (by kernel_rfl) (fun _ _ _ h => h) (Or.inl ⟨by rfl, fun W hW => ?_⟩) h1 ?_
       rotate_left
       ·have q0 := (hW.cell (p := ⟨BW, 0, none⟩) HvB.out).trans v0.out
        have q1 := (hW.cell (p := ⟨BW, 1, none⟩) HvB.out).trans v1.out
        clear hW
        go_simp
        try with_reducible rfl
       simp only [Act.put, l1, l2, l3, l4, l5, l6]
       refine wpAnyH_take (i := 13) (v := undef) rfl (by kernel_rfl) (by kernel_rfl) (by kernel_rfl) (fun _ _ _ h => h) (Or.inr ⟨by rfl, rfl⟩) h1 ?_
       simp only [Act.put, l1, l2, l3, l4, l5, l6]
       refine wpAnyH_take (i := 14) (v := undef) rfl (by kernel_rfl) (by kernel_rfl) (by kernel_rfl) (fun _ _ _ h => h) (Or.inr ⟨by rfl, rfl⟩) h1 ?_
       simp only [Act.put, l1, l2, l3, l4, l5, l6]
       refine wpAnyH_take (i := 15) (v := undef) rfl (by kernel_rfl) (by kernel_rfl) (by kernel_rfl) (fun _ _ _ h => h) (Or.inr ⟨by rfl, rfl⟩) h1 ?_
       simp only [Act.put, l1, l2, l3, l4, l5, l6]
       refine wpAnyH_take (i := 16) (v := undef) rfl (by kernel_rfl) (by kernel_rfl) (by kernel_rfl) (fun _ _ _ h => h) (Or.inr ⟨by rfl, rfl⟩) h1 ?_
       simp only [Act.put, l1, l2, l3, l4, l5, l6]
       refine wpAnyH_take (i := 17) (v := undef) rfl (by kernel_rfl) (by kernel_rfl) (by kernel_rfl) (fun _ _ _ h => h) (Or.inr ⟨by rfl, rfl⟩) h1 ?_
       simp only [Act.put, l1, l2, l3, l4, l5, l6]
       refine wpAnyH_take (i := 18) (v := undef) rfl (by kernel_rfl) (by kernel_rfl) (by kernel_rfl) (fun _ _ _ h => h) (Or.inr ⟨by rfl, rfl⟩) h1 ?_
       simp only [Act.put, l1, l2, l3, l4, l5, l6]
       refine wpAnyH_take (i := 19) (v := undef) rfl (by kernel_rfl) (by kernel_rfl) (by kernel_rfl) (fun _ _ _ h => h) (Or.inr ⟨by rfl, rfl⟩) h1 ?_
       simp only [Act.put, l1, l2, l3, l4, l5, l6]
       refine wpAnyH_take (i := 20) (v := undef) rfl (by kernel_rfl) (by kernel_rfl) (by kernel_rfl) (fun _ _ _ h => h) (Or.inr ⟨by rfl, rfl⟩) h1 ?_
       simp only [Act.put, l1, l2, l3, l4, l5, l6]
       refine wpAnyH_take (i := 21) (v := undef) rfl (by kernel_rfl) (by kernel_rfl) (by kernel_rfl) (fun _ _ _ h => h) (Or.inr ⟨by rfl, rfl⟩) h1 ?_
       simp only [Act.put, l1, l2, l3, l4, l5, l6]
       refine wpAnyH_take (i := 22) (v := undef) rfl (by kernel_rfl) (by kernel_rfl) (by kernel_rfl) (fun _ _ _ h => h) (Or.inr ⟨by rfl, rfl⟩) h1 ?_
       simp only [Act.put, l1, l2, l3, l4, l5, l6]
       refine wpAnyH_take (i := 23) (v := ?_) rfl (by kernel_rfl) (by kernel_rfl) (by kernel_rfl) (fun _ _ _ h => h) (Or.inl ⟨by rfl, fun W hW => ?_⟩) h1 ?_
       rotate_left
       ·have q0 := (hW.cell (p := ⟨BW, 0, none⟩) HvB.out).trans v0.out
        have q1 := (hW.cell (p := ⟨BW, 1, none⟩) HvB.out).trans v1.out
        clear hW
        go_simp
        try with_reducible rfl
       simp only [Act.put, l1, l2, l3, l4, l5, l6]
       refine wpAnyH_take (i := 24) (v := ?_) rfl (by kernel_rfl) (by kernel_rfl) (by kernel_rfl) (fun _ _ _ h => h) (Or.inl ⟨by rfl, fun W hW => ?_⟩) h1 ?_
       rotate_left
       ·have q0 := (hW.cell (p := ⟨BW, 0, none⟩) HvB.out).trans v0.out
        have q1 := (hW.cell (p := ⟨BW, 1, none⟩) HvB.out).trans v1.out
        clear hW
        go_simp
        try with_reducible rfl
       simp only [Act.put, l1, l2, l3, l4, l5, l6]
       refine wpAnyH_done (by kernel_rfl) ?_ _
       have BV1 := BVO.trans (h1.mono BVO.size)
       have BVV := hidM h1
       clear h1
       generalize hV1 : V.drew = V1 at *
       clear hV1
       have w2 := (BVV.out.cell (p := ⟨BW, 2, none⟩) HvB.out).trans v2.out
       go_wp2_with fail
       go_loopw [5] (fun i wr => ∃ m : Nat, m ≤ XW.length ∧ i = .int .i64 m ∧ Hid (∀ j, j < m → waitL1 sq XW j) ∧ Below V.heap.size V wr) (fun i _ => XW.length - (intOf i).toNat)
       case atStart => exact ⟨0, Nat.zero_le _, rfl, fun j h => absurd h (Nat.not_lt_zero _), BVV.out⟩
       case round =>
        clear w2 BV1 BVV
        obtain ⟨m2, hm2, rfl, HM, hbV⟩ := hrel
        have BO2 := BVO.trans (hbV.mono BVO.size)
        have w2 := (hbV.cell (p := ⟨BW, 2, none⟩) HvB.out).trans v2.out
        by_cases hmt : m2 < XW.length
        ·have hmi : (m2 : Int) < XW.length := by omega
         rcases HX.out with ⟨h0, _⟩ | ⟨_, g2, off2, cap2, hqe, hg2, hcq⟩
         ·rw [h0] at hmt; exact absurd hmt (Nat.not_lt_zero _)
         ·injection hqe with i1 i2 i3
          subst i1
          clear i2 i3
          have HvG2 := hidM (show g2 < wr.heap.size by have := hbV.size; omega)
          have HvB2 := hidM (show BW < wr.heap.size by have := hbV.size; have := HvB.out; omega)
          have HvO2 := hidM (show w.heap.size < wr.heap.size by have := hbV.size; have := HvO.out; omega)
          obtain ⟨e0', e1', e2'⟩ := (hcq m2 hmt).below hbV hg2
          have e0 := hidM e0'
          have e1 := hidM e1'
          have e2 := hidM e2'
          have y2 := hidM w2
          have y3 := hidM ((hbV.cell (p := ⟨w.heap.size, 3, none⟩) HvO.out).trans o3.out)
          have hsw : IntKind.i64.wrap (sq - 1) = sq - 1 := by rw [IntKind.wrap_i64]; omega
          have C2 : Hid (∀ W, Calls Tryz.prog 51 #[.int .i64 (XW.getD m2 wtv0).q, .int .i64 0, .int .i64 (sq - 1)] W fun e w' => e = .returned (.bool (inB (XW.getD m2 wtv0).q 0 (sq - 1))) ∧ W = w') := fun W => specIn _ _ _ W
          have HPC : Hid (∀ j, j < XW.length → WtAt wr g2 (off2 + j * 3) (XW.getD j wtv0)) := fun j hj => (hcq j hj).below hbV hg2
          have HNo2 : Hid (¬ waitL1 sq XW m2 → BIs false (SitesL sq si le)) := fun h => BIs.no fun e => h (by have z := (e.1 _ hlt).2.2.2 m2 (by rw [← HXW.out]; exact hmt); rwa [← HXW.out] at z)
          have HYes2 : Hid (waitL1 sq XW m2 → ∀ j, j < m2 + 1 → waitL1 sq XW j) := fun h j hj => by
           by_cases e : j = m2
           ·subst e; exact h
           ·exact HM.out j (by omega)
          have HI2 : Hid (waitL1 sq XW m2 ↔ (inB (XW.getD m2 wtv0).q 0 (sq - 1) = true ∧ (0 < m2 → wBef (XW.getD (m2 - 1) wtv0) (XW.getD m2 wtv0) = true))) := Iff.rfl
          clear HM hcq e0' e1' e2' HI HNo
          generalize waitL1 sq XW m2 = QI at *
          generalize hb2 : inB (XW.getD m2 wtv0).q 0 (sq - 1) = b2 at *
          clear hb2
          go_upto_region 10 with fail
          clear w2
          refine wp_region_held_drew (S := fun W => Below wr.heap.size wr W) (by kernel_rfl) (Below.refl _ wr).drew (fun h0 => ?_)
          cases b2 with
          | false =>
           have HZ := hidM (HNo2.out (fun h => by have := (HI2.out.1 h).1; cases this))
           clear HNo2 HYes2 HI2 HPC
           generalize (XW.getD m2 wtv0).q = xq at *
           refine wpAnyH_take (i := 0) (v := ?_) rfl (by kernel_rfl) (by kernel_rfl) (by kernel_rfl) (fun _ _ _ h => h) (Or.inl ⟨by rfl, fun W hW => ?_⟩) h0 ?_
           rotate_left
           ·have q0 := (hW.cell (p := ⟨BW, 2, none⟩) HvB2.out).trans y2.out
            have q1 := (hW.cell (p := ⟨w.heap.size, 3, none⟩) HvO2.out).trans y3.out
            have q2 := (hW.cell (p := ⟨g2, off2 + m2 * 3 + 2, none⟩) HvG2.out).trans e2.out
            clear hW
            go_simp
            try with_reducible rfl
           simp only [Act.put, l1, l2, l3, l4, l5, l6]
           refine wpAnyH_take (i := 1) (v := ?_) rfl (by kernel_rfl) (by kernel_rfl) (by kernel_rfl) (fun _ _ _ h => h) (Or.inl ⟨by rfl, fun W hW => ?_⟩) h0 ?_
           rotate_left
           ·have q0 := (hW.cell (p := ⟨BW, 2, none⟩) HvB2.out).trans y2.out
            have q1 := (hW.cell (p := ⟨w.heap.size, 3, none⟩) HvO2.out).trans y3.out
            have q2 := (hW.cell (p := ⟨g2, off2 + m2 * 3 + 2, none⟩) HvG2.out).trans e2.out
            clear hW
            go_simp
            try with_reducible rfl
           simp only [Act.put, l1, l2, l3, l4, l5, l6]
           refine wpAnyH_take (i := 2) (v := ?_) rfl (by kernel_rfl) (by kernel_rfl) (by kernel_rfl) (fun _ _ _ h => h) (Or.inl ⟨by rfl, fun W hW => ?_⟩) h0 ?_
           rotate_left
           ·have q0 := (hW.cell (p := ⟨BW, 2, none⟩) HvB2.out).trans y2.out
            have q1 := (hW.cell (p := ⟨w.heap.size, 3, none⟩) HvO2.out).trans y3.out
            have q2 := (hW.cell (p := ⟨g2, off2 + m2 * 3 + 2, none⟩) HvG2.out).trans e2.out
            clear hW
            go_simp
            try with_reducible rfl
           simp only [Act.put, l1, l2, l3, l4, l5, l6]
           refine wpAnyH_take (i := 3) (v := ?_) rfl (by kernel_rfl) (by kernel_rfl) (by kernel_rfl) (fun _ _ _ h => h) (Or.inl ⟨by rfl, fun W hW => ?_⟩) h0 ?_
           rotate_left
           ·have q0 := (hW.cell (p := ⟨BW, 2, none⟩) HvB2.out).trans y2.out
            have q1 := (hW.cell (p := ⟨w.heap.size, 3, none⟩) HvO2.out).trans y3.out
            have q2 := (hW.cell (p := ⟨g2, off2 + m2 * 3 + 2, none⟩) HvG2.out).trans e2.out
            clear hW
            go_simp
            try with_reducible rfl
           simp only [Act.put, l1, l2, l3, l4, l5, l6]
           refine wpAnyH_take (i := 4) (v := ?_) rfl (by kernel_rfl) (by kernel_rfl) (by kernel_rfl) (fun _ _ _ h => h) (Or.inl ⟨by rfl, fun W hW => ?_⟩) h0 ?_
           rotate_left
           ·have q0 := (hW.cell (p := ⟨BW, 2, none⟩) HvB2.out).trans y2.out
            have q1 := (hW.cell (p := ⟨w.heap.size, 3, none⟩) HvO2.out).trans y3.out
            have q2 := (hW.cell (p := ⟨g2, off2 + m2 * 3 + 2, none⟩) HvG2.out).trans e2.out
            clear hW
            go_simp
            try with_reducible rfl
           simp only [Act.put, l1, l2, l3, l4, l5, l6]
           refine wpAnyH_take (i := 5) (v := ?_) rfl (by kernel_rfl) (by kernel_rfl) (by kernel_rfl) (fun _ _ _ h => h) (Or.inl ⟨by rfl, fun W hW => ?_⟩) h0 ?_
           rotate_left
           ·have q0 := (hW.cell (p := ⟨BW, 2, none⟩) HvB2.out).trans y2.out
            have q1 := (hW.cell (p := ⟨w.heap.size, 3, none⟩) HvO2.out).trans y3.out
            have q2 := (hW.cell (p := ⟨g2, off2 + m2 * 3 + 2, none⟩) HvG2.out).trans e2.out
            clear hW
            go_simp
            try with_reducible rfl
           simp only [Act.put, l1, l2, l3, l4, l5, l6]
           refine wpAnyH_take (i := 6) (v := ?_) rfl (by kernel_rfl) (by kernel_rfl) (by kernel_rfl) (fun _ _ _ h => h) (Or.inl ⟨by rfl, fun W hW => ?_⟩) h0 ?_
           rotate_left
           ·have q0 := (hW.cell (p := ⟨BW, 2, none⟩) HvB2.out).trans y2.out
            have q1 := (hW.cell (p := ⟨w.heap.size, 3, none⟩) HvO2.out).trans y3.out
            have q2 := (hW.cell (p := ⟨g2, off2 + m2 * 3 + 2, none⟩) HvG2.out).trans e2.out
            clear hW
            go_simp
            try with_reducible rfl
           simp only [Act.put, l1, l2, l3, l4, l5, l6]
           refine wpAnyH_take (i := 7) (v := ?_) rfl (by kernel_rfl) (by kernel_rfl) (by kernel_rfl) (fun _ _ _ h => h) (Or.inl ⟨by rfl, fun W hW => ?_⟩) h0 ?_
           rotate_left
           ·have q0 := (hW.cell (p := ⟨BW, 2, none⟩) HvB2.out).trans y2.out
            have q1 := (hW.cell (p := ⟨w.heap.size, 3, none⟩) HvO2.out).trans y3.out
            have q2 := (hW.cell (p := ⟨g2, off2 + m2 * 3 + 2, none⟩) HvG2.out).trans e2.out
            clear hW
            go_simp
            try with_reducible rfl
           simp only [Act.put, l1, l2, l3, l4, l5, l6]
           refine wpAnyH_take (i := 8) (v := ?_) rfl (by kernel_rfl) (by kernel_rfl) (by kernel_rfl) (fun _ _ _ h => h) (Or.inl ⟨by rfl, fun W hW => ?_⟩) h0 ?_
           rotate_left
           ·have q0 := (hW.cell (p := ⟨BW, 2, none⟩) HvB2.out).trans y2.out
            have q1 := (hW.cell (p := ⟨w.heap.size, 3, none⟩) HvO2.out).trans y3.out
            have q2 := (hW.cell (p := ⟨g2, off2 + m2 * 3 + 2, none⟩) HvG2.out).trans e2.out
            clear hW
            go_simp
            try with_reducible rfl
           simp only [Act.put, l1, l2, l3, l4, l5, l6]
           refine wpAnyH_ready (rs := [9]) (by kernel_rfl) (by simp) (AllReadyH.cons rfl (fun K hK => ?_) AllReadyH.nil)
           go_simp
           go_wp2_with (go_at_call 51; refine (C2.out _).mono ?_; rintro e wc ⟨rfl, rfl⟩)
           refine hK.out _ _ h0 (fun h1 => ?_)
           clear hK K h0
           refine wpAnyH_take (i := 10) (v := ?_) rfl (by kernel_rfl) (by kernel_rfl) (by kernel_rfl) (fun _ _ _ h => h) (Or.inl ⟨by rfl, fun W hW => ?_⟩) h1 ?_
           rotate_left
           ·have q0 := (hW.cell (p := ⟨BW, 2, none⟩) HvB2.out).trans y2.out
            have q1 := (hW.cell (p := ⟨w.heap.size, 3, none⟩) HvO2.out).trans y3.out
            have q2 := (hW.cell (p := ⟨g2, off2 + m2 * 3 + 2, none⟩) HvG2.out).trans e2.out
            clear hW
            go_simp
            try with_reducible rfl
           simp only [Act.put, l1, l2, l3, l4, l5, l6]
           refine wpAnyH_take (i := 11) (v := ?_) rfl (by kernel_rfl) (by kernel_rfl) (by kernel_rfl) (fun _ _ _ h => h) (Or.inl ⟨by rfl, fun W hW => ?_⟩) h1 ?_
           rotate_left
           ·have q0 := (hW.cell (p := ⟨BW, 2, none⟩) HvB2.out).trans y2.out
            have q1 := (hW.cell (p := ⟨w.heap.size, 3, none⟩) HvO2.out).trans y3.out
            have q2 := (hW.cell (p := ⟨g2, off2 + m2 * 3 + 2, none⟩) HvG2.out).trans e2.out
            clear hW
            go_simp
            try with_reducible rfl
           simp only [Act.put, l1, l2, l3, l4, l5, l6]
           refine wpAnyH_take (i := 12) (v := undef) rfl (by kernel_rfl) (by kernel_rfl) (by kernel_rfl) (fun _ _ _ h => h) (Or.inr ⟨by rfl, rfl⟩) h1 ?_
           simp only [Act.put, l1, l2, l3, l4, l5, l6]
           refine wpAnyH_take (i := 13) (v := undef) rfl (by kernel_rfl) (by kernel_rfl) (by kernel_rfl) (fun _ _ _ h => h) (Or.inr ⟨by rfl, rfl⟩) h1 ?_
           simp only [Act.put, l1, l2, l3, l4, l5, l6]
           refine wpAnyH_take (i := 14) (v := undef) rfl (by kernel_rfl) (by kernel_rfl) (by kernel_rfl) (fun _ _ _ h => h) (Or.inr ⟨by rfl, rfl⟩) h1 ?_
           simp only [Act.put, l1, l2, l3, l4, l5, l6]
           refine wpAnyH_take (i := 15) (v := undef) rfl (by kernel_rfl) (by kernel_rfl) (by kernel_rfl) (fun _ _ _ h => h) (Or.inr ⟨by rfl, rfl⟩) h1 ?_
           simp only [Act.put, l1, l2, l3, l4, l5, l6]
           refine wpAnyH_take (i := 16) (v := undef) rfl (by kernel_rfl) (by kernel_rfl) (by kernel_rfl) (fun _ _ _ h => h) (Or.inr ⟨by rfl, rfl⟩) h1 ?_
           simp only [Act.put, l1, l2, l3, l4, l5, l6]
           refine wpAnyH_take (i := 17) (v := undef) rfl (by kernel_rfl) (by kernel_rfl) (by kernel_rfl) (fun _ _ _ h => h) (Or.inr ⟨by rfl, rfl⟩) h1 ?_
           simp only [Act.put, l1, l2, l3, l4, l5, l6]
           refine wpAnyH_take (i := 18) (v := undef) rfl (by kernel_rfl) (by kernel_rfl) (by kernel_rfl) (fun _ _ _ h => h) (Or.inr ⟨by rfl, rfl⟩) h1 ?_
           simp only [Act.put, l1, l2, l3, l4, l5, l6]
           refine wpAnyH_take (i := 19) (v := undef) rfl (by kernel_rfl) (by kernel_rfl) (by kernel_rfl) (fun _ _ _ h => h) (Or.inr ⟨by rfl, rfl⟩) h1 ?_
           simp only [Act.put, l1, l2, l3, l4, l5, l6]
           refine wpAnyH_take (i := 20) (v := undef) rfl (by kernel_rfl) (by kernel_rfl) (by kernel_rfl) (fun _ _ _ h => h) (Or.inr ⟨by rfl, rfl⟩) h1 ?_
           simp only [Act.put, l1, l2, l3, l4, l5, l6]
           refine wpAnyH_take (i := 21) (v := undef) rfl (by kernel_rfl) (by kernel_rfl) (by kernel_rfl) (fun _ _ _ h => h) (Or.inr ⟨by rfl, rfl⟩) h1 ?_
           simp only [Act.put, l1, l2, l3, l4, l5, l6]
           refine wpAnyH_take (i := 22) (v := undef) rfl (by kernel_rfl) (by kernel_rfl) (by kernel_rfl) (fun _ _ _ h => h) (Or.inr ⟨by rfl, rfl⟩) h1 ?_
           simp only [Act.put, l1, l2, l3, l4, l5, l6]
           refine wpAnyH_take (i := 23) (v := undef) rfl (by kernel_rfl) (by kernel_rfl) (by kernel_rfl) (fun _ _ _ h => h) (Or.inr ⟨by rfl, rfl⟩) h1 ?_
           simp only [Act.put, l1, l2, l3, l4, l5, l6]
           refine wpAnyH_take (i := 24) (v := undef) rfl (by kernel_rfl) (by kernel_rfl) (by kernel_rfl) (fun _ _ _ h => h) (Or.inr ⟨by rfl, rfl⟩) h1 ?_
           simp only [Act.put, l1, l2, l3, l4, l5, l6]
           refine wpAnyH_take (i := 25) (v := undef) rfl (by kernel_rfl) (by kernel_rfl) (by kernel_rfl) (fun _ _ _ h => h) (Or.inr ⟨by rfl, rfl⟩) h1 ?_
           simp only [Act.put, l1, l2, l3, l4, l5, l6]
           refine wpAnyH_take (i := 26) (v := undef) rfl (by kernel_rfl) (by kernel_rfl) (by kernel_rfl) (fun _ _ _ h => h) (Or.inr ⟨by rfl, rfl⟩) h1 ?_
           simp only [Act.put, l1, l2, l3, l4, l5, l6]
           refine wpAnyH_take (i := 27) (v := undef) rfl (by kernel_rfl) (by kernel_rfl) (by kernel_rfl) (fun _ _ _ h => h) (Or.inr ⟨by rfl, rfl⟩) h1 ?_
           simp only [Act.put, l1, l2, l3, l4, l5, l6]
           refine wpAnyH_take (i := 28) (v := undef) rfl (by kernel_rfl) (by kernel_rfl) (by kernel_rfl) (fun _ _ _ h => h) (Or.inr ⟨by rfl, rfl⟩) h1 ?_
           simp only [Act.put, l1, l2, l3, l4, l5, l6]
           refine wpAnyH_take (i := 29) (v := ?_) rfl (by kernel_rfl) (by kernel_rfl) (by kernel_rfl) (fun _ _ _ h => h) (Or.inl ⟨by rfl, fun W hW => ?_⟩) h1 ?_
           rotate_left
           ·have q0 := (hW.cell (p := ⟨BW, 2, none⟩) HvB2.out).trans y2.out
            have q1 := (hW.cell (p := ⟨w.heap.size, 3, none⟩) HvO2.out).trans y3.out
            have q2 := (hW.cell (p := ⟨g2, off2 + m2 * 3 + 2, none⟩) HvG2.out).trans e2.out
            clear hW
            go_simp
            try with_reducible rfl
           simp only [Act.put, l1, l2, l3, l4, l5, l6]
           refine wpAnyH_done (by kernel_rfl) ?_ _
           have B2 := BO2.trans (h1.mono BO2.size)
           clear h1
           go_wp2_with fail
           go_ret
           exact AnsB.mk HZ.out (bO.trans (B2.mono bO.size))
          | true =>
           by_cases hk0 : m2 = 0
           ·subst hk0
            have HZ := hidM (HYes2.out (HI2.out.2 ⟨rfl, fun h => absurd h (Nat.lt_irrefl _)⟩))
            clear HNo2 HYes2 HI2 HPC
            generalize (XW.getD 0 wtv0).q = xq at *
            refine wpAnyH_take (i := 0) (v := ?_) rfl (by kernel_rfl) (by kernel_rfl) (by kernel_rfl) (fun _ _ _ h => h) (Or.inl ⟨by rfl, fun W hW => ?_⟩) h0 ?_
            rotate_left
            ·have q0 := (hW.cell (p := ⟨BW, 2, none⟩) HvB2.out).trans y2.out
             have q1 := (hW.cell (p := ⟨w.heap.size, 3, none⟩) HvO2.out).trans y3.out
             have q2 := (hW.cell (p := ⟨g2, off2 + 0 * 3 + 2, none⟩) HvG2.out).trans e2.out
             clear hW
             go_simp
             try with_reducible rfl
            simp only [Act.put, l1, l2, l3, l4, l5, l6]
            refine wpAnyH_take (i := 1) (v := ?_) rfl (by kernel_rfl) (by kernel_rfl) (by kernel_rfl) (fun _ _ _ h => h) (Or.inl ⟨by rfl, fun W hW => ?_⟩) h0 ?_
            rotate_left
            ·have q0 := (hW.cell (p := ⟨BW, 2, none⟩) HvB2.out).trans y2.out
             have q1 := (hW.cell (p := ⟨w.heap.size, 3, none⟩) HvO2.out).trans y3.out
             have q2 := (hW.cell (p := ⟨g2, off2 + 0 * 3 + 2, none⟩) HvG2.out).trans e2.out
             clear hW
             go_simp
             try with_reducible rfl
            simp only [Act.put, l1, l2, l3, l4, l5, l6]
            refine wpAnyH_take (i := 2) (v := ?_) rfl (by kernel_rfl) (by kernel_rfl) (by kernel_rfl) (fun _ _ _ h => h) (Or.inl ⟨by rfl, fun W hW => ?_⟩) h0 ?_
            rotate_left
            ·have q0 := (hW.cell (p := ⟨BW, 2, none⟩) HvB2.out).trans y2.out
             have q1 := (hW.cell (p := ⟨w.heap.size, 3, none⟩) HvO2.out).trans y3.out
             have q2 := (hW.cell (p := ⟨g2, off2 + 0 * 3 + 2, none⟩) HvG2.out).trans e2.out
             clear hW
             go_simp
             try with_reducible rfl
            simp only [Act.put, l1, l2, l3, l4, l5, l6]
            refine wpAnyH_take (i := 3) (v := ?_) rfl (by kernel_rfl) (by kernel_rfl) (by kernel_rfl) (fun _ _ _ h => h) (Or.inl ⟨by rfl, fun W hW => ?_⟩) h0 ?_
            rotate_left
            ·have q0 := (hW.cell (p := ⟨BW, 2, none⟩) HvB2.out).trans y2.out
             have q1 := (hW.cell (p := ⟨w.heap.size, 3, none⟩) HvO2.out).trans y3.out
             have q2 := (hW.cell (p := ⟨g2, off2 + 0 * 3 + 2, none⟩) HvG2.out).trans e2.out
             clear hW
             go_simp
             try with_reducible rfl
            simp only [Act.put, l1, l2, l3, l4, l5, l6]
            refine wpAnyH_take (i := 4) (v := ?_) rfl (by kernel_rfl) (by kernel_rfl) (by kernel_rfl) (fun _ _ _ h => h) (Or.inl ⟨by rfl, fun W hW => ?_⟩) h0 ?_
            rotate_left
            ·have q0 := (hW.cell (p := ⟨BW, 2, none⟩) HvB2.out).trans y2.out
             have q1 := (hW.cell (p := ⟨w.heap.size, 3, none⟩) HvO2.out).trans y3.out
             have q2 := (hW.cell (p := ⟨g2, off2 + 0 * 3 + 2, none⟩) HvG2.out).trans e2.out
             clear hW
             go_simp
             try with_reducible rfl
            simp only [Act.put, l1, l2, l3, l4, l5, l6]
            refine wpAnyH_take (i := 5) (v := ?_) rfl (by kernel_rfl) (by kernel_rfl) (by kernel_rfl) (fun _ _ _ h => h) (Or.inl ⟨by rfl, fun W hW => ?_⟩) h0 ?_
            rotate_left
            ·have q0 := (hW.cell (p := ⟨BW, 2, none⟩) HvB2.out).trans y2.out
             have q1 := (hW.cell (p := ⟨w.heap.size, 3, none⟩) HvO2.out).trans y3.out
             have q2 := (hW.cell (p := ⟨g2, off2 + 0 * 3 + 2, none⟩) HvG2.out).trans e2.out
             clear hW
             go_simp
             try with_reducible rfl
            simp only [Act.put, l1, l2, l3, l4, l5, l6]
            refine wpAnyH_take (i := 6) (v := ?_) rfl (by kernel_rfl) (by kernel_rfl) (by kernel_rfl) (fun _ _ _ h => h) (Or.inl ⟨by rfl, fun W hW => ?_⟩) h0 ?_
            rotate_left
            ·have q0 := (hW.cell (p := ⟨BW, 2, none⟩) HvB2.out).trans y2.out
             have q1 := (hW.cell (p := ⟨w.heap.size, 3, none⟩) HvO2.out).trans y3.out
             have q2 := (hW.cell (p := ⟨g2, off2 + 0 * 3 + 2, none⟩) HvG2.out).trans e2.out
             clear hW
             go_simp
             try with_reducible rfl
            simp only [Act.put, l1, l2, l3, l4, l5, l6]
            refine wpAnyH_take (i := 7) (v := ?_) rfl (by kernel_rfl) (by kernel_rfl) (by kernel_rfl) (fun _ _ _ h => h) (Or.inl ⟨by rfl, fun W hW => ?_⟩) h0 ?_
            rotate_left
            ·have q0 := (hW.cell (p := ⟨BW, 2, none⟩) HvB2.out).trans y2.out
             have q1 := (hW.cell (p := ⟨w.heap.size, 3, none⟩) HvO2.out).trans y3.out
             have q2 := (hW.cell (p := ⟨g2, off2 + 0 * 3 + 2, none⟩) HvG2.out).trans e2.out
             clear hW
             go_simp
             try with_reducible rfl
            simp only [Act.put, l1, l2, l3, l4, l5, l6]
            refine wpAnyH_take (i := 8) (v := ?_) rfl (by kernel_rfl) (by kernel_rfl) (by kernel_rfl) (fun _ _ _ h => h) (Or.inl ⟨by rfl, fun W hW => ?_⟩) h0 ?_
            rotate_left
            ·have q0 := (hW.cell (p := ⟨BW, 2, none⟩) HvB2.out).trans y2.out
             have q1 := (hW.cell (p := ⟨w.heap.size, 3, none⟩) HvO2.out).trans y3.out
             have q2 := (hW.cell (p := ⟨g2, off2 + 0 * 3 + 2, none⟩) HvG2.out).trans e2.out
             clear hW
             go_simp
             try with_reducible rfl
            simp only [Act.put, l1, l2, l3, l4, l5, l6]
            refine wpAnyH_ready (rs := [9]) (by kernel_rfl) (by simp) (AllReadyH.cons rfl (fun K hK => ?_) AllReadyH.nil)
            go_simp
            go_wp2_with (go_at_call 51; refine (C2.out _).mono ?_; rintro e wc ⟨rfl, rfl⟩)
            refine hK.out _ _ h0 (fun h1 => ?_)
            clear hK K h0
            refine wpAnyH_take (i := 10) (v := ?_) rfl (by kernel_rfl) (by kernel_rfl) (by kernel_rfl) (fun _ _ _ h => h) (Or.inl ⟨by rfl, fun W hW => ?_⟩) h1 ?_
            rotate_left
            ·have q0 := (hW.cell (p := ⟨BW, 2, none⟩) HvB2.out).trans y2.out
             have q1 := (hW.cell (p := ⟨w.heap.size, 3, none⟩) HvO2.out).trans y3.out
             have q2 := (hW.cell (p := ⟨g2, off2 + 0 * 3 + 2, none⟩) HvG2.out).trans e2.out
             clear hW
             go_simp
             try with_reducible rfl
            simp only [Act.put, l1, l2, l3, l4, l5, l6]
            refine wpAnyH_take (i := 11) (v := ?_) rfl (by kernel_rfl) (by kernel_rfl) (by kernel_rfl) (fun _ _ _ h => h) (Or.inl ⟨by rfl, fun W hW => ?_⟩) h1 ?_
            rotate_left
            ·have q0 := (hW.cell (p := ⟨BW, 2, none⟩) HvB2.out).trans y2.out
             have q1 := (hW.cell (p := ⟨w.heap.size, 3, none⟩) HvO2.out).trans y3.out
             have q2 := (hW.cell (p := ⟨g2, off2 + 0 * 3 + 2, none⟩) HvG2.out).trans e2.out
             clear hW
             go_simp
             try with_reducible rfl
            simp only [Act.put, l1, l2, l3, l4, l5, l6]
            refine wpAnyH_take (i := 12) (v := ?_) rfl (by kernel_rfl) (by kernel_rfl) (by kernel_rfl) (fun _ _ _ h => h) (Or.inl ⟨by rfl, fun W hW => ?_⟩) h1 ?_
            rotate_left
            ·have q0 := (hW.cell (p := ⟨BW, 2, none⟩) HvB2.out).trans y2.out
             have q1 := (hW.cell (p := ⟨w.heap.size, 3, none⟩) HvO2.out).trans y3.out
             have q2 := (hW.cell (p := ⟨g2, off2 + 0 * 3 + 2, none⟩) HvG2.out).trans e2.out
             clear hW
             go_simp
             try with_reducible rfl
            simp only [Act.put, l1, l2, l3, l4, l5, l6]
            refine wpAnyH_take (i := 13) (v := ?_) rfl (by kernel_rfl) (by kernel_rfl) (by kernel_rfl) (fun _ _ _ h => h) (Or.inl ⟨by rfl, fun W hW => ?_⟩) h1 ?_
            rotate_left
            ·have q0 := (hW.cell (p := ⟨BW, 2, none⟩) HvB2.out).trans y2.out
             have q1 := (hW.cell (p := ⟨w.heap.size, 3, none⟩) HvO2.out).trans y3.out
             have q2 := (hW.cell (p := ⟨g2, off2 + 0 * 3 + 2, none⟩) HvG2.out).trans e2.out
             clear hW
             go_simp
             try with_reducible rfl
            simp only [Act.put, l1, l2, l3, l4, l5, l6]
            refine wpAnyH_take (i := 14) (v := ?_) rfl (by kernel_rfl) (by kernel_rfl) (by kernel_rfl) (fun _ _ _ h => h) (Or.inl ⟨by rfl, fun W hW => ?_⟩) h1 ?_
            rotate_left
            ·have q0 := (hW.cell (p := ⟨BW, 2, none⟩) HvB2.out).trans y2.out
             have q1 := (hW.cell (p := ⟨w.heap.size, 3, none⟩) HvO2.out).trans y3.out
             have q2 := (hW.cell (p := ⟨g2, off2 + 0 * 3 + 2, none⟩) HvG2.out).trans e2.out
             clear hW
             go_simp
             try with_reducible rfl
            simp only [Act.put, l1, l2, l3, l4, l5, l6]
            refine wpAnyH_take (i := 15) (v := undef) rfl (by kernel_rfl) (by kernel_rfl) (by kernel_rfl) (fun _ _ _ h => h) (Or.inr ⟨by rfl, rfl⟩) h1 ?_
            simp only [Act.put, l1, l2, l3, l4, l5, l6]
            refine wpAnyH_take (i := 16) (v := undef) rfl (by kernel_rfl) (by kernel_rfl) (by kernel_rfl) (fun _ _ _ h => h) (Or.inr ⟨by rfl, rfl⟩) h1 ?_
            simp only [Act.put, l1, l2, l3, l4, l5, l6]
            refine wpAnyH_take (i := 17) (v := undef) rfl (by kernel_rfl) (by kernel_rfl) (by kernel_rfl) (fun _ _ _ h => h) (Or.inr ⟨by rfl, rfl⟩) h1 ?_
            simp only [Act.put, l1, l2, l3, l4, l5, l6]
            refine wpAnyH_take (i := 18) (v := undef) rfl (by kernel_rfl) (by kernel_rfl) (by kernel_rfl) (fun _ _ _ h => h) (Or.inr ⟨by rfl, rfl⟩) h1 ?_
            simp only [Act.put, l1, l2, l3, l4, l5, l6]
            refine wpAnyH_take (i := 19) (v := undef) rfl (by kernel_rfl) (by kernel_rfl) (by kernel_rfl) (fun _ _ _ h => h) (Or.inr ⟨by rfl, rfl⟩) h1 ?_
            simp only [Act.put, l1, l2, l3, l4, l5, l6]
            refine wpAnyH_take (i := 20) (v := undef) rfl (by kernel_rfl) (by kernel_rfl) (by kernel_rfl) (fun _ _ _ h => h) (Or.inr ⟨by rfl, rfl⟩) h1 ?_
            simp only [Act.put, l1, l2, l3, l4, l5, l6]
            refine wpAnyH_take (i := 21) (v := undef) rfl (by kernel_rfl) (by kernel_rfl) (by kernel_rfl) (fun _ _ _ h => h) (Or.inr ⟨by rfl, rfl⟩) h1 ?_
            simp only [Act.put, l1, l2, l3, l4, l5, l6]
            refine wpAnyH_take (i := 22) (v := undef) rfl (by kernel_rfl) (by kernel_rfl) (by kernel_rfl) (fun _ _ _ h => h) (Or.inr ⟨by rfl, rfl⟩) h1 ?_
            simp only [Act.put, l1, l2, l3, l4, l5, l6]
            refine wpAnyH_take (i := 23) (v := undef) rfl (by kernel_rfl) (by kernel_rfl) (by kernel_rfl) (fun _ _ _ h => h) (Or.inr ⟨by rfl, rfl⟩) h1 ?_
            simp only [Act.put, l1, l2, l3, l4, l5, l6]
            refine wpAnyH_take (i := 24) (v := undef) rfl (by kernel_rfl) (by kernel_rfl) (by kernel_rfl) (fun _ _ _ h => h) (Or.inr ⟨by rfl, rfl⟩) h1 ?_
            simp only [Act.put, l1, l2, l3, l4, l5, l6]
            refine wpAnyH_take (i := 25) (v := undef) rfl (by kernel_rfl) (by kernel_rfl) (by kernel_rfl) (fun _ _ _ h => h) (Or.inr ⟨by rfl, rfl⟩) h1 ?_
            simp only [Act.put, l1, l2, l3, l4, l5, l6]
            refine wpAnyH_take (i := 26) (v := undef) rfl (by kernel_rfl) (by kernel_rfl) (by kernel_rfl) (fun _ _ _ h => h) (Or.inr ⟨by rfl, rfl⟩) h1 ?_
            simp only [Act.put, l1, l2, l3, l4, l5, l6]
            refine wpAnyH_take (i := 27) (v := undef) rfl (by kernel_rfl) (by kernel_rfl) (by kernel_rfl) (fun _ _ _ h => h) (Or.inr ⟨by rfl, rfl⟩) h1 ?_
            simp only [Act.put, l1, l2, l3, l4, l5, l6]
            refine wpAnyH_take (i := 28) (v := ?_) rfl (by kernel_rfl) (by kernel_rfl) (by kernel_rfl) (fun _ _ _ h => h) (Or.inl ⟨by rfl, fun W hW => ?_⟩) h1 ?_
            rotate_left
            ·have q0 := (hW.cell (p := ⟨BW, 2, none⟩) HvB2.out).trans y2.out
             have q1 := (hW.cell (p := ⟨w.heap.size, 3, none⟩) HvO2.out).trans y3.out
             have q2 := (hW.cell (p := ⟨g2, off2 + 0 * 3 + 2, none⟩) HvG2.out).trans e2.out
             clear hW
             go_simp
             try with_reducible rfl
            simp only [Act.put, l1, l2, l3, l4, l5, l6]
            refine wpAnyH_take (i := 29) (v := ?_) rfl (by kernel_rfl) (by kernel_rfl) (by kernel_rfl) (fun _ _ _ h => h) (Or.inl ⟨by rfl, fun W hW => ?_⟩) h1 ?_
            rotate_left
            ·have q0 := (hW.cell (p := ⟨BW, 2, none⟩) HvB2.out).trans y2.out
             have q1 := (hW.cell (p := ⟨w.heap.size, 3, none⟩) HvO2.out).trans y3.out
             have q2 := (hW.cell (p := ⟨g2, off2 + 0 * 3 + 2, none⟩) HvG2.out).trans e2.out
             clear hW
             go_simp
             try with_reducible rfl
            simp only [Act.put, l1, l2, l3, l4, l5, l6]
            refine wpAnyH_done (by kernel_rfl) ?_ _
            have B2 := hbV.trans (h1.mono hbV.size)
            clear h1
            go_wp2_with fail
            go_roundw
            case rel => exact ⟨1, by omega, by go_num, HZ.out, B2⟩
            case measure => simp [intOf]; omega
           ·obtain ⟨m', rfl⟩ : ∃ m', m2 = m' + 1 := ⟨m2 - 1, by omega⟩
            obtain ⟨f0', f1', f2'⟩ := HPC.out m' (by omega)
            have f0 := hidM f0'
            have f1 := hidM f1'
            have f2 := hidM f2'
            have C3 : Hid (∀ W, Calls Tryz.prog 105 #[.agg #[.string (XW.getD m' wtv0).k, .int .i64 (XW.getD m' wtv0).p, .int .i64 (XW.getD m' wtv0).q], .agg #[.string (XW.getD (m' + 1) wtv0).k, .int .i64 (XW.getD (m' + 1) wtv0).p, .int .i64 (XW.getD (m' + 1) wtv0).q]] W fun e w' => e = .returned (.bool (wBef (XW.getD m' wtv0) (XW.getD (m' + 1) wtv0))) ∧ Below W.heap.size W w') := fun W => specBefore _ _ W
            have HI3 : Hid (QI ↔ wBef (XW.getD m' wtv0) (XW.getD (m' + 1) wtv0) = true) := hidM (HI2.out.trans ⟨fun h => by have := h.2 (by omega); rwa [Nat.add_sub_cancel] at this, fun h => ⟨rfl, fun _ => by rw [Nat.add_sub_cancel]; exact h⟩⟩)
            have hkz : ((m' + 1 : Nat) : Int) - 1 = (m' : Int) := by omega
            have hkp : (0 : Int) < ((m' + 1 : Nat) : Int) := by omega
            have hkl : (m' : Int) < (XW.length : Int) := by omega
            have hkm1 : (0 : Int) ≤ (m' : Int) + 1 := by omega
            have hkm2 : (m' : Int) + 1 < (XW.length : Int) := by omega
            have hkw : IntKind.i64.wrap (m' : Int) = (m' : Int) := by rw [IntKind.wrap_i64]; omega
            clear HI2 HPC f0' f1' f2'
            generalize wBef (XW.getD m' wtv0) (XW.getD (m' + 1) wtv0) = b3 at *
            generalize (XW.getD m' wtv0).k = yk at *
            generalize (XW.getD m' wtv0).p = yp at *
            generalize (XW.getD m' wtv0).q = yq at *
            generalize (XW.getD (m' + 1) wtv0).k = xk at *
            generalize (XW.getD (m' + 1) wtv0).p = xp at *
            generalize (XW.getD (m' + 1) wtv0).q = xq at *
            cases b3 with
            | false =>
             have HZ := hidM (HNo2.out (fun h => by have := HI3.out.1 h; cases this))
             clear HNo2 HYes2 HI3
             refine wpAnyH_take (i := 0) (v := ?_) rfl (by kernel_rfl) (by kernel_rfl) (by kernel_rfl) (fun _ _ _ h => h) (Or.inl ⟨by rfl, fun W hW => ?_⟩) h0 ?_
             rotate_left
             ·have q0 := (hW.cell (p := ⟨BW, 2, none⟩) HvB2.out).trans y2.out
              have q1 := (hW.cell (p := ⟨w.heap.size, 3, none⟩) HvO2.out).trans y3.out
              have q2 := (hW.cell (p := ⟨g2, off2 + (m' + 1) * 3 + 2, none⟩) HvG2.out).trans e2.out
              clear hW
              go_simp
              try with_reducible rfl
             simp only [Act.put, l1, l2, l3, l4, l5, l6]
             refine wpAnyH_take (i := 1) (v := ?_) rfl (by kernel_rfl) (by kernel_rfl) (by kernel_rfl) (fun _ _ _ h => h) (Or.inl ⟨by rfl, fun W hW => ?_⟩) h0 ?_
             rotate_left
             ·have q0 := (hW.cell (p := ⟨BW, 2, none⟩) HvB2.out).trans y2.out
              have q1 := (hW.cell (p := ⟨w.heap.size, 3, none⟩) HvO2.out).trans y3.out
              have q2 := (hW.cell (p := ⟨g2, off2 + (m' + 1) * 3 + 2, none⟩) HvG2.out).trans e2.out
              clear hW
              go_simp
              try with_reducible rfl
             simp only [Act.put, l1, l2, l3, l4, l5, l6]
             refine wpAnyH_take (i := 2) (v := ?_) rfl (by kernel_rfl) (by kernel_rfl) (by kernel_rfl) (fun _ _ _ h => h) (Or.inl ⟨by rfl, fun W hW => ?_⟩) h0 ?_
             rotate_left
             ·have q0 := (hW.cell (p := ⟨BW, 2, none⟩) HvB2.out).trans y2.out
              have q1 := (hW.cell (p := ⟨w.heap.size, 3, none⟩) HvO2.out).trans y3.out
              have q2 := (hW.cell (p := ⟨g2, off2 + (m' + 1) * 3 + 2, none⟩) HvG2.out).trans e2.out
              clear hW
              go_simp
              try with_reducible rfl
             simp only [Act.put, l1, l2, l3, l4, l5, l6]
             refine wpAnyH_take (i := 3) (v := ?_) rfl (by kernel_rfl) (by kernel_rfl) (by kernel_rfl) (fun _ _ _ h => h) (Or.inl ⟨by rfl, fun W hW => ?_⟩) h0 ?_
             rotate_left
             ·have q0 := (hW.cell (p := ⟨BW, 2, none⟩) HvB2.out).trans y2.out
              have q1 := (hW.cell (p := ⟨w.heap.size, 3, none⟩) HvO2.out).trans y3.out
              have q2 := (hW.cell (p := ⟨g2, off2 + (m' + 1) * 3 + 2, none⟩) HvG2.out).trans e2.out
              clear hW
              go_simp
              try with_reducible rfl
             simp only [Act.put, l1, l2, l3, l4, l5, l6]
             refine wpAnyH_take (i := 4) (v := ?_) rfl (by kernel_rfl) (by kernel_rfl) (by kernel_rfl) (fun _ _ _ h => h) (Or.inl ⟨by rfl, fun W hW => ?_⟩) h0 ?_
             rotate_left
             ·have q0 := (hW.cell (p := ⟨BW, 2, none⟩) HvB2.out).trans y2.out
              have q1 := (hW.cell (p := ⟨w.heap.size, 3, none⟩) HvO2.out).trans y3.out
              have q2 := (hW.cell (p := ⟨g2, off2 + (m' + 1) * 3 + 2, none⟩) HvG2.out).trans e2.out
              clear hW
              go_simp
              try with_reducible rfl
             simp only [Act.put, l1, l2, l3, l4, l5, l6]
             refine wpAnyH_take (i := 5) (v := ?_) rfl (by kernel_rfl) (by kernel_rfl) (by kernel_rfl) (fun _ _ _ h => h) (Or.inl ⟨by rfl, fun W hW => ?_⟩) h0 ?_
             rotate_left
             ·have q0 := (hW.cell (p := ⟨BW, 2, none⟩) HvB2.out).trans y2.out
              have q1 := (hW.cell (p := ⟨w.heap.size, 3, none⟩) HvO2.out).trans y3.out
              have q2 := (hW.cell (p := ⟨g2, off2 + (m' + 1) * 3 + 2, none⟩) HvG2.out).trans e2.out
              clear hW
              go_simp
              try with_reducible rfl
             simp only [Act.put, l1, l2, l3, l4, l5, l6]
             refine wpAnyH_take (i := 6) (v := ?_) rfl (by kernel_rfl) (by kernel_rfl) (by kernel_rfl) (fun _ _ _ h => h) (Or.inl ⟨by rfl, fun W hW => ?_⟩) h0 ?_
             rotate_left
             ·have q0 := (hW.cell (p := ⟨BW, 2, none⟩) HvB2.out).trans y2.out
              have q1 := (hW.cell (p := ⟨w.heap.size, 3, none⟩) HvO2.out).trans y3.out
              have q2 := (hW.cell (p := ⟨g2, off2 + (m' + 1) * 3 + 2, none⟩) HvG2.out).trans e2.out
              clear hW
              go_simp
              try with_reducible rfl
             simp only [Act.put, l1, l2, l3, l4, l5, l6]
             refine wpAnyH_take (i := 7) (v := ?_) rfl (by kernel_rfl) (by kernel_rfl) (by kernel_rfl) (fun _ _ _ h => h) (Or.inl ⟨by rfl, fun W hW => ?_⟩) h0 ?_
             rotate_left
             ·have q0 := (hW.cell (p := ⟨BW, 2, none⟩) HvB2.out).trans y2.out
              have q1 := (hW.cell (p := ⟨w.heap.size, 3, none⟩) HvO2.out).trans y3.out
              have q2 := (hW.cell (p := ⟨g2, off2 + (m' + 1) * 3 + 2, none⟩) HvG2.out).trans e2.out
              clear hW
              go_simp
              try with_reducible rfl
             simp only [Act.put, l1, l2, l3, l4, l5, l6]
             refine wpAnyH_take (i := 8) (v := ?_) rfl (by kernel_rfl) (by kernel_rfl) (by kernel_rfl) (fun _ _ _ h => h) (Or.inl ⟨by rfl, fun W hW => ?_⟩) h0 ?_
             rotate_left
             ·have q0 := (hW.cell (p := ⟨BW, 2, none⟩) HvB2.out).trans y2.out
              have q1 := (hW.cell (p := ⟨w.heap.size, 3, none⟩) HvO2.out).trans y3.out
              have q2 := (hW.cell (p := ⟨g2, off2 + (m' + 1) * 3 + 2, none⟩) HvG2.out).trans e2.out
              clear hW
              go_simp
              try with_reducible rfl
             simp only [Act.put, l1, l2, l3, l4, l5, l6]
             refine wpAnyH_ready (rs := [9]) (by kernel_rfl) (by simp) (AllReadyH.cons rfl (fun K hK => ?_) AllReadyH.nil)
             go_simp
             go_wp2_with (go_at_call 51; refine (C2.out _).mono ?_; rintro e wc ⟨rfl, rfl⟩)
             refine hK.out _ _ h0 (fun h1 => ?_)
             clear hK K h0
             refine wpAnyH_take (i := 10) (v := ?_) rfl (by kernel_rfl) (by kernel_rfl) (by kernel_rfl) (fun _ _ _ h => h) (Or.inl ⟨by rfl, fun W hW => ?_⟩) h1 ?_
             rotate_left
             ·have q0 := (hW.cell (p := ⟨BW, 2, none⟩) HvB2.out).trans y2.out
              have q1 := (hW.cell (p := ⟨w.heap.size, 3, none⟩) HvO2.out).trans y3.out
              have q2 := (hW.cell (p := ⟨g2, off2 + (m' + 1) * 3 + 2, none⟩) HvG2.out).trans e2.out
              clear hW
              go_simp
              try with_reducible rfl
             simp only [Act.put, l1, l2, l3, l4, l5, l6]
             refine wpAnyH_take (i := 11) (v := ?_) rfl (by kernel_rfl) (by kernel_rfl) (by kernel_rfl) (fun _ _ _ h => h) (Or.inl ⟨by rfl, fun W hW => ?_⟩) h1 ?_
             rotate_left
             ·have q0 := (hW.cell (p := ⟨BW, 2, none⟩) HvB2.out).trans y2.out
              have q1 := (hW.cell (p := ⟨w.heap.size, 3, none⟩) HvO2.out).trans y3.out
              have q2 := (hW.cell (p := ⟨g2, off2 + (m' + 1) * 3 + 2, none⟩) HvG2.out).trans e2.out
              clear hW
              go_simp
              try with_reducible rfl
             simp only [Act.put, l1, l2, l3, l4, l5, l6]
             refine wpAnyH_take (i := 12) (v := ?_) rfl (by kernel_rfl) (by kernel_rfl) (by kernel_rfl) (fun _ _ _ h => h) (Or.inl ⟨by rfl, fun W hW => ?_⟩) h1 ?_
             rotate_left
             ·have q0 := (hW.cell (p := ⟨BW, 2, none⟩) HvB2.out).trans y2.out
              have q1 := (hW.cell (p := ⟨w.heap.size, 3, none⟩) HvO2.out).trans y3.out
              have q2 := (hW.cell (p := ⟨g2, off2 + (m' + 1) * 3 + 2, none⟩) HvG2.out).trans e2.out
              clear hW
              go_simp
              try with_reducible rfl
             simp only [Act.put, l1, l2, l3, l4, l5, l6]
             refine wpAnyH_take (i := 13) (v := ?_) rfl (by kernel_rfl) (by kernel_rfl) (by kernel_rfl) (fun _ _ _ h => h) (Or.inl ⟨by rfl, fun W hW => ?_⟩) h1 ?_
             rotate_left
             ·have q0 := (hW.cell (p := ⟨BW, 2, none⟩) HvB2.out).trans y2.out
              have q1 := (hW.cell (p := ⟨w.heap.size, 3, none⟩) HvO2.out).trans y3.out
              have q2 := (hW.cell (p := ⟨g2, off2 + (m' + 1) * 3 + 2, none⟩) HvG2.out).trans e2.out
              clear hW
              go_simp
              try with_reducible rfl
             simp only [Act.put, l1, l2, l3, l4, l5, l6]
             refine wpAnyH_take (i := 14) (v := ?_) rfl (by kernel_rfl) (by kernel_rfl) (by kernel_rfl) (fun _ _ _ h => h) (Or.inl ⟨by rfl, fun W hW => ?_⟩) h1 ?_
             rotate_left
             ·have q0 := (hW.cell (p := ⟨BW, 2, none⟩) HvB2.out).trans y2.out
              have q1 := (hW.cell (p := ⟨w.heap.size, 3, none⟩) HvO2.out).trans y3.out
              have q2 := (hW.cell (p := ⟨g2, off2 + (m' + 1) * 3 + 2, none⟩) HvG2.out).trans e2.out
              clear hW
              go_simp
              try with_reducible rfl
             simp only [Act.put, l1, l2, l3, l4, l5, l6]
             refine wpAnyH_take (i := 15) (v := ?_) rfl (by kernel_rfl) (by kernel_rfl) (by kernel_rfl) (fun _ _ _ h => h) (Or.inl ⟨by rfl, fun W hW => ?_⟩) h1 ?_
             rotate_left
             ·have q0 := (hW.cell (p := ⟨BW, 2, none⟩) HvB2.out).trans y2.out
              have q1 := (hW.cell (p := ⟨g2, off2 + (m' + 1) * 3, none⟩) HvG2.out).trans e0.out
              have q2 := (hW.cell (p := ⟨g2, off2 + (m' + 1) * 3 + 1, none⟩) HvG2.out).trans e1.out
              have q3 := (hW.cell (p := ⟨g2, off2 + (m' + 1) * 3 + 2, none⟩) HvG2.out).trans e2.out
              have q4 := (hW.cell (p := ⟨g2, off2 + m' * 3, none⟩) HvG2.out).trans f0.out
              have q5 := (hW.cell (p := ⟨g2, off2 + m' * 3 + 1, none⟩) HvG2.out).trans f1.out
              have q6 := (hW.cell (p := ⟨g2, off2 + m' * 3 + 2, none⟩) HvG2.out).trans f2.out
              clear hW
              go_simp
              try with_reducible rfl
             simp only [Act.put, l1, l2, l3, l4, l5, l6]
             refine wpAnyH_take (i := 16) (v := ?_) rfl (by kernel_rfl) (by kernel_rfl) (by kernel_rfl) (fun _ _ _ h => h) (Or.inl ⟨by rfl, fun W hW => ?_⟩) h1 ?_
             rotate_left
             ·have q0 := (hW.cell (p := ⟨BW, 2, none⟩) HvB2.out).trans y2.out
              have q1 := (hW.cell (p := ⟨g2, off2 + (m' + 1) * 3, none⟩) HvG2.out).trans e0.out
              have q2 := (hW.cell (p := ⟨g2, off2 + (m' + 1) * 3 + 1, none⟩) HvG2.out).trans e1.out
              have q3 := (hW.cell (p := ⟨g2, off2 + (m' + 1) * 3 + 2, none⟩) HvG2.out).trans e2.out
              have q4 := (hW.cell (p := ⟨g2, off2 + m' * 3, none⟩) HvG2.out).trans f0.out
              have q5 := (hW.cell (p := ⟨g2, off2 + m' * 3 + 1, none⟩) HvG2.out).trans f1.out
              have q6 := (hW.cell (p := ⟨g2, off2 + m' * 3 + 2, none⟩) HvG2.out).trans f2.out
              clear hW
              go_simp
              try with_reducible rfl
             simp only [Act.put, l1, l2, l3, l4, l5, l6]
             refine wpAnyH_take (i := 17) (v := ?_) rfl (by kernel_rfl) (by kernel_rfl) (by kernel_rfl) (fun _ _ _ h => h) (Or.inl ⟨by rfl, fun W hW => ?_⟩) h1 ?_
             rotate_left
             ·have q0 := (hW.cell (p := ⟨BW, 2, none⟩) HvB2.out).trans y2.out
              have q1 := (hW.cell (p := ⟨g2, off2 + (m' + 1) * 3, none⟩) HvG2.out).trans e0.out
              have q2 := (hW.cell (p := ⟨g2, off2 + (m' + 1) * 3 + 1, none⟩) HvG2.out).trans e1.out
              have q3 := (hW.cell (p := ⟨g2, off2 + (m' + 1) * 3 + 2, none⟩) HvG2.out).trans e2.out
              have q4 := (hW.cell (p := ⟨g2, off2 + m' * 3, none⟩) HvG2.out).trans f0.out
              have q5 := (hW.cell (p := ⟨g2, off2 + m' * 3 + 1, none⟩) HvG2.out).trans f1.out
              have q6 := (hW.cell (p := ⟨g2, off2 + m' * 3 + 2, none⟩) HvG2.out).trans f2.out
              clear hW
              go_simp
              try with_reducible rfl
             simp only [Act.put, l1, l2, l3, l4, l5, l6]
             refine wpAnyH_take (i := 18) (v := ?_) rfl (by kernel_rfl) (by kernel_rfl) (by kernel_rfl) (fun _ _ _ h => h) (Or.inl ⟨by rfl, fun W hW => ?_⟩) h1 ?_
             rotate_left
             ·have q0 := (hW.cell (p := ⟨BW, 2, none⟩) HvB2.out).trans y2.out
              have q1 := (hW.cell (p := ⟨g2, off2 + (m' + 1) * 3, none⟩) HvG2.out).trans e0.out
              have q2 := (hW.cell (p := ⟨g2, off2 + (m' + 1) * 3 + 1, none⟩) HvG2.out).trans e1.out
              have q3 := (hW.cell (p := ⟨g2, off2 + (m' + 1) * 3 + 2, none⟩) HvG2.out).trans e2.out
              have q4 := (hW.cell (p := ⟨g2, off2 + m' * 3, none⟩) HvG2.out).trans f0.out
              have q5 := (hW.cell (p := ⟨g2, off2 + m' * 3 + 1, none⟩) HvG2.out).trans f1.out
              have q6 := (hW.cell (p := ⟨g2, off2 + m' * 3 + 2, none⟩) HvG2.out).trans f2.out
              clear hW
              go_simp
              try with_reducible rfl
             simp only [Act.put, l1, l2, l3, l4, l5, l6]
             refine wpAnyH_take (i := 19) (v := ?_) rfl (by kernel_rfl) (by kernel_rfl) (by kernel_rfl) (fun _ _ _ h => h) (Or.inl ⟨by rfl, fun W hW => ?_⟩) h1 ?_
             rotate_left
             ·have q0 := (hW.cell (p := ⟨BW, 2, none⟩) HvB2.out).trans y2.out
              have q1 := (hW.cell (p := ⟨g2, off2 + (m' + 1) * 3, none⟩) HvG2.out).trans e0.out
              have q2 := (hW.cell (p := ⟨g2, off2 + (m' + 1) * 3 + 1, none⟩) HvG2.out).trans e1.out
              have q3 := (hW.cell (p := ⟨g2, off2 + (m' + 1) * 3 + 2, none⟩) HvG2.out).trans e2.out
              have q4 := (hW.cell (p := ⟨g2, off2 + m' * 3, none⟩) HvG2.out).trans f0.out
              have q5 := (hW.cell (p := ⟨g2, off2 + m' * 3 + 1, none⟩) HvG2.out).trans f1.out
              have q6 := (hW.cell (p := ⟨g2, off2 + m' * 3 + 2, none⟩) HvG2.out).trans f2.out
              clear hW
              go_simp
              try with_reducible rfl
             simp only [Act.put, l1, l2, l3, l4, l5, l6]
             refine wpAnyH_take (i := 20) (v := ?_) rfl (by kernel_rfl) (by kernel_rfl) (by kernel_rfl) (fun _ _ _ h => h) (Or.inl ⟨by rfl, fun W hW => ?_⟩) h1 ?_
             rotate_left
             ·have q0 := (hW.cell (p := ⟨BW, 2, none⟩) HvB2.out).trans y2.out
              have q1 := (hW.cell (p := ⟨g2, off2 + (m' + 1) * 3, none⟩) HvG2.out).trans e0.out
              have q2 := (hW.cell (p := ⟨g2, off2 + (m' + 1) * 3 + 1, none⟩) HvG2.out).trans e1.out
              have q3 := (hW.cell (p := ⟨g2, off2 + (m' + 1) * 3 + 2, none⟩) HvG2.out).trans e2.out
              have q4 := (hW.cell (p := ⟨g2, off2 + m' * 3, none⟩) HvG2.out).trans f0.out
              have q5 := (hW.cell (p := ⟨g2, off2 + m' * 3 + 1, none⟩) HvG2.out).trans f1.out
              have q6 := (hW.cell (p := ⟨g2, off2 + m' * 3 + 2, none⟩) HvG2.out).trans f2.out
              clear hW
              go_simp
              try with_reducible rfl
             simp only [Act.put, l1, l2, l3, l4, l5, l6]
             refine wpAnyH_take (i := 21) (v := ?_) rfl (by kernel_rfl) (by kernel_rfl) (by kernel_rfl) (fun _ _ _ h => h) (Or.inl ⟨by rfl, fun W hW => ?_⟩) h1 ?_
             rotate_left
             ·have q0 := (hW.cell (p := ⟨BW, 2, none⟩) HvB2.out).trans y2.out
              have q1 := (hW.cell (p := ⟨g2, off2 + (m' + 1) * 3, none⟩) HvG2.out).trans e0.out
              have q2 := (hW.cell (p := ⟨g2, off2 + (m' + 1) * 3 + 1, none⟩) HvG2.out).trans e1.out
              have q3 := (hW.cell (p := ⟨g2, off2 + (m' + 1) * 3 + 2, none⟩) HvG2.out).trans e2.out
              have q4 := (hW.cell (p := ⟨g2, off2 + m' * 3, none⟩) HvG2.out).trans f0.out
              have q5 := (hW.cell (p := ⟨g2, off2 + m' * 3 + 1, none⟩) HvG2.out).trans f1.out
              have q6 := (hW.cell (p := ⟨g2, off2 + m' * 3 + 2, none⟩) HvG2.out).trans f2.out
              clear hW
              go_simp
              try with_reducible rfl
             simp only [Act.put, l1, l2, l3, l4, l5, l6]
             refine wpAnyH_take (i := 22) (v := ?_) rfl (by kernel_rfl) (by kernel_rfl) (by kernel_rfl) (fun _ _ _ h => h) (Or.inl ⟨by rfl, fun W hW => ?_⟩) h1 ?_
             rotate_left
             ·have q0 := (hW.cell (p := ⟨BW, 2, none⟩) HvB2.out).trans y2.out
              have q1 := (hW.cell (p := ⟨g2, off2 + (m' + 1) * 3, none⟩) HvG2.out).trans e0.out
              have q2 := (hW.cell (p := ⟨g2, off2 + (m' + 1) * 3 + 1, none⟩) HvG2.out).trans e1.out
              have q3 := (hW.cell (p := ⟨g2, off2 + (m' + 1) * 3 + 2, none⟩) HvG2.out).trans e2.out
              have q4 := (hW.cell (p := ⟨g2, off2 + m' * 3, none⟩) HvG2.out).trans f0.out
              have q5 := (hW.cell (p := ⟨g2, off2 + m' * 3 + 1, none⟩) HvG2.out).trans f1.out
              have q6 := (hW.cell (p := ⟨g2, off2 + m' * 3 + 2, none⟩) HvG2.out).trans f2.out
              clear hW
              go_simp
              try with_reducible rfl
             simp only [Act.put, l1, l2, l3, l4, l5, l6]
             refine wpAnyH_take (i := 23) (v := ?_) rfl (by kernel_rfl) (by kernel_rfl) (by kernel_rfl) (fun _ _ _ h => h) (Or.inl ⟨by rfl, fun W hW => ?_⟩) h1 ?_
             rotate_left
             ·have q0 := (hW.cell (p := ⟨BW, 2, none⟩) HvB2.out).trans y2.out
              have q1 := (hW.cell (p := ⟨g2, off2 + (m' + 1) * 3, none⟩) HvG2.out).trans e0.out
              have q2 := (hW.cell (p := ⟨g2, off2 + (m' + 1) * 3 + 1, none⟩) HvG2.out).trans e1.out
              have q3 := (hW.cell (p := ⟨g2, off2 + (m' + 1) * 3 + 2, none⟩) HvG2.out).trans e2.out
              have q4 := (hW.cell (p := ⟨g2, off2 + m' * 3, none⟩) HvG2.out).trans f0.out
              have q5 := (hW.cell (p := ⟨g2, off2 + m' * 3 + 1, none⟩) HvG2.out).trans f1.out
              have q6 := (hW.cell (p := ⟨g2, off2 + m' * 3 + 2, none⟩) HvG2.out).trans f2.out
              clear hW
              go_simp
              try with_reducible rfl
             simp only [Act.put, l1, l2, l3, l4, l5, l6]
             refine wpAnyH_take (i := 24) (v := ?_) rfl (by kernel_rfl) (by kernel_rfl) (by kernel_rfl) (fun _ _ _ h => h) (Or.inl ⟨by rfl, fun W hW => ?_⟩) h1 ?_
             rotate_left
             ·have q0 := (hW.cell (p := ⟨BW, 2, none⟩) HvB2.out).trans y2.out
              have q1 := (hW.cell (p := ⟨g2, off2 + (m' + 1) * 3, none⟩) HvG2.out).trans e0.out
              have q2 := (hW.cell (p := ⟨g2, off2 + (m' + 1) * 3 + 1, none⟩) HvG2.out).trans e1.out
              have q3 := (hW.cell (p := ⟨g2, off2 + (m' + 1) * 3 + 2, none⟩) HvG2.out).trans e2.out
              have q4 := (hW.cell (p := ⟨g2, off2 + m' * 3, none⟩) HvG2.out).trans f0.out
              have q5 := (hW.cell (p := ⟨g2, off2 + m' * 3 + 1, none⟩) HvG2.out).trans f1.out
              have q6 := (hW.cell (p := ⟨g2, off2 + m' * 3 + 2, none⟩) HvG2.out).trans f2.out
              clear hW
              go_simp
              try with_reducible rfl
             simp only [Act.put, l1, l2, l3, l4, l5, l6]
             refine wpAnyH_take (i := 25) (v := ?_) rfl (by kernel_rfl) (by kernel_rfl) (by kernel_rfl) (fun _ _ _ h => h) (Or.inl ⟨by rfl, fun W hW => ?_⟩) h1 ?_
             rotate_left
             ·have q0 := (hW.cell (p := ⟨BW, 2, none⟩) HvB2.out).trans y2.out
              have q1 := (hW.cell (p := ⟨g2, off2 + (m' + 1) * 3, none⟩) HvG2.out).trans e0.out
              have q2 := (hW.cell (p := ⟨g2, off2 + (m' + 1) * 3 + 1, none⟩) HvG2.out).trans e1.out
              have q3 := (hW.cell (p := ⟨g2, off2 + (m' + 1) * 3 + 2, none⟩) HvG2.out).trans e2.out
              have q4 := (hW.cell (p := ⟨g2, off2 + m' * 3, none⟩) HvG2.out).trans f0.out
              have q5 := (hW.cell (p := ⟨g2, off2 + m' * 3 + 1, none⟩) HvG2.out).trans f1.out
              have q6 := (hW.cell (p := ⟨g2, off2 + m' * 3 + 2, none⟩) HvG2.out).trans f2.out
              clear hW
              go_simp
              try with_reducible rfl
             simp only [Act.put, l1, l2, l3, l4, l5, l6]
             refine wpAnyH_ready (rs := [26]) (by kernel_rfl) (by simp) (AllReadyH.cons rfl (fun K hK => ?_) AllReadyH.nil)
             go_simp
             go_wp2_with (go_at_call 105; refine (C3.out _).mono ?_; rintro e wd ⟨rfl, bq⟩)
             refine hK.out _ _ (h1.trans (bq.mono h1.size)) (fun h2 => ?_)
             clear hK K bq h1
             refine wpAnyH_take (i := 27) (v := ?_) rfl (by kernel_rfl) (by kernel_rfl) (by kernel_rfl) (fun _ _ _ h => h) (Or.inl ⟨by rfl, fun W hW => ?_⟩) h2 ?_
             rotate_left
             ·have q0 := (hW.cell (p := ⟨BW, 2, none⟩) HvB2.out).trans y2.out
              have q1 := (hW.cell (p := ⟨w.heap.size, 3, none⟩) HvO2.out).trans y3.out
              have q2 := (hW.cell (p := ⟨g2, off2 + (m' + 1) * 3 + 2, none⟩) HvG2.out).trans e2.out
              clear hW
              go_simp
              try with_reducible rfl
             simp only [Act.put, l1, l2, l3, l4, l5, l6]
             refine wpAnyH_take (i := 28) (v := ?_) rfl (by kernel_rfl) (by kernel_rfl) (by kernel_rfl) (fun _ _ _ h => h) (Or.inl ⟨by rfl, fun W hW => ?_⟩) h2 ?_
             rotate_left
             ·have q0 := (hW.cell (p := ⟨BW, 2, none⟩) HvB2.out).trans y2.out
              have q1 := (hW.cell (p := ⟨w.heap.size, 3, none⟩) HvO2.out).trans y3.out
              have q2 := (hW.cell (p := ⟨g2, off2 + (m' + 1) * 3 + 2, none⟩) HvG2.out).trans e2.out
              clear hW
              go_simp
              try with_reducible rfl
             simp only [Act.put, l1, l2, l3, l4, l5, l6]
             refine wpAnyH_take (i := 29) (v := ?_) rfl (by kernel_rfl) (by kernel_rfl) (by kernel_rfl) (fun _ _ _ h => h) (Or.inl ⟨by rfl, fun W hW => ?_⟩) h2 ?_
             rotate_left
             ·have q0 := (hW.cell (p := ⟨BW, 2, none⟩) HvB2.out).trans y2.out
              have q1 := (hW.cell (p := ⟨w.heap.size, 3, none⟩) HvO2.out).trans y3.out
              have q2 := (hW.cell (p := ⟨g2, off2 + (m' + 1) * 3 + 2, none⟩) HvG2.out).trans e2.out
              clear hW
              go_simp
              try with_reducible rfl
             simp only [Act.put, l1, l2, l3, l4, l5, l6]
             refine wpAnyH_done (by kernel_rfl) ?_ _
             have B2 := BO2.trans (h2.mono BO2.size)
             clear h2
             go_wp2_with fail
             go_ret
             exact AnsB.mk HZ.out (bO.trans (B2.mono bO.size))
            | true =>
             have HZ := hidM (HYes2.out (HI3.out.2 rfl))
             clear HNo2 HYes2 HI3
             refine wpAnyH_take (i := 0) (v := ?_) rfl (by kernel_rfl) (by kernel_rfl) (by kernel_rfl) (fun _ _ _ h => h) (Or.inl ⟨by rfl, fun W hW => ?_⟩) h0 ?_
             rotate_left
             ·have q0 := (hW.cell (p := ⟨BW, 2, none⟩) HvB2.out).trans y2.out
              have q1 := (hW.cell (p := ⟨w.heap.size, 3, none⟩) HvO2.out).trans y3.out
              have q2 := (hW.cell (p := ⟨g2, off2 + (m' + 1) * 3 + 2, none⟩) HvG2.out).trans e2.out
              clear hW
              go_simp
              try with_reducible rfl
             simp only [Act.put, l1, l2, l3, l4, l5, l6]
             refine wpAnyH_take (i := 1) (v := ?_) rfl (by kernel_rfl) (by kernel_rfl) (by kernel_rfl) (fun _ _ _ h => h) (Or.inl ⟨by rfl, fun W hW => ?_⟩) h0 ?_
             rotate_left
             ·have q0 := (hW.cell (p := ⟨BW, 2, none⟩) HvB2.out).trans y2.out
              have q1 := (hW.cell (p := ⟨w.heap.size, 3, none⟩) HvO2.out).trans y3.out
              have q2 := (hW.cell (p := ⟨g2, off2 + (m' + 1) * 3 + 2, none⟩) HvG2.out).trans e2.out
              clear hW
              go_simp
              try with_reducible rfl
             simp only [Act.put, l1, l2, l3, l4, l5, l6]
             refine wpAnyH_take (i := 2) (v := ?_) rfl (by kernel_rfl) (by kernel_rfl) (by kernel_rfl) (fun _ _ _ h => h) (Or.inl ⟨by rfl, fun W hW => ?_⟩) h0 ?_
             rotate_left
             ·have q0 := (hW.cell (p := ⟨BW, 2, none⟩) HvB2.out).trans y2.out
              have q1 := (hW.cell (p := ⟨w.heap.size, 3, none⟩) HvO2.out).trans y3.out
              have q2 := (hW.cell (p := ⟨g2, off2 + (m' + 1) * 3 + 2, none⟩) HvG2.out).trans e2.out
              clear hW
              go_simp
              try with_reducible rfl
             simp only [Act.put, l1, l2, l3, l4, l5, l6]
             refine wpAnyH_take (i := 3) (v := ?_) rfl (by kernel_rfl) (by kernel_rfl) (by kernel_rfl) (fun _ _ _ h => h) (Or.inl ⟨by rfl, fun W hW => ?_⟩) h0 ?_
             rotate_left
             ·have q0 := (hW.cell (p := ⟨BW, 2, none⟩) HvB2.out).trans y2.out
              have q1 := (hW.cell (p := ⟨w.heap.size, 3, none⟩) HvO2.out).trans y3.out
              have q2 := (hW.cell (p := ⟨g2, off2 + (m' + 1) * 3 + 2, none⟩) HvG2.out).trans e2.out
              clear hW
              go_simp
              try with_reducible rfl
             simp only [Act.put, l1, l2, l3, l4, l5, l6]
             refine wpAnyH_take (i := 4) (v := ?_) rfl (by kernel_rfl) (by kernel_rfl) (by kernel_rfl) (fun _ _ _ h => h) (Or.inl ⟨by rfl, fun W hW => ?_⟩) h0 ?_
             rotate_left
             ·have q0 := (hW.cell (p := ⟨BW, 2, none⟩) HvB2.out).trans y2.out
              have q1 := (hW.cell (p := ⟨w.heap.size, 3, none⟩) HvO2.out).trans y3.out
              have q2 := (hW.cell (p := ⟨g2, off2 + (m' + 1) * 3 + 2, none⟩) HvG2.out).trans e2.out
              clear hW
              go_simp
              try with_reducible rfl
             simp only [Act.put, l1, l2, l3, l4, l5, l6]
             refine wpAnyH_take (i := 5) (v := ?_) rfl (by kernel_rfl) (by kernel_rfl) (by kernel_rfl) (fun _ _ _ h => h) (Or.inl ⟨by rfl, fun W hW => ?_⟩) h0 ?_
             rotate_left
             ·have q0 := (hW.cell (p := ⟨BW, 2, none⟩) HvB2.out).trans y2.out
              have q1 := (hW.cell (p := ⟨w.heap.size, 3, none⟩) HvO2.out).trans y3.out
              have q2 := (hW.cell (p := ⟨g2, off2 + (m' + 1) * 3 + 2, none⟩) HvG2.out).trans e2.out
              clear hW
              go_simp
              try with_reducible rfl
             simp only [Act.put, l1, l2, l3, l4, l5, l6]
             refine wpAnyH_take (i := 6) (v := ?_) rfl (by kernel_rfl) (by kernel_rfl) (by kernel_rfl) (fun _ _ _ h => h) (Or.inl ⟨by rfl, fun W hW => ?_⟩) h0 ?_
             rotate_left
             ·have q0 := (hW.cell (p := ⟨BW, 2, none⟩) HvB2.out).trans y2.out
              have q1 := (hW.cell (p := ⟨w.heap.size, 3, none⟩) HvO2.out).trans y3.out
              have q2 := (hW.cell (p := ⟨g2, off2 + (m' + 1) * 3 + 2, none⟩) HvG2.out).trans e2.out
              clear hW
              go_simp
              try with_reducible rfl
             simp only [Act.put, l1, l2, l3, l4, l5, l6]
             refine wpAnyH_take (i := 7) (v := ?_) rfl (by kernel_rfl) (by kernel_rfl) (by kernel_rfl) (fun _ _ _ h => h) (Or.inl ⟨by rfl, fun W hW => ?_⟩) h0 ?_
             rotate_left
             ·have q0 := (hW.cell (p := ⟨BW, 2, none⟩) HvB2.out).trans y2.out
              have q1 := (hW.cell (p := ⟨w.heap.size, 3, none⟩) HvO2.out).trans y3.out
              have q2 := (hW.cell (p := ⟨g2, off2 + (m' + 1) * 3 + 2, none⟩) HvG2.out).trans e2.out
              clear hW
              go_simp
              try with_reducible rfl
             simp only [Act.put, l1, l2, l3, l4, l5, l6]
             refine wpAnyH_take (i := 8) (v := ?_) rfl (by kernel_rfl) (by kernel_rfl) (by kernel_rfl) (fun _ _ _ h => h) (Or.inl ⟨by rfl, fun W hW => ?_⟩) h0 ?_
             rotate_left
             ·have q0 := (hW.cell (p := ⟨BW, 2, none⟩) HvB2.out).trans y2.out
              have q1 := (hW.cell (p := ⟨w.heap.size, 3, none⟩) HvO2.out).trans y3.out
              have q2 := (hW.cell (p := ⟨g2, off2 + (m' + 1) * 3 + 2, none⟩) HvG2.out).trans e2.out
              clear hW
              go_simp
              try with_reducible rfl
             simp only [Act.put, l1, l2, l3, l4, l5, l6]
             refine wpAnyH_ready (rs := [9]) (by kernel_rfl) (by simp) (AllReadyH.cons rfl (fun K hK => ?_) AllReadyH.nil)
             go_simp
             go_wp2_with (go_at_call 51; refine (C2.out _).mono ?_; rintro e wc ⟨rfl, rfl⟩)
             refine hK.out _ _ h0 (fun h1 => ?_)
             clear hK K h0
             refine wpAnyH_take (i := 10) (v := ?_) rfl (by kernel_rfl) (by kernel_rfl) (by kernel_rfl) (fun _ _ _ h => h) (Or.inl ⟨by rfl, fun W hW => ?_⟩) h1 ?_
             rotate_left
             ·have q0 := (hW.cell (p := ⟨BW, 2, none⟩) HvB2.out).trans y2.out
              have q1 := (hW.cell (p := ⟨w.heap.size, 3, none⟩) HvO2.out).trans y3.out
              have q2 := (hW.cell (p := ⟨g2, off2 + (m' + 1) * 3 + 2, none⟩) HvG2.out).trans e2.out
              clear hW
              go_simp
              try with_reducible rfl
             simp only [Act.put, l1, l2, l3, l4, l5, l6]
             refine wpAnyH_take (i := 11) (v := ?_) rfl (by kernel_rfl) (by kernel_rfl) (by kernel_rfl) (fun _ _ _ h => h) (Or.inl ⟨by rfl, fun W hW => ?_⟩) h1 ?_
             rotate_left
             ·have q0 := (hW.cell (p := ⟨BW, 2, none⟩) HvB2.out).trans y2.out
              have q1 := (hW.cell (p := ⟨w.heap.size, 3, none⟩) HvO2.out).trans y3.out
              have q2 := (hW.cell (p := ⟨g2, off2 + (m' + 1) * 3 + 2, none⟩) HvG2.out).trans e2.out
              clear hW
              go_simp
              try with_reducible rfl
             simp only [Act.put, l1, l2, l3, l4, l5, l6]
             refine wpAnyH_take (i := 12) (v := ?_) rfl (by kernel_rfl) (by kernel_rfl) (by kernel_rfl) (fun _ _ _ h => h) (Or.inl ⟨by rfl, fun W hW => ?_⟩) h1 ?_
             rotate_left
             ·have q0 := (hW.cell (p := ⟨BW, 2, none⟩) HvB2.out).trans y2.out
              have q1 := (hW.cell (p := ⟨w.heap.size, 3, none⟩) HvO2.out).trans y3.out
              have q2 := (hW.cell (p := ⟨g2, off2 + (m' + 1) * 3 + 2, none⟩) HvG2.out).trans e2.out
              clear hW
              go_simp
              try with_reducible rfl
             simp only [Act.put, l1, l2, l3, l4, l5, l6]
             refine wpAnyH_take (i := 13) (v := ?_) rfl (by kernel_rfl) (by kernel_rfl) (by kernel_rfl) (fun _ _ _ h => h) (Or.inl ⟨by rfl, fun W hW => ?_⟩) h1 ?_
             rotate_left
             ·have q0 := (hW.cell (p := ⟨BW, 2, none⟩) HvB2.out).trans y2.out
              have q1 := (hW.cell (p := ⟨w.heap.size, 3, none⟩) HvO2.out).trans y3.out
              have q2 := (hW.cell (p := ⟨g2, off2 + (m' + 1) * 3 + 2, none⟩) HvG2.out).trans e2.out
              clear hW
              go_simp
              try with_reducible rfl
             simp only [Act.put, l1, l2, l3, l4, l5, l6]
             refine wpAnyH_take (i := 14) (v := ?_) rfl (by kernel_rfl) (by kernel_rfl) (by kernel_rfl) (fun _ _ _ h => h) (Or.inl ⟨by rfl, fun W hW => ?_⟩) h1 ?_
             rotate_left
             ·have q0 := (hW.cell (p := ⟨BW, 2, none⟩) HvB2.out).trans y2.out
              have q1 := (hW.cell (p := ⟨w.heap.size, 3, none⟩) HvO2.out).trans y3.out
              have q2 := (hW.cell (p := ⟨g2, off2 + (m' + 1) * 3 + 2, none⟩) HvG2.out).trans e2.out
              clear hW
              go_simp
              try with_reducible rfl
             simp only [Act.put, l1, l2, l3, l4, l5, l6]
             refine wpAnyH_take (i := 15) (v := ?_) rfl (by kernel_rfl) (by kernel_rfl) (by kernel_rfl) (fun _ _ _ h => h) (Or.inl ⟨by rfl, fun W hW => ?_⟩) h1 ?_
             rotate_left
             ·have q0 := (hW.cell (p := ⟨BW, 2, none⟩) HvB2.out).trans y2.out
              have q1 := (hW.cell (p := ⟨g2, off2 + (m' + 1) * 3, none⟩) HvG2.out).trans e0.out
              have q2 := (hW.cell (p := ⟨g2, off2 + (m' + 1) * 3 + 1, none⟩) HvG2.out).trans e1.out
              have q3 := (hW.cell (p := ⟨g2, off2 + (m' + 1) * 3 + 2, none⟩) HvG2.out).trans e2.out
              have q4 := (hW.cell (p := ⟨g2, off2 + m' * 3, none⟩) HvG2.out).trans f0.out
              have q5 := (hW.cell (p := ⟨g2, off2 + m' * 3 + 1, none⟩) HvG2.out).trans f1.out
              have q6 := (hW.cell (p := ⟨g2, off2 + m' * 3 + 2, none⟩) HvG2.out).trans f2.out
              clear hW
              go_simp
              try with_reducible rfl
             simp only [Act.put, l1, l2, l3, l4, l5, l6]
             refine wpAnyH_take (i := 16) (v := ?_) rfl (by kernel_rfl) (by kernel_rfl) (by kernel_rfl) (fun _ _ _ h => h) (Or.inl ⟨by rfl, fun W hW => ?_⟩) h1 ?_
             rotate_left
             ·have q0 := (hW.cell (p := ⟨BW, 2, none⟩) HvB2.out).trans y2.out
              have q1 := (hW.cell (p := ⟨g2, off2 + (m' + 1) * 3, none⟩) HvG2.out).trans e0.out
              have q2 := (hW.cell (p := ⟨g2, off2 + (m' + 1) * 3 + 1, none⟩) HvG2.out).trans e1.out
              have q3 := (hW.cell (p := ⟨g2, off2 + (m' + 1) * 3 + 2, none⟩) HvG2.out).trans e2.out
              have q4 := (hW.cell (p := ⟨g2, off2 + m' * 3, none⟩) HvG2.out).trans f0.out
              have q5 := (hW.cell (p := ⟨g2, off2 + m' * 3 + 1, none⟩) HvG2.out).trans f1.out
              have q6 := (hW.cell (p := ⟨g2, off2 + m' * 3 + 2, none⟩) HvG2.out).trans f2.out
              clear hW
              go_simp
              try with_reducible rfl
             simp only [Act.put, l1, l2, l3, l4, l5, l6]
             refine wpAnyH_take (i := 17) (v := ?_) rfl (by kernel_rfl) (by kernel_rfl) (by kernel_rfl) (fun _ _ _ h => h) (Or.inl ⟨by rfl, fun W hW => ?_⟩) h1 ?_
             rotate_left
             ·have q0 := (hW.cell (p := ⟨BW, 2, none⟩) HvB2.out).trans y2.out
              have q1 := (hW.cell (p := ⟨g2, off2 + (m' + 1) * 3, none⟩) HvG2.out).trans e0.out
              have q2 := (hW.cell (p := ⟨g2, off2 + (m' + 1) * 3 + 1, none⟩) HvG2.out).trans e1.out
              have q3 := (hW.cell (p := ⟨g2, off2 + (m' + 1) * 3 + 2, none⟩) HvG2.out).trans e2.out
              have q4 := (hW.cell (p := ⟨g2, off2 + m' * 3, none⟩) HvG2.out).trans f0.out
              have q5 := (hW.cell (p := ⟨g2, off2 + m' * 3 + 1, none⟩) HvG2.out).trans f1.out
              have q6 := (hW.cell (p := ⟨g2, off2 + m' * 3 + 2, none⟩) HvG2.out).trans f2.out
              clear hW
              go_simp
              try with_reducible rfl
             simp only [Act.put, l1, l2, l3, l4, l5, l6]
             refine wpAnyH_take (i := 18) (v := ?_) rfl (by kernel_rfl) (by kernel_rfl) (by kernel_rfl) (fun _ _ _ h => h) (Or.inl ⟨by rfl, fun W hW => ?_⟩) h1 ?_
             rotate_left
             ·have q0 := (hW.cell (p := ⟨BW, 2, none⟩) HvB2.out).trans y2.out
              have q1 := (hW.cell (p := ⟨g2, off2 + (m' + 1) * 3, none⟩) HvG2.out).trans e0.out
              have q2 := (hW.cell (p := ⟨g2, off2 + (m' + 1) * 3 + 1, none⟩) HvG2.out).trans e1.out
              have q3 := (hW.cell (p := ⟨g2, off2 + (m' + 1) * 3 + 2, none⟩) HvG2.out).trans e2.out
              have q4 := (hW.cell (p := ⟨g2, off2 + m' * 3, none⟩) HvG2.out).trans f0.out
              have q5 := (hW.cell (p := ⟨g2, off2 + m' * 3 + 1, none⟩) HvG2.out).trans f1.out
              have q6 := (hW.cell (p := ⟨g2, off2 + m' * 3 + 2, none⟩) HvG2.out).trans f2.out
              clear hW
              go_simp
              try with_reducible rfl
             simp only [Act.put, l1, l2, l3, l4, l5, l6]
             refine wpAnyH_take (i := 19) (v := ?_) rfl (by kernel_rfl) (by kernel_rfl) (by kernel_rfl) (fun _ _ _ h => h) (Or.inl ⟨by rfl, fun W hW => ?_⟩) h1 ?_
             rotate_left
             ·have q0 := (hW.cell (p := ⟨BW, 2, none⟩) HvB2.out).trans y2.out
              have q1 := (hW.cell (p := ⟨g2, off2 + (m' + 1) * 3, none⟩) HvG2.out).trans e0.out
              have q2 := (hW.cell (p := ⟨g2, off2 + (m' + 1) * 3 + 1, none⟩) HvG2.out).trans e1.out
              have q3 := (hW.cell (p := ⟨g2, off2 + (m' + 1) * 3 + 2, none⟩) HvG2.out).trans e2.out
              have q4 := (hW.cell (p := ⟨g2, off2 + m' * 3, none⟩) HvG2.out).trans f0.out
              have q5 := (hW.cell (p := ⟨g2, off2 + m' * 3 + 1, none⟩) HvG2.out).trans f1.out
              have q6 := (hW.cell (p := ⟨g2, off2 + m' * 3 + 2, none⟩) HvG2.out).trans f2.out
              clear hW
              go_simp
              try with_reducible rfl
             simp only [Act.put, l1, l2, l3, l4, l5, l6]
             refine wpAnyH_take (i := 20) (v := ?_) rfl (by kernel_rfl) (by kernel_rfl) (by kernel_rfl) (fun _ _ _ h => h) (Or.inl ⟨by rfl, fun W hW => ?_⟩) h1 ?_
             rotate_left
             ·have q0 := (hW.cell (p := ⟨BW, 2, none⟩) HvB2.out).trans y2.out
              have q1 := (hW.cell (p := ⟨g2, off2 + (m' + 1) * 3, none⟩) HvG2.out).trans e0.out
              have q2 := (hW.cell (p := ⟨g2, off2 + (m' + 1) * 3 + 1, none⟩) HvG2.out).trans e1.out
              have q3 := (hW.cell (p := ⟨g2, off2 + (m' + 1) * 3 + 2, none⟩) HvG2.out).trans e2.out
              have q4 := (hW.cell (p := ⟨g2, off2 + m' * 3, none⟩) HvG2.out).trans f0.out
              have q5 := (hW.cell (p := ⟨g2, off2 + m' * 3 + 1, none⟩) HvG2.out).trans f1.out
              have q6 := (hW.cell (p := ⟨g2, off2 + m' * 3 + 2, none⟩) HvG2.out).trans f2.out
              clear hW
              go_simp
              try with_reducible rfl
             simp only [Act.put, l1, l2, l3, l4, l5, l6]
             refine wpAnyH_take (i := 21) (v := ?_) rfl (by kernel_rfl) (by kernel_rfl) (by kernel_rfl) (fun _ _ _ h => h) (Or.inl ⟨by rfl, fun W hW => ?_⟩) h1 ?_
             rotate_left
             ·have q0 := (hW.cell (p := ⟨BW, 2, none⟩) HvB2.out).trans y2.out
              have q1 := (hW.cell (p := ⟨g2, off2 + (m' + 1) * 3, none⟩) HvG2.out).trans e0.out
              have q2 := (hW.cell (p := ⟨g2, off2 + (m' + 1) * 3 + 1, none⟩) HvG2.out).trans e1.out
              have q3 := (hW.cell (p := ⟨g2, off2 + (m' + 1) * 3 + 2, none⟩) HvG2.out).trans e2.out
              have q4 := (hW.cell (p := ⟨g2, off2 + m' * 3, none⟩) HvG2.out).trans f0.out
              have q5 := (hW.cell (p := ⟨g2, off2 + m' * 3 + 1, none⟩) HvG2.out).trans f1.out
              have q6 := (hW.cell (p := ⟨g2, off2 + m' * 3 + 2, none⟩) HvG2.out).trans f2.out
              clear hW
              go_simp
              try with_reducible rfl
             simp only [Act.put, l1, l2, l3, l4, l5, l6]
             refine wpAnyH_take (i := 22) (v := ?_) rfl (by kernel_rfl) (by kernel_rfl) (by kernel_rfl) (fun _ _ _ h => h) (Or.inl ⟨by rfl, fun W hW => ?_⟩) h1 ?_
             rotate_left
             ·have q0 := (hW.cell (p := ⟨BW, 2, none⟩) HvB2.out).trans y2.out
              have q1 := (hW.cell (p := ⟨g2, off2 + (m' + 1) * 3, none⟩) HvG2.out).trans e0.out
              have q2 := (hW.cell (p := ⟨g2, off2 + (m' + 1) * 3 + 1, none⟩) HvG2.out).trans e1.out
              have q3 := (hW.cell (p := ⟨g2, off2 + (m' + 1) * 3 + 2, none⟩) HvG2.out).trans e2.out
              have q4 := (hW.cell (p := ⟨g2, off2 + m' * 3, none⟩) HvG2.out).trans f0.out
              have q5 := (hW.cell (p := ⟨g2, off2 + m' * 3 + 1, none⟩) HvG2.out).trans f1.out
              have q6 := (hW.cell (p := ⟨g2, off2 + m' * 3 + 2, none⟩) HvG2.out).trans f2.out
              clear hW
              go_simp
              try with_reducible rfl
             simp only [Act.put, l1, l2, l3, l4, l5, l6]
             refine wpAnyH_take (i := 23) (v := ?_) rfl (by kernel_rfl) (by kernel_rfl) (by kernel_rfl) (fun _ _ _ h => h) (Or.inl ⟨by rfl, fun W hW => ?_⟩) h1 ?_
             rotate_left
             ·have q0 := (hW.cell (p := ⟨BW, 2, none⟩) HvB2.out).trans y2.out
              have q1 := (hW.cell (p := ⟨g2, off2 + (m' + 1) * 3, none⟩) HvG2.out).trans e0.out
              have q2 := (hW.cell (p := ⟨g2, off2 + (m' + 1) * 3 + 1, none⟩) HvG2.out).trans e1.out
              have q3 := (hW.cell (p := ⟨g2, off2 + (m' + 1) * 3 + 2, none⟩) HvG2.out).trans e2.out
              have q4 := (hW.cell (p := ⟨g2, off2 + m' * 3, none⟩) HvG2.out).trans f0.out
              have q5 := (hW.cell (p := ⟨g2, off2 + m' * 3 + 1, none⟩) HvG2.out).trans f1.out
              have q6 := (hW.cell (p := ⟨g2, off2 + m' * 3 + 2, none⟩) HvG2.out).trans f2.out
              clear hW
              go_simp
              try with_reducible rfl
             simp only [Act.put, l1, l2, l3, l4, l5, l6]
             refine wpAnyH_take (i := 24) (v := ?_) rfl (by kernel_rfl) (by kernel_rfl) (by kernel_rfl) (fun _ _ _ h => h) (Or.inl ⟨by rfl, fun W hW => ?_⟩) h1 ?_
             rotate_left
             ·have q0 := (hW.cell (p := ⟨BW, 2, none⟩) HvB2.out).trans y2.out
              have q1 := (hW.cell (p := ⟨g2, off2 + (m' + 1) * 3, none⟩) HvG2.out).trans e0.out
              have q2 := (hW.cell (p := ⟨g2, off2 + (m' + 1) * 3 + 1, none⟩) HvG2.out).trans e1.out
              have q3 := (hW.cell (p := ⟨g2, off2 + (m' + 1) * 3 + 2, none⟩) HvG2.out).trans e2.out
              have q4 := (hW.cell (p := ⟨g2, off2 + m' * 3, none⟩) HvG2.out).trans f0.out
              have q5 := (hW.cell (p := ⟨g2, off2 + m' * 3 + 1, none⟩) HvG2.out).trans f1.out
              have q6 := (hW.cell (p := ⟨g2, off2 + m' * 3 + 2, none⟩) HvG2.out).trans f2.out
              clear hW
              go_simp
              try with_reducible rfl
             simp only [Act.put, l1, l2, l3, l4, l5, l6]
             refine wpAnyH_take (i := 25) (v := ?_) rfl (by kernel_rfl) (by kernel_rfl) (by kernel_rfl) (fun _ _ _ h => h) (Or.inl ⟨by rfl, fun W hW => ?_⟩) h1 ?_
             rotate_left
             ·have q0 := (hW.cell (p := ⟨BW, 2, none⟩) HvB2.out).trans y2.out
              have q1 := (hW.cell (p := ⟨g2, off2 + (m' + 1) * 3, none⟩) HvG2.out).trans e0.out
              have q2 := (hW.cell (p := ⟨g2, off2 + (m' + 1) * 3 + 1, none⟩) HvG2.out).trans e1.out
              have q3 := (hW.cell (p := ⟨g2, off2 + (m' + 1) * 3 + 2, none⟩) HvG2.out).trans e2.out
              have q4 := (hW.cell (p := ⟨g2, off2 + m' * 3, none⟩) HvG2.out).trans f0.out
              have q5 := (hW.cell (p := ⟨g2, off2 + m' * 3 + 1, none⟩) HvG2.out).trans f1.out
              have q6 := (hW.cell (p := ⟨g2, off2 + m' * 3 + 2, none⟩) HvG2.out).trans f2.out
              clear hW
              go_simp
              try with_reducible rfl
             simp only [Act.put, l1, l2, l3, l4, l5, l6]
             refine wpAnyH_ready (rs := [26]) (by kernel_rfl) (by simp) (AllReadyH.cons rfl (fun K hK => ?_) AllReadyH.nil)
             go_simp
             go_wp2_with (go_at_call 105; refine (C3.out _).mono ?_; rintro e wd ⟨rfl, bq⟩)
             refine hK.out _ _ (h1.trans (bq.mono h1.size)) (fun h2 => ?_)
             clear hK K bq h1
             refine wpAnyH_take (i := 27) (v := ?_) rfl (by kernel_rfl) (by kernel_rfl) (by kernel_rfl) (fun _ _ _ h => h) (Or.inl ⟨by rfl, fun W hW => ?_⟩) h2 ?_
             rotate_left
             ·have q0 := (hW.cell (p := ⟨BW, 2, none⟩) HvB2.out).trans y2.out
              have q1 := (hW.cell (p := ⟨w.heap.size, 3, none⟩) HvO2.out).trans y3.out
              have q2 := (hW.cell (p := ⟨g2, off2 + (m' + 1) * 3 + 2, none⟩) HvG2.out).trans e2.out
              clear hW
              go_simp
              try with_reducible rfl
             simp only [Act.put, l1, l2, l3, l4, l5, l6]
             refine wpAnyH_take (i := 28) (v := ?_) rfl (by kernel_rfl) (by kernel_rfl) (by kernel_rfl) (fun _ _ _ h => h) (Or.inl ⟨by rfl, fun W hW => ?_⟩) h2 ?_
             rotate_left
             ·have q0 := (hW.cell (p := ⟨BW, 2, none⟩) HvB2.out).trans y2.out
              have q1 := (hW.cell (p := ⟨w.heap.size, 3, none⟩) HvO2.out).trans y3.out
              have q2 := (hW.cell (p := ⟨g2, off2 + (m' + 1) * 3 + 2, none⟩) HvG2.out).trans e2.out
              clear hW
              go_simp
              try with_reducible rfl
             simp only [Act.put, l1, l2, l3, l4, l5, l6]
             refine wpAnyH_take (i := 29) (v := ?_) rfl (by kernel_rfl) (by kernel_rfl) (by kernel_rfl) (fun _ _ _ h => h) (Or.inl ⟨by rfl, fun W hW => ?_⟩) h2 ?_
             rotate_left
             ·have q0 := (hW.cell (p := ⟨BW, 2, none⟩) HvB2.out).trans y2.out
              have q1 := (hW.cell (p := ⟨w.heap.size, 3, none⟩) HvO2.out).trans y3.out
              have q2 := (hW.cell (p := ⟨g2, off2 + (m' + 1) * 3 + 2, none⟩) HvG2.out).trans e2.out
              clear hW
              go_simp
              try with_reducible rfl
             simp only [Act.put, l1, l2, l3, l4, l5, l6]
             refine wpAnyH_done (by kernel_rfl) ?_ _
             have B2 := hbV.trans (h2.mono hbV.size)
             clear h2
             go_wp2_with fail
             go_roundw
             case rel => exact ⟨m' + 1 + 1, by omega, by go_num, HZ.out, B2⟩
             case measure => simp [intOf]; omega
        ·have hmi : ¬ (m2 : Int) < XW.length := by omega
         have HZ := hidM (HYes.out (HI.out.2 (fun j hj => HM.out j (by omega))))
         clear HM HNo HYes HI
         go_wp2_with fail
         go_roundw
         case rel => exact ⟨1, by omega, by go_num, HZ.out, BO2⟩
         case measure => simp [intOf]; omega
      ·obtain ⟨m, rfl⟩ : ∃ m, k = m + 1 := ⟨k - 1, by omega⟩
       have p0 := hidM (HPC.out m (by omega))
       have HI3 : Hid (tl (si.getD m sitv0).n x0 = true → (siteL sq si (m + 1) ↔ ∀ j, j < XW.length → waitL1 sq XW j)) := fun ht => HI0.out.trans ⟨fun h => h.2.2.2, fun h => ⟨HEP.out, rfl, fun _ => by rw [Nat.add_sub_cancel]; exact ht, h⟩⟩
       have HI4 : Hid (tl (si.getD m sitv0).n x0 = false → ¬ siteL sq si (m + 1)) := fun ht h => by have := (HI0.out.1 h).2.2.1 (by omega); rw [Nat.add_sub_cancel, ht] at this; cases this
       have HT : Hid (tl (si.getD m sitv0).n x0 = Op.bytesLess (si.getD m sitv0).n.toList x0.toList) := rfl
       have hkz : ((m + 1 : Nat) : Int) - 1 = (m : Int) := by omega
       have hkp : (0 : Int) < ((m + 1 : Nat) : Int) := by omega
       have hkl : (m : Int) < (si.length : Int) := by omega
       have hkm1 : (0 : Int) ≤ (m : Int) + 1 := by omega
       have hkm2 : (m : Int) + 1 < (si.length : Int) := by omega
       have hkw : IntKind.i64.wrap (m : Int) = (m : Int) := by rw [IntKind.wrap_i64]; omega
       clear HI0 HPC HEP
       generalize tl (si.getD m sitv0).n x0 = TT at *
       generalize hx2 : (si.getD m sitv0).n = y0 at *
       clear hx2
       cases hq : Op.bytesLess y0.toList x0.toList with
       | false =>
        have HZ := hidM (HNo.out (HI4.out (by rw [HT.out]; exact hq)))
        clear HNo HYes HI3 HI4 HT HXW
        refine wp_region_held_drew (S := fun W => Below V.heap.size V W) (by kernel_rfl) (Below.refl _ V).drew (fun h0 => ?_)
        refine wpAnyH_take (i := 0) (v := ?_) rfl (by kernel_rfl) (by kernel_rfl) (by kernel_rfl) (fun _ _ _ h => h) (Or.inl ⟨by rfl, fun W hW => ?_⟩) h0 ?_
        rotate_left
        ·have q0 := (hW.cell (p := ⟨BW, 0, none⟩) HvB.out).trans v0.out
         have q1 := (hW.cell (p := ⟨BW, 1, none⟩) HvB.out).trans v1.out
         clear hW
         go_simp
         try with_reducible rfl
        simp only [Act.put, l1, l2, l3, l4, l5, l6]
        refine wpAnyH_take (i := 1) (v := ?_) rfl (by kernel_rfl) (by kernel_rfl) (by kernel_rfl) (fun _ _ _ h => h) (Or.inl ⟨by rfl, fun W hW => ?_⟩) h0 ?_
        rotate_left
        ·have q0 := (hW.cell (p := ⟨BW, 0, none⟩) HvB.out).trans v0.out
         have q1 := (hW.cell (p := ⟨BW, 1, none⟩) HvB.out).trans v1.out
         clear hW
         go_simp
         try with_reducible rfl
        simp only [Act.put, l1, l2, l3, l4, l5, l6]
        refine wpAnyH_take (i := 2) (v := ?_) rfl (by kernel_rfl) (by kernel_rfl) (by kernel_rfl) (fun _ _ _ h => h) (Or.inl ⟨by rfl, fun W hW => ?_⟩) h0 ?_
        rotate_left
        ·have q0 := (hW.cell (p := ⟨BW, 0, none⟩) HvB.out).trans v0.out
         have q1 := (hW.cell (p := ⟨BW, 1, none⟩) HvB.out).trans v1.out
         clear hW
         go_simp
         try with_reducible rfl
        simp only [Act.put, l1, l2, l3, l4, l5, l6]
        refine wpAnyH_take (i := 3) (v := ?_) rfl (by kernel_rfl) (by kernel_rfl) (by kernel_rfl) (fun _ _ _ h => h) (Or.inl ⟨by rfl, fun W hW => ?_⟩) h0 ?_
        rotate_left
        ·have q0 := (hW.cell (p := ⟨BW, 0, none⟩) HvB.out).trans v0.out
         have q1 := (hW.cell (p := ⟨BW, 1, none⟩) HvB.out).trans v1.out
         clear hW
         go_simp
         try with_reducible rfl
        simp only [Act.put, l1, l2, l3, l4, l5, l6]
        refine wpAnyH_take (i := 4) (v := ?_) rfl (by kernel_rfl) (by kernel_rfl) (by kernel_rfl) (fun _ _ _ h => h) (Or.inl ⟨by rfl, fun W hW => ?_⟩) h0 ?_
        rotate_left
        ·have q0 := (hW.cell (p := ⟨BW, 0, none⟩) HvB.out).trans v0.out
         have q1 := (hW.cell (p := ⟨BW, 1, none⟩) HvB.out).trans v1.out
         clear hW
         go_simp
         try with_reducible rfl
        simp only [Act.put, l1, l2, l3, l4, l5, l6]
        refine wpAnyH_take (i := 5) (v := ?_) rfl (by kernel_rfl) (by kernel_rfl) (by kernel_rfl) (fun _ _ _ h => h) (Or.inl ⟨by rfl, fun W hW => ?_⟩) h0 ?_
        rotate_left
        ·have q0 := (hW.cell (p := ⟨BW, 0, none⟩) HvB.out).trans v0.out
         have q1 := (hW.cell (p := ⟨BW, 1, none⟩) HvB.out).trans v1.out
         clear hW
         go_simp
         try with_reducible rfl
        simp only [Act.put, l1, l2, l3, l4, l5, l6]
        refine wpAnyH_ready (rs := [6]) (by kernel_rfl) (by simp) (AllReadyH.cons rfl (fun K hK => ?_) AllReadyH.nil)
        go_simp
        go_wp2_with (go_at_call 51; refine (C1.out _).mono ?_; rintro e wc ⟨rfl, rfl⟩)
        refine hK.out _ _ h0 (fun h1 => ?_)
        clear hK K h0
        refine wpAnyH_take (i := 7) (v := ?_) rfl (by kernel_rfl) (by kernel_rfl) (by kernel_rfl) (fun _ _ _ h => h) (Or.inl ⟨by rfl, fun W hW => ?_⟩) h1 ?_
        rotate_left
        ·have q0 := (hW.cell (p := ⟨BW, 0, none⟩) HvB.out).trans v0.out
         have q2 := (hW.cell (p := ⟨w.heap.size, 4, none⟩) HvO.out).trans o4.out
         have q3 := (hW.cell (p := ⟨g, off + m * 3, none⟩) HvG.out).trans p0.out
         clear hW
         go_simp
         try with_reducible rfl
        simp only [Act.put, l1, l2, l3, l4, l5, l6]
        refine wpAnyH_take (i := 8) (v := ?_) rfl (by kernel_rfl) (by kernel_rfl) (by kernel_rfl) (fun _ _ _ h => h) (Or.inl ⟨by rfl, fun W hW => ?_⟩) h1 ?_
        rotate_left
        ·have q0 := (hW.cell (p := ⟨BW, 0, none⟩) HvB.out).trans v0.out
         have q2 := (hW.cell (p := ⟨w.heap.size, 4, none⟩) HvO.out).trans o4.out
         have q3 := (hW.cell (p := ⟨g, off + m * 3, none⟩) HvG.out).trans p0.out
         clear hW
         go_simp
         try with_reducible rfl
        simp only [Act.put, l1, l2, l3, l4, l5, l6]
        refine wpAnyH_take (i := 9) (v := ?_) rfl (by kernel_rfl) (by kernel_rfl) (by kernel_rfl) (fun _ _ _ h => h) (Or.inl ⟨by rfl, fun W hW => ?_⟩) h1 ?_
        rotate_left
        ·have q0 := (hW.cell (p := ⟨BW, 0, none⟩) HvB.out).trans v0.out
         have q2 := (hW.cell (p := ⟨w.heap.size, 4, none⟩) HvO.out).trans o4.out
         have q3 := (hW.cell (p := ⟨g, off + m * 3, none⟩) HvG.out).trans p0.out
         clear hW
         go_simp
         try with_reducible rfl
        simp only [Act.put, l1, l2, l3, l4, l5, l6]
        refine wpAnyH_take (i := 10) (v := ?_) rfl (by kernel_rfl) (by kernel_rfl) (by kernel_rfl) (fun _ _ _ h => h) (Or.inl ⟨by rfl, fun W hW => ?_⟩) h1 ?_
        rotate_left
        ·have q0 := (hW.cell (p := ⟨BW, 0, none⟩) HvB.out).trans v0.out
         have q2 := (hW.cell (p := ⟨w.heap.size, 4, none⟩) HvO.out).trans o4.out
         have q3 := (hW.cell (p := ⟨g, off + m * 3, none⟩) HvG.out).trans p0.out
         clear hW
         go_simp
         try with_reducible rfl
        simp only [Act.put, l1, l2, l3, l4, l5, l6]
        refine wpAnyH_take (i := 11) (v := ?_) rfl (by kernel_rfl) (by kernel_rfl) (by kernel_rfl) (fun _ _ _ h => h) (Or.inl ⟨by rfl, fun W hW => ?_⟩) h1 ?_
        rotate_left
        ·have q0 := (hW.cell (p := ⟨BW, 0, none⟩) HvB.out).trans v0.out
         have q2 := (hW.cell (p := ⟨w.heap.size, 4, none⟩) HvO.out).trans o4.out
         have q3 := (hW.cell (p := ⟨g, off + m * 3, none⟩) HvG.out).trans p0.out
         clear hW
         go_simp
         try with_reducible rfl
        simp only [Act.put, l1, l2, l3, l4, l5, l6]
        refine wpAnyH_take (i := 12) (v := ?_) rfl (by kernel_rfl) (by kernel_rfl) (by kernel_rfl) (fun _ _ _ h => h) (Or.inl ⟨by rfl, fun W hW => ?_⟩) h1 ?_
        rotate_left
        ·have q0 := (hW.cell (p := ⟨BW, 0, none⟩) HvB.out).trans v0.out
         have q2 := (hW.cell (p := ⟨w.heap.size, 4, none⟩) HvO.out).trans o4.out
         have q3 := (hW.cell (p := ⟨g, off + m * 3, none⟩) HvG.out).trans p0.out
         clear hW
         go_simp
         try with_reducible rfl
        simp only [Act.put, l1, l2, l3, l4, l5, l6]
        refine wpAnyH_take (i := 13) (v := ?_) rfl (by kernel_rfl) (by kernel_rfl) (by kernel_rfl) (fun _ _ _ h => h) (Or.inl ⟨by rfl, fun W hW => ?_⟩) h1 ?_
        rotate_left
        ·have q0 := (hW.cell (p := ⟨BW, 0, none⟩) HvB.out).trans v0.out
         have q2 := (hW.cell (p := ⟨w.heap.size, 4, none⟩) HvO.out).trans o4.out
         have q3 := (hW.cell (p := ⟨g, off + m * 3, none⟩) HvG.out).trans p0.out
         clear hW
         go_simp
         try with_reducible rfl
        simp only [Act.put, l1, l2, l3, l4, l5, l6]
        refine wpAnyH_take (i := 14) (v := ?_) rfl (by kernel_rfl) (by kernel_rfl) (by kernel_rfl) (fun _ _ _ h => h) (Or.inl ⟨by rfl, fun W hW => ?_⟩) h1 ?_
        rotate_left
        ·have q0 := (hW.cell (p := ⟨BW, 0, none⟩) HvB.out).trans v0.out
         have q2 := (hW.cell (p := ⟨w.heap.size, 4, none⟩) HvO.out).trans o4.out
         have q3 := (hW.cell (p := ⟨g, off + m * 3, none⟩) HvG.out).trans p0.out
         clear hW
         go_simp
         try with_reducible rfl
        simp only [Act.put, l1, l2, l3, l4, l5, l6]
        refine wpAnyH_take (i := 15) (v := ?_) rfl (by kernel_rfl) (by kernel_rfl) (by kernel_rfl) (fun _ _ _ h => h) (Or.inl ⟨by rfl, fun W hW => ?_⟩) h1 ?_
        rotate_left
        ·have q0 := (hW.cell (p := ⟨BW, 0, none⟩) HvB.out).trans v0.out
         have q2 := (hW.cell (p := ⟨w.heap.size, 4, none⟩) HvO.out).trans o4.out
         have q3 := (hW.cell (p := ⟨g, off + m * 3, none⟩) HvG.out).trans p0.out
         clear hW
         go_simp
         try with_reducible rfl
        simp only [Act.put, l1, l2, l3, l4, l5, l6]
        refine wpAnyH_take (i := 16) (v := ?_) rfl (by kernel_rfl) (by kernel_rfl) (by kernel_rfl) (fun _ _ _ h => h) (Or.inl ⟨by rfl, fun W hW => ?_⟩) h1 ?_
        rotate_left
        ·have q0 := (hW.cell (p := ⟨BW, 0, none⟩) HvB.out).trans v0.out
         have q2 := (hW.cell (p := ⟨w.heap.size, 4, none⟩) HvO.out).trans o4.out
         have q3 := (hW.cell (p := ⟨g, off + m * 3, none⟩) HvG.out).trans p0.out
         clear hW
         go_simp
         try with_reducible rfl
        simp only [Act.put, l1, l2, l3, l4, l5, l6]
        refine wpAnyH_take (i := 17) (v := ?_) rfl (by kernel_rfl) (by kernel_rfl) (by kernel_rfl) (fun _ _ _ h => h) (Or.inl ⟨by rfl, fun W hW => ?_⟩) h1 ?_
        rotate_left
        ·have q0 := (hW.cell (p := ⟨BW, 0, none⟩) HvB.out).trans v0.out
         have q2 := (hW.cell (p := ⟨w.heap.size, 4, none⟩) HvO.out).trans o4.out
         have q3 := (hW.cell (p := ⟨g, off + m * 3, none⟩) HvG.out).trans p0.out
         clear hW
         go_simp
         try with_reducible rfl
        simp only [Act.put, l1, l2, l3, l4, l5, l6]
        refine wpAnyH_take (i := 18) (v := ?_) rfl (by kernel_rfl) (by kernel_rfl) (by kernel_rfl) (fun _ _ _ h => h) (Or.inl ⟨by rfl, fun W hW => ?_⟩) h1 ?_
        rotate_left
        ·have q0 := (hW.cell (p := ⟨BW, 0, none⟩) HvB.out).trans v0.out
         have q2 := (hW.cell (p := ⟨w.heap.size, 4, none⟩) HvO.out).trans o4.out
         have q3 := (hW.cell (p := ⟨g, off + m * 3, none⟩) HvG.out).trans p0.out
         clear hW
         go_simp
         try with_reducible rfl
        simp only [Act.put, l1, l2, l3, l4, l5, l6]
        refine wpAnyH_take (i := 19) (v := ?_) rfl (by kernel_rfl) (by kernel_rfl) (by kernel_rfl) (fun _ _ _ h => h) (Or.inl ⟨by rfl, fun W hW => ?_⟩) h1 ?_
        rotate_left
        ·have q0 := (hW.cell (p := ⟨BW, 0, none⟩) HvB.out).trans v0.out
         have q2 := (hW.cell (p := ⟨w.heap.size, 4, none⟩) HvO.out).trans o4.out
         have q3 := (hW.cell (p := ⟨g, off + m * 3, none⟩) HvG.out).trans p0.out
         clear hW
         go_simp
         try with_reducible rfl
        simp only [Act.put, l1, l2, l3, l4, l5, l6]
        refine wpAnyH_take (i := 20) (v := ?_) rfl (by kernel_rfl) (by kernel_rfl) (by kernel_rfl) (fun _ _ _ h => h) (Or.inl ⟨by rfl, fun W hW => ?_⟩) h1 ?_
        rotate_left
        ·have q0 := (hW.cell (p := ⟨BW, 0, none⟩) HvB.out).trans v0.out
         have q2 := (hW.cell (p := ⟨w.heap.size, 4, none⟩) HvO.out).trans o4.out
         have q3 := (hW.cell (p := ⟨g, off + m * 3, none⟩) HvG.out).trans p0.out
         clear hW
         go_simp
         try with_reducible rfl
        simp only [Act.put, l1, l2, l3, l4, l5, l6]
        refine wpAnyH_take (i := 21) (v := ?_) rfl (by kernel_rfl) (by kernel_rfl) (by kernel_rfl) (fun _ _ _ h => h) (Or.inl ⟨by rfl, fun W hW => ?_⟩) h1 ?_
        rotate_left
        ·have q0 := (hW.cell (p := ⟨BW, 0, none⟩) HvB.out).trans v0.out
         have q2 := (hW.cell (p := ⟨w.heap.size, 4, none⟩) HvO.out).trans o4.out
         have q3 := (hW.cell (p := ⟨g, off + m * 3, none⟩) HvG.out).trans p0.out
         clear hW
         go_simp
         try with_reducible rfl
        simp only [Act.put, l1, l2, l3, l4, l5, l6]
        refine wpAnyH_take (i := 22) (v := ?_) rfl (by kernel_rfl) (by kernel_rfl) (by kernel_rfl) (fun _ _ _ h => h) (Or.inl ⟨by rfl, fun W hW => ?_⟩) h1 ?_
        rotate_left
        ·have q0 := (hW.cell (p := ⟨BW, 0, none⟩) HvB.out).trans v0.out
         have q2 := (hW.cell (p := ⟨w.heap.size, 4, none⟩) HvO.out).trans o4.out
         have q3 := (hW.cell (p := ⟨g, off + m * 3, none⟩) HvG.out).trans p0.out
         clear hW
         go_simp
         try with_reducible rfl
        simp only [Act.put, l1, l2, l3, l4, l5, l6]
        refine wpAnyH_take (i := 23) (v := ?_) rfl (by kernel_rfl) (by kernel_rfl) (by kernel_rfl) (fun _ _ _ h => h) (Or.inl ⟨by rfl, fun W hW => ?_⟩) h1 ?_
        rotate_left
        ·have q0 := (hW.cell (p := ⟨BW, 0, none⟩) HvB.out).trans v0.out
         have q2 := (hW.cell (p := ⟨w.heap.size, 4, none⟩) HvO.out).trans o4.out
         have q3 := (hW.cell (p := ⟨g, off + m * 3, none⟩) HvG.out).trans p0.out
         clear hW
         go_simp
         try with_reducible rfl
        simp only [Act.put, l1, l2, l3, l4, l5, l6]
        refine wpAnyH_take (i := 24) (v := ?_) rfl (by kernel_rfl) (by kernel_rfl) (by kernel_rfl) (fun _ _ _ h => h) (Or.inl ⟨by rfl, fun W hW => ?_⟩) h1 ?_
        rotate_left
        ·have q0 := (hW.cell (p := ⟨BW, 0, none⟩) HvB.out).trans v0.out
         have q2 := (hW.cell (p := ⟨w.heap.size, 4, none⟩) HvO.out).trans o4.out
         have q3 := (hW.cell (p := ⟨g, off + m * 3, none⟩) HvG.out).trans p0.out
         clear hW
         go_simp
         try with_reducible rfl
        simp only [Act.put, l1, l2, l3, l4, l5, l6]
        refine wpAnyH_done (by kernel_rfl) ?_ _
        have B2 := BVO.trans (h1.mono BVO.size)
        clear h1
        go_wp2_with fail
        go_ret
        exact AnsB.mk HZ.out (bO.trans (B2.mono bO.size))
       | true =>
        have HI := hidM (HI3.out (by rw [HT.out]; exact hq))
        clear HI3 HI4 HT
        refine wp_region_held_drew (S := fun W => Below V.heap.size V W) (by kernel_rfl) (Below.refl _ V).drew (fun h0 => ?_)
        refine wpAnyH_take (i := 0) (v := ?_) rfl (by kernel_rfl) (by kernel_rfl) (by kernel_rfl) (fun _ _ _ h => h) (Or.inl ⟨by rfl, fun W hW => ?_⟩) h0 ?_
        rotate_left
        ·have q0 := (hW.cell (p := ⟨BW, 0, none⟩) HvB.out).trans v0.out
         have q1 := (hW.cell (p := ⟨BW, 1, none⟩) HvB.out).trans v1.out
         clear hW
         go_simp
         try with_reducible rfl
        simp only [Act.put, l1, l2, l3, l4, l5, l6]
        refine wpAnyH_take (i := 1) (v := ?_) rfl (by kernel_rfl) (by kernel_rfl) (by kernel_rfl) (fun _ _ _ h => h) (Or.inl ⟨by rfl, fun W hW => ?_⟩) h0 ?_
        rotate_left
        ·have q0 := (hW.cell (p := ⟨BW, 0, none⟩) HvB.out).trans v0.out
         have q1 := (hW.cell (p := ⟨BW, 1, none⟩) HvB.out).trans v1.out
         clear hW
         go_simp
         try with_reducible rfl
        simp only [Act.put, l1, l2, l3, l4, l5, l6]
        refine wpAnyH_take (i := 2) (v := ?_) rfl (by kernel_rfl) (by kernel_rfl) (by kernel_rfl) (fun _ _ _ h => h) (Or.inl ⟨by rfl, fun W hW => ?_⟩) h0 ?_
        rotate_left
        ·have q0 := (hW.cell (p := ⟨BW, 0, none⟩) HvB.out).trans v0.out
         have q1 := (hW.cell (p := ⟨BW, 1, none⟩) HvB.out).trans v1.out
         clear hW
         go_simp
         try with_reducible rfl
        simp only [Act.put, l1, l2, l3, l4, l5, l6]
        refine wpAnyH_take (i := 3) (v := ?_) rfl (by kernel_rfl) (by kernel_rfl) (by kernel_rfl) (fun _ _ _ h => h) (Or.inl ⟨by rfl, fun W hW => ?_⟩) h0 ?_
        rotate_left
        ·have q0 := (hW.cell (p := ⟨BW, 0, none⟩) HvB.out).trans v0.out
         have q1 := (hW.cell (p := ⟨BW, 1, none⟩) HvB.out).trans v1.out
         clear hW
         go_simp
         try with_reducible rfl
        simp only [Act.put, l1, l2, l3, l4, l5, l6]
        refine wpAnyH_take (i := 4) (v := ?_) rfl (by kernel_rfl) (by kernel_rfl) (by kernel_rfl) (fun _ _ _ h => h) (Or.inl ⟨by rfl, fun W hW => ?_⟩) h0 ?_
        rotate_left
        ·have q0 := (hW.cell (p := ⟨BW, 0, none⟩) HvB.out).trans v0.out
         have q1 := (hW.cell (p := ⟨BW, 1, none⟩) HvB.out).trans v1.out
         clear hW
         go_simp
         try with_reducible rfl
        simp only [Act.put, l1, l2, l3, l4, l5, l6]
        refine wpAnyH_take (i := 5) (v := ?_) rfl (by kernel_rfl) (by kernel_rfl) (by kernel_rfl) (fun _ _ _ h => h) (Or.inl ⟨by rfl, fun W hW => ?_⟩) h0 ?_
        rotate_left
        ·have q0 := (hW.cell (p := ⟨BW, 0, none⟩) HvB.out).trans v0.out
         have q1 := (hW.cell (p := ⟨BW, 1, none⟩) HvB.out).trans v1.out
         clear hW
         go_simp
         try with_reducible rfl
        simp only [Act.put, l1, l2, l3, l4, l5, l6]
        refine wpAnyH_ready (rs := [6]) (by kernel_rfl) (by simp) (AllReadyH.cons rfl (fun K hK => ?_) AllReadyH.nil)
        go_simp
        go_wp2_with (go_at_call 51; refine (C1.out _).mono ?_; rintro e wc ⟨rfl, rfl⟩)
        refine hK.out _ _ h0 (fun h1 => ?_)
        clear hK K h0
        refine wpAnyH_take (i := 7) (v := ?_) rfl (by kernel_rfl) (by kernel_rfl) (by kernel_rfl) (fun _ _ _ h => h) (Or.inl ⟨by rfl, fun W hW => ?_⟩) h1 ?_
        rotate_left
        ·have q0 := (hW.cell (p := ⟨BW, 0, none⟩) HvB.out).trans v0.out
         have q2 := (hW.cell (p := ⟨w.heap.size, 4, none⟩) HvO.out).trans o4.out
         have q3 := (hW.cell (p := ⟨g, off + m * 3, none⟩) HvG.out).trans p0.out
         clear hW
         go_simp
         try with_reducible rfl
        simp only [Act.put, l1, l2, l3, l4, l5, l6]
        refine wpAnyH_take (i := 8) (v := ?_) rfl (by kernel_rfl) (by kernel_rfl) (by kernel_rfl) (fun _ _ _ h => h) (Or.inl ⟨by rfl, fun W hW => ?_⟩) h1 ?_
        rotate_left
        ·have q0 := (hW.cell (p := ⟨BW, 0, none⟩) HvB.out).trans v0.out
         have q2 := (hW.cell (p := ⟨w.heap.size, 4, none⟩) HvO.out).trans o4.out
         have q3 := (hW.cell (p := ⟨g, off + m * 3, none⟩) HvG.out).trans p0.out
         clear hW
         go_simp
         try with_reducible rfl
        simp only [Act.put, l1, l2, l3, l4, l5, l6]
        refine wpAnyH_take (i := 9) (v := ?_) rfl (by kernel_rfl) (by kernel_rfl) (by kernel_rfl) (fun _ _ _ h => h) (Or.inl ⟨by rfl, fun W hW => ?_⟩) h1 ?_
        rotate_left
        ·have q0 := (hW.cell (p := ⟨BW, 0, none⟩) HvB.out).trans v0.out
         have q2 := (hW.cell (p := ⟨w.heap.size, 4, none⟩) HvO.out).trans o4.out
         have q3 := (hW.cell (p := ⟨g, off + m * 3, none⟩) HvG.out).trans p0.out
         clear hW
         go_simp
         try with_reducible rfl
        simp only [Act.put, l1, l2, l3, l4, l5, l6]
        refine wpAnyH_take (i := 10) (v := ?_) rfl (by kernel_rfl) (by kernel_rfl) (by kernel_rfl) (fun _ _ _ h => h) (Or.inl ⟨by rfl, fun W hW => ?_⟩) h1 ?_
        rotate_left
        ·have q0 := (hW.cell (p := ⟨BW, 0, none⟩) HvB.out).trans v0.out
         have q2 := (hW.cell (p := ⟨w.heap.size, 4, none⟩) HvO.out).trans o4.out
         have q3 := (hW.cell (p := ⟨g, off + m * 3, none⟩) HvG.out).trans p0.out
         clear hW
         go_simp
         try with_reducible rfl
        simp only [Act.put, l1, l2, l3, l4, l5, l6]
        refine wpAnyH_take (i := 11) (v := ?_) rfl (by kernel_rfl) (by kernel_rfl) (by kernel_rfl) (fun _ _ _ h => h) (Or.inl ⟨by rfl, fun W hW => ?_⟩) h1 ?_
        rotate_left
        ·have q0 := (hW.cell (p := ⟨BW, 0, none⟩) HvB.out).trans v0.out
         have q2 := (hW.cell (p := ⟨w.heap.size, 4, none⟩) HvO.out).trans o4.out
         have q3 := (hW.cell (p := ⟨g, off + m * 3, none⟩) HvG.out).trans p0.out
         clear hW
         go_simp
         try with_reducible rfl
        simp only [Act.put, l1, l2, l3, l4, l5, l6]
        refine wpAnyH_take (i := 12) (v := ?_) rfl (by kernel_rfl) (by kernel_rfl) (by kernel_rfl) (fun _ _ _ h => h) (Or.inl ⟨by rfl, fun W hW => ?_⟩) h1 ?_
        rotate_left
        ·have q0 := (hW.cell (p := ⟨BW, 0, none⟩) HvB.out).trans v0.out
         have q2 := (hW.cell (p := ⟨w.heap.size, 4, none⟩) HvO.out).trans o4.out
         have q3 := (hW.cell (p := ⟨g, off + m * 3, none⟩) HvG.out).trans p0.out
         clear hW
         go_simp
         try with_reducible rfl
        simp only [Act.put, l1, l2, l3, l4, l5, l6]
        refine wpAnyH_take (i := 13) (v := ?_) rfl (by kernel_rfl) (by kernel_rfl) (by kernel_rfl) (fun _ _ _ h => h) (Or.inl ⟨by rfl, fun W hW => ?_⟩) h1 ?_
        rotate_left
        ·have q0 := (hW.cell (p := ⟨BW, 0, none⟩) HvB.out).trans v0.out
         have q2 := (hW.cell (p := ⟨w.heap.size, 4, none⟩) HvO.out).trans o4.out
         have q3 := (hW.cell (p := ⟨g, off + m * 3, none⟩) HvG.out).trans p0.out
         clear hW
         go_simp
         try with_reducible rfl
        simp only [Act.put, l1, l2, l3, l4, l5, l6]
        refine wpAnyH_take (i := 14) (v := ?_) rfl (by kernel_rfl) (by kernel_rfl) (by kernel_rfl) (fun _ _ _ h => h) (Or.inl ⟨by rfl, fun W hW => ?_⟩) h1 ?_
        rotate_left
        ·have q0 := (hW.cell (p := ⟨BW, 0, none⟩) HvB.out).trans v0.out
         have q2 := (hW.cell (p := ⟨w.heap.size, 4, none⟩) HvO.out).trans o4.out
         have q3 := (hW.cell (p := ⟨g, off + m * 3, none⟩) HvG.out).trans p0.out
         clear hW
         go_simp
         try with_reducible rfl
        simp only [Act.put, l1, l2, l3, l4, l5, l6]
        refine wpAnyH_take (i := 15) (v := ?_) rfl (by kernel_rfl) (by kernel_rfl) (by kernel_rfl) (fun _ _ _ h => h) (Or.inl ⟨by rfl, fun W hW => ?_⟩) h1 ?_
        rotate_left
        ·have q0 := (hW.cell (p := ⟨BW, 0, none⟩) HvB.out).trans v0.out
         have q2 := (hW.cell (p := ⟨w.heap.size, 4, none⟩) HvO.out).trans o4.out
         have q3 := (hW.cell (p := ⟨g, off + m * 3, none⟩) HvG.out).trans p0.out
         clear hW
         go_simp
         try with_reducible rfl
        simp only [Act.put, l1, l2, l3, l4, l5, l6]
        refine wpAnyH_take (i := 16) (v := ?_) rfl (by kernel_rfl) (by kernel_rfl) (by kernel_rfl) (fun _ _ _ h => h) (Or.inl ⟨by rfl, fun W hW => ?_⟩) h1 ?_
        rotate_left
        ·have q0 := (hW.cell (p := ⟨BW, 0, none⟩) HvB.out).trans v0.out
         have q2 := (hW.cell (p := ⟨w.heap.size, 4, none⟩) HvO.out).trans o4.out
         have q3 := (hW.cell (p := ⟨g, off + m * 3, none⟩) HvG.out).trans p0.out
         clear hW
         go_simp
         try with_reducible rfl
        simp only [Act.put, l1, l2, l3, l4, l5, l6]
        refine wpAnyH_take (i := 17) (v := ?_) rfl (by kernel_rfl) (by kernel_rfl) (by kernel_rfl) (fun _ _ _ h => h) (Or.inl ⟨by rfl, fun W hW => ?_⟩) h1 ?_
        rotate_left
        ·have q0 := (hW.cell (p := ⟨BW, 0, none⟩) HvB.out).trans v0.out
         have q2 := (hW.cell (p := ⟨w.heap.size, 4, none⟩) HvO.out).trans o4.out
         have q3 := (hW.cell (p := ⟨g, off + m * 3, none⟩) HvG.out).trans p0.out
         clear hW
         go_simp
         try with_reducible rfl
        simp only [Act.put, l1, l2, l3, l4, l5, l6]
        refine wpAnyH_take (i := 18) (v := ?_) rfl (by kernel_rfl) (by kernel_rfl) (by kernel_rfl) (fun _ _ _ h => h) (Or.inl ⟨by rfl, fun W hW => ?_⟩) h1 ?_
        rotate_left
        ·have q0 := (hW.cell (p := ⟨BW, 0, none⟩) HvB.out).trans v0.out
         have q2 := (hW.cell (p := ⟨w.heap.size, 4, none⟩) HvO.out).trans o4.out
         have q3 := (hW.cell (p := ⟨g, off + m * 3, none⟩) HvG.out).trans p0.out
         clear hW
         go_simp
         try with_reducible rfl
        simp only [Act.put, l1, l2, l3, l4, l5, l6]
        refine wpAnyH_take (i := 19) (v := ?_) rfl (by kernel_rfl) (by kernel_rfl) (by kernel_rfl) (fun _ _ _ h => h) (Or.inl ⟨by rfl, fun W hW => ?_⟩) h1 ?_
        rotate_left
        ·have q0 := (hW.cell (p := ⟨BW, 0, none⟩) HvB.out).trans v0.out
         have q2 := (hW.cell (p := ⟨w.heap.size, 4, none⟩) HvO.out).trans o4.out
         have q3 := (hW.cell (p := ⟨g, off + m * 3, none⟩) HvG.out).trans p0.out
         clear hW
         go_simp
         try with_reducible rfl
        simp only [Act.put, l1, l2, l3, l4, l5, l6]
        refine wpAnyH_take (i := 20) (v := ?_) rfl (by kernel_rfl) (by kernel_rfl) (by kernel_rfl) (fun _ _ _ h => h) (Or.inl ⟨by rfl, fun W hW => ?_⟩) h1 ?_
        rotate_left
        ·have q0 := (hW.cell (p := ⟨BW, 0, none⟩) HvB.out).trans v0.out
         have q2 := (hW.cell (p := ⟨w.heap.size, 4, none⟩) HvO.out).trans o4.out
         have q3 := (hW.cell (p := ⟨g, off + m * 3, none⟩) HvG.out).trans p0.out
         clear hW
         go_simp
         try with_reducible rfl
        simp only [Act.put, l1, l2, l3, l4, l5, l6]
        refine wpAnyH_take (i := 21) (v := ?_) rfl (by kernel_rfl) (by kernel_rfl) (by kernel_rfl) (fun _ _ _ h => h) (Or.inl ⟨by rfl, fun W hW => ?_⟩) h1 ?_
        rotate_left
        ·have q0 := (hW.cell (p := ⟨BW, 0, none⟩) HvB.out).trans v0.out
         have q2 := (hW.cell (p := ⟨w.heap.size, 4, none⟩) HvO.out).trans o4.out
         have q3 := (hW.cell (p := ⟨g, off + m * 3, none⟩) HvG.out).trans p0.out
         clear hW
         go_simp
         try with_reducible rfl
        simp only [Act.put, l1, l2, l3, l4, l5, l6]
        refine wpAnyH_take (i := 22) (v := ?_) rfl (by kernel_rfl) (by kernel_rfl) (by kernel_rfl) (fun _ _ _ h => h) (Or.inl ⟨by rfl, fun W hW => ?_⟩) h1 ?_
        rotate_left
        ·have q0 := (hW.cell (p := ⟨BW, 0, none⟩) HvB.out).trans v0.out
         have q2 := (hW.cell (p := ⟨w.heap.size, 4, none⟩) HvO.out).trans o4.out
         have q3 := (hW.cell (p := ⟨g, off + m * 3, none⟩) HvG.out).trans p0.out
         clear hW
         go_simp
         try with_reducible rfl
        simp only [Act.put, l1, l2, l3, l4, l5, l6]
        refine wpAnyH_take (i := 23) (v := ?_) rfl (by kernel_rfl) (by kernel_rfl) (by kernel_rfl) (fun _ _ _ h => h) (Or.inl ⟨by rfl, fun W hW => ?_⟩) h1 ?_
        rotate_left
        ·have q0 := (hW.cell (p := ⟨BW, 0, none⟩) HvB.out).trans v0.out
         have q2 := (hW.cell (p := ⟨w.heap.size, 4, none⟩) HvO.out).trans o4.out
         have q3 := (hW.cell (p := ⟨g, off + m * 3, none⟩) HvG.out).trans p0.out
         clear hW
         go_simp
         try with_reducible rfl
        simp only [Act.put, l1, l2, l3, l4, l5, l6]
        refine wpAnyH_take (i := 24) (v := ?_) rfl (by kernel_rfl) (by kernel_rfl) (by kernel_rfl) (fun _ _ _ h => h) (Or.inl ⟨by rfl, fun W hW => ?_⟩) h1 ?_
        rotate_left
        ·have q0 := (hW.cell (p := ⟨BW, 0, none⟩) HvB.out).trans v0.out
         have q2 := (hW.cell (p := ⟨w.heap.size, 4, none⟩) HvO.out).trans o4.out
         have q3 := (hW.cell (p := ⟨g, off + m * 3, none⟩) HvG.out).trans p0.out
         clear hW
         go_simp
         try with_reducible rfl
        simp only [Act.put, l1, l2, l3, l4, l5, l6]
        refine wpAnyH_done (by kernel_rfl) ?_ _
        have BV1 := BVO.trans (h1.mono BVO.size)
        have BVV := hidM h1
        clear h1
        generalize hV1 : V.drew = V1 at *
        clear hV1
        have w2 := (BVV.out.cell (p := ⟨BW, 2, none⟩) HvB.out).trans v2.out
        go_wp2_with fail
        go_loopw [5] (fun i wr => ∃ m : Nat, m ≤ XW.length ∧ i = .int .i64 m ∧ Hid (∀ j, j < m → waitL1 sq XW j) ∧ Below V.heap.size V wr) (fun i _ => XW.length - (intOf i).toNat)
        case atStart => exact ⟨0, Nat.zero_le _, rfl, fun j h => absurd h (Nat.not_lt_zero _), BVV.out⟩
        case round =>
         clear w2 BV1 BVV
         obtain ⟨m2, hm2, rfl, HM, hbV⟩ := hrel
         have BO2 := BVO.trans (hbV.mono BVO.size)
         have w2 := (hbV.cell (p := ⟨BW, 2, none⟩) HvB.out).trans v2.out
         by_cases hmt : m2 < XW.length
         ·have hmi : (m2 : Int) < XW.length := by omega
          rcases HX.out with ⟨h0, _⟩ | ⟨_, g2, off2, cap2, hqe, hg2, hcq⟩
          ·rw [h0] at hmt; exact absurd hmt (Nat.not_lt_zero _)
          ·injection hqe with i1 i2 i3
           subst i1
           clear i2 i3
           have HvG2 := hidM (show g2 < wr.heap.size by have := hbV.size; omega)
           have HvB2 := hidM (show BW < wr.heap.size by have := hbV.size; have := HvB.out; omega)
           have HvO2 := hidM (show w.heap.size < wr.heap.size by have := hbV.size; have := HvO.out; omega)
           obtain ⟨e0', e1', e2'⟩ := (hcq m2 hmt).below hbV hg2
           have e0 := hidM e0'
           have e1 := hidM e1'
           have e2 := hidM e2'
           have y2 := hidM w2
           have y3 := hidM ((hbV.cell (p := ⟨w.heap.size, 3, none⟩) HvO.out).trans o3.out)
           have hsw : IntKind.i64.wrap (sq - 1) = sq - 1 := by rw [IntKind.wrap_i64]; omega
           have C2 : Hid (∀ W, Calls Tryz.prog 51 #[.int .i64 (XW.getD m2 wtv0).q, .int .i64 0, .int .i64 (sq - 1)] W fun e w' => e = .returned (.bool (inB (XW.getD m2 wtv0).q 0 (sq - 1))) ∧ W = w') := fun W => specIn _ _ _ W
           have HPC : Hid (∀ j, j < XW.length → WtAt wr g2 (off2 + j * 3) (XW.getD j wtv0)) := fun j hj => (hcq j hj).below hbV hg2
           have HNo2 : Hid (¬ waitL1 sq XW m2 → BIs false (SitesL sq si le)) := fun h => BIs.no fun e => h (by have z := (e.1 _ hlt).2.2.2 m2 (by rw [← HXW.out]; exact hmt); rwa [← HXW.out] at z)
           have HYes2 : Hid (waitL1 sq XW m2 → ∀ j, j < m2 + 1 → waitL1 sq XW j) := fun h j hj => by
            by_cases e : j = m2
            ·subst e; exact h
            ·exact HM.out j (by omega)
           have HI2 : Hid (waitL1 sq XW m2 ↔ (inB (XW.getD m2 wtv0).q 0 (sq - 1) = true ∧ (0 < m2 → wBef (XW.getD (m2 - 1) wtv0) (XW.getD m2 wtv0) = true))) := Iff.rfl
           clear HM hcq e0' e1' e2' HI HNo
           generalize waitL1 sq XW m2 = QI at *
           generalize hb2 : inB (XW.getD m2 wtv0).q 0 (sq - 1) = b2 at *
           clear hb2
           go_upto_region 10 with fail
           clear w2
           refine wp_region_held_drew (S := fun W => Below wr.heap.size wr W) (by kernel_rfl) (Below.refl _ wr).drew (fun h0 => ?_)
           cases b2 with
           | false =>
            have HZ := hidM (HNo2.out (fun h => by have := (HI2.out.1 h).1; cases this))
            clear HNo2 HYes2 HI2 HPC
            generalize (XW.getD m2 wtv0).q = xq at *
            refine wpAnyH_take (i := 0) (v := ?_) rfl (by kernel_rfl) (by kernel_rfl) (by kernel_rfl) (fun _ _ _ h => h) (Or.inl ⟨by rfl, fun W hW => ?_⟩) h0 ?_
            rotate_left
            ·have q0 := (hW.cell (p := ⟨BW, 2, none⟩) HvB2.out).trans y2.out
             have q1 := (hW.cell (p := ⟨w.heap.size, 3, none⟩) HvO2.out).trans y3.out
             have q2 := (hW.cell (p := ⟨g2, off2 + m2 * 3 + 2, none⟩) HvG2.out).trans e2.out
             clear hW
             go_simp
             try with_reducible rfl
            simp only [Act.put, l1, l2, l3, l4, l5, l6]
            refine wpAnyH_take (i := 1) (v := ?_) rfl (by kernel_rfl) (by kernel_rfl) (by kernel_rfl) (fun _ _ _ h => h) (Or.inl ⟨by rfl, fun W hW => ?_⟩) h0 ?_
            rotate_left
            ·have q0 := (hW.cell (p := ⟨BW, 2, none⟩) HvB2.out).trans y2.out
             have q1 := (hW.cell (p := ⟨w.heap.size, 3, none⟩) HvO2.out).trans y3.out
             have q2 := (hW.cell (p := ⟨g2, off2 + m2 * 3 + 2, none⟩) HvG2.out).trans e2.out
             clear hW
             go_simp
             try with_reducible rfl
            simp only [Act.put, l1, l2, l3, l4, l5, l6]
            refine wpAnyH_take (i := 2) (v := ?_) rfl (by kernel_rfl) (by kernel_rfl) (by kernel_rfl) (fun _ _ _ h => h) (Or.inl ⟨by rfl, fun W hW => ?_⟩) h0 ?_
            rotate_left
            ·have q0 := (hW.cell (p := ⟨BW, 2, none⟩) HvB2.out).trans y2.out
             have q1 := (hW.cell (p := ⟨w.heap.size, 3, none⟩) HvO2.out).trans y3.out
             have q2 := (hW.cell (p := ⟨g2, off2 + m2 * 3 + 2, none⟩) HvG2.out).trans e2.out
             clear hW
             go_simp
             try with_reducible rfl
            simp only [Act.put, l1, l2, l3, l4, l5, l6]
            refine wpAnyH_take (i := 3) (v := ?_) rfl (by kernel_rfl) (by kernel_rfl) (by kernel_rfl) (fun _ _ _ h => h) (Or.inl ⟨by rfl, fun W hW => ?_⟩) h0 ?_
            rotate_left
            ·have q0 := (hW.cell (p := ⟨BW, 2, none⟩) HvB2.out).trans y2.out
             have q1 := (hW.cell (p := ⟨w.heap.size, 3, none⟩) HvO2.out).trans y3.out
             have q2 := (hW.cell (p := ⟨g2, off2 + m2 * 3 + 2, none⟩) HvG2.out).trans e2.out
             clear hW
             go_simp
             try with_reducible rfl
            simp only [Act.put, l1, l2, l3, l4, l5, l6]
            refine wpAnyH_take (i := 4) (v := ?_) rfl (by kernel_rfl) (by kernel_rfl) (by kernel_rfl) (fun _ _ _ h => h) (Or.inl ⟨by rfl, fun W hW => ?_⟩) h0 ?_
            rotate_left
            ·have q0 := (hW.cell (p := ⟨BW, 2, none⟩) HvB2.out).trans y2.out
             have q1 := (hW.cell (p := ⟨w.heap.size, 3, none⟩) HvO2.out).trans y3.out
             have q2 := (hW.cell (p := ⟨g2, off2 + m2 * 3 + 2, none⟩) HvG2.out).trans e2.out
             clear hW
             go_simp
             try with_reducible rfl
            simp only [Act.put, l1, l2, l3, l4, l5, l6]
            refine wpAnyH_take (i := 5) (v := ?_) rfl (by kernel_rfl) (by kernel_rfl) (by kernel_rfl) (fun _ _ _ h => h) (Or.inl ⟨by rfl, fun W hW => ?_⟩) h0 ?_
            rotate_left
            ·have q0 := (hW.cell (p := ⟨BW, 2, none⟩) HvB2.out).trans y2.out
             have q1 := (hW.cell (p := ⟨w.heap.size, 3, none⟩) HvO2.out).trans y3.out
             have q2 := (hW.cell (p := ⟨g2, off2 + m2 * 3 + 2, none⟩) HvG2.out).trans e2.out
             clear hW
             go_simp
             try with_reducible rfl
            simp only [Act.put, l1, l2, l3, l4, l5, l6]
            refine wpAnyH_take (i := 6) (v := ?_) rfl (by kernel_rfl) (by kernel_rfl) (by kernel_rfl) (fun _ _ _ h => h) (Or.inl ⟨by rfl, fun W hW => ?_⟩) h0 ?_
            rotate_left
            ·have q0 := (hW.cell (p := ⟨BW, 2, none⟩) HvB2.out).trans y2.out
             have q1 := (hW.cell (p := ⟨w.heap.size, 3, none⟩) HvO2.out).trans y3.out
             have q2 := (hW.cell (p := ⟨g2, off2 + m2 * 3 + 2, none⟩) HvG2.out).trans e2.out
             clear hW
             go_simp
             try with_reducible rfl
            simp only [Act.put, l1, l2, l3, l4, l5, l6]
            refine wpAnyH_take (i := 7) (v := ?_) rfl (by kernel_rfl) (by kernel_rfl) (by kernel_rfl) (fun _ _ _ h => h) (Or.inl ⟨by rfl, fun W hW => ?_⟩) h0 ?_
            rotate_left
            ·have q0 := (hW.cell (p := ⟨BW, 2, none⟩) HvB2.out).trans y2.out
             have q1 := (hW.cell (p := ⟨w.heap.size, 3, none⟩) HvO2.out).trans y3.out
             have q2 := (hW.cell (p := ⟨g2, off2 + m2 * 3 + 2, none⟩) HvG2.out).trans e2.out
             clear hW
             go_simp
             try with_reducible rfl
            simp only [Act.put, l1, l2, l3, l4, l5, l6]
            refine wpAnyH_take (i := 8) (v := ?_) rfl (by kernel_rfl) (by kernel_rfl) (by kernel_rfl) (fun _ _ _ h => h) (Or.inl ⟨by rfl, fun W hW => ?_⟩) h0 ?_
            rotate_left
            ·have q0 := (hW.cell (p := ⟨BW, 2, none⟩) HvB2.out).trans y2.out
             have q1 := (hW.cell (p := ⟨w.heap.size, 3, none⟩) HvO2.out).trans y3.out
             have q2 := (hW.cell (p := ⟨g2, off2 + m2 * 3 + 2, none⟩) HvG2.out).trans e2.out
             clear hW
             go_simp
             try with_reducible rfl
            simp only [Act.put, l1, l2, l3, l4, l5, l6]
            refine wpAnyH_ready (rs := [9]) (by kernel_rfl) (by simp) (AllReadyH.cons rfl (fun K hK => ?_) AllReadyH.nil)
            go_simp
            go_wp2_with (go_at_call 51; refine (C2.out _).mono ?_; rintro e wc ⟨rfl, rfl⟩)
            refine hK.out _ _ h0 (fun h1 => ?_)
            clear hK K h0
            refine wpAnyH_take (i := 10) (v := ?_) rfl (by kernel_rfl) (by kernel_rfl) (by kernel_rfl) (fun _ _ _ h => h) (Or.inl ⟨by rfl, fun W hW => ?_⟩) h1 ?_
            rotate_left
            ·have q0 := (hW.cell (p := ⟨BW, 2, none⟩) HvB2.out).trans y2.out
             have q1 := (hW.cell (p := ⟨w.heap.size, 3, none⟩) HvO2.out).trans y3.out
             have q2 := (hW.cell (p := ⟨g2, off2 + m2 * 3 + 2, none⟩) HvG2.out).trans e2.out
             clear hW
             go_simp
             try with_reducible rfl
            simp only [Act.put, l1, l2, l3, l4, l5, l6]
            refine wpAnyH_take (i := 11) (v := ?_) rfl (by kernel_rfl) (by kernel_rfl) (by kernel_rfl) (fun _ _ _ h => h) (Or.inl ⟨by rfl, fun W hW => ?_⟩) h1 ?_
            rotate_left
            ·have q0 := (hW.cell (p := ⟨BW, 2, none⟩) HvB2.out).trans y2.out
             have q1 := (hW.cell (p := ⟨w.heap.size, 3, none⟩) HvO2.out).trans y3.out
             have q2 := (hW.cell (p := ⟨g2, off2 + m2 * 3 + 2, none⟩) HvG2.out).trans e2.out
             clear hW
             go_simp
             try with_reducible rfl
            simp only [Act.put, l1, l2, l3, l4, l5, l6]
            refine wpAnyH_take (i := 12) (v := undef) rfl (by kernel_rfl) (by kernel_rfl) (by kernel_rfl) (fun _ _ _ h => h) (Or.inr ⟨by rfl, rfl⟩) h1 ?_
            simp only [Act.put, l1, l2, l3, l4, l5, l6]
            refine wpAnyH_take (i := 13) (v := undef) rfl (by kernel_rfl) (by kernel_rfl) (by kernel_rfl) (fun _ _ _ h => h) (Or.inr ⟨by rfl, rfl⟩) h1 ?_
            simp only [Act.put, l1, l2, l3, l4, l5, l6]
            refine wpAnyH_take (i := 14) (v := undef) rfl (by kernel_rfl) (by kernel_rfl) (by kernel_rfl) (fun _ _ _ h => h) (Or.inr ⟨by rfl, rfl⟩) h1 ?_
            simp only [Act.put, l1, l2, l3, l4, l5, l6]
            refine wpAnyH_take (i := 15) (v := undef) rfl (by kernel_rfl) (by kernel_rfl) (by kernel_rfl) (fun _ _ _ h => h) (Or.inr ⟨by rfl, rfl⟩) h1 ?_
            simp only [Act.put, l1, l2, l3, l4, l5, l6]
            refine wpAnyH_take (i := 16) (v := undef) rfl (by kernel_rfl) (by kernel_rfl) (by kernel_rfl) (fun _ _ _ h => h) (Or.inr ⟨by rfl, rfl⟩) h1 ?_
            simp only [Act.put, l1, l2, l3, l4, l5, l6]
            refine wpAnyH_take (i := 17) (v := undef) rfl (by kernel_rfl) (by kernel_rfl) (by kernel_rfl) (fun _ _ _ h => h) (Or.inr ⟨by rfl, rfl⟩) h1 ?_
            simp only [Act.put, l1, l2, l3, l4, l5, l6]
            refine wpAnyH_take (i := 18) (v := undef) rfl (by kernel_rfl) (by kernel_rfl) (by kernel_rfl) (fun _ _ _ h => h) (Or.inr ⟨by rfl, rfl⟩) h1 ?_
            simp only [Act.put, l1, l2, l3, l4, l5, l6]
            refine wpAnyH_take (i := 19) (v := undef) rfl (by kernel_rfl) (by kernel_rfl) (by kernel_rfl) (fun _ _ _ h => h) (Or.inr ⟨by rfl, rfl⟩) h1 ?_
            simp only [Act.put, l1, l2, l3, l4, l5, l6]
            refine wpAnyH_take (i := 20) (v := undef) rfl (by kernel_rfl) (by kernel_rfl) (by kernel_rfl) (fun _ _ _ h => h) (Or.inr ⟨by rfl, rfl⟩) h1 ?_
            simp only [Act.put, l1, l2, l3, l4, l5, l6]
            refine wpAnyH_take (i := 21) (v := undef) rfl (by kernel_rfl) (by kernel_rfl) (by kernel_rfl) (fun _ _ _ h => h) (Or.inr ⟨by rfl, rfl⟩) h1 ?_
            simp only [Act.put, l1, l2, l3, l4, l5, l6]
            refine wpAnyH_take (i := 22) (v := undef) rfl (by kernel_rfl) (by kernel_rfl) (by kernel_rfl) (fun _ _ _ h => h) (Or.inr ⟨by rfl, rfl⟩) h1 ?_
            simp only [Act.put, l1, l2, l3, l4, l5, l6]
            refine wpAnyH_take (i := 23) (v := undef) rfl (by kernel_rfl) (by kernel_rfl) (by kernel_rfl) (fun _ _ _ h => h) (Or.inr ⟨by rfl, rfl⟩) h1 ?_
            simp only [Act.put, l1, l2, l3, l4, l5, l6]
            refine wpAnyH_take (i := 24) (v := undef) rfl (by kernel_rfl) (by kernel_rfl) (by kernel_rfl) (fun _ _ _ h => h) (Or.inr ⟨by rfl, rfl⟩) h1 ?_
            simp only [Act.put, l1, l2, l3, l4, l5, l6]
            refine wpAnyH_take (i := 25) (v := undef) rfl (by kernel_rfl) (by kernel_rfl) (by kernel_rfl) (fun _ _ _ h => h) (Or.inr ⟨by rfl, rfl⟩) h1 ?_
            simp only [Act.put, l1, l2, l3, l4, l5, l6]
            refine wpAnyH_take (i := 26) (v := undef) rfl (by kernel_rfl) (by kernel_rfl) (by kernel_rfl) (fun _ _ _ h => h) (Or.inr ⟨by rfl, rfl⟩) h1 ?_
            simp only [Act.put, l1, l2, l3, l4, l5, l6]
            refine wpAnyH_take (i := 27) (v := undef) rfl (by kernel_rfl) (by kernel_rfl) (by kernel_rfl) (fun _ _ _ h => h) (Or.inr ⟨by rfl, rfl⟩) h1 ?_
            simp only [Act.put, l1, l2, l3, l4, l5, l6]
            refine wpAnyH_take (i := 28) (v := undef) rfl (by kernel_rfl) (by kernel_rfl) (by kernel_rfl) (fun _ _ _ h => h) (Or.inr ⟨by rfl, rfl⟩) h1 ?_
            simp only [Act.put, l1, l2, l3, l4, l5, l6]
            refine wpAnyH_take (i := 29) (v := ?_) rfl (by kernel_rfl) (by kernel_rfl) (by kernel_rfl) (fun _ _ _ h => h) (Or.inl ⟨by rfl, fun W hW => ?_⟩) h1 ?_
            rotate_left
            ·have q0 := (hW.cell (p := ⟨BW, 2, none⟩) HvB2.out).trans y2.out
             have q1 := (hW.cell (p := ⟨w.heap.size, 3, none⟩) HvO2.out).trans y3.out
             have q2 := (hW.cell (p := ⟨g2, off2 + m2 * 3 + 2, none⟩) HvG2.out).trans e2.out
             clear hW
             go_simp
             try with_reducible rfl
            simp only [Act.put, l1, l2, l3, l4, l5, l6]
            refine wpAnyH_done (by kernel_rfl) ?_ _
            have B2 := BO2.trans (h1.mono BO2.size)
            clear h1
            go_wp2_with fail
            go_ret
            exact AnsB.mk HZ.out (bO.trans (B2.mono bO.size))
           | true =>
            by_cases hk0 : m2 = 0
            ·subst hk0
             have HZ := hidM (HYes2.out (HI2.out.2 ⟨rfl, fun h => absurd h (Nat.lt_irrefl _)⟩))
             clear HNo2 HYes2 HI2 HPC
             generalize (XW.getD 0 wtv0).q = xq at *
             refine wpAnyH_take (i := 0) (v := ?_) rfl (by kernel_rfl) (by kernel_rfl) (by kernel_rfl) (fun _ _ _ h => h) (Or.inl ⟨by rfl, fun W hW => ?_⟩) h0 ?_
             rotate_left
             ·have q0 := (hW.cell (p := ⟨BW, 2, none⟩) HvB2.out).trans y2.out
              have q1 := (hW.cell (p := ⟨w.heap.size, 3, none⟩) HvO2.out).trans y3.out
              have q2 := (hW.cell (p := ⟨g2, off2 + 0 * 3 + 2, none⟩) HvG2.out).trans e2.out
              clear hW
              go_simp
              try with_reducible rfl
             simp only [Act.put, l1, l2, l3, l4, l5, l6]
             refine wpAnyH_take (i := 1) (v := ?_) rfl (by kernel_rfl) (by kernel_rfl) (by kernel_rfl) (fun _ _ _ h => h) (Or.inl ⟨by rfl, fun W hW => ?_⟩) h0 ?_
             rotate_left
             ·have q0 := (hW.cell (p := ⟨BW, 2, none⟩) HvB2.out).trans y2.out
              have q1 := (hW.cell (p := ⟨w.heap.size, 3, none⟩) HvO2.out).trans y3.out
              have q2 := (hW.cell (p := ⟨g2, off2 + 0 * 3 + 2, none⟩) HvG2.out).trans e2.out
              clear hW
              go_simp
              try with_reducible rfl
             simp only [Act.put, l1, l2, l3, l4, l5, l6]
             refine wpAnyH_take (i := 2) (v := ?_) rfl (by kernel_rfl) (by kernel_rfl) (by kernel_rfl) (fun _ _ _ h => h) (Or.inl ⟨by rfl, fun W hW => ?_⟩) h0 ?_
             rotate_left
             ·have q0 := (hW.cell (p := ⟨BW, 2, none⟩) HvB2.out).trans y2.out
              have q1 := (hW.cell (p := ⟨w.heap.size, 3, none⟩) HvO2.out).trans y3.out
              have q2 := (hW.cell (p := ⟨g2, off2 + 0 * 3 + 2, none⟩) HvG2.out).trans e2.out
              clear hW
              go_simp
              try with_reducible rfl
             simp only [Act.put, l1, l2, l3, l4, l5, l6]
             refine wpAnyH_take (i := 3) (v := ?_) rfl (by kernel_rfl) (by kernel_rfl) (by kernel_rfl) (fun _ _ _ h => h) (Or.inl ⟨by rfl, fun W hW => ?_⟩) h0 ?_
             rotate_left
             ·have q0 := (hW.cell (p := ⟨BW, 2, none⟩) HvB2.out).trans y2.out
              have q1 := (hW.cell (p := ⟨w.heap.size, 3, none⟩) HvO2.out).trans y3.out
              have q2 := (hW.cell (p := ⟨g2, off2 + 0 * 3 + 2, none⟩) HvG2.out).trans e2.out
              clear hW
              go_simp
              try with_reducible rfl
             simp only [Act.put, l1, l2, l3, l4, l5, l6]
             refine wpAnyH_take (i := 4) (v := ?_) rfl (by kernel_rfl) (by kernel_rfl) (by kernel_rfl) (fun _ _ _ h => h) (Or.inl ⟨by rfl, fun W hW => ?_⟩) h0 ?_
             rotate_left
             ·have q0 := (hW.cell (p := ⟨BW, 2, none⟩) HvB2.out).trans y2.out
              have q1 := (hW.cell (p := ⟨w.heap.size, 3, none⟩) HvO2.out).trans y3.out
              have q2 := (hW.cell (p := ⟨g2, off2 + 0 * 3 + 2, none⟩) HvG2.out).trans e2.out
              clear hW
              go_simp
              try with_reducible rfl
             simp only [Act.put, l1, l2, l3, l4, l5, l6]
             refine wpAnyH_take (i := 5) (v := ?_) rfl (by kernel_rfl) (by kernel_rfl) (by kernel_rfl) (fun _ _ _ h => h) (Or.inl ⟨by rfl, fun W hW => ?_⟩) h0 ?_
             rotate_left
             ·have q0 := (hW.cell (p := ⟨BW, 2, none⟩) HvB2.out).trans y2.out
              have q1 := (hW.cell (p := ⟨w.heap.size, 3, none⟩) HvO2.out).trans y3.out
              have q2 := (hW.cell (p := ⟨g2, off2 + 0 * 3 + 2, none⟩) HvG2.out).trans e2.out
              clear hW
              go_simp
              try with_reducible rfl
             simp only [Act.put, l1, l2, l3, l4, l5, l6]
             refine wpAnyH_take (i := 6) (v := ?_) rfl (by kernel_rfl) (by kernel_rfl) (by kernel_rfl) (fun _ _ _ h => h) (Or.inl ⟨by rfl, fun W hW => ?_⟩) h0 ?_
             rotate_left
             ·have q0 := (hW.cell (p := ⟨BW, 2, none⟩) HvB2.out).trans y2.out
              have q1 := (hW.cell (p := ⟨w.heap.size, 3, none⟩) HvO2.out).trans y3.out
              have q2 := (hW.cell (p := ⟨g2, off2 + 0 * 3 + 2, none⟩) HvG2.out).trans e2.out
              clear hW
              go_simp
              try with_reducible rfl
             simp only [Act.put, l1, l2, l3, l4, l5, l6]
             refine wpAnyH_take (i := 7) (v := ?_) rfl (by kernel_rfl) (by kernel_rfl) (by kernel_rfl) (fun _ _ _ h => h) (Or.inl ⟨by rfl, fun W hW => ?_⟩) h0 ?_
             rotate_left
             ·have q0 := (hW.cell (p := ⟨BW, 2, none⟩) HvB2.out).trans y2.out
              have q1 := (hW.cell (p := ⟨w.heap.size, 3, none⟩) HvO2.out).trans y3.out
              have q2 := (hW.cell (p := ⟨g2, off2 + 0 * 3 + 2, none⟩) HvG2.out).trans e2.out
              clear hW
              go_simp
              try with_reducible rfl
             simp only [Act.put, l1, l2, l3, l4, l5, l6]
             refine wpAnyH_take (i := 8) (v := ?_) rfl (by kernel_rfl) (by kernel_rfl) (by kernel_rfl) (fun _ _ _ h => h) (Or.inl ⟨by rfl, fun W hW => ?_⟩) h0 ?_
             rotate_left
             ·have q0 := (hW.cell (p := ⟨BW, 2, none⟩) HvB2.out).trans y2.out
              have q1 := (hW.cell (p := ⟨w.heap.size, 3, none⟩) HvO2.out).trans y3.out
              have q2 := (hW.cell (p := ⟨g2, off2 + 0 * 3 + 2, none⟩) HvG2.out).trans e2.out
              clear hW
              go_simp
              try with_reducible rfl
             simp only [Act.put, l1, l2, l3, l4, l5, l6]
             refine wpAnyH_ready (rs := [9]) (by kernel_rfl) (by simp) (AllReadyH.cons rfl (fun K hK => ?_) AllReadyH.nil)
             go_simp
             go_wp2_with (go_at_call 51; refine (C2.out _).mono ?_; rintro e wc ⟨rfl, rfl⟩)
             refine hK.out _ _ h0 (fun h1 => ?_)
             clear hK K h0
             refine wpAnyH_take (i := 10) (v := ?_) rfl (by kernel_rfl) (by kernel_rfl) (by kernel_rfl) (fun _ _ _ h => h) (Or.inl ⟨by rfl, fun W hW => ?_⟩) h1 ?_
             rotate_left
             ·have q0 := (hW.cell (p := ⟨BW, 2, none⟩) HvB2.out).trans y2.out
              have q1 := (hW.cell (p := ⟨w.heap.size, 3, none⟩) HvO2.out).trans y3.out
              have q2 := (hW.cell (p := ⟨g2, off2 + 0 * 3 + 2, none⟩) HvG2.out).trans e2.out
              clear hW
              go_simp
              try with_reducible rfl
             simp only [Act.put, l1, l2, l3, l4, l5, l6]
             refine wpAnyH_take (i := 11) (v := ?_) rfl (by kernel_rfl) (by kernel_rfl) (by kernel_rfl) (fun _ _ _ h => h) (Or.inl ⟨by rfl, fun W hW => ?_⟩) h1 ?_
             rotate_left
             ·have q0 := (hW.cell (p := ⟨BW, 2, none⟩) HvB2.out).trans y2.out
              have q1 := (hW.cell (p := ⟨w.heap.size, 3, none⟩) HvO2.out).trans y3.out
              have q2 := (hW.cell (p := ⟨g2, off2 + 0 * 3 + 2, none⟩) HvG2.out).trans e2.out
              clear hW
              go_simp
              try with_reducible rfl
             simp only [Act.put, l1, l2, l3, l4, l5, l6]
             refine wpAnyH_take (i := 12) (v := ?_) rfl (by kernel_rfl) (by kernel_rfl) (by kernel_rfl) (fun _ _ _ h => h) (Or.inl ⟨by rfl, fun W hW => ?_⟩) h1 ?_
             rotate_left
             ·have q0 := (hW.cell (p := ⟨BW, 2, none⟩) HvB2.out).trans y2.out
              have q1 := (hW.cell (p := ⟨w.heap.size, 3, none⟩) HvO2.out).trans y3.out
              have q2 := (hW.cell (p := ⟨g2, off2 + 0 * 3 + 2, none⟩) HvG2.out).trans e2.out
              clear hW
              go_simp
              try with_reducible rfl
             simp only [Act.put, l1, l2, l3, l4, l5, l6]
             refine wpAnyH_take (i := 13) (v := ?_) rfl (by kernel_rfl) (by kernel_rfl) (by kernel_rfl) (fun _ _ _ h => h) (Or.inl ⟨by rfl, fun W hW => ?_⟩) h1 ?_
             rotate_left
             ·have q0 := (hW.cell (p := ⟨BW, 2, none⟩) HvB2.out).trans y2.out
              have q1 := (hW.cell (p := ⟨w.heap.size, 3, none⟩) HvO2.out).trans y3.out
              have q2 := (hW.cell (p := ⟨g2, off2 + 0 * 3 + 2, none⟩) HvG2.out).trans e2.out
              clear hW
              go_simp
              try with_reducible rfl
             simp only [Act.put, l1, l2, l3, l4, l5, l6]
             refine wpAnyH_take (i := 14) (v := ?_) rfl (by kernel_rfl) (by kernel_rfl) (by kernel_rfl) (fun _ _ _ h => h) (Or.inl ⟨by rfl, fun W hW => ?_⟩) h1 ?_
             rotate_left
             ·have q0 := (hW.cell (p := ⟨BW, 2, none⟩) HvB2.out).trans y2.out
              have q1 := (hW.cell (p := ⟨w.heap.size, 3, none⟩) HvO2.out).trans y3.out
              have q2 := (hW.cell (p := ⟨g2, off2 + 0 * 3 + 2, none⟩) HvG2.out).trans e2.out
              clear hW
              go_simp
              try with_reducible rfl
             simp only [Act.put, l1, l2, l3, l4, l5, l6]
             refine wpAnyH_take (i := 15) (v := undef) rfl (by kernel_rfl) (by kernel_rfl) (by kernel_rfl) (fun _ _ _ h => h) (Or.inr ⟨by rfl, rfl⟩) h1 ?_
             simp only [Act.put, l1, l2, l3, l4, l5, l6]
             refine wpAnyH_take (i := 16) (v := undef) rfl (by kernel_rfl) (by kernel_rfl) (by kernel_rfl) (fun _ _ _ h => h) (Or.inr ⟨by rfl, rfl⟩) h1 ?_
             simp only [Act.put, l1, l2, l3, l4, l5, l6]
             refine wpAnyH_take (i := 17) (v := undef) rfl (by kernel_rfl) (by kernel_rfl) (by kernel_rfl) (fun _ _ _ h => h) (Or.inr ⟨by rfl, rfl⟩) h1 ?_
             simp only [Act.put, l1, l2, l3, l4, l5, l6]
             refine wpAnyH_take (i := 18) (v := undef) rfl (by kernel_rfl) (by kernel_rfl) (by kernel_rfl) (fun _ _ _ h => h) (Or.inr ⟨by rfl, rfl⟩) h1 ?_
             simp only [Act.put, l1, l2, l3, l4, l5, l6]
             refine wpAnyH_take (i := 19) (v := undef) rfl (by kernel_rfl) (by kernel_rfl) (by kernel_rfl) (fun _ _ _ h => h) (Or.inr ⟨by rfl, rfl⟩) h1 ?_
             simp only [Act.put, l1, l2, l3, l4, l5, l6]
             refine wpAnyH_take (i := 20) (v := undef) rfl (by kernel_rfl) (by kernel_rfl) (by kernel_rfl) (fun _ _ _ h => h) (Or.inr ⟨by rfl, rfl⟩) h1 ?_
             simp only [Act.put, l1, l2, l3, l4, l5, l6]
             refine wpAnyH_take (i := 21) (v := undef) rfl (by kernel_rfl) (by kernel_rfl) (by kernel_rfl) (fun _ _ _ h => h) (Or.inr ⟨by rfl, rfl⟩) h1 ?_
             simp only [Act.put, l1, l2, l3, l4, l5, l6]
             refine wpAnyH_take (i := 22) (v := undef) rfl (by kernel_rfl) (by kernel_rfl) (by kernel_rfl) (fun _ _ _ h => h) (Or.inr ⟨by rfl, rfl⟩) h1 ?_
             simp only [Act.put, l1, l2, l3, l4, l5, l6]
             refine wpAnyH_take (i := 23) (v := undef) rfl (by kernel_rfl) (by kernel_rfl) (by kernel_rfl) (fun _ _ _ h => h) (Or.inr ⟨by rfl, rfl⟩) h1 ?_
             simp only [Act.put, l1, l2, l3, l4, l5, l6]
             refine wpAnyH_take (i := 24) (v := undef) rfl (by kernel_rfl) (by kernel_rfl) (by kernel_rfl) (fun _ _ _ h => h) (Or.inr ⟨by rfl, rfl⟩) h1 ?_
             simp only [Act.put, l1, l2, l3, l4, l5, l6]
             refine wpAnyH_take (i := 25) (v := undef) rfl (by kernel_rfl) (by kernel_rfl) (by kernel_rfl) (fun _ _ _ h => h) (Or.inr ⟨by rfl, rfl⟩) h1 ?_
             simp only [Act.put, l1, l2, l3, l4, l5, l6]
             refine wpAnyH_take (i := 26) (v := undef) rfl (by kernel_rfl) (by kernel_rfl) (by kernel_rfl) (fun _ _ _ h => h) (Or.inr ⟨by rfl, rfl⟩) h1 ?_
             simp only [Act.put, l1, l2, l3, l4, l5, l6]
             refine wpAnyH_take (i := 27) (v := undef) rfl (by kernel_rfl) (by kernel_rfl) (by kernel_rfl) (fun _ _ _ h => h) (Or.inr ⟨by rfl, rfl⟩) h1 ?_
             simp only [Act.put, l1, l2, l3, l4, l5, l6]
             refine wpAnyH_take (i := 28) (v := ?_) rfl (by kernel_rfl) (by kernel_rfl) (by kernel_rfl) (fun _ _ _ h => h) (Or.inl ⟨by rfl, fun W hW => ?_⟩) h1 ?_
             rotate_left
             ·have q0 := (hW.cell (p := ⟨BW, 2, none⟩) HvB2.out).trans y2.out
              have q1 := (hW.cell (p := ⟨w.heap.size, 3, none⟩) HvO2.out).trans y3.out
              have q2 := (hW.cell (p := ⟨g2, off2 + 0 * 3 + 2, none⟩) HvG2.out).trans e2.out
              clear hW
              go_simp
              try with_reducible rfl
             simp only [Act.put, l1, l2, l3, l4, l5, l6]
             refine wpAnyH_take (i := 29) (v := ?_) rfl (by kernel_rfl) (by kernel_rfl) (by kernel_rfl) (fun _ _ _ h => h) (Or.inl ⟨by rfl, fun W hW => ?_⟩) h1 ?_
             rotate_left
             ·have q0 := (hW.cell (p := ⟨BW, 2, none⟩) HvB2.out).trans y2.out
              have q1 := (hW.cell (p := ⟨w.heap.size, 3, none⟩) HvO2.out).trans y3.out
              have q2 := (hW.cell (p := ⟨g2, off2 + 0 * 3 + 2, none⟩) HvG2.out).trans e2.out
              clear hW
              go_simp
              try with_reducible rfl
             simp only [Act.put, l1, l2, l3, l4, l5, l6]
             refine wpAnyH_done (by kernel_rfl) ?_ _
             have B2 := hbV.trans (h1.mono hbV.size)
             clear h1
             go_wp2_with fail
             go_roundw
             case rel => exact ⟨1, by omega, by go_num, HZ.out, B2⟩
             case measure => simp [intOf]; omega
            ·obtain ⟨m', rfl⟩ : ∃ m', m2 = m' + 1 := ⟨m2 - 1, by omega⟩
             obtain ⟨f0', f1', f2'⟩ := HPC.out m' (by omega)
             have f0 := hidM f0'
             have f1 := hidM f1'
             have f2 := hidM f2'
             have C3 : Hid (∀ W, Calls Tryz.prog 105 #[.agg #[.string (XW.getD m' wtv0).k, .int .i64 (XW.getD m' wtv0).p, .int .i64 (XW.getD m' wtv0).q], .agg #[.string (XW.getD (m' + 1) wtv0).k, .int .i64 (XW.getD (m' + 1) wtv0).p, .int .i64 (XW.getD (m' + 1) wtv0).q]] W fun e w' => e = .returned (.bool (wBef (XW.getD m' wtv0) (XW.getD (m' + 1) wtv0))) ∧ Below W.heap.size W w') := fun W => specBefore _ _ W
             have HI3 : Hid (QI ↔ wBef (XW.getD m' wtv0) (XW.getD (m' + 1) wtv0) = true) := hidM (HI2.out.trans ⟨fun h => by have := h.2 (by omega); rwa [Nat.add_sub_cancel] at this, fun h => ⟨rfl, fun _ => by rw [Nat.add_sub_cancel]; exact h⟩⟩)
             have hkz : ((m' + 1 : Nat) : Int) - 1 = (m' : Int) := by omega
             have hkp : (0 : Int) < ((m' + 1 : Nat) : Int) := by omega
             have hkl : (m' : Int) < (XW.length : Int) := by omega
             have hkm1 : (0 : Int) ≤ (m' : Int) + 1 := by omega
             have hkm2 : (m' : Int) + 1 < (XW.length : Int) := by omega
             have hkw : IntKind.i64.wrap (m' : Int) = (m' : Int) := by rw [IntKind.wrap_i64]; omega
             clear HI2 HPC f0' f1' f2'
             generalize wBef (XW.getD m' wtv0) (XW.getD (m' + 1) wtv0) = b3 at *
             generalize (XW.getD m' wtv0).k = yk at *
             generalize (XW.getD m' wtv0).p = yp at *
             generalize (XW.getD m' wtv0).q = yq at *
             generalize (XW.getD (m' + 1) wtv0).k = xk at *
             generalize (XW.getD (m' + 1) wtv0).p = xp at *
             generalize (XW.getD (m' + 1) wtv0).q = xq at *
             cases b3 with
             | false =>
              have HZ := hidM (HNo2.out (fun h => by have := HI3.out.1 h; cases this))
              clear HNo2 HYes2 HI3
              refine wpAnyH_take (i := 0) (v := ?_) rfl (by kernel_rfl) (by kernel_rfl) (by kernel_rfl) (fun _ _ _ h => h) (Or.inl ⟨by rfl, fun W hW => ?_⟩) h0 ?_
              rotate_left
              ·have q0 := (hW.cell (p := ⟨BW, 2, none⟩) HvB2.out).trans y2.out
               have q1 := (hW.cell (p := ⟨w.heap.size, 3, none⟩) HvO2.out).trans y3.out
               have q2 := (hW.cell (p := ⟨g2, off2 + (m' + 1) * 3 + 2, none⟩) HvG2.out).trans e2.out
               clear hW
               go_simp
               try with_reducible rfl
              simp only [Act.put, l1, l2, l3, l4, l5, l6]
              refine wpAnyH_take (i := 1) (v := ?_) rfl (by kernel_rfl) (by kernel_rfl) (by kernel_rfl) (fun _ _ _ h => h) (Or.inl ⟨by rfl, fun W hW => ?_⟩) h0 ?_
              rotate_left
              ·have q0 := (hW.cell (p := ⟨BW, 2, none⟩) HvB2.out).trans y2.out
               have q1 := (hW.cell (p := ⟨w.heap.size, 3, none⟩) HvO2.out).trans y3.out
               have q2 := (hW.cell (p := ⟨g2, off2 + (m' + 1) * 3 + 2, none⟩) HvG2.out).trans e2.out
               clear hW
               go_simp
               try with_reducible rfl
              simp only [Act.put, l1, l2, l3, l4, l5, l6]
              refine wpAnyH_take (i := 2) (v := ?_) rfl (by kernel_rfl) (by kernel_rfl) (by kernel_rfl) (fun _ _ _ h => h) (Or.inl ⟨by rfl, fun W hW => ?_⟩) h0 ?_
              rotate_left
              ·have q0 := (hW.cell (p := ⟨BW, 2, none⟩) HvB2.out).trans y2.out
               have q1 := (hW.cell (p := ⟨w.heap.size, 3, none⟩) HvO2.out).trans y3.out
               have q2 := (hW.cell (p := ⟨g2, off2 + (m' + 1) * 3 + 2, none⟩) HvG2.out).trans e2.out
               clear hW
               go_simp
               try with_reducible rfl
              simp only [Act.put, l1, l2, l3, l4, l5, l6]
              refine wpAnyH_take (i := 3) (v := ?_) rfl (by kernel_rfl) (by kernel_rfl) (by kernel_rfl) (fun _ _ _ h => h) (Or.inl ⟨by rfl, fun W hW => ?_⟩) h0 ?_
              rotate_left
              ·have q0 := (hW.cell (p := ⟨BW, 2, none⟩) HvB2.out).trans y2.out
               have q1 := (hW.cell (p := ⟨w.heap.size, 3, none⟩) HvO2.out).trans y3.out
               have q2 := (hW.cell (p := ⟨g2, off2 + (m' + 1) * 3 + 2, none⟩) HvG2.out).trans e2.out
               clear hW
               go_simp
               try with_reducible rfl
              simp only [Act.put, l1, l2, l3, l4, l5, l6]
              refine wpAnyH_take (i := 4) (v := ?_) rfl (by kernel_rfl) (by kernel_rfl) (by kernel_rfl) (fun _ _ _ h => h) (Or.inl ⟨by rfl, fun W hW => ?_⟩) h0 ?_
              rotate_left
              ·have q0 := (hW.cell (p := ⟨BW, 2, none⟩) HvB2.out).trans y2.out
               have q1 := (hW.cell (p := ⟨w.heap.size, 3, none⟩) HvO2.out).trans y3.out
               have q2 := (hW.cell (p := ⟨g2, off2 + (m' + 1) * 3 + 2, none⟩) HvG2.out).trans e2.out
               clear hW
               go_simp
               try with_reducible rfl
              simp only [Act.put, l1, l2, l3, l4, l5, l6]
              refine wpAnyH_take (i := 5) (v := ?_) rfl (by kernel_rfl) (by kernel_rfl) (by kernel_rfl) (fun _ _ _ h => h) (Or.inl ⟨by rfl, fun W hW => ?_⟩) h0 ?_
              rotate_left
              ·have q0 := (hW.cell (p := ⟨BW, 2, none⟩) HvB2.out).trans y2.out
               have q1 := (hW.cell (p := ⟨w.heap.size, 3, none⟩) HvO2.out).trans y3.out
               have q2 := (hW.cell (p := ⟨g2, off2 + (m' + 1) * 3 + 2, none⟩) HvG2.out).trans e2.out
               clear hW
               go_simp
               try with_reducible rfl
              simp only [Act.put, l1, l2, l3, l4, l5, l6]
              refine wpAnyH_take (i := 6) (v := ?_) rfl (by kernel_rfl) (by kernel_rfl) (by kernel_rfl) (fun _ _ _ h => h) (Or.inl ⟨by rfl, fun W hW => ?_⟩) h0 ?_
              rotate_left
              ·have q0 := (hW.cell (p := ⟨BW, 2, none⟩) HvB2.out).trans y2.out
               have q1 := (hW.cell (p := ⟨w.heap.size, 3, none⟩) HvO2.out).trans y3.out
               have q2 := (hW.cell (p := ⟨g2, off2 + (m' + 1) * 3 + 2, none⟩) HvG2.out).trans e2.out
               clear hW
               go_simp
               try with_reducible rfl
              simp only [Act.put, l1, l2, l3, l4, l5, l6]
              refine wpAnyH_take (i := 7) (v := ?_) rfl (by kernel_rfl) (by kernel_rfl) (by kernel_rfl) (fun _ _ _ h => h) (Or.inl ⟨by rfl, fun W hW => ?_⟩) h0 ?_
              rotate_left
              ·have q0 := (hW.cell (p := ⟨BW, 2, none⟩) HvB2.out).trans y2.out
               have q1 := (hW.cell (p := ⟨w.heap.size, 3, none⟩) HvO2.out).trans y3.out
               have q2 := (hW.cell (p := ⟨g2, off2 + (m' + 1) * 3 + 2, none⟩) HvG2.out).trans e2.out
               clear hW
               go_simp
               try with_reducible rfl
              simp only [Act.put, l1, l2, l3, l4, l5, l6]
              refine wpAnyH_take (i := 8) (v := ?_) rfl (by kernel_rfl) (by kernel_rfl) (by kernel_rfl) (fun _ _ _ h => h) (Or.inl ⟨by rfl, fun W hW => ?_⟩) h0 ?_
              rotate_left
              ·have q0 := (hW.cell (p := ⟨BW, 2, none⟩) HvB2.out).trans y2.out
               have q1 := (hW.cell (p := ⟨w.heap.size, 3, none⟩) HvO2.out).trans y3.out
               have q2 := (hW.cell (p := ⟨g2, off2 + (m' + 1) * 3 + 2, none⟩) HvG2.out).trans e2.out
               clear hW
               go_simp
               try with_reducible rfl
              simp only [Act.put, l1, l2, l3, l4, l5, l6]
              refine wpAnyH_ready (rs := [9]) (by kernel_rfl) (by simp) (AllReadyH.cons rfl (fun K hK => ?_) AllReadyH.nil)
              go_simp
              go_wp2_with (go_at_call 51; refine (C2.out _).mono ?_; rintro e wc ⟨rfl, rfl⟩)
              refine hK.out _ _ h0 (fun h1 => ?_)
              clear hK K h0
              refine wpAnyH_take (i := 10) (v := ?_) rfl (by kernel_rfl) (by kernel_rfl) (by kernel_rfl) (fun _ _ _ h => h) (Or.inl ⟨by rfl, fun W hW => ?_⟩) h1 ?_
              rotate_left
              ·have q0 := (hW.cell (p := ⟨BW, 2, none⟩) HvB2.out).trans y2.out
               have q1 := (hW.cell (p := ⟨w.heap.size, 3, none⟩) HvO2.out).trans y3.out
               have q2 := (hW.cell (p := ⟨g2, off2 + (m' + 1) * 3 + 2, none⟩) HvG2.out).trans e2.out
               clear hW
               go_simp
               try with_reducible rfl
              simp only [Act.put, l1, l2, l3, l4, l5, l6]
              refine wpAnyH_take (i := 11) (v := ?_) rfl (by kernel_rfl) (by kernel_rfl) (by kernel_rfl) (fun _ _ _ h => h) (Or.inl ⟨by rfl, fun W hW => ?_⟩) h1 ?_
              rotate_left
              ·have q0 := (hW.cell (p := ⟨BW, 2, none⟩) HvB2.out).trans y2.out
               have q1 := (hW.cell (p := ⟨w.heap.size, 3, none⟩) HvO2.out).trans y3.out
               have q2 := (hW.cell (p := ⟨g2, off2 + (m' + 1) * 3 + 2, none⟩) HvG2.out).trans e2.out
               clear hW
               go_simp
               try with_reducible rfl
              simp only [Act.put, l1, l2, l3, l4, l5, l6]
              refine wpAnyH_take (i := 12) (v := ?_) rfl (by kernel_rfl) (by kernel_rfl) (by kernel_rfl) (fun _ _ _ h => h) (Or.inl ⟨by rfl, fun W hW => ?_⟩) h1 ?_
              rotate_left
              ·have q0 := (hW.cell (p := ⟨BW, 2, none⟩) HvB2.out).trans y2.out
               have q1 := (hW.cell (p := ⟨w.heap.size, 3, none⟩) HvO2.out).trans y3.out
               have q2 := (hW.cell (p := ⟨g2, off2 + (m' + 1) * 3 + 2, none⟩) HvG2.out).trans e2.out
               clear hW
               go_simp
               try with_reducible rfl
              simp only [Act.put, l1, l2, l3, l4, l5, l6]
              refine wpAnyH_take (i := 13) (v := ?_) rfl (by kernel_rfl) (by kernel_rfl) (by kernel_rfl) (fun _ _ _ h => h) (Or.inl ⟨by rfl, fun W hW => ?_⟩) h1 ?_
              rotate_left
              ·have q0 := (hW.cell (p := ⟨BW, 2, none⟩) HvB2.out).trans y2.out
               have q1 := (hW.cell (p := ⟨w.heap.size, 3, none⟩) HvO2.out).trans y3.out
               have q2 := (hW.cell (p := ⟨g2, off2 + (m' + 1) * 3 + 2, none⟩) HvG2.out).trans e2.out
               clear hW
               go_simp
               try with_reducible rfl
              simp only [Act.put, l1, l2, l3, l4, l5, l6]
              refine wpAnyH_take (i := 14) (v := ?_) rfl (by kernel_rfl) (by kernel_rfl) (by kernel_rfl) (fun _ _ _ h => h) (Or.inl ⟨by rfl, fun W hW => ?_⟩) h1 ?_
              rotate_left
              ·have q0 := (hW.cell (p := ⟨BW, 2, none⟩) HvB2.out).trans y2.out
               have q1 := (hW.cell (p := ⟨w.heap.size, 3, none⟩) HvO2.out).trans y3.out
               have q2 := (hW.cell (p := ⟨g2, off2 + (m' + 1) * 3 + 2, none⟩) HvG2.out).trans e2.out
               clear hW
               go_simp
               try with_reducible rfl
              simp only [Act.put, l1, l2, l3, l4, l5, l6]
              refine wpAnyH_take (i := 15) (v := ?_) rfl (by kernel_rfl) (by kernel_rfl) (by kernel_rfl) (fun _ _ _ h => h) (Or.inl ⟨by rfl, fun W hW => ?_⟩) h1 ?_
              rotate_left
              ·have q0 := (hW.cell (p := ⟨BW, 2, none⟩) HvB2.out).trans y2.out
               have q1 := (hW.cell (p := ⟨g2, off2 + (m' + 1) * 3, none⟩) HvG2.out).trans e0.out
               have q2 := (hW.cell (p := ⟨g2, off2 + (m' + 1) * 3 + 1, none⟩) HvG2.out).trans e1.out
               have q3 := (hW.cell (p := ⟨g2, off2 + (m' + 1) * 3 + 2, none⟩) HvG2.out).trans e2.out
               have q4 := (hW.cell (p := ⟨g2, off2 + m' * 3, none⟩) HvG2.out).trans f0.out
               have q5 := (hW.cell (p := ⟨g2, off2 + m' * 3 + 1, none⟩) HvG2.out).trans f1.out
               have q6 := (hW.cell (p := ⟨g2, off2 + m' * 3 + 2, none⟩) HvG2.out).trans f2.out
               clear hW
               go_simp
               try with_reducible rfl
              simp only [Act.put, l1, l2, l3, l4, l5, l6]
              refine wpAnyH_take (i := 16) (v := ?_) rfl (by kernel_rfl) (by kernel_rfl) (by kernel_rfl) (fun _ _ _ h => h) (Or.inl ⟨by rfl, fun W hW => ?_⟩) h1 ?_
              rotate_left
              ·have q0 := (hW.cell (p := ⟨BW, 2, none⟩) HvB2.out).trans y2.out
               have q1 := (hW.cell (p := ⟨g2, off2 + (m' + 1) * 3, none⟩) HvG2.out).trans e0.out
               have q2 := (hW.cell (p := ⟨g2, off2 + (m' + 1) * 3 + 1, none⟩) HvG2.out).trans e1.out
               have q3 := (hW.cell (p := ⟨g2, off2 + (m' + 1) * 3 + 2, none⟩) HvG2.out).trans e2.out
               have q4 := (hW.cell (p := ⟨g2, off2 + m' * 3, none⟩) HvG2.out).trans f0.out
               have q5 := (hW.cell (p := ⟨g2, off2 + m' * 3 + 1, none⟩) HvG2.out).trans f1.out
               have q6 := (hW.cell (p := ⟨g2, off2 + m' * 3 + 2, none⟩) HvG2.out).trans f2.out
               clear hW
               go_simp
               try with_reducible rfl
              simp only [Act.put, l1, l2, l3, l4, l5, l6]
              refine wpAnyH_take (i := 17) (v := ?_) rfl (by kernel_rfl) (by kernel_rfl) (by kernel_rfl) (fun _ _ _ h => h) (Or.inl ⟨by rfl, fun W hW => ?_⟩) h1 ?_
              rotate_left
              ·have q0 := (hW.cell (p := ⟨BW, 2, none⟩) HvB2.out).trans y2.out
               have q1 := (hW.cell (p := ⟨g2, off2 + (m' + 1) * 3, none⟩) HvG2.out).trans e0.out
               have q2 := (hW.cell (p := ⟨g2, off2 + (m' + 1) * 3 + 1, none⟩) HvG2.out).trans e1.out
               have q3 := (hW.cell (p := ⟨g2, off2 + (m' + 1) * 3 + 2, none⟩) HvG2.out).trans e2.out
               have q4 := (hW.cell (p := ⟨g2, off2 + m' * 3, none⟩) HvG2.out).trans f0.out
               have q5 := (hW.cell (p := ⟨g2, off2 + m' * 3 + 1, none⟩) HvG2.out).trans f1.out
               have q6 := (hW.cell (p := ⟨g2, off2 + m' * 3 + 2, none⟩) HvG2.out).trans f2.out
               clear hW
               go_simp
               try with_reducible rfl
              simp only [Act.put, l1, l2, l3, l4, l5, l6]
              refine wpAnyH_take (i := 18) (v := ?_) rfl (by kernel_rfl) (by kernel_rfl) (by kernel_rfl) (fun _ _ _ h => h) (Or.inl ⟨by rfl, fun W hW => ?_⟩) h1 ?_
              rotate_left
              ·have q0 := (hW.cell (p := ⟨BW, 2, none⟩) HvB2.out).trans y2.out
               have q1 := (hW.cell (p := ⟨g2, off2 + (m' + 1) * 3, none⟩) HvG2.out).trans e0.out
               have q2 := (hW.cell (p := ⟨g2, off2 + (m' + 1) * 3 + 1, none⟩) HvG2.out).trans e1.out
               have q3 := (hW.cell (p := ⟨g2, off2 + (m' + 1) * 3 + 2, none⟩) HvG2.out).trans e2.out
               have q4 := (hW.cell (p := ⟨g2, off2 + m' * 3, none⟩) HvG2.out).trans f0.out
               have q5 := (hW.cell (p := ⟨g2, off2 + m' * 3 + 1, none⟩) HvG2.out).trans f1.out
               have q6 := (hW.cell (p := ⟨g2, off2 + m' * 3 + 2, none⟩) HvG2.out).trans f2.out
               clear hW
               go_simp
               try with_reducible rfl
              simp only [Act.put, l1, l2, l3, l4, l5, l6]
              refine wpAnyH_take (i := 19) (v := ?_) rfl (by kernel_rfl) (by kernel_rfl) (by kernel_rfl) (fun _ _ _ h => h) (Or.inl ⟨by rfl, fun W hW => ?_⟩) h1 ?_
              rotate_left
              ·have q0 := (hW.cell (p := ⟨BW, 2, none⟩) HvB2.out).trans y2.out
               have q1 := (hW.cell (p := ⟨g2, off2 + (m' + 1) * 3, none⟩) HvG2.out).trans e0.out
               have q2 := (hW.cell (p := ⟨g2, off2 + (m' + 1) * 3 + 1, none⟩) HvG2.out).trans e1.out
               have q3 := (hW.cell (p := ⟨g2, off2 + (m' + 1) * 3 + 2, none⟩) HvG2.out).trans e2.out
               have q4 := (hW.cell (p := ⟨g2, off2 + m' * 3, none⟩) HvG2.out).trans f0.out
               have q5 := (hW.cell (p := ⟨g2, off2 + m' * 3 + 1, none⟩) HvG2.out).trans f1.out
               have q6 := (hW.cell (p := ⟨g2, off2 + m' * 3 + 2, none⟩) HvG2.out).trans f2.out
               clear hW
               go_simp
               try with_reducible rfl
              simp only [Act.put, l1, l2, l3, l4, l5, l6]
              refine wpAnyH_take (i := 20) (v := ?_) rfl (by kernel_rfl) (by kernel_rfl) (by kernel_rfl) (fun _ _ _ h => h) (Or.inl ⟨by rfl, fun W hW => ?_⟩) h1 ?_
              rotate_left
              ·have q0 := (hW.cell (p := ⟨BW, 2, none⟩) HvB2.out).trans y2.out
               have q1 := (hW.cell (p := ⟨g2, off2 + (m' + 1) * 3, none⟩) HvG2.out).trans e0.out
               have q2 := (hW.cell (p := ⟨g2, off2 + (m' + 1) * 3 + 1, none⟩) HvG2.out).trans e1.out
               have q3 := (hW.cell (p := ⟨g2, off2 + (m' + 1) * 3 + 2, none⟩) HvG2.out).trans e2.out
               have q4 := (hW.cell (p := ⟨g2, off2 + m' * 3, none⟩) HvG2.out).trans f0.out
               have q5 := (hW.cell (p := ⟨g2, off2 + m' * 3 + 1, none⟩) HvG2.out).trans f1.out
               have q6 := (hW.cell (p := ⟨g2, off2 + m' * 3 + 2, none⟩) HvG2.out).trans f2.out
               clear hW
               go_simp
               try with_reducible rfl
              simp only [Act.put, l1, l2, l3, l4, l5, l6]
              refine wpAnyH_take (i := 21) (v := ?_) rfl (by kernel_rfl) (by kernel_rfl) (by kernel_rfl) (fun _ _ _ h => h) (Or.inl ⟨by rfl, fun W hW => ?_⟩) h1 ?_
              rotate_left
              ·have q0 := (hW.cell (p := ⟨BW, 2, none⟩) HvB2.out).trans y2.out
               have q1 := (hW.cell (p := ⟨g2, off2 + (m' + 1) * 3, none⟩) HvG2.out).trans e0.out
               have q2 := (hW.cell (p := ⟨g2, off2 + (m' + 1) * 3 + 1, none⟩) HvG2.out).trans e1.out
               have q3 := (hW.cell (p := ⟨g2, off2 + (m' + 1) * 3 + 2, none⟩) HvG2.out).trans e2.out
               have q4 := (hW.cell (p := ⟨g2, off2 + m' * 3, none⟩) HvG2.out).trans f0.out
               have q5 := (hW.cell (p := ⟨g2, off2 + m' * 3 + 1, none⟩) HvG2.out).trans f1.out
               have q6 := (hW.cell (p := ⟨g2, off2 + m' * 3 + 2, none⟩) HvG2.out).trans f2.out
               clear hW
               go_simp
               try with_reducible rfl
              simp only [Act.put, l1, l2, l3, l4, l5, l6]
              refine wpAnyH_take (i := 22) (v := ?_) rfl (by kernel_rfl) (by kernel_rfl) (by kernel_rfl) (fun _ _ _ h => h) (Or.inl ⟨by rfl, fun W hW => ?_⟩) h1 ?_
              rotate_left
              ·have q0 := (hW.cell (p := ⟨BW, 2, none⟩) HvB2.out).trans y2.out
               have q1 := (hW.cell (p := ⟨g2, off2 + (m' + 1) * 3, none⟩) HvG2.out).trans e0.out
               have q2 := (hW.cell (p := ⟨g2, off2 + (m' + 1) * 3 + 1, none⟩) HvG2.out).trans e1.out
               have q3 := (hW.cell (p := ⟨g2, off2 + (m' + 1) * 3 + 2, none⟩) HvG2.out).trans e2.out
               have q4 := (hW.cell (p := ⟨g2, off2 + m' * 3, none⟩) HvG2.out).trans f0.out
               have q5 := (hW.cell (p := ⟨g2, off2 + m' * 3 + 1, none⟩) HvG2.out).trans f1.out
               have q6 := (hW.cell (p := ⟨g2, off2 + m' * 3 + 2, none⟩) HvG2.out).trans f2.out
               clear hW
               go_simp
               try with_reducible rfl
              simp only [Act.put, l1, l2, l3, l4, l5, l6]
              refine wpAnyH_take (i := 23) (v := ?_) rfl (by kernel_rfl) (by kernel_rfl) (by kernel_rfl) (fun _ _ _ h => h) (Or.inl ⟨by rfl, fun W hW => ?_⟩) h1 ?_
              rotate_left
              ·have q0 := (hW.cell (p := ⟨BW, 2, none⟩) HvB2.out).trans y2.out
               have q1 := (hW.cell (p := ⟨g2, off2 + (m' + 1) * 3, none⟩) HvG2.out).trans e0.out
               have q2 := (hW.cell (p := ⟨g2, off2 + (m' + 1) * 3 + 1, none⟩) HvG2.out).trans e1.out
               have q3 := (hW.cell (p := ⟨g2, off2 + (m' + 1) * 3 + 2, none⟩) HvG2.out).trans e2.out
               have q4 := (hW.cell (p := ⟨g2, off2 + m' * 3, none⟩) HvG2.out).trans f0.out
               have q5 := (hW.cell (p := ⟨g2, off2 + m' * 3 + 1, none⟩) HvG2.out).trans f1.out
               have q6 := (hW.cell (p := ⟨g2, off2 + m' * 3 + 2, none⟩) HvG2.out).trans f2.out
               clear hW
               go_simp
               try with_reducible rfl
              simp only [Act.put, l1, l2, l3, l4, l5, l6]
              refine wpAnyH_take (i := 24) (v := ?_) rfl (by kernel_rfl) (by kernel_rfl) (by kernel_rfl) (fun _ _ _ h => h) (Or.inl ⟨by rfl, fun W hW => ?_⟩) h1 ?_
              rotate_left
              ·have q0 := (hW.cell (p := ⟨BW, 2, none⟩) HvB2.out).trans y2.out
               have q1 := (hW.cell (p := ⟨g2, off2 + (m' + 1) * 3, none⟩) HvG2.out).trans e0.out
               have q2 := (hW.cell (p := ⟨g2, off2 + (m' + 1) * 3 + 1, none⟩) HvG2.out).trans e1.out
               have q3 := (hW.cell (p := ⟨g2, off2 + (m' + 1) * 3 + 2, none⟩) HvG2.out).trans e2.out
               have q4 := (hW.cell (p := ⟨g2, off2 + m' * 3, none⟩) HvG2.out).trans f0.out
               have q5 := (hW.cell (p := ⟨g2, off2 + m' * 3 + 1, none⟩) HvG2.out).trans f1.out
               have q6 := (hW.cell (p := ⟨g2, off2 + m' * 3 + 2, none⟩) HvG2.out).trans f2.out
               clear hW
               go_simp
               try with_reducible rfl
              simp only [Act.put, l1, l2, l3, l4, l5, l6]
              refine wpAnyH_take (i := 25) (v := ?_) rfl (by kernel_rfl) (by kernel_rfl) (by kernel_rfl) (fun _ _ _ h => h) (Or.inl ⟨by rfl, fun W hW => ?_⟩) h1 ?_
              rotate_left
              ·have q0 := (hW.cell (p := ⟨BW, 2, none⟩) HvB2.out).trans y2.out
               have q1 := (hW.cell (p := ⟨g2, off2 + (m' + 1) * 3, none⟩) HvG2.out).trans e0.out
               have q2 := (hW.cell (p := ⟨g2, off2 + (m' + 1) * 3 + 1, none⟩) HvG2.out).trans e1.out
               have q3 := (hW.cell (p := ⟨g2, off2 + (m' + 1) * 3 + 2, none⟩) HvG2.out).trans e2.out
               have q4 := (hW.cell (p := ⟨g2, off2 + m' * 3, none⟩) HvG2.out).trans f0.out
               have q5 := (hW.cell (p := ⟨g2, off2 + m' * 3 + 1, none⟩) HvG2.out).trans f1.out
               have q6 := (hW.cell (p := ⟨g2, off2 + m' * 3 + 2, none⟩) HvG2.out).trans f2.out
               clear hW
               go_simp
               try with_reducible rfl
              simp only [Act.put, l1, l2, l3, l4, l5, l6]
              refine wpAnyH_ready (rs := [26]) (by kernel_rfl) (by simp) (AllReadyH.cons rfl (fun K hK => ?_) AllReadyH.nil)
              go_simp
              go_wp2_with (go_at_call 105; refine (C3.out _).mono ?_; rintro e wd ⟨rfl, bq⟩)
              refine hK.out _ _ (h1.trans (bq.mono h1.size)) (fun h2 => ?_)
              clear hK K bq h1
              refine wpAnyH_take (i := 27) (v := ?_) rfl (by kernel_rfl) (by kernel_rfl) (by kernel_rfl) (fun _ _ _ h => h) (Or.inl ⟨by rfl, fun W hW => ?_⟩) h2 ?_
              rotate_left
              ·have q0 := (hW.cell (p := ⟨BW, 2, none⟩) HvB2.out).trans y2.out
               have q1 := (hW.cell (p := ⟨w.heap.size, 3, none⟩) HvO2.out).trans y3.out
               have q2 := (hW.cell (p := ⟨g2, off2 + (m' + 1) * 3 + 2, none⟩) HvG2.out).trans e2.out
               clear hW
               go_simp
               try with_reducible rfl
              simp only [Act.put, l1, l2, l3, l4, l5, l6]
              refine wpAnyH_take (i := 28) (v := ?_) rfl (by kernel_rfl) (by kernel_rfl) (by kernel_rfl) (fun _ _ _ h => h) (Or.inl ⟨by rfl, fun W hW => ?_⟩) h2 ?_
              rotate_left
              ·have q0 := (hW.cell (p := ⟨BW, 2, none⟩) HvB2.out).trans y2.out
               have q1 := (hW.cell (p := ⟨w.heap.size, 3, none⟩) HvO2.out).trans y3.out
               have q2 := (hW.cell (p := ⟨g2, off2 + (m' + 1) * 3 + 2, none⟩) HvG2.out).trans e2.out
               clear hW
               go_simp
               try with_reducible rfl
              simp only [Act.put, l1, l2, l3, l4, l5, l6]
              refine wpAnyH_take (i := 29) (v := ?_) rfl (by kernel_rfl) (by kernel_rfl) (by kernel_rfl) (fun _ _ _ h => h) (Or.inl ⟨by rfl, fun W hW => ?_⟩) h2 ?_
              rotate_left
              ·have q0 := (hW.cell (p := ⟨BW, 2, none⟩) HvB2.out).trans y2.out
               have q1 := (hW.cell (p := ⟨w.heap.size, 3, none⟩) HvO2.out).trans y3.out
               have q2 := (hW.cell (p := ⟨g2, off2 + (m' + 1) * 3 + 2, none⟩) HvG2.out).trans e2.out
               clear hW
               go_simp
               try with_reducible rfl
              simp only [Act.put, l1, l2, l3, l4, l5, l6]
              refine wpAnyH_done (by kernel_rfl) ?_ _
              have B2 := BO2.trans (h2.mono BO2.size)
              clear h2
              go_wp2_with fail
              go_ret
              exact AnsB.mk HZ.out (bO.trans (B2.mono bO.size))
             | true =>
              have HZ := hidM (HYes2.out (HI3.out.2 rfl))
              clear HNo2 HYes2 HI3
              refine wpAnyH_take (i := 0) (v := ?_) rfl (by kernel_rfl) (by kernel_rfl) (by kernel_rfl) (fun _ _ _ h => h) (Or.inl ⟨by rfl, fun W hW => ?_⟩) h0 ?_
              rotate_left
              ·have q0 := (hW.cell (p := ⟨BW, 2, none⟩) HvB2.out).trans y2.out
               have q1 := (hW.cell (p := ⟨w.heap.size, 3, none⟩) HvO2.out).trans y3.out
               have q2 := (hW.cell (p := ⟨g2, off2 + (m' + 1) * 3 + 2, none⟩) HvG2.out).trans e2.out
               clear hW
               go_simp
               try with_reducible rfl
              simp only [Act.put, l1, l2, l3, l4, l5, l6]
              refine wpAnyH_take (i := 1) (v := ?_) rfl (by kernel_rfl) (by kernel_rfl) (by kernel_rfl) (fun _ _ _ h => h) (Or.inl ⟨by rfl, fun W hW => ?_⟩) h0 ?_
              rotate_left
              ·have q0 := (hW.cell (p := ⟨BW, 2, none⟩) HvB2.out).trans y2.out
               have q1 := (hW.cell (p := ⟨w.heap.size, 3, none⟩) HvO2.out).trans y3.out
               have q2 := (hW.cell (p := ⟨g2, off2 + (m' + 1) * 3 + 2, none⟩) HvG2.out).trans e2.out
               clear hW
               go_simp
               try with_reducible rfl
              simp only [Act.put, l1, l2, l3, l4, l5, l6]
              refine wpAnyH_take (i := 2) (v := ?_) rfl (by kernel_rfl) (by kernel_rfl) (by kernel_rfl) (fun _ _ _ h => h) (Or.inl ⟨by rfl, fun W hW => ?_⟩) h0 ?_
              rotate_left
              ·have q0 := (hW.cell (p := ⟨BW, 2, none⟩) HvB2.out).trans y2.out
               have q1 := (hW.cell (p := ⟨w.heap.size, 3, none⟩) HvO2.out).trans y3.out
               have q2 := (hW.cell (p := ⟨g2, off2 + (m' + 1) * 3 + 2, none⟩) HvG2.out).trans e2.out
               clear hW
               go_simp
               try with_reducible rfl
              simp only [Act.put, l1, l2, l3, l4, l5, l6]
              refine wpAnyH_take (i := 3) (v := ?_) rfl (by kernel_rfl) (by kernel_rfl) (by kernel_rfl) (fun _ _ _ h => h) (Or.inl ⟨by rfl, fun W hW => ?_⟩) h0 ?_
              rotate_left
              ·have q0 := (hW.cell (p := ⟨BW, 2, none⟩) HvB2.out).trans y2.out
               have q1 := (hW.cell (p := ⟨w.heap.size, 3, none⟩) HvO2.out).trans y3.out
               have q2 := (hW.cell (p := ⟨g2, off2 + (m' + 1) * 3 + 2, none⟩) HvG2.out).trans e2.out
               clear hW
               go_simp
               try with_reducible rfl
              simp only [Act.put, l1, l2, l3, l4, l5, l6]
              refine wpAnyH_take (i := 4) (v := ?_) rfl (by kernel_rfl) (by kernel_rfl) (by kernel_rfl) (fun _ _ _ h => h) (Or.inl ⟨by rfl, fun W hW => ?_⟩) h0 ?_
              rotate_left
              ·have q0 := (hW.cell (p := ⟨BW, 2, none⟩) HvB2.out).trans y2.out
               have q1 := (hW.cell (p := ⟨w.heap.size, 3, none⟩) HvO2.out).trans y3.out
               have q2 := (hW.cell (p := ⟨g2, off2 + (m' + 1) * 3 + 2, none⟩) HvG2.out).trans e2.out
               clear hW
               go_simp
               try with_reducible rfl
              simp only [Act.put, l1, l2, l3, l4, l5, l6]
              refine wpAnyH_take (i := 5) (v := ?_) rfl (by kernel_rfl) (by kernel_rfl) (by kernel_rfl) (fun _ _ _ h => h) (Or.inl ⟨by rfl, fun W hW => ?_⟩) h0 ?_
              rotate_left
              ·have q0 := (hW.cell (p := ⟨BW, 2, none⟩) HvB2.out).trans y2.out
               have q1 := (hW.cell (p := ⟨w.heap.size, 3, none⟩) HvO2.out).trans y3.out
               have q2 := (hW.cell (p := ⟨g2, off2 + (m' + 1) * 3 + 2, none⟩) HvG2.out).trans e2.out
               clear hW
               go_simp
               try with_reducible rfl
              simp only [Act.put, l1, l2, l3, l4, l5, l6]
              refine wpAnyH_take (i := 6) (v := ?_) rfl (by kernel_rfl) (by kernel_rfl) (by kernel_rfl) (fun _ _ _ h => h) (Or.inl ⟨by rfl, fun W hW => ?_⟩) h0 ?_
              rotate_left
              ·have q0 := (hW.cell (p := ⟨BW, 2, none⟩) HvB2.out).trans y2.out
               have q1 := (hW.cell (p := ⟨w.heap.size, 3, none⟩) HvO2.out).trans y3.out
               have q2 := (hW.cell (p := ⟨g2, off2 + (m' + 1) * 3 + 2, none⟩) HvG2.out).trans e2.out
               clear hW
               go_simp
               try with_reducible rfl
              simp only [Act.put, l1, l2, l3, l4, l5, l6]
              refine wpAnyH_take (i := 7) (v := ?_) rfl (by kernel_rfl) (by kernel_rfl) (by kernel_rfl) (fun _ _ _ h => h) (Or.inl ⟨by rfl, fun W hW => ?_⟩) h0 ?_
              rotate_left
              ·have q0 := (hW.cell (p := ⟨BW, 2, none⟩) HvB2.out).trans y2.out
               have q1 := (hW.cell (p := ⟨w.heap.size, 3, none⟩) HvO2.out).trans y3.out
               have q2 := (hW.cell (p := ⟨g2, off2 + (m' + 1) * 3 + 2, none⟩) HvG2.out).trans e2.out
               clear hW
               go_simp
               try with_reducible rfl
              simp only [Act.put, l1, l2, l3, l4, l5, l6]
              refine wpAnyH_take (i := 8) (v := ?_) rfl (by kernel_rfl) (by kernel_rfl) (by kernel_rfl) (fun _ _ _ h => h) (Or.inl ⟨by rfl, fun W hW => ?_⟩) h0 ?_
              rotate_left
              ·have q0 := (hW.cell (p := ⟨BW, 2, none⟩) HvB2.out).trans y2.out
               have q1 := (hW.cell (p := ⟨w.heap.size, 3, none⟩) HvO2.out).trans y3.out
               have q2 := (hW.cell (p := ⟨g2, off2 + (m' + 1) * 3 + 2, none⟩) HvG2.out).trans e2.out
               clear hW
               go_simp
               try with_reducible rfl
              simp only [Act.put, l1, l2, l3, l4, l5, l6]
              refine wpAnyH_ready (rs := [9]) (by kernel_rfl) (by simp) (AllReadyH.cons rfl (fun K hK => ?_) AllReadyH.nil)
              go_simp
              go_wp2_with (go_at_call 51; refine (C2.out _).mono ?_; rintro e wc ⟨rfl, rfl⟩)
              refine hK.out _ _ h0 (fun h1 => ?_)
              clear hK K h0
              refine wpAnyH_take (i := 10) (v := ?_) rfl (by kernel_rfl) (by kernel_rfl) (by kernel_rfl) (fun _ _ _ h => h) (Or.inl ⟨by rfl, fun W hW => ?_⟩) h1 ?_
              rotate_left
              ·have q0 := (hW.cell (p := ⟨BW, 2, none⟩) HvB2.out).trans y2.out
               have q1 := (hW.cell (p := ⟨w.heap.size, 3, none⟩) HvO2.out).trans y3.out
               have q2 := (hW.cell (p := ⟨g2, off2 + (m' + 1) * 3 + 2, none⟩) HvG2.out).trans e2.out
               clear hW
               go_simp
               try with_reducible rfl
              simp only [Act.put, l1, l2, l3, l4, l5, l6]
              refine wpAnyH_take (i := 11) (v := ?_) rfl (by kernel_rfl) (by kernel_rfl) (by kernel_rfl) (fun _ _ _ h => h) (Or.inl ⟨by rfl, fun W hW => ?_⟩) h1 ?_
              rotate_left
              ·have q0 := (hW.cell (p := ⟨BW, 2, none⟩) HvB2.out).trans y2.out
               have q1 := (hW.cell (p := ⟨w.heap.size, 3, none⟩) HvO2.out).trans y3.out
               have q2 := (hW.cell (p := ⟨g2, off2 + (m' + 1) * 3 + 2, none⟩) HvG2.out).trans e2.out
               clear hW
               go_simp
               try with_reducible rfl
              simp only [Act.put, l1, l2, l3, l4, l5, l6]
              refine wpAnyH_take (i := 12) (v := ?_) rfl (by kernel_rfl) (by kernel_rfl) (by kernel_rfl) (fun _ _ _ h => h) (Or.inl ⟨by rfl, fun W hW => ?_⟩) h1 ?_
              rotate_left
              ·have q0 := (hW.cell (p := ⟨BW, 2, none⟩) HvB2.out).trans y2.out
               have q1 := (hW.cell (p := ⟨w.heap.size, 3, none⟩) HvO2.out).trans y3.out
               have q2 := (hW.cell (p := ⟨g2, off2 + (m' + 1) * 3 + 2, none⟩) HvG2.out).trans e2.out
               clear hW
               go_simp
               try with_reducible rfl
              simp only [Act.put, l1, l2, l3, l4, l5, l6]
              refine wpAnyH_take (i := 13) (v := ?_) rfl (by kernel_rfl) (by kernel_rfl) (by kernel_rfl) (fun _ _ _ h => h) (Or.inl ⟨by rfl, fun W hW => ?_⟩) h1 ?_
              rotate_left
              ·have q0 := (hW.cell (p := ⟨BW, 2, none⟩) HvB2.out).trans y2.out
               have q1 := (hW.cell (p := ⟨w.heap.size, 3, none⟩) HvO2.out).trans y3.out
               have q2 := (hW.cell (p := ⟨g2, off2 + (m' + 1) * 3 + 2, none⟩) HvG2.out).trans e2.out
               clear hW
               go_simp
               try with_reducible rfl
              simp only [Act.put, l1, l2, l3, l4, l5, l6]
              refine wpAnyH_take (i := 14) (v := ?_) rfl (by kernel_rfl) (by kernel_rfl) (by kernel_rfl) (fun _ _ _ h => h) (Or.inl ⟨by rfl, fun W hW => ?_⟩) h1 ?_
              rotate_left
              ·have q0 := (hW.cell (p := ⟨BW, 2, none⟩) HvB2.out).trans y2.out
               have q1 := (hW.cell (p := ⟨w.heap.size, 3, none⟩) HvO2.out).trans y3.out
               have q2 := (hW.cell (p := ⟨g2, off2 + (m' + 1) * 3 + 2, none⟩) HvG2.out).trans e2.out
               clear hW
               go_simp
               try with_reducible rfl
              simp only [Act.put, l1, l2, l3, l4, l5, l6]
              refine wpAnyH_take (i := 15) (v := ?_) rfl (by kernel_rfl) (by kernel_rfl) (by kernel_rfl) (fun _ _ _ h => h) (Or.inl ⟨by rfl, fun W hW => ?_⟩) h1 ?_
              rotate_left
              ·have q0 := (hW.cell (p := ⟨BW, 2, none⟩) HvB2.out).trans y2.out
               have q1 := (hW.cell (p := ⟨g2, off2 + (m' + 1) * 3, none⟩) HvG2.out).trans e0.out
               have q2 := (hW.cell (p := ⟨g2, off2 + (m' + 1) * 3 + 1, none⟩) HvG2.out).trans e1.out
               have q3 := (hW.cell (p := ⟨g2, off2 + (m' + 1) * 3 + 2, none⟩) HvG2.out).trans e2.out
               have q4 := (hW.cell (p := ⟨g2, off2 + m' * 3, none⟩) HvG2.out).trans f0.out
               have q5 := (hW.cell (p := ⟨g2, off2 + m' * 3 + 1, none⟩) HvG2.out).trans f1.out
               have q6 := (hW.cell (p := ⟨g2, off2 + m' * 3 + 2, none⟩) HvG2.out).trans f2.out
               clear hW
               go_simp
               try with_reducible rfl
              simp only [Act.put, l1, l2, l3, l4, l5, l6]
              refine wpAnyH_take (i := 16) (v := ?_) rfl (by kernel_rfl) (by kernel_rfl) (by kernel_rfl) (fun _ _ _ h => h) (Or.inl ⟨by rfl, fun W hW => ?_⟩) h1 ?_
              rotate_left
              ·have q0 := (hW.cell (p := ⟨BW, 2, none⟩) HvB2.out).trans y2.out
               have q1 := (hW.cell (p := ⟨g2, off2 + (m' + 1) * 3, none⟩) HvG2.out).trans e0.out
               have q2 := (hW.cell (p := ⟨g2, off2 + (m' + 1) * 3 + 1, none⟩) HvG2.out).trans e1.out
               have q3 := (hW.cell (p := ⟨g2, off2 + (m' + 1) * 3 + 2, none⟩) HvG2.out).trans e2.out
               have q4 := (hW.cell (p := ⟨g2, off2 + m' * 3, none⟩) HvG2.out).trans f0.out
               have q5 := (hW.cell (p := ⟨g2, off2 + m' * 3 + 1, none⟩) HvG2.out).trans f1.out
               have q6 := (hW.cell (p := ⟨g2, off2 + m' * 3 + 2, none⟩) HvG2.out).trans f2.out
               clear hW
               go_simp
               try with_reducible rfl
              simp only [Act.put, l1, l2, l3, l4, l5, l6]
              refine wpAnyH_take (i := 17) (v := ?_) rfl (by kernel_rfl) (by kernel_rfl) (by kernel_rfl) (fun _ _ _ h => h) (Or.inl ⟨by rfl, fun W hW => ?_⟩) h1 ?_
              rotate_left
              ·have q0 := (hW.cell (p := ⟨BW, 2, none⟩) HvB2.out).trans y2.out
               have q1 := (hW.cell (p := ⟨g2, off2 + (m' + 1) * 3, none⟩) HvG2.out).trans e0.out
               have q2 := (hW.cell (p := ⟨g2, off2 + (m' + 1) * 3 + 1, none⟩) HvG2.out).trans e1.out
               have q3 := (hW.cell (p := ⟨g2, off2 + (m' + 1) * 3 + 2, none⟩) HvG2.out).trans e2.out
               have q4 := (hW.cell (p := ⟨g2, off2 + m' * 3, none⟩) HvG2.out).trans f0.out
               have q5 := (hW.cell (p := ⟨g2, off2 + m' * 3 + 1, none⟩) HvG2.out).trans f1.out
               have q6 := (hW.cell (p := ⟨g2, off2 + m' * 3 + 2, none⟩) HvG2.out).trans f2.out
               clear hW
               go_simp
               try with_reducible rfl
              simp only [Act.put, l1, l2, l3, l4, l5, l6]
              refine wpAnyH_take (i := 18) (v := ?_) rfl (by kernel_rfl) (by kernel_rfl) (by kernel_rfl) (fun _ _ _ h => h) (Or.inl ⟨by rfl, fun W hW => ?_⟩) h1 ?_
              rotate_left
              ·have q0 := (hW.cell (p := ⟨BW, 2, none⟩) HvB2.out).trans y2.out
               have q1 := (hW.cell (p := ⟨g2, off2 + (m' + 1) * 3, none⟩) HvG2.out).trans e0.out
               have q2 := (hW.cell (p := ⟨g2, off2 + (m' + 1) * 3 + 1, none⟩) HvG2.out).trans e1.out
               have q3 := (hW.cell (p := ⟨g2, off2 + (m' + 1) * 3 + 2, none⟩) HvG2.out).trans e2.out
               have q4 := (hW.cell (p := ⟨g2, off2 + m' * 3, none⟩) HvG2.out).trans f0.out
               have q5 := (hW.cell (p := ⟨g2, off2 + m' * 3 + 1, none⟩) HvG2.out).trans f1.out
               have q6 := (hW.cell (p := ⟨g2, off2 + m' * 3 + 2, none⟩) HvG2.out).trans f2.out
               clear hW
               go_simp
               try with_reducible rfl
              simp only [Act.put, l1, l2, l3, l4, l5, l6]
              refine wpAnyH_take (i := 19) (v := ?_) rfl (by kernel_rfl) (by kernel_rfl) (by kernel_rfl) (fun _ _ _ h => h) (Or.inl ⟨by rfl, fun W hW => ?_⟩) h1 ?_
              rotate_left
              ·have q0 := (hW.cell (p := ⟨BW, 2, none⟩) HvB2.out).trans y2.out
               have q1 := (hW.cell (p := ⟨g2, off2 + (m' + 1) * 3, none⟩) HvG2.out).trans e0.out
               have q2 := (hW.cell (p := ⟨g2, off2 + (m' + 1) * 3 + 1, none⟩) HvG2.out).trans e1.out
               have q3 := (hW.cell (p := ⟨g2, off2 + (m' + 1) * 3 + 2, none⟩) HvG2.out).trans e2.out
               have q4 := (hW.cell (p := ⟨g2, off2 + m' * 3, none⟩) HvG2.out).trans f0.out
               have q5 := (hW.cell (p := ⟨g2, off2 + m' * 3 + 1, none⟩) HvG2.out).trans f1.out
               have q6 := (hW.cell (p := ⟨g2, off2 + m' * 3 + 2, none⟩) HvG2.out).trans f2.out
               clear hW
               go_simp
               try with_reducible rfl
              simp only [Act.put, l1, l2, l3, l4, l5, l6]
              refine wpAnyH_take (i := 20) (v := ?_) rfl (by kernel_rfl) (by kernel_rfl) (by kernel_rfl) (fun _ _ _ h => h) (Or.inl ⟨by rfl, fun W hW => ?_⟩) h1 ?_
              rotate_left
              ·have q0 := (hW.cell (p := ⟨BW, 2, none⟩) HvB2.out).trans y2.out
               have q1 := (hW.cell (p := ⟨g2, off2 + (m' + 1) * 3, none⟩) HvG2.out).trans e0.out
               have q2 := (hW.cell (p := ⟨g2, off2 + (m' + 1) * 3 + 1, none⟩) HvG2.out).trans e1.out
               have q3 := (hW.cell (p := ⟨g2, off2 + (m' + 1) * 3 + 2, none⟩) HvG2.out).trans e2.out
               have q4 := (hW.cell (p := ⟨g2, off2 + m' * 3, none⟩) HvG2.out).trans f0.out
               have q5 := (hW.cell (p := ⟨g2, off2 + m' * 3 + 1, none⟩) HvG2.out).trans f1.out
               have q6 := (hW.cell (p := ⟨g2, off2 + m' * 3 + 2, none⟩) HvG2.out).trans f2.out
               clear hW
               go_simp
               try with_reducible rfl
              simp only [Act.put, l1, l2, l3, l4, l5, l6]
              refine wpAnyH_take (i := 21) (v := ?_) rfl (by kernel_rfl) (by kernel_rfl) (by kernel_rfl) (fun _ _ _ h => h) (Or.inl ⟨by rfl, fun W hW => ?_⟩) h1 ?_
              rotate_left
              ·have q0 := (hW.cell (p := ⟨BW, 2, none⟩) HvB2.out).trans y2.out
               have q1 := (hW.cell (p := ⟨g2, off2 + (m' + 1) * 3, none⟩) HvG2.out).trans e0.out
               have q2 := (hW.cell (p := ⟨g2, off2 + (m' + 1) * 3 + 1, none⟩) HvG2.out).trans e1.out
               have q3 := (hW.cell (p := ⟨g2, off2 + (m' + 1) * 3 + 2, none⟩) HvG2.out).trans e2.out
               have q4 := (hW.cell (p := ⟨g2, off2 + m' * 3, none⟩) HvG2.out).trans f0.out
               have q5 := (hW.cell (p := ⟨g2, off2 + m' * 3 + 1, none⟩) HvG2.out).trans f1.out
               have q6 := (hW.cell (p := ⟨g2, off2 + m' * 3 + 2, none⟩) HvG2.out).trans f2.out
               clear hW
               go_simp
               try with_reducible rfl
              simp only [Act.put, l1, l2, l3, l4, l5, l6]
              refine wpAnyH_take (i := 22) (v := ?_) rfl (by kernel_rfl) (by kernel_rfl) (by kernel_rfl) (fun _ _ _ h => h) (Or.inl ⟨by rfl, fun W hW => ?_⟩) h1 ?_
              rotate_left
              ·have q0 := (hW.cell (p := ⟨BW, 2, none⟩) HvB2.out).trans y2.out
               have q1 := (hW.cell (p := ⟨g2, off2 + (m' + 1) * 3, none⟩) HvG2.out).trans e0.out
               have q2 := (hW.cell (p := ⟨g2, off2 + (m' + 1) * 3 + 1, none⟩) HvG2.out).trans e1.out
               have q3 := (hW.cell (p := ⟨g2, off2 + (m' + 1) * 3 + 2, none⟩) HvG2.out).trans e2.out
               have q4 := (hW.cell (p := ⟨g2, off2 + m' * 3, none⟩) HvG2.out).trans f0.out
               have q5 := (hW.cell (p := ⟨g2, off2 + m' * 3 + 1, none⟩) HvG2.out).trans f1.out
               have q6 := (hW.cell (p := ⟨g2, off2 + m' * 3 + 2, none⟩) HvG2.out).trans f2.out
               clear hW
               go_simp
               try with_reducible rfl
              simp only [Act.put, l1, l2, l3, l4, l5, l6]
              refine wpAnyH_take (i := 23) (v := ?_) rfl (by kernel_rfl) (by kernel_rfl) (by kernel_rfl) (fun _ _ _ h => h) (Or.inl ⟨by rfl, fun W hW => ?_⟩) h1 ?_
              rotate_left
              ·have q0 := (hW.cell (p := ⟨BW, 2, none⟩) HvB2.out).trans y2.out
               have q1 := (hW.cell (p := ⟨g2, off2 + (m' + 1) * 3, none⟩) HvG2.out).trans e0.out
               have q2 := (hW.cell (p := ⟨g2, off2 + (m' + 1) * 3 + 1, none⟩) HvG2.out).trans e1.out
               have q3 := (hW.cell (p := ⟨g2, off2 + (m' + 1) * 3 + 2, none⟩) HvG2.out).trans e2.out
               have q4 := (hW.cell (p := ⟨g2, off2 + m' * 3, none⟩) HvG2.out).trans f0.out
               have q5 := (hW.cell (p := ⟨g2, off2 + m' * 3 + 1, none⟩) HvG2.out).trans f1.out
               have q6 := (hW.cell (p := ⟨g2, off2 + m' * 3 + 2, none⟩) HvG2.out).trans f2.out
               clear hW
               go_simp
               try with_reducible rfl
              simp only [Act.put, l1, l2, l3, l4, l5, l6]
              refine wpAnyH_take (i := 24) (v := ?_) rfl (by kernel_rfl) (by kernel_rfl) (by kernel_rfl) (fun _ _ _ h => h) (Or.inl ⟨by rfl, fun W hW => ?_⟩) h1 ?_
              rotate_left
              ·have q0 := (hW.cell (p := ⟨BW, 2, none⟩) HvB2.out).trans y2.out
               have q1 := (hW.cell (p := ⟨g2, off2 + (m' + 1) * 3, none⟩) HvG2.out).trans e0.out
               have q2 := (hW.cell (p := ⟨g2, off2 + (m' + 1) * 3 + 1, none⟩) HvG2.out).trans e1.out
               have q3 := (hW.cell (p := ⟨g2, off2 + (m' + 1) * 3 + 2, none⟩) HvG2.out).trans e2.out
               have q4 := (hW.cell (p := ⟨g2, off2 + m' * 3, none⟩) HvG2.out).trans f0.out
               have q5 := (hW.cell (p := ⟨g2, off2 + m' * 3 + 1, none⟩) HvG2.out).trans f1.out
               have q6 := (hW.cell (p := ⟨g2, off2 + m' * 3 + 2, none⟩) HvG2.out).trans f2.out
               clear hW
               go_simp
               try with_reducible rfl
              simp only [Act.put, l1, l2, l3, l4, l5, l6]
              refine wpAnyH_take (i := 25) (v := ?_) rfl (by kernel_rfl) (by kernel_rfl) (by kernel_rfl) (fun _ _ _ h => h) (Or.inl ⟨by rfl, fun W hW => ?_⟩) h1 ?_
              rotate_left
              ·have q0 := (hW.cell (p := ⟨BW, 2, none⟩) HvB2.out).trans y2.out
               have q1 := (hW.cell (p := ⟨g2, off2 + (m' + 1) * 3, none⟩) HvG2.out).trans e0.out
               have q2 := (hW.cell (p := ⟨g2, off2 + (m' + 1) * 3 + 1, none⟩) HvG2.out).trans e1.out
               have q3 := (hW.cell (p := ⟨g2, off2 + (m' + 1) * 3 + 2, none⟩) HvG2.out).trans e2.out
               have q4 := (hW.cell (p := ⟨g2, off2 + m' * 3, none⟩) HvG2.out).trans f0.out
               have q5 := (hW.cell (p := ⟨g2, off2 + m' * 3 + 1, none⟩) HvG2.out).trans f1.out
               have q6 := (hW.cell (p := ⟨g2, off2 + m' * 3 + 2, none⟩) HvG2.out).trans f2.out
               clear hW
               go_simp
               try with_reducible rfl
              simp only [Act.put, l1, l2, l3, l4, l5, l6]
              refine wpAnyH_ready (rs := [26]) (by kernel_rfl) (by simp) (AllReadyH.cons rfl (fun K hK => ?_) AllReadyH.nil)
              go_simp
              go_wp2_with (go_at_call 105; refine (C3.out _).mono ?_; rintro e wd ⟨rfl, bq⟩)
              refine hK.out _ _ (h1.trans (bq.mono h1.size)) (fun h2 => ?_)
              clear hK K bq h1
              refine wpAnyH_take (i := 27) (v := ?_) rfl (by kernel_rfl) (by kernel_rfl) (by kernel_rfl) (fun _ _ _ h => h) (Or.inl ⟨by rfl, fun W hW => ?_⟩) h2 ?_
              rotate_left
              ·have q0 := (hW.cell (p := ⟨BW, 2, none⟩) HvB2.out).trans y2.out
               have q1 := (hW.cell (p := ⟨w.heap.size, 3, none⟩) HvO2.out).trans y3.out
               have q2 := (hW.cell (p := ⟨g2, off2 + (m' + 1) * 3 + 2, none⟩) HvG2.out).trans e2.out
               clear hW
               go_simp
               try with_reducible rfl
              simp only [Act.put, l1, l2, l3, l4, l5, l6]
              refine wpAnyH_take (i := 28) (v := ?_) rfl (by kernel_rfl) (by kernel_rfl) (by kernel_rfl) (fun _ _ _ h => h) (Or.inl ⟨by rfl, fun W hW => ?_⟩) h2 ?_
              rotate_left
              ·have q0 := (hW.cell (p := ⟨BW, 2, none⟩) HvB2.out).trans y2.out
               have q1 := (hW.cell (p := ⟨w.heap.size, 3, none⟩) HvO2.out).trans y3.out
               have q2 := (hW.cell (p := ⟨g2, off2 + (m' + 1) * 3 + 2, none⟩) HvG2.out).trans e2.out
               clear hW
               go_simp
               try with_reducible rfl
              simp only [Act.put, l1, l2, l3, l4, l5, l6]
              refine wpAnyH_take (i := 29) (v := ?_) rfl (by kernel_rfl) (by kernel_rfl) (by kernel_rfl) (fun _ _ _ h => h) (Or.inl ⟨by rfl, fun W hW => ?_⟩) h2 ?_
              rotate_left
              ·have q0 := (hW.cell (p := ⟨BW, 2, none⟩) HvB2.out).trans y2.out
               have q1 := (hW.cell (p := ⟨w.heap.size, 3, none⟩) HvO2.out).trans y3.out
               have q2 := (hW.cell (p := ⟨g2, off2 + (m' + 1) * 3 + 2, none⟩) HvG2.out).trans e2.out
               clear hW
               go_simp
               try with_reducible rfl
              simp only [Act.put, l1, l2, l3, l4, l5, l6]
              refine wpAnyH_done (by kernel_rfl) ?_ _
              have B2 := hbV.trans (h2.mono hbV.size)
              clear h2
              go_wp2_with fail
              go_roundw
              case rel => exact ⟨m' + 1 + 1, by omega, by go_num, HZ.out, B2⟩
              case measure => simp [intOf]; omega
         ·have hmi : ¬ (m2 : Int) < XW.length := by omega
          have HZ := hidM (HYes.out (HI.out.2 (fun j hj => HM.out j (by omega))))
          clear HM HNo HYes HI
          go_wp2_with fail
          go_roundw
          case rel => exact ⟨m+1+1, by omega, by go_num, HZ.out, BO2⟩
          case measure => simp [intOf]; omega
  ·have hki : ¬ (k : Int) < si.length := by omega
   have HA : Hid (∀ j, j < si.length → siteL sq si j) := fun j hj => HN.out j (by omega)
   clear HN HF
   go_wp2_with fail
   go_loopw [6] (fun i wr => ∃ k : Nat, k ≤ le.length ∧ i = .int .i64 k ∧ Hid (∀ j, j < k → leaseL si le j) ∧ Below O.heap.size O wr) (fun i _ => le.length - (intOf i).toNat)
   case atStart => exact ⟨0, Nat.zero_le _, rfl, fun j h => absurd h (Nat.not_lt_zero _), hbO⟩
   case round =>
    clear d4 hbel hbO hki hlt hk
    obtain ⟨k, hk, rfl, HN, hbO⟩ := hrel
    have hbel : Below w.heap.size w wr := bO.trans (hbO.mono bO.size)
    have d4 := (AO.out.below hbO).1 4 _ rfl
    have d5 := (AO.out.below hbO).1 5 _ rfl
    by_cases hlt : k < le.length
    ·have hki : (k : Int) < le.length := by omega
     rcases HL.out with ⟨h0, _⟩ | ⟨_, g, off, cap, hpe, hg, hc⟩
     ·rw [h0] at hlt; exact absurd hlt (Nat.not_lt_zero _)
     ·injection hpe with i1 i2 i3
      subst i1
      clear i2 i3
      obtain ⟨c0, c1, c2, c3⟩ := (hc k hlt).below hbel hg
      obtain ⟨V, hV⟩ : ∃ V, V = wr.alloc (.cells #[.string (le.getD k lsv0).k, .string (le.getD k lsv0).s, .int .i64 (le.getD k lsv0).p, .int .i64 (le.getD k lsv0).u] 51) := ⟨_, rfl⟩
      obtain ⟨BW, hBW⟩ : ∃ B, B = wr.heap.size := ⟨_, rfl⟩
      have BV : Below wr.heap.size wr V := by rw [hV]; exact (Below.refl _ _).alloc (Nat.le_refl _) _
      have AV : BAt V BW [.string (le.getD k lsv0).k, .string (le.getD k lsv0).s, .int .i64 (le.getD k lsv0).p, .int .i64 (le.getD k lsv0).u] := by rw [hV, hBW]; exact BAt.new wr #[.string (le.getD k lsv0).k, .string (le.getD k lsv0).s, .int .i64 (le.getD k lsv0).p, .int .i64 (le.getD k lsv0).u] _
      have v0 := hidM (AV.1 0 _ rfl)
      have v1 := hidM (AV.1 1 _ rfl)
      have v3 := hidM (AV.1 3 _ rfl)
      have BVO : Below O.heap.size O V := hbO.trans (BV.mono hbO.size)
      have o0 := hidM ((AO.out.below BVO).1 0 _ rfl)
      have o1 := hidM ((AO.out.below BVO).1 1 _ rfl)
      have o2 := hidM ((AO.out.below BVO).1 2 _ rfl)
      have o3 := hidM ((AO.out.below BVO).1 3 _ rfl)
      have o4 := hidM ((AO.out.below BVO).1 4 _ rfl)
      have o5 := hidM ((AO.out.below BVO).1 5 _ rfl)
      have HvB : Hid (BW < V.heap.size) := hidM AV.2.2
      have HvO : Hid (w.heap.size < V.heap.size) := hidM (by have := BVO.size; have := HOz.out; omega)
      have HvG : Hid (g < V.heap.size) := hidM (by have := HvO.out; omega)
      have HPC : Hid (∀ j, j < le.length → V.cell? ⟨g, off + j * 4, none⟩ = some (.string (le.getD j lsv0).k)) := fun j hj => (BV.cell (p := ⟨g, off + j * 4, none⟩) (by show g < _; have := hbel.size; omega)).trans ((hbel.cell (p := ⟨g, off + j * 4, none⟩) hg).trans (hc j hj).1)
      have C1 : Hid (∀ W, Calls Tryz.prog 51 #[.int .i64 (le.getD k lsv0).u, .int .i64 0, .int .i64 1000000000] W fun e w' => e = .returned (.bool (inB (le.getD k lsv0).u 0 1000000000)) ∧ W = w') := fun W => specIn _ _ _ W
      have C2 : Hid (∀ W, Below V.heap.size V W → Calls Tryz.prog 104 #[.agg #[.int .i64 d, .int .i64 sp, .int .i64 nw, .int .i64 sq, .slice pa si.length pc, .slice (some ⟨g, off, none⟩) le.length qc], .string (le.getD k lsv0).s] W fun e w' => e = .returned (.int .i64 (sitePos si (le.getD k lsv0).s)) ∧ Below W.heap.size W w') := fun W hW => specL18Site d sp nw sq si _ _ _ W hf1 (HS.out.below (bO.trans ((BVO.trans (hW.mono BVO.size)).mono bO.size)))
      have HNo : Hid (¬ leaseL si le k → BIs false (SitesL sq si le)) := fun h => BIs.no fun e => h (e.2.1 k hlt)
      have HYes : Hid (leaseL si le k → ∀ j, j < k + 1 → leaseL si le j) := fun h j hj => by
       by_cases e : j = k
       ·subst e; exact h
       ·exact HN.out j (by omega)
      have HI0 : Hid (leaseL si le k ↔ (inB (le.getD k lsv0).u 0 1000000000 = true ∧ 0 ≤ sitePos si (le.getD k lsv0).s ∧ (0 < k → tl (le.getD (k - 1) lsv0).k (le.getD k lsv0).k = true))) := Iff.rfl
      clear HN hc BV AV
      generalize leaseL si le k = QL at *
      generalize (le.getD k lsv0).p = x2 at *
      generalize sitePos si (le.getD k lsv0).s = sz at *
      generalize (le.getD k lsv0).s = x1 at *
      generalize hb1 : inB (le.getD k lsv0).u 0 1000000000 = b1 at *
      clear hb1
      generalize (le.getD k lsv0).u = x3 at *
      generalize (le.getD k lsv0).k = x0 at *
      go_upto_region 16 with fail
      rw [← hV, ← hBW]
      clear hV hBW d4 d5 c0 c1 c2 c3
      refine wp_region_held_drew (S := fun W => Below V.heap.size V W) (by kernel_rfl) (Below.refl _ V).drew (fun h0 => ?_)
      cases b1 with
      | false =>
       have HZ := hidM (HNo.out (fun h => by have := (HI0.out.1 h).1; cases this))
       clear HNo HYes HI0 HPC
       refine wpAnyH_take (i := 0) (v := ?_) rfl (by kernel_rfl) (by kernel_rfl) (by kernel_rfl) (fun _ _ _ h => h) (Or.inl ⟨by rfl, fun W hW => ?_⟩) h0 ?_
       rotate_left
       ·have q0 := (hW.cell (p := ⟨BW, 3, none⟩) HvB.out).trans v3.out
        clear hW
        go_simp
        try with_reducible rfl
       simp only [Act.put, l1, l2, l3, l4, l5, l6]
       refine wpAnyH_take (i := 1) (v := ?_) rfl (by kernel_rfl) (by kernel_rfl) (by kernel_rfl) (fun _ _ _ h => h) (Or.inl ⟨by rfl, fun W hW => ?_⟩) h0 ?_
       rotate_left
       ·have q0 := (hW.cell (p := ⟨BW, 3, none⟩) HvB.out).trans v3.out
        clear hW
        go_simp
        try with_reducible rfl
       simp only [Act.put, l1, l2, l3, l4, l5, l6]
       refine wpAnyH_ready (rs := [2]) (by kernel_rfl) (by simp) (AllReadyH.cons rfl (fun K hK => ?_) AllReadyH.nil)
       go_simp
       go_wp2_with (go_at_call 51; refine (C1.out _).mono ?_; rintro e wc ⟨rfl, rfl⟩)
       refine hK.out _ _ h0 (fun h1 => ?_)
       clear hK K h0
       refine wpAnyH_take (i := 3) (v := ?_) rfl (by kernel_rfl) (by kernel_rfl) (by kernel_rfl) (fun _ _ _ h => h) (Or.inl ⟨by rfl, fun W hW => ?_⟩) h1 ?_
       rotate_left
       ·have q0 := (hW.cell (p := ⟨BW, 3, none⟩) HvB.out).trans v3.out
        clear hW
        go_simp
        try with_reducible rfl
       simp only [Act.put, l1, l2, l3, l4, l5, l6]
       refine wpAnyH_take (i := 4) (v := ?_) rfl (by kernel_rfl) (by kernel_rfl) (by kernel_rfl) (fun _ _ _ h => h) (Or.inl ⟨by rfl, fun W hW => ?_⟩) h1 ?_
       rotate_left
       ·have q0 := (hW.cell (p := ⟨BW, 3, none⟩) HvB.out).trans v3.out
        clear hW
        go_simp
        try with_reducible rfl
       simp only [Act.put, l1, l2, l3, l4, l5, l6]
       refine wpAnyH_take (i := 5) (v := undef) rfl (by kernel_rfl) (by kernel_rfl) (by kernel_rfl) (fun _ _ _ h => h) (Or.inr ⟨by rfl, rfl⟩) h1 ?_
       simp only [Act.put, l1, l2, l3, l4, l5, l6]
       refine wpAnyH_take (i := 6) (v := undef) rfl (by kernel_rfl) (by kernel_rfl) (by kernel_rfl) (fun _ _ _ h => h) (Or.inr ⟨by rfl, rfl⟩) h1 ?_
       simp only [Act.put, l1, l2, l3, l4, l5, l6]
       refine wpAnyH_take (i := 7) (v := undef) rfl (by kernel_rfl) (by kernel_rfl) (by kernel_rfl) (fun _ _ _ h => h) (Or.inr ⟨by rfl, rfl⟩) h1 ?_
       simp only [Act.put, l1, l2, l3, l4, l5, l6]
       refine wpAnyH_take (i := 8) (v := undef) rfl (by kernel_rfl) (by kernel_rfl) (by kernel_rfl) (fun _ _ _ h => h) (Or.inr ⟨by rfl, rfl⟩) h1 ?_
       simp only [Act.put, l1, l2, l3, l4, l5, l6]
       refine wpAnyH_take (i := 9) (v := undef) rfl (by kernel_rfl) (by kernel_rfl) (by kernel_rfl) (fun _ _ _ h => h) (Or.inr ⟨by rfl, rfl⟩) h1 ?_
       simp only [Act.put, l1, l2, l3, l4, l5, l6]
       refine wpAnyH_take (i := 10) (v := ?_) rfl (by kernel_rfl) (by kernel_rfl) (by kernel_rfl) (fun _ _ _ h => h) (Or.inl ⟨by rfl, fun W hW => ?_⟩) h1 ?_
       rotate_left
       ·have q0 := (hW.cell (p := ⟨BW, 3, none⟩) HvB.out).trans v3.out
        clear hW
        go_simp
        try with_reducible rfl
       simp only [Act.put, l1, l2, l3, l4, l5, l6]
       refine wpAnyH_take (i := 11) (v := ?_) rfl (by kernel_rfl) (by kernel_rfl) (by kernel_rfl) (fun _ _ _ h => h) (Or.inl ⟨by rfl, fun W hW => ?_⟩) h1 ?_
       rotate_left
       ·have q0 := (hW.cell (p := ⟨BW, 3, none⟩) HvB.out).trans v3.out
        clear hW
        go_simp
        try with_reducible rfl
       simp only [Act.put, l1, l2, l3, l4, l5, l6]
       refine wpAnyH_take (i := 12) (v := undef) rfl (by kernel_rfl) (by kernel_rfl) (by kernel_rfl) (fun _ _ _ h => h) (Or.inr ⟨by rfl, rfl⟩) h1 ?_
       simp only [Act.put, l1, l2, l3, l4, l5, l6]
       refine wpAnyH_take (i := 13) (v := undef) rfl (by kernel_rfl) (by kernel_rfl) (by kernel_rfl) (fun _ _ _ h => h) (Or.inr ⟨by rfl, rfl⟩) h1 ?_
       simp only [Act.put, l1, l2, l3, l4, l5, l6]
       refine wpAnyH_take (i := 14) (v := undef) rfl (by kernel_rfl) (by kernel_rfl) (by kernel_rfl) (fun _ _ _ h => h) (Or.inr ⟨by rfl, rfl⟩) h1 ?_
       simp only [Act.put, l1, l2, l3, l4, l5, l6]
       refine wpAnyH_take (i := 15) (v := undef) rfl (by kernel_rfl) (by kernel_rfl) (by kernel_rfl) (fun _ _ _ h => h) (Or.inr ⟨by rfl, rfl⟩) h1 ?_
       simp only [Act.put, l1, l2, l3, l4, l5, l6]
       refine wpAnyH_take (i := 16) (v := undef) rfl (by kernel_rfl) (by kernel_rfl) (by kernel_rfl) (fun _ _ _ h => h) (Or.inr ⟨by rfl, rfl⟩) h1 ?_
       simp only [Act.put, l1, l2, l3, l4, l5, l6]
       refine wpAnyH_take (i := 17) (v := undef) rfl (by kernel_rfl) (by kernel_rfl) (by kernel_rfl) (fun _ _ _ h => h) (Or.inr ⟨by rfl, rfl⟩) h1 ?_
       simp only [Act.put, l1, l2, l3, l4, l5, l6]
       refine wpAnyH_take (i := 18) (v := undef) rfl (by kernel_rfl) (by kernel_rfl) (by kernel_rfl) (fun _ _ _ h => h) (Or.inr ⟨by rfl, rfl⟩) h1 ?_
       simp only [Act.put, l1, l2, l3, l4, l5, l6]
       refine wpAnyH_take (i := 19) (v := undef) rfl (by kernel_rfl) (by kernel_rfl) (by kernel_rfl) (fun _ _ _ h => h) (Or.inr ⟨by rfl, rfl⟩) h1 ?_
       simp only [Act.put, l1, l2, l3, l4, l5, l6]
       refine wpAnyH_take (i := 20) (v := undef) rfl (by kernel_rfl) (by kernel_rfl) (by kernel_rfl) (fun _ _ _ h => h) (Or.inr ⟨by rfl, rfl⟩) h1 ?_
       simp only [Act.put, l1, l2, l3, l4, l5, l6]
       refine wpAnyH_take (i := 21) (v := undef) rfl (by kernel_rfl) (by kernel_rfl) (by kernel_rfl) (fun _ _ _ h => h) (Or.inr ⟨by rfl, rfl⟩) h1 ?_
       simp only [Act.put, l1, l2, l3, l4, l5, l6]
       refine wpAnyH_take (i := 22) (v := undef) rfl (by kernel_rfl) (by kernel_rfl) (by kernel_rfl) (fun _ _ _ h => h) (Or.inr ⟨by rfl, rfl⟩) h1 ?_
       simp only [Act.put, l1, l2, l3, l4, l5, l6]
       refine wpAnyH_take (i := 23) (v := undef) rfl (by kernel_rfl) (by kernel_rfl) (by kernel_rfl) (fun _ _ _ h => h) (Or.inr ⟨by rfl, rfl⟩) h1 ?_
       simp only [Act.put, l1, l2, l3, l4, l5, l6]
       refine wpAnyH_take (i := 24) (v := undef) rfl (by kernel_rfl) (by kernel_rfl) (by kernel_rfl) (fun _ _ _ h => h) (Or.inr ⟨by rfl, rfl⟩) h1 ?_
       simp only [Act.put, l1, l2, l3, l4, l5, l6]
       refine wpAnyH_take (i := 25) (v := undef) rfl (by kernel_rfl) (by kernel_rfl) (by kernel_rfl) (fun _ _ _ h => h) (Or.inr ⟨by rfl, rfl⟩) h1 ?_
       simp only [Act.put, l1, l2, l3, l4, l5, l6]
       refine wpAnyH_take (i := 26) (v := ?_) rfl (by kernel_rfl) (by kernel_rfl) (by kernel_rfl) (fun _ _ _ h => h) (Or.inl ⟨by rfl, fun W hW => ?_⟩) h1 ?_
       rotate_left
       ·have q0 := (hW.cell (p := ⟨BW, 3, none⟩) HvB.out).trans v3.out
        clear hW
        go_simp
        try with_reducible rfl
       simp only [Act.put, l1, l2, l3, l4, l5, l6]
       refine wpAnyH_done (by kernel_rfl) ?_ _
       have B2 := BVO.trans (h1.mono BVO.size)
       clear h1
       go_wp2_with fail
       go_ret
       exact AnsB.mk HZ.out (bO.trans (B2.mono bO.size))
      | true =>
       by_cases hz0 : sz < 0
       ·have HZ := hidM (HNo.out (fun h => by have := (HI0.out.1 h).2.1; omega))
        have hz0b : decide (sz < 0) = true := decide_eq_true hz0
        clear HNo HYes HI0 HPC
        refine wpAnyH_take (i := 0) (v := ?_) rfl (by kernel_rfl) (by kernel_rfl) (by kernel_rfl) (fun _ _ _ h => h) (Or.inl ⟨by rfl, fun W hW => ?_⟩) h0 ?_
        rotate_left
        ·have q0 := (hW.cell (p := ⟨BW, 3, none⟩) HvB.out).trans v3.out
         clear hW
         go_simp
         try with_reducible rfl
        simp only [Act.put, l1, l2, l3, l4, l5, l6]
        refine wpAnyH_take (i := 1) (v := ?_) rfl (by kernel_rfl) (by kernel_rfl) (by kernel_rfl) (fun _ _ _ h => h) (Or.inl ⟨by rfl, fun W hW => ?_⟩) h0 ?_
        rotate_left
        ·have q0 := (hW.cell (p := ⟨BW, 3, none⟩) HvB.out).trans v3.out
         clear hW
         go_simp
         try with_reducible rfl
        simp only [Act.put, l1, l2, l3, l4, l5, l6]
        refine wpAnyH_ready (rs := [2]) (by kernel_rfl) (by simp) (AllReadyH.cons rfl (fun K hK => ?_) AllReadyH.nil)
        go_simp
        go_wp2_with (go_at_call 51; refine (C1.out _).mono ?_; rintro e wc ⟨rfl, rfl⟩)
        refine hK.out _ _ h0 (fun h1 => ?_)
        clear hK K h0
        refine wpAnyH_take (i := 3) (v := ?_) rfl (by kernel_rfl) (by kernel_rfl) (by kernel_rfl) (fun _ _ _ h => h) (Or.inl ⟨by rfl, fun W hW => ?_⟩) h1 ?_
        rotate_left
        ·have q0 := (hW.cell (p := ⟨BW, 3, none⟩) HvB.out).trans v3.out
         clear hW
         go_simp
         try with_reducible rfl
        simp only [Act.put, l1, l2, l3, l4, l5, l6]
        refine wpAnyH_take (i := 4) (v := ?_) rfl (by kernel_rfl) (by kernel_rfl) (by kernel_rfl) (fun _ _ _ h => h) (Or.inl ⟨by rfl, fun W hW => ?_⟩) h1 ?_
        rotate_left
        ·have q0 := (hW.cell (p := ⟨BW, 3, none⟩) HvB.out).trans v3.out
         clear hW
         go_simp
         try with_reducible rfl
        simp only [Act.put, l1, l2, l3, l4, l5, l6]
        refine wpAnyH_take (i := 5) (v := ?_) rfl (by kernel_rfl) (by kernel_rfl) (by kernel_rfl) (fun _ _ _ h => h) (Or.inl ⟨by rfl, fun W hW => ?_⟩) h1 ?_
        rotate_left
        ·have q1 := (hW.cell (p := ⟨BW, 1, none⟩) HvB.out).trans v1.out
         have r0 := (hW.cell (p := ⟨w.heap.size, 0, none⟩) HvO.out).trans o0.out
         have r1 := (hW.cell (p := ⟨w.heap.size, 1, none⟩) HvO.out).trans o1.out
         have r2 := (hW.cell (p := ⟨w.heap.size, 2, none⟩) HvO.out).trans o2.out
         have r3 := (hW.cell (p := ⟨w.heap.size, 3, none⟩) HvO.out).trans o3.out
         have r4 := (hW.cell (p := ⟨w.heap.size, 4, none⟩) HvO.out).trans o4.out
         have r5 := (hW.cell (p := ⟨w.heap.size, 5, none⟩) HvO.out).trans o5.out
         clear hW
         go_simp
         try with_reducible rfl
        simp only [Act.put, l1, l2, l3, l4, l5, l6]
        refine wpAnyH_take (i := 6) (v := ?_) rfl (by kernel_rfl) (by kernel_rfl) (by kernel_rfl) (fun _ _ _ h => h) (Or.inl ⟨by rfl, fun W hW => ?_⟩) h1 ?_
        rotate_left
        ·have q1 := (hW.cell (p := ⟨BW, 1, none⟩) HvB.out).trans v1.out
         have r0 := (hW.cell (p := ⟨w.heap.size, 0, none⟩) HvO.out).trans o0.out
         have r1 := (hW.cell (p := ⟨w.heap.size, 1, none⟩) HvO.out).trans o1.out
         have r2 := (hW.cell (p := ⟨w.heap.size, 2, none⟩) HvO.out).trans o2.out
         have r3 := (hW.cell (p := ⟨w.heap.size, 3, none⟩) HvO.out).trans o3.out
         have r4 := (hW.cell (p := ⟨w.heap.size, 4, none⟩) HvO.out).trans o4.out
         have r5 := (hW.cell (p := ⟨w.heap.size, 5, none⟩) HvO.out).trans o5.out
         clear hW
         go_simp
         try with_reducible rfl
        simp only [Act.put, l1, l2, l3, l4, l5, l6]
        refine wpAnyH_take (i := 7) (v := ?_) rfl (by kernel_rfl) (by kernel_rfl) (by kernel_rfl) (fun _ _ _ h => h) (Or.inl ⟨by rfl, fun W hW => ?_⟩) h1 ?_
        rotate_left
        ·have q1 := (hW.cell (p := ⟨BW, 1, none⟩) HvB.out).trans v1.out
         have r0 := (hW.cell (p := ⟨w.heap.size, 0, none⟩) HvO.out).trans o0.out
         have r1 := (hW.cell (p := ⟨w.heap.size, 1, none⟩) HvO.out).trans o1.out
         have r2 := (hW.cell (p := ⟨w.heap.size, 2, none⟩) HvO.out).trans o2.out
         have r3 := (hW.cell (p := ⟨w.heap.size, 3, none⟩) HvO.out).trans o3.out
         have r4 := (hW.cell (p := ⟨w.heap.size, 4, none⟩) HvO.out).trans o4.out
         have r5 := (hW.cell (p := ⟨w.heap.size, 5, none⟩) HvO.out).trans o5.out
         clear hW
         go_simp
         try with_reducible rfl
        simp only [Act.put, l1, l2, l3, l4, l5, l6]
        refine wpAnyH_ready (rs := [8]) (by kernel_rfl) (by simp) (AllReadyH.cons rfl (fun K hK => ?_) AllReadyH.nil)
        go_simp
        go_wp2_with (go_at_call 104; refine (C2.out _ h1).mono ?_; rintro e wd ⟨rfl, bq⟩)
        refine hK.out _ _ (h1.trans (bq.mono h1.size)) (fun h2 => ?_)
        clear hK K bq h1
        refine wpAnyH_take (i := 9) (v := ?_) rfl (by kernel_rfl) (by kernel_rfl) (by kernel_rfl) (fun _ _ _ h => h) (Or.inl ⟨by rfl, fun W hW => ?_⟩) h2 ?_
        rotate_left
        ·have q0 := (hW.cell (p := ⟨BW, 3, none⟩) HvB.out).trans v3.out
         clear hW
         go_simp
         try with_reducible rfl
        simp only [Act.put, l1, l2, l3, l4, l5, l6]
        refine wpAnyH_take (i := 10) (v := ?_) rfl (by kernel_rfl) (by kernel_rfl) (by kernel_rfl) (fun _ _ _ h => h) (Or.inl ⟨by rfl, fun W hW => ?_⟩) h2 ?_
        rotate_left
        ·have q0 := (hW.cell (p := ⟨BW, 3, none⟩) HvB.out).trans v3.out
         clear hW
         go_simp
         try with_reducible rfl
        simp only [Act.put, l1, l2, l3, l4, l5, l6]
        refine wpAnyH_take (i := 11) (v := ?_) rfl (by kernel_rfl) (by kernel_rfl) (by kernel_rfl) (fun _ _ _ h => h) (Or.inl ⟨by rfl, fun W hW => ?_⟩) h2 ?_
        rotate_left
        ·have q0 := (hW.cell (p := ⟨BW, 3, none⟩) HvB.out).trans v3.out
         clear hW
         go_simp
         try with_reducible rfl
        simp only [Act.put, l1, l2, l3, l4, l5, l6]
        refine wpAnyH_take (i := 12) (v := undef) rfl (by kernel_rfl) (by kernel_rfl) (by kernel_rfl) (fun _ _ _ h => h) (Or.inr ⟨by rfl, rfl⟩) h2 ?_
        simp only [Act.put, l1, l2, l3, l4, l5, l6]
        refine wpAnyH_take (i := 13) (v := undef) rfl (by kernel_rfl) (by kernel_rfl) (by kernel_rfl) (fun _ _ _ h => h) (Or.inr ⟨by rfl, rfl⟩) h2 ?_
        simp only [Act.put, l1, l2, l3, l4, l5, l6]
        refine wpAnyH_take (i := 14) (v := undef) rfl (by kernel_rfl) (by kernel_rfl) (by kernel_rfl) (fun _ _ _ h => h) (Or.inr ⟨by rfl, rfl⟩) h2 ?_
        simp only [Act.put, l1, l2, l3, l4, l5, l6]
        refine wpAnyH_take (i := 15) (v := undef) rfl (by kernel_rfl) (by kernel_rfl) (by kernel_rfl) (fun _ _ _ h => h) (Or.inr ⟨by rfl, rfl⟩) h2 ?_
        simp only [Act.put, l1, l2, l3, l4, l5, l6]
        refine wpAnyH_take (i := 16) (v := undef) rfl (by kernel_rfl) (by kernel_rfl) (by kernel_rfl) (fun _ _ _ h => h) (Or.inr ⟨by rfl, rfl⟩) h2 ?_
        simp only [Act.put, l1, l2, l3, l4, l5, l6]
        refine wpAnyH_take (i := 17) (v := undef) rfl (by kernel_rfl) (by kernel_rfl) (by kernel_rfl) (fun _ _ _ h => h) (Or.inr ⟨by rfl, rfl⟩) h2 ?_
        simp only [Act.put, l1, l2, l3, l4, l5, l6]
        refine wpAnyH_take (i := 18) (v := undef) rfl (by kernel_rfl) (by kernel_rfl) (by kernel_rfl) (fun _ _ _ h => h) (Or.inr ⟨by rfl, rfl⟩) h2 ?_
        simp only [Act.put, l1, l2, l3, l4, l5, l6]
        refine wpAnyH_take (i := 19) (v := undef) rfl (by kernel_rfl) (by kernel_rfl) (by kernel_rfl) (fun _ _ _ h => h) (Or.inr ⟨by rfl, rfl⟩) h2 ?_
        simp only [Act.put, l1, l2, l3, l4, l5, l6]
        refine wpAnyH_take (i := 20) (v := undef) rfl (by kernel_rfl) (by kernel_rfl) (by kernel_rfl) (fun _ _ _ h => h) (Or.inr ⟨by rfl, rfl⟩) h2 ?_
        simp only [Act.put, l1, l2, l3, l4, l5, l6]
        refine wpAnyH_take (i := 21) (v := undef) rfl (by kernel_rfl) (by kernel_rfl) (by kernel_rfl) (fun _ _ _ h => h) (Or.inr ⟨by rfl, rfl⟩) h2 ?_
        simp only [Act.put, l1, l2, l3, l4, l5, l6]
        refine wpAnyH_take (i := 22) (v := undef) rfl (by kernel_rfl) (by kernel_rfl) (by kernel_rfl) (fun _ _ _ h => h) (Or.inr ⟨by rfl, rfl⟩) h2 ?_
        simp only [Act.put, l1, l2, l3, l4, l5, l6]
        refine wpAnyH_take (i := 23) (v := undef) rfl (by kernel_rfl) (by kernel_rfl) (by kernel_rfl) (fun _ _ _ h => h) (Or.inr ⟨by rfl, rfl⟩) h2 ?_
        simp only [Act.put, l1, l2, l3, l4, l5, l6]
        refine wpAnyH_take (i := 24) (v := undef) rfl (by kernel_rfl) (by kernel_rfl) (by kernel_rfl) (fun _ _ _ h => h) (Or.inr ⟨by rfl, rfl⟩) h2 ?_
        simp only [Act.put, l1, l2, l3, l4, l5, l6]
        refine wpAnyH_take (i := 25) (v := undef) rfl (by kernel_rfl) (by kernel_rfl) (by kernel_rfl) (fun _ _ _ h => h) (Or.inr ⟨by rfl, rfl⟩) h2 ?_
        simp only [Act.put, l1, l2, l3, l4, l5, l6]
        refine wpAnyH_take (i := 26) (v := ?_) rfl (by kernel_rfl) (by kernel_rfl) (by kernel_rfl) (fun _ _ _ h => h) (Or.inl ⟨by rfl, fun W hW => ?_⟩) h2 ?_
        rotate_left
        ·have q0 := (hW.cell (p := ⟨BW, 3, none⟩) HvB.out).trans v3.out
         clear hW
         go_simp
         try with_reducible rfl
        simp only [Act.put, l1, l2, l3, l4, l5, l6]
        refine wpAnyH_done (by kernel_rfl) ?_ _
        have B2 := BVO.trans (h2.mono BVO.size)
        clear h2
        go_wp2_with fail
        go_ret
        exact AnsB.mk HZ.out (bO.trans (B2.mono bO.size))
       ·have hz0b : decide (sz < 0) = false := decide_eq_false hz0
        by_cases hk0 : k = 0
        ·subst hk0
         have HZ := hidM (HYes.out (HI0.out.2 ⟨rfl, by omega, fun h => absurd h (Nat.lt_irrefl _)⟩))
         clear HNo HYes HI0 HPC
         refine wpAnyH_take (i := 0) (v := ?_) rfl (by kernel_rfl) (by kernel_rfl) (by kernel_rfl) (fun _ _ _ h => h) (Or.inl ⟨by rfl, fun W hW => ?_⟩) h0 ?_
         rotate_left
         ·have q0 := (hW.cell (p := ⟨BW, 3, none⟩) HvB.out).trans v3.out
          clear hW
          go_simp
          try with_reducible rfl
         simp only [Act.put, l1, l2, l3, l4, l5, l6]
         refine wpAnyH_take (i := 1) (v := ?_) rfl (by kernel_rfl) (by kernel_rfl) (by kernel_rfl) (fun _ _ _ h => h) (Or.inl ⟨by rfl, fun W hW => ?_⟩) h0 ?_
         rotate_left
         ·have q0 := (hW.cell (p := ⟨BW, 3, none⟩) HvB.out).trans v3.out
          clear hW
          go_simp
          try with_reducible rfl
         simp only [Act.put, l1, l2, l3, l4, l5, l6]
         refine wpAnyH_ready (rs := [2]) (by kernel_rfl) (by simp) (AllReadyH.cons rfl (fun K hK => ?_) AllReadyH.nil)
         go_simp
         go_wp2_with (go_at_call 51; refine (C1.out _).mono ?_; rintro e wc ⟨rfl, rfl⟩)
         refine hK.out _ _ h0 (fun h1 => ?_)
         clear hK K h0
         refine wpAnyH_take (i := 3) (v := ?_) rfl (by kernel_rfl) (by kernel_rfl) (by kernel_rfl) (fun _ _ _ h => h) (Or.inl ⟨by rfl, fun W hW => ?_⟩) h1 ?_
         rotate_left
         ·have q0 := (hW.cell (p := ⟨BW, 3, none⟩) HvB.out).trans v3.out
          clear hW
          go_simp
          try with_reducible rfl
         simp only [Act.put, l1, l2, l3, l4, l5, l6]
         refine wpAnyH_take (i := 4) (v := ?_) rfl (by kernel_rfl) (by kernel_rfl) (by kernel_rfl) (fun _ _ _ h => h) (Or.inl ⟨by rfl, fun W hW => ?_⟩) h1 ?_
         rotate_left
         ·have q0 := (hW.cell (p := ⟨BW, 3, none⟩) HvB.out).trans v3.out
          clear hW
          go_simp
          try with_reducible rfl
         simp only [Act.put, l1, l2, l3, l4, l5, l6]
         refine wpAnyH_take (i := 5) (v := ?_) rfl (by kernel_rfl) (by kernel_rfl) (by kernel_rfl) (fun _ _ _ h => h) (Or.inl ⟨by rfl, fun W hW => ?_⟩) h1 ?_
         rotate_left
         ·have q1 := (hW.cell (p := ⟨BW, 1, none⟩) HvB.out).trans v1.out
          have r0 := (hW.cell (p := ⟨w.heap.size, 0, none⟩) HvO.out).trans o0.out
          have r1 := (hW.cell (p := ⟨w.heap.size, 1, none⟩) HvO.out).trans o1.out
          have r2 := (hW.cell (p := ⟨w.heap.size, 2, none⟩) HvO.out).trans o2.out
          have r3 := (hW.cell (p := ⟨w.heap.size, 3, none⟩) HvO.out).trans o3.out
          have r4 := (hW.cell (p := ⟨w.heap.size, 4, none⟩) HvO.out).trans o4.out
          have r5 := (hW.cell (p := ⟨w.heap.size, 5, none⟩) HvO.out).trans o5.out
          clear hW
          go_simp
          try with_reducible rfl
         simp only [Act.put, l1, l2, l3, l4, l5, l6]
         refine wpAnyH_take (i := 6) (v := ?_) rfl (by kernel_rfl) (by kernel_rfl) (by kernel_rfl) (fun _ _ _ h => h) (Or.inl ⟨by rfl, fun W hW => ?_⟩) h1 ?_
         rotate_left
         ·have q1 := (hW.cell (p := ⟨BW, 1, none⟩) HvB.out).trans v1.out
          have r0 := (hW.cell (p := ⟨w.heap.size, 0, none⟩) HvO.out).trans o0.out
          have r1 := (hW.cell (p := ⟨w.heap.size, 1, none⟩) HvO.out).trans o1.out
          have r2 := (hW.cell (p := ⟨w.heap.size, 2, none⟩) HvO.out).trans o2.out
          have r3 := (hW.cell (p := ⟨w.heap.size, 3, none⟩) HvO.out).trans o3.out
          have r4 := (hW.cell (p := ⟨w.heap.size, 4, none⟩) HvO.out).trans o4.out
          have r5 := (hW.cell (p := ⟨w.heap.size, 5, none⟩) HvO.out).trans o5.out
          clear hW
          go_simp
          try with_reducible rfl
         simp only [Act.put, l1, l2, l3, l4, l5, l6]
         refine wpAnyH_take (i := 7) (v := ?_) rfl (by kernel_rfl) (by kernel_rfl) (by kernel_rfl) (fun _ _ _ h => h) (Or.inl ⟨by rfl, fun W hW => ?_⟩) h1 ?_
         rotate_left
         ·have q1 := (hW.cell (p := ⟨BW, 1, none⟩) HvB.out).trans v1.out
          have r0 := (hW.cell (p := ⟨w.heap.size, 0, none⟩) HvO.out).trans o0.out
          have r1 := (hW.cell (p := ⟨w.heap.size, 1, none⟩) HvO.out).trans o1.out
          have r2 := (hW.cell (p := ⟨w.heap.size, 2, none⟩) HvO.out).trans o2.out
          have r3 := (hW.cell (p := ⟨w.heap.size, 3, none⟩) HvO.out).trans o3.out
          have r4 := (hW.cell (p := ⟨w.heap.size, 4, none⟩) HvO.out).trans o4.out
          have r5 := (hW.cell (p := ⟨w.heap.size, 5, none⟩) HvO.out).trans o5.out
          clear hW
          go_simp
          try with_reducible rfl
         simp only [Act.put, l1, l2, l3, l4, l5, l6]
         refine wpAnyH_ready (rs := [8]) (by kernel_rfl) (by simp) (AllReadyH.cons rfl (fun K hK => ?_) AllReadyH.nil)
         go_simp
         go_wp2_with (go_at_call 104; refine (C2.out _ h1).mono ?_; rintro e wd ⟨rfl, bq⟩)
         refine hK.out _ _ (h1.trans (bq.mono h1.size)) (fun h2 => ?_)
         clear hK K bq h1
         refine wpAnyH_take (i := 9) (v := ?_) rfl (by kernel_rfl) (by kernel_rfl) (by kernel_rfl) (fun _ _ _ h => h) (Or.inl ⟨by rfl, fun W hW => ?_⟩) h2 ?_
         rotate_left
         ·have q0 := (hW.cell (p := ⟨BW, 3, none⟩) HvB.out).trans v3.out
          clear hW
          go_simp
          try with_reducible rfl
         simp only [Act.put, l1, l2, l3, l4, l5, l6]
         refine wpAnyH_take (i := 10) (v := ?_) rfl (by kernel_rfl) (by kernel_rfl) (by kernel_rfl) (fun _ _ _ h => h) (Or.inl ⟨by rfl, fun W hW => ?_⟩) h2 ?_
         rotate_left
         ·have q0 := (hW.cell (p := ⟨BW, 3, none⟩) HvB.out).trans v3.out
          clear hW
          go_simp
          try with_reducible rfl
         simp only [Act.put, l1, l2, l3, l4, l5, l6]
         refine wpAnyH_take (i := 11) (v := ?_) rfl (by kernel_rfl) (by kernel_rfl) (by kernel_rfl) (fun _ _ _ h => h) (Or.inl ⟨by rfl, fun W hW => ?_⟩) h2 ?_
         rotate_left
         ·have q0 := (hW.cell (p := ⟨BW, 3, none⟩) HvB.out).trans v3.out
          clear hW
          go_simp
          try with_reducible rfl
         simp only [Act.put, l1, l2, l3, l4, l5, l6]
         refine wpAnyH_take (i := 12) (v := ?_) rfl (by kernel_rfl) (by kernel_rfl) (by kernel_rfl) (fun _ _ _ h => h) (Or.inl ⟨by rfl, fun W hW => ?_⟩) h2 ?_
         rotate_left
         ·have q0 := (hW.cell (p := ⟨BW, 3, none⟩) HvB.out).trans v3.out
          clear hW
          go_simp
          try with_reducible rfl
         simp only [Act.put, l1, l2, l3, l4, l5, l6]
         refine wpAnyH_take (i := 13) (v := ?_) rfl (by kernel_rfl) (by kernel_rfl) (by kernel_rfl) (fun _ _ _ h => h) (Or.inl ⟨by rfl, fun W hW => ?_⟩) h2 ?_
         rotate_left
         ·have q0 := (hW.cell (p := ⟨BW, 3, none⟩) HvB.out).trans v3.out
          clear hW
          go_simp
          try with_reducible rfl
         simp only [Act.put, l1, l2, l3, l4, l5, l6]
         refine wpAnyH_take (i := 14) (v := ?_) rfl (by kernel_rfl) (by kernel_rfl) (by kernel_rfl) (fun _ _ _ h => h) (Or.inl ⟨by rfl, fun W hW => ?_⟩) h2 ?_
         rotate_left
         ·have q0 := (hW.cell (p := ⟨BW, 3, none⟩) HvB.out).trans v3.out
          clear hW
          go_simp
          try with_reducible rfl
         simp only [Act.put, l1, l2, l3, l4, l5, l6]
         refine wpAnyH_take (i := 15) (v := undef) rfl (by kernel_rfl) (by kernel_rfl) (by kernel_rfl) (fun _ _ _ h => h) (Or.inr ⟨by rfl, rfl⟩) h2 ?_
         simp only [Act.put, l1, l2, l3, l4, l5, l6]
         refine wpAnyH_take (i := 16) (v := undef) rfl (by kernel_rfl) (by kernel_rfl) (by kernel_rfl) (fun _ _ _ h => h) (Or.inr ⟨by rfl, rfl⟩) h2 ?_
         simp only [Act.put, l1, l2, l3, l4, l5, l6]
         refine wpAnyH_take (i := 17) (v := undef) rfl (by kernel_rfl) (by kernel_rfl) (by kernel_rfl) (fun _ _ _ h => h) (Or.inr ⟨by rfl, rfl⟩) h2 ?_
         simp only [Act.put, l1, l2, l3, l4, l5, l6]
         refine wpAnyH_take (i := 18) (v := undef) rfl (by kernel_rfl) (by kernel_rfl) (by kernel_rfl) (fun _ _ _ h => h) (Or.inr ⟨by rfl, rfl⟩) h2 ?_
         simp only [Act.put, l1, l2, l3, l4, l5, l6]
         refine wpAnyH_take (i := 19) (v := undef) rfl (by kernel_rfl) (by kernel_rfl) (by kernel_rfl) (fun _ _ _ h => h) (Or.inr ⟨by rfl, rfl⟩) h2 ?_
         simp only [Act.put, l1, l2, l3, l4, l5, l6]
         refine wpAnyH_take (i := 20) (v := undef) rfl (by kernel_rfl) (by kernel_rfl) (by kernel_rfl) (fun _ _ _ h => h) (Or.inr ⟨by rfl, rfl⟩) h2 ?_
         simp only [Act.put, l1, l2, l3, l4, l5, l6]
         refine wpAnyH_take (i := 21) (v := undef) rfl (by kernel_rfl) (by kernel_rfl) (by kernel_rfl) (fun _ _ _ h => h) (Or.inr ⟨by rfl, rfl⟩) h2 ?_
         simp only [Act.put, l1, l2, l3, l4, l5, l6]
         refine wpAnyH_take (i := 22) (v := undef) rfl (by kernel_rfl) (by kernel_rfl) (by kernel_rfl) (fun _ _ _ h => h) (Or.inr ⟨by rfl, rfl⟩) h2 ?_
         simp only [Act.put, l1, l2, l3, l4, l5, l6]
         refine wpAnyH_take (i := 23) (v := undef) rfl (by kernel_rfl) (by kernel_rfl) (by kernel_rfl) (fun _ _ _ h => h) (Or.inr ⟨by rfl, rfl⟩) h2 ?_
         simp only [Act.put, l1, l2, l3, l4, l5, l6]
         refine wpAnyH_take (i := 24) (v := undef) rfl (by kernel_rfl) (by kernel_rfl) (by kernel_rfl) (fun _ _ _ h => h) (Or.inr ⟨by rfl, rfl⟩) h2 ?_
         simp only [Act.put, l1, l2, l3, l4, l5, l6]
         refine wpAnyH_take (i := 25) (v := ?_) rfl (by kernel_rfl) (by kernel_rfl) (by kernel_rfl) (fun _ _ _ h => h) (Or.inl ⟨by rfl, fun W hW => ?_⟩) h2 ?_
         rotate_left
         ·have q0 := (hW.cell (p := ⟨BW, 3, none⟩) HvB.out).trans v3.out
          clear hW
          go_simp
          try with_reducible rfl
         simp only [Act.put, l1, l2, l3, l4, l5, l6]
         refine wpAnyH_take (i := 26) (v := ?_) rfl (by kernel_rfl) (by kernel_rfl) (by kernel_rfl) (fun _ _ _ h => h) (Or.inl ⟨by rfl, fun W hW => ?_⟩) h2 ?_
         rotate_left
         ·have q0 := (hW.cell (p := ⟨BW, 3, none⟩) HvB.out).trans v3.out
          clear hW
          go_simp
          try with_reducible rfl
         simp only [Act.put, l1, l2, l3, l4, l5, l6]
         refine wpAnyH_done (by kernel_rfl) ?_ _
         have B2 := BVO.trans (h2.mono BVO.size)
         clear h2
         go_wp2_with fail
         go_roundw
         case rel => exact ⟨1, by omega, by go_num, HZ.out, B2⟩
         case measure => simp [intOf]; omega
        ·obtain ⟨m, rfl⟩ : ∃ m, k = m + 1 := ⟨k - 1, by omega⟩
         have p0 := hidM (HPC.out m (by omega))
         have HI3 : Hid (QL ↔ tl (le.getD m lsv0).k x0 = true) := hidM (HI0.out.trans ⟨fun h => by have := h.2.2 (by omega); rwa [Nat.add_sub_cancel] at this, fun h => ⟨rfl, by omega, fun _ => by rw [Nat.add_sub_cancel]; exact h⟩⟩)
         have HT : Hid (tl (le.getD m lsv0).k x0 = Op.bytesLess (le.getD m lsv0).k.toList x0.toList) := rfl
         have hkz : ((m + 1 : Nat) : Int) - 1 = (m : Int) := by omega
         have hkp : (0 : Int) < ((m + 1 : Nat) : Int) := by omega
         have hkl : (m : Int) < (le.length : Int) := by omega
         have hkm1 : (0 : Int) ≤ (m : Int) + 1 := by omega
         have hkm2 : (m : Int) + 1 < (le.length : Int) := by omega
         have hkw : IntKind.i64.wrap (m : Int) = (m : Int) := by rw [IntKind.wrap_i64]; omega
         clear HI0 HPC
         generalize tl (le.getD m lsv0).k x0 = TT at *
         generalize hx2 : (le.getD m lsv0).k = y0 at *
         clear hx2
         cases hqb : Op.bytesLess y0.toList x0.toList with
         | false =>
          have HZ := hidM (HNo.out (fun h => by have := HI3.out.1 h; rw [HT.out, hqb] at this; cases this))
          clear HNo HYes HI3 HT
          refine wpAnyH_take (i := 0) (v := ?_) rfl (by kernel_rfl) (by kernel_rfl) (by kernel_rfl) (fun _ _ _ h => h) (Or.inl ⟨by rfl, fun W hW => ?_⟩) h0 ?_
          rotate_left
          ·have q0 := (hW.cell (p := ⟨BW, 3, none⟩) HvB.out).trans v3.out
           clear hW
           go_simp
           try with_reducible rfl
          simp only [Act.put, l1, l2, l3, l4, l5, l6]
          refine wpAnyH_take (i := 1) (v := ?_) rfl (by kernel_rfl) (by kernel_rfl) (by kernel_rfl) (fun _ _ _ h => h) (Or.inl ⟨by rfl, fun W hW => ?_⟩) h0 ?_
          rotate_left
          ·have q0 := (hW.cell (p := ⟨BW, 3, none⟩) HvB.out).trans v3.out
           clear hW
           go_simp
           try with_reducible rfl
          simp only [Act.put, l1, l2, l3, l4, l5, l6]
          refine wpAnyH_ready (rs := [2]) (by kernel_rfl) (by simp) (AllReadyH.cons rfl (fun K hK => ?_) AllReadyH.nil)
          go_simp
          go_wp2_with (go_at_call 51; refine (C1.out _).mono ?_; rintro e wc ⟨rfl, rfl⟩)
          refine hK.out _ _ h0 (fun h1 => ?_)
          clear hK K h0
          refine wpAnyH_take (i := 3) (v := ?_) rfl (by kernel_rfl) (by kernel_rfl) (by kernel_rfl) (fun _ _ _ h => h) (Or.inl ⟨by rfl, fun W hW => ?_⟩) h1 ?_
          rotate_left
          ·have q0 := (hW.cell (p := ⟨BW, 3, none⟩) HvB.out).trans v3.out
           clear hW
           go_simp
           try with_reducible rfl
          simp only [Act.put, l1, l2, l3, l4, l5, l6]
          refine wpAnyH_take (i := 4) (v := ?_) rfl (by kernel_rfl) (by kernel_rfl) (by kernel_rfl) (fun _ _ _ h => h) (Or.inl ⟨by rfl, fun W hW => ?_⟩) h1 ?_
          rotate_left
          ·have q0 := (hW.cell (p := ⟨BW, 3, none⟩) HvB.out).trans v3.out
           clear hW
           go_simp
           try with_reducible rfl
          simp only [Act.put, l1, l2, l3, l4, l5, l6]
          refine wpAnyH_take (i := 5) (v := ?_) rfl (by kernel_rfl) (by kernel_rfl) (by kernel_rfl) (fun _ _ _ h => h) (Or.inl ⟨by rfl, fun W hW => ?_⟩) h1 ?_
          rotate_left
          ·have q1 := (hW.cell (p := ⟨BW, 1, none⟩) HvB.out).trans v1.out
           have r0 := (hW.cell (p := ⟨w.heap.size, 0, none⟩) HvO.out).trans o0.out
           have r1 := (hW.cell (p := ⟨w.heap.size, 1, none⟩) HvO.out).trans o1.out
           have r2 := (hW.cell (p := ⟨w.heap.size, 2, none⟩) HvO.out).trans o2.out
           have r3 := (hW.cell (p := ⟨w.heap.size, 3, none⟩) HvO.out).trans o3.out
           have r4 := (hW.cell (p := ⟨w.heap.size, 4, none⟩) HvO.out).trans o4.out
           have r5 := (hW.cell (p := ⟨w.heap.size, 5, none⟩) HvO.out).trans o5.out
           clear hW
           go_simp
           try with_reducible rfl
          simp only [Act.put, l1, l2, l3, l4, l5, l6]
          refine wpAnyH_take (i := 6) (v := ?_) rfl (by kernel_rfl) (by kernel_rfl) (by kernel_rfl) (fun _ _ _ h => h) (Or.inl ⟨by rfl, fun W hW => ?_⟩) h1 ?_
          rotate_left
          ·have q1 := (hW.cell (p := ⟨BW, 1, none⟩) HvB.out).trans v1.out
           have r0 := (hW.cell (p := ⟨w.heap.size, 0, none⟩) HvO.out).trans o0.out
           have r1 := (hW.cell (p := ⟨w.heap.size, 1, none⟩) HvO.out).trans o1.out
           have r2 := (hW.cell (p := ⟨w.heap.size, 2, none⟩) HvO.out).trans o2.out
           have r3 := (hW.cell (p := ⟨w.heap.size, 3, none⟩) HvO.out).trans o3.out
           have r4 := (hW.cell (p := ⟨w.heap.size, 4, none⟩) HvO.out).trans o4.out
           have r5 := (hW.cell (p := ⟨w.heap.size, 5, none⟩) HvO.out).trans o5.out
           clear hW
           go_simp
           try with_reducible rfl
          simp only [Act.put, l1, l2, l3, l4, l5, l6]
          refine wpAnyH_take (i := 7) (v := ?_) rfl (by kernel_rfl) (by kernel_rfl) (by kernel_rfl) (fun _ _ _ h => h) (Or.inl ⟨by rfl, fun W hW => ?_⟩) h1 ?_
          rotate_left
          ·have q1 := (hW.cell (p := ⟨BW, 1, none⟩) HvB.out).trans v1.out
           have r0 := (hW.cell (p := ⟨w.heap.size, 0, none⟩) HvO.out).trans o0.out
           have r1 := (hW.cell (p := ⟨w.heap.size, 1, none⟩) HvO.out).trans o1.out
           have r2 := (hW.cell (p := ⟨w.heap.size, 2, none⟩) HvO.out).trans o2.out
           have r3 := (hW.cell (p := ⟨w.heap.size, 3, none⟩) HvO.out).trans o3.out
           have r4 := (hW.cell (p := ⟨w.heap.size, 4, none⟩) HvO.out).trans o4.out
           have r5 := (hW.cell (p := ⟨w.heap.size, 5, none⟩) HvO.out).trans o5.out
           clear hW
           go_simp
           try with_reducible rfl
          simp only [Act.put, l1, l2, l3, l4, l5, l6]
          refine wpAnyH_ready (rs := [8]) (by kernel_rfl) (by simp) (AllReadyH.cons rfl (fun K hK => ?_) AllReadyH.nil)
          go_simp
          go_wp2_with (go_at_call 104; refine (C2.out _ h1).mono ?_; rintro e wd ⟨rfl, bq⟩)
          refine hK.out _ _ (h1.trans (bq.mono h1.size)) (fun h2 => ?_)
          clear hK K bq h1
          refine wpAnyH_take (i := 9) (v := ?_) rfl (by kernel_rfl) (by kernel_rfl) (by kernel_rfl) (fun _ _ _ h => h) (Or.inl ⟨by rfl, fun W hW => ?_⟩) h2 ?_
          rotate_left
          ·have q0 := (hW.cell (p := ⟨BW, 3, none⟩) HvB.out).trans v3.out
           clear hW
           go_simp
           try with_reducible rfl
          simp only [Act.put, l1, l2, l3, l4, l5, l6]
          refine wpAnyH_take (i := 10) (v := ?_) rfl (by kernel_rfl) (by kernel_rfl) (by kernel_rfl) (fun _ _ _ h => h) (Or.inl ⟨by rfl, fun W hW => ?_⟩) h2 ?_
          rotate_left
          ·have q0 := (hW.cell (p := ⟨BW, 3, none⟩) HvB.out).trans v3.out
           clear hW
           go_simp
           try with_reducible rfl
          simp only [Act.put, l1, l2, l3, l4, l5, l6]
          refine wpAnyH_take (i := 11) (v := ?_) rfl (by kernel_rfl) (by kernel_rfl) (by kernel_rfl) (fun _ _ _ h => h) (Or.inl ⟨by rfl, fun W hW => ?_⟩) h2 ?_
          rotate_left
          ·have q0 := (hW.cell (p := ⟨BW, 3, none⟩) HvB.out).trans v3.out
           clear hW
           go_simp
           try with_reducible rfl
          simp only [Act.put, l1, l2, l3, l4, l5, l6]
          refine wpAnyH_take (i := 12) (v := ?_) rfl (by kernel_rfl) (by kernel_rfl) (by kernel_rfl) (fun _ _ _ h => h) (Or.inl ⟨by rfl, fun W hW => ?_⟩) h2 ?_
          rotate_left
          ·have q0 := (hW.cell (p := ⟨BW, 3, none⟩) HvB.out).trans v3.out
           clear hW
           go_simp
           try with_reducible rfl
          simp only [Act.put, l1, l2, l3, l4, l5, l6]
          refine wpAnyH_take (i := 13) (v := ?_) rfl (by kernel_rfl) (by kernel_rfl) (by kernel_rfl) (fun _ _ _ h => h) (Or.inl ⟨by rfl, fun W hW => ?_⟩) h2 ?_
          rotate_left
          ·have q0 := (hW.cell (p := ⟨BW, 3, none⟩) HvB.out).trans v3.out
           clear hW
           go_simp
           try with_reducible rfl
          simp only [Act.put, l1, l2, l3, l4, l5, l6]
          refine wpAnyH_take (i := 14) (v := ?_) rfl (by kernel_rfl) (by kernel_rfl) (by kernel_rfl) (fun _ _ _ h => h) (Or.inl ⟨by rfl, fun W hW => ?_⟩) h2 ?_
          rotate_left
          ·have q0 := (hW.cell (p := ⟨BW, 3, none⟩) HvB.out).trans v3.out
           clear hW
           go_simp
           try with_reducible rfl
          simp only [Act.put, l1, l2, l3, l4, l5, l6]
          refine wpAnyH_take (i := 15) (v := ?_) rfl (by kernel_rfl) (by kernel_rfl) (by kernel_rfl) (fun _ _ _ h => h) (Or.inl ⟨by rfl, fun W hW => ?_⟩) h2 ?_
          rotate_left
          ·have q0 := (hW.cell (p := ⟨BW, 0, none⟩) HvB.out).trans v0.out
           have q2 := (hW.cell (p := ⟨w.heap.size, 5, none⟩) HvO.out).trans o5.out
           have q3 := (hW.cell (p := ⟨g, off + m * 4, none⟩) HvG.out).trans p0.out
           clear hW
           go_simp
           try with_reducible rfl
          simp only [Act.put, l1, l2, l3, l4, l5, l6]
          refine wpAnyH_take (i := 16) (v := ?_) rfl (by kernel_rfl) (by kernel_rfl) (by kernel_rfl) (fun _ _ _ h => h) (Or.inl ⟨by rfl, fun W hW => ?_⟩) h2 ?_
          rotate_left
          ·have q0 := (hW.cell (p := ⟨BW, 0, none⟩) HvB.out).trans v0.out
           have q2 := (hW.cell (p := ⟨w.heap.size, 5, none⟩) HvO.out).trans o5.out
           have q3 := (hW.cell (p := ⟨g, off + m * 4, none⟩) HvG.out).trans p0.out
           clear hW
           go_simp
           try with_reducible rfl
          simp only [Act.put, l1, l2, l3, l4, l5, l6]
          refine wpAnyH_take (i := 17) (v := ?_) rfl (by kernel_rfl) (by kernel_rfl) (by kernel_rfl) (fun _ _ _ h => h) (Or.inl ⟨by rfl, fun W hW => ?_⟩) h2 ?_
          rotate_left
          ·have q0 := (hW.cell (p := ⟨BW, 0, none⟩) HvB.out).trans v0.out
           have q2 := (hW.cell (p := ⟨w.heap.size, 5, none⟩) HvO.out).trans o5.out
           have q3 := (hW.cell (p := ⟨g, off + m * 4, none⟩) HvG.out).trans p0.out
           clear hW
           go_simp
           try with_reducible rfl
          simp only [Act.put, l1, l2, l3, l4, l5, l6]
          refine wpAnyH_take (i := 18) (v := ?_) rfl (by kernel_rfl) (by kernel_rfl) (by kernel_rfl) (fun _ _ _ h => h) (Or.inl ⟨by rfl, fun W hW => ?_⟩) h2 ?_
          rotate_left
          ·have q0 := (hW.cell (p := ⟨BW, 0, none⟩) HvB.out).trans v0.out
           have q2 := (hW.cell (p := ⟨w.heap.size, 5, none⟩) HvO.out).trans o5.out
           have q3 := (hW.cell (p := ⟨g, off + m * 4, none⟩) HvG.out).trans p0.out
           clear hW
           go_simp
           try with_reducible rfl
          simp only [Act.put, l1, l2, l3, l4, l5, l6]
          refine wpAnyH_take (i := 19) (v := ?_) rfl (by kernel_rfl) (by kernel_rfl) (by kernel_rfl) (fun _ _ _ h => h) (Or.inl ⟨by rfl, fun W hW => ?_⟩) h2 ?_
          rotate_left
          ·have q0 := (hW.cell (p := ⟨BW, 0, none⟩) HvB.out).trans v0.out
           have q2 := (hW.cell (p := ⟨w.heap.size, 5, none⟩) HvO.out).trans o5.out
           have q3 := (hW.cell (p := ⟨g, off + m * 4, none⟩) HvG.out).trans p0.out
           clear hW
           go_simp
           try with_reducible rfl
          simp only [Act.put, l1, l2, l3, l4, l5, l6]
          refine wpAnyH_take (i := 20) (v := ?_) rfl (by kernel_rfl) (by kernel_rfl) (by kernel_rfl) (fun _ _ _ h => h) (Or.inl ⟨by rfl, fun W hW => ?_⟩) h2 ?_
          rotate_left
          ·have q0 := (hW.cell (p := ⟨BW, 0, none⟩) HvB.out).trans v0.out
           have q2 := (hW.cell (p := ⟨w.heap.size, 5, none⟩) HvO.out).trans o5.out
           have q3 := (hW.cell (p := ⟨g, off + m * 4, none⟩) HvG.out).trans p0.out
           clear hW
           go_simp
           try with_reducible rfl
          simp only [Act.put, l1, l2, l3, l4, l5, l6]
          refine wpAnyH_take (i := 21) (v := ?_) rfl (by kernel_rfl) (by kernel_rfl) (by kernel_rfl) (fun _ _ _ h => h) (Or.inl ⟨by rfl, fun W hW => ?_⟩) h2 ?_
          rotate_left
          ·have q0 := (hW.cell (p := ⟨BW, 0, none⟩) HvB.out).trans v0.out
           have q2 := (hW.cell (p := ⟨w.heap.size, 5, none⟩) HvO.out).trans o5.out
           have q3 := (hW.cell (p := ⟨g, off + m * 4, none⟩) HvG.out).trans p0.out
           clear hW
           go_simp
           try with_reducible rfl
          simp only [Act.put, l1, l2, l3, l4, l5, l6]
          refine wpAnyH_take (i := 22) (v := ?_) rfl (by kernel_rfl) (by kernel_rfl) (by kernel_rfl) (fun _ _ _ h => h) (Or.inl ⟨by rfl, fun W hW => ?_⟩) h2 ?_
          rotate_left
          ·have q0 := (hW.cell (p := ⟨BW, 0, none⟩) HvB.out).trans v0.out
           have q2 := (hW.cell (p := ⟨w.heap.size, 5, none⟩) HvO.out).trans o5.out
           have q3 := (hW.cell (p := ⟨g, off + m * 4, none⟩) HvG.out).trans p0.out
           clear hW
           go_simp
           try with_reducible rfl
          simp only [Act.put, l1, l2, l3, l4, l5, l6]
          refine wpAnyH_take (i := 23) (v := ?_) rfl (by kernel_rfl) (by kernel_rfl) (by kernel_rfl) (fun _ _ _ h => h) (Or.inl ⟨by rfl, fun W hW => ?_⟩) h2 ?_
          rotate_left
          ·have q0 := (hW.cell (p := ⟨BW, 0, none⟩) HvB.out).trans v0.out
           have q2 := (hW.cell (p := ⟨w.heap.size, 5, none⟩) HvO.out).trans o5.out
           have q3 := (hW.cell (p := ⟨g, off + m * 4, none⟩) HvG.out).trans p0.out
           clear hW
           go_simp
           try with_reducible rfl
          simp only [Act.put, l1, l2, l3, l4, l5, l6]
          refine wpAnyH_take (i := 24) (v := ?_) rfl (by kernel_rfl) (by kernel_rfl) (by kernel_rfl) (fun _ _ _ h => h) (Or.inl ⟨by rfl, fun W hW => ?_⟩) h2 ?_
          rotate_left
          ·have q0 := (hW.cell (p := ⟨BW, 0, none⟩) HvB.out).trans v0.out
           have q2 := (hW.cell (p := ⟨w.heap.size, 5, none⟩) HvO.out).trans o5.out
           have q3 := (hW.cell (p := ⟨g, off + m * 4, none⟩) HvG.out).trans p0.out
           clear hW
           go_simp
           try with_reducible rfl
          simp only [Act.put, l1, l2, l3, l4, l5, l6]
          refine wpAnyH_take (i := 25) (v := ?_) rfl (by kernel_rfl) (by kernel_rfl) (by kernel_rfl) (fun _ _ _ h => h) (Or.inl ⟨by rfl, fun W hW => ?_⟩) h2 ?_
          rotate_left
          ·have q0 := (hW.cell (p := ⟨BW, 3, none⟩) HvB.out).trans v3.out
           clear hW
           go_simp
           try with_reducible rfl
          simp only [Act.put, l1, l2, l3, l4, l5, l6]
          refine wpAnyH_take (i := 26) (v := ?_) rfl (by kernel_rfl) (by kernel_rfl) (by kernel_rfl) (fun _ _ _ h => h) (Or.inl ⟨by rfl, fun W hW => ?_⟩) h2 ?_
          rotate_left
          ·have q0 := (hW.cell (p := ⟨BW, 3, none⟩) HvB.out).trans v3.out
           clear hW
           go_simp
           try with_reducible rfl
          simp only [Act.put, l1, l2, l3, l4, l5, l6]
          refine wpAnyH_done (by kernel_rfl) ?_ _
          have B2 := BVO.trans (h2.mono BVO.size)
          clear h2
          go_wp2_with fail
          go_ret
          exact AnsB.mk HZ.out (bO.trans (B2.mono bO.size))
         | true =>
          have HZ := hidM (HYes.out (HI3.out.2 (by rw [HT.out]; exact hqb)))
          clear HNo HYes HI3 HT
          refine wpAnyH_take (i := 0) (v := ?_) rfl (by kernel_rfl) (by kernel_rfl) (by kernel_rfl) (fun _ _ _ h => h) (Or.inl ⟨by rfl, fun W hW => ?_⟩) h0 ?_
          rotate_left
          ·have q0 := (hW.cell (p := ⟨BW, 3, none⟩) HvB.out).trans v3.out
           clear hW
           go_simp
           try with_reducible rfl
          simp only [Act.put, l1, l2, l3, l4, l5, l6]
          refine wpAnyH_take (i := 1) (v := ?_) rfl (by kernel_rfl) (by kernel_rfl) (by kernel_rfl) (fun _ _ _ h => h) (Or.inl ⟨by rfl, fun W hW => ?_⟩) h0 ?_
          rotate_left
          ·have q0 := (hW.cell (p := ⟨BW, 3, none⟩) HvB.out).trans v3.out
           clear hW
           go_simp
           try with_reducible rfl
          simp only [Act.put, l1, l2, l3, l4, l5, l6]
          refine wpAnyH_ready (rs := [2]) (by kernel_rfl) (by simp) (AllReadyH.cons rfl (fun K hK => ?_) AllReadyH.nil)
          go_simp
          go_wp2_with (go_at_call 51; refine (C1.out _).mono ?_; rintro e wc ⟨rfl, rfl⟩)
          refine hK.out _ _ h0 (fun h1 => ?_)
          clear hK K h0
          refine wpAnyH_take (i := 3) (v := ?_) rfl (by kernel_rfl) (by kernel_rfl) (by kernel_rfl) (fun _ _ _ h => h) (Or.inl ⟨by rfl, fun W hW => ?_⟩) h1 ?_
          rotate_left
          ·have q0 := (hW.cell (p := ⟨BW, 3, none⟩) HvB.out).trans v3.out
           clear hW
           go_simp
           try with_reducible rfl
          simp only [Act.put, l1, l2, l3, l4, l5, l6]
          refine wpAnyH_take (i := 4) (v := ?_) rfl (by kernel_rfl) (by kernel_rfl) (by kernel_rfl) (fun _ _ _ h => h) (Or.inl ⟨by rfl, fun W hW => ?_⟩) h1 ?_
          rotate_left
          ·have q0 := (hW.cell (p := ⟨BW, 3, none⟩) HvB.out).trans v3.out
           clear hW
           go_simp
           try with_reducible rfl
          simp only [Act.put, l1, l2, l3, l4, l5, l6]
          refine wpAnyH_take (i := 5) (v := ?_) rfl (by kernel_rfl) (by kernel_rfl) (by kernel_rfl) (fun _ _ _ h => h) (Or.inl ⟨by rfl, fun W hW => ?_⟩) h1 ?_
          rotate_left
          ·have q1 := (hW.cell (p := ⟨BW, 1, none⟩) HvB.out).trans v1.out
           have r0 := (hW.cell (p := ⟨w.heap.size, 0, none⟩) HvO.out).trans o0.out
           have r1 := (hW.cell (p := ⟨w.heap.size, 1, none⟩) HvO.out).trans o1.out
           have r2 := (hW.cell (p := ⟨w.heap.size, 2, none⟩) HvO.out).trans o2.out
           have r3 := (hW.cell (p := ⟨w.heap.size, 3, none⟩) HvO.out).trans o3.out
           have r4 := (hW.cell (p := ⟨w.heap.size, 4, none⟩) HvO.out).trans o4.out
           have r5 := (hW.cell (p := ⟨w.heap.size, 5, none⟩) HvO.out).trans o5.out
           clear hW
           go_simp
           try with_reducible rfl
          simp only [Act.put, l1, l2, l3, l4, l5, l6]
          refine wpAnyH_take (i := 6) (v := ?_) rfl (by kernel_rfl) (by kernel_rfl) (by kernel_rfl) (fun _ _ _ h => h) (Or.inl ⟨by rfl, fun W hW => ?_⟩) h1 ?_
          rotate_left
          ·have q1 := (hW.cell (p := ⟨BW, 1, none⟩) HvB.out).trans v1.out
           have r0 := (hW.cell (p := ⟨w.heap.size, 0, none⟩) HvO.out).trans o0.out
           have r1 := (hW.cell (p := ⟨w.heap.size, 1, none⟩) HvO.out).trans o1.out
           have r2 := (hW.cell (p := ⟨w.heap.size, 2, none⟩) HvO.out).trans o2.out
           have r3 := (hW.cell (p := ⟨w.heap.size, 3, none⟩) HvO.out).trans o3.out
           have r4 := (hW.cell (p := ⟨w.heap.size, 4, none⟩) HvO.out).trans o4.out
           have r5 := (hW.cell (p := ⟨w.heap.size, 5, none⟩) HvO.out).trans o5.out
           clear hW
           go_simp
           try with_reducible rfl
          simp only [Act.put, l1, l2, l3, l4, l5, l6]
          refine wpAnyH_take (i := 7) (v := ?_) rfl (by kernel_rfl) (by kernel_rfl) (by kernel_rfl) (fun _ _ _ h => h) (Or.inl ⟨by rfl, fun W hW => ?_⟩) h1 ?_
          rotate_left
          ·have q1 := (hW.cell (p := ⟨BW, 1, none⟩) HvB.out).trans v1.out
           have r0 := (hW.cell (p := ⟨w.heap.size, 0, none⟩) HvO.out).trans o0.out
           have r1 := (hW.cell (p := ⟨w.heap.size, 1, none⟩) HvO.out).trans o1.out
           have r2 := (hW.cell (p := ⟨w.heap.size, 2, none⟩) HvO.out).trans o2.out
           have r3 := (hW.cell (p := ⟨w.heap.size, 3, none⟩) HvO.out).trans o3.out
           have r4 := (hW.cell (p := ⟨w.heap.size, 4, none⟩) HvO.out).trans o4.out
           have r5 := (hW.cell (p := ⟨w.heap.size, 5, none⟩) HvO.out).trans o5.out
           clear hW
           go_simp
           try with_reducible rfl
          simp only [Act.put, l1, l2, l3, l4, l5, l6]
          refine wpAnyH_ready (rs := [8]) (by kernel_rfl) (by simp) (AllReadyH.cons rfl (fun K hK => ?_) AllReadyH.nil)
          go_simp
          go_wp2_with (go_at_call 104; refine (C2.out _ h1).mono ?_; rintro e wd ⟨rfl, bq⟩)
          refine hK.out _ _ (h1.trans (bq.mono h1.size)) (fun h2 => ?_)
          clear hK K bq h1
          refine wpAnyH_take (i := 9) (v := ?_) rfl (by kernel_rfl) (by kernel_rfl) (by kernel_rfl) (fun _ _ _ h => h) (Or.inl ⟨by rfl, fun W hW => ?_⟩) h2 ?_
          rotate_left
          ·have q0 := (hW.cell (p := ⟨BW, 3, none⟩) HvB.out).trans v3.out
           clear hW
           go_simp
           try with_reducible rfl
          simp only [Act.put, l1, l2, l3, l4, l5, l6]
          refine wpAnyH_take (i := 10) (v := ?_) rfl (by kernel_rfl) (by kernel_rfl) (by kernel_rfl) (fun _ _ _ h => h) (Or.inl ⟨by rfl, fun W hW => ?_⟩) h2 ?_
          rotate_left
          ·have q0 := (hW.cell (p := ⟨BW, 3, none⟩) HvB.out).trans v3.out
           clear hW
           go_simp
           try with_reducible rfl
          simp only [Act.put, l1, l2, l3, l4, l5, l6]
          refine wpAnyH_take (i := 11) (v := ?_) rfl (by kernel_rfl) (by kernel_rfl) (by kernel_rfl) (fun _ _ _ h => h) (Or.inl ⟨by rfl, fun W hW => ?_⟩) h2 ?_
          rotate_left
          ·have q0 := (hW.cell (p := ⟨BW, 3, none⟩) HvB.out).trans v3.out
           clear hW
           go_simp
           try with_reducible rfl
          simp only [Act.put, l1, l2, l3, l4, l5, l6]
          refine wpAnyH_take (i := 12) (v := ?_) rfl (by kernel_rfl) (by kernel_rfl) (by kernel_rfl) (fun _ _ _ h => h) (Or.inl ⟨by rfl, fun W hW => ?_⟩) h2 ?_
          rotate_left
          ·have q0 := (hW.cell (p := ⟨BW, 3, none⟩) HvB.out).trans v3.out
           clear hW
           go_simp
           try with_reducible rfl
          simp only [Act.put, l1, l2, l3, l4, l5, l6]
          refine wpAnyH_take (i := 13) (v := ?_) rfl (by kernel_rfl) (by kernel_rfl) (by kernel_rfl) (fun _ _ _ h => h) (Or.inl ⟨by rfl, fun W hW => ?_⟩) h2 ?_
          rotate_left
          ·have q0 := (hW.cell (p := ⟨BW, 3, none⟩) HvB.out).trans v3.out
           clear hW
           go_simp
           try with_reducible rfl
          simp only [Act.put, l1, l2, l3, l4, l5, l6]
          refine wpAnyH_take (i := 14) (v := ?_) rfl (by kernel_rfl) (by kernel_rfl) (by kernel_rfl) (fun _ _ _ h => h) (Or.inl ⟨by rfl, fun W hW => ?_⟩) h2 ?_
          rotate_left
          ·have q0 := (hW.cell (p := ⟨BW, 3, none⟩) HvB.out).trans v3.out
           clear hW
           go_simp
           try with_reducible rfl
          simp only [Act.put, l1, l2, l3, l4, l5, l6]
          refine wpAnyH_take (i := 15) (v := ?_) rfl (by kernel_rfl) (by kernel_rfl) (by kernel_rfl) (fun _ _ _ h => h) (Or.inl ⟨by rfl, fun W hW => ?_⟩) h2 ?_
          rotate_left
          ·have q0 := (hW.cell (p := ⟨BW, 0, none⟩) HvB.out).trans v0.out
           have q2 := (hW.cell (p := ⟨w.heap.size, 5, none⟩) HvO.out).trans o5.out
           have q3 := (hW.cell (p := ⟨g, off + m * 4, none⟩) HvG.out).trans p0.out
           clear hW
           go_simp
           try with_reducible rfl
          simp only [Act.put, l1, l2, l3, l4, l5, l6]
          refine wpAnyH_take (i := 16) (v := ?_) rfl (by kernel_rfl) (by kernel_rfl) (by kernel_rfl) (fun _ _ _ h => h) (Or.inl ⟨by rfl, fun W hW => ?_⟩) h2 ?_
          rotate_left
          ·have q0 := (hW.cell (p := ⟨BW, 0, none⟩) HvB.out).trans v0.out
           have q2 := (hW.cell (p := ⟨w.heap.size, 5, none⟩) HvO.out).trans o5.out
           have q3 := (hW.cell (p := ⟨g, off + m * 4, none⟩) HvG.out).trans p0.out
           clear hW
           go_simp
           try with_reducible rfl
          simp only [Act.put, l1, l2, l3, l4, l5, l6]
          refine wpAnyH_take (i := 17) (v := ?_) rfl (by kernel_rfl) (by kernel_rfl) (by kernel_rfl) (fun _ _ _ h => h) (Or.inl ⟨by rfl, fun W hW => ?_⟩) h2 ?_
          rotate_left
          ·have q0 := (hW.cell (p := ⟨BW, 0, none⟩) HvB.out).trans v0.out
           have q2 := (hW.cell (p := ⟨w.heap.size, 5, none⟩) HvO.out).trans o5.out
           have q3 := (hW.cell (p := ⟨g, off + m * 4, none⟩) HvG.out).trans p0.out
           clear hW
           go_simp
           try with_reducible rfl
          simp only [Act.put, l1, l2, l3, l4, l5, l6]
          refine wpAnyH_take (i := 18) (v := ?_) rfl (by kernel_rfl) (by kernel_rfl) (by kernel_rfl) (fun _ _ _ h => h) (Or.inl ⟨by rfl, fun W hW => ?_⟩) h2 ?_
          rotate_left
          ·have q0 := (hW.cell (p := ⟨BW, 0, none⟩) HvB.out).trans v0.out
           have q2 := (hW.cell (p := ⟨w.heap.size, 5, none⟩) HvO.out).trans o5.out
           have q3 := (hW.cell (p := ⟨g, off + m * 4, none⟩) HvG.out).trans p0.out
           clear hW
           go_simp
           try with_reducible rfl
          simp only [Act.put, l1, l2, l3, l4, l5, l6]
          refine wpAnyH_take (i := 19) (v := ?_) rfl (by kernel_rfl) (by kernel_rfl) (by kernel_rfl) (fun _ _ _ h => h) (Or.inl ⟨by rfl, fun W hW => ?_⟩) h2 ?_
          rotate_left
          ·have q0 := (hW.cell (p := ⟨BW, 0, none⟩) HvB.out).trans v0.out
           have q2 := (hW.cell (p := ⟨w.heap.size, 5, none⟩) HvO.out).trans o5.out
           have q3 := (hW.cell (p := ⟨g, off + m * 4, none⟩) HvG.out).trans p0.out
           clear hW
           go_simp
           try with_reducible rfl
          simp only [Act.put, l1, l2, l3, l4, l5, l6]
          refine wpAnyH_take (i := 20) (v := ?_) rfl (by kernel_rfl) (by kernel_rfl) (by kernel_rfl) (fun _ _ _ h => h) (Or.inl ⟨by rfl, fun W hW => ?_⟩) h2 ?_
          rotate_left
          ·have q0 := (hW.cell (p := ⟨BW, 0, none⟩) HvB.out).trans v0.out
           have q2 := (hW.cell (p := ⟨w.heap.size, 5, none⟩) HvO.out).trans o5.out
           have q3 := (hW.cell (p := ⟨g, off + m * 4, none⟩) HvG.out).trans p0.out
           clear hW
           go_simp
           try with_reducible rfl
          simp only [Act.put, l1, l2, l3, l4, l5, l6]
          refine wpAnyH_take (i := 21) (v := ?_) rfl (by kernel_rfl) (by kernel_rfl) (by kernel_rfl) (fun _ _ _ h => h) (Or.inl ⟨by rfl, fun W hW => ?_⟩) h2 ?_
          rotate_left
          ·have q0 := (hW.cell (p := ⟨BW, 0, none⟩) HvB.out).trans v0.out
           have q2 := (hW.cell (p := ⟨w.heap.size, 5, none⟩) HvO.out).trans o5.out
           have q3 := (hW.cell (p := ⟨g, off + m * 4, none⟩) HvG.out).trans p0.out
           clear hW
           go_simp
           try with_reducible rfl
          simp only [Act.put, l1, l2, l3, l4, l5, l6]
          refine wpAnyH_take (i := 22) (v := ?_) rfl (by kernel_rfl) (by kernel_rfl) (by kernel_rfl) (fun _ _ _ h => h) (Or.inl ⟨by rfl, fun W hW => ?_⟩) h2 ?_
          rotate_left
          ·have q0 := (hW.cell (p := ⟨BW, 0, none⟩) HvB.out).trans v0.out
           have q2 := (hW.cell (p := ⟨w.heap.size, 5, none⟩) HvO.out).trans o5.out
           have q3 := (hW.cell (p := ⟨g, off + m * 4, none⟩) HvG.out).trans p0.out
           clear hW
           go_simp
           try with_reducible rfl
          simp only [Act.put, l1, l2, l3, l4, l5, l6]
          refine wpAnyH_take (i := 23) (v := ?_) rfl (by kernel_rfl) (by kernel_rfl) (by kernel_rfl) (fun _ _ _ h => h) (Or.inl ⟨by rfl, fun W hW => ?_⟩) h2 ?_
          rotate_left
          ·have q0 := (hW.cell (p := ⟨BW, 0, none⟩) HvB.out).trans v0.out
           have q2 := (hW.cell (p := ⟨w.heap.size, 5, none⟩) HvO.out).trans o5.out
           have q3 := (hW.cell (p := ⟨g, off + m * 4, none⟩) HvG.out).trans p0.out
           clear hW
           go_simp
           try with_reducible rfl
          simp only [Act.put, l1, l2, l3, l4, l5, l6]
          refine wpAnyH_take (i := 24) (v := ?_) rfl (by kernel_rfl) (by kernel_rfl) (by kernel_rfl) (fun _ _ _ h => h) (Or.inl ⟨by rfl, fun W hW => ?_⟩) h2 ?_
          rotate_left
          ·have q0 := (hW.cell (p := ⟨BW, 0, none⟩) HvB.out).trans v0.out
           have q2 := (hW.cell (p := ⟨w.heap.size, 5, none⟩) HvO.out).trans o5.out
           have q3 := (hW.cell (p := ⟨g, off + m * 4, none⟩) HvG.out).trans p0.out
           clear hW
           go_simp
           try with_reducible rfl
          simp only [Act.put, l1, l2, l3, l4, l5, l6]
          refine wpAnyH_take (i := 25) (v := ?_) rfl (by kernel_rfl) (by kernel_rfl) (by kernel_rfl) (fun _ _ _ h => h) (Or.inl ⟨by rfl, fun W hW => ?_⟩) h2 ?_
          rotate_left
          ·have q0 := (hW.cell (p := ⟨BW, 3, none⟩) HvB.out).trans v3.out
           clear hW
           go_simp
           try with_reducible rfl
          simp only [Act.put, l1, l2, l3, l4, l5, l6]
          refine wpAnyH_take (i := 26) (v := ?_) rfl (by kernel_rfl) (by kernel_rfl) (by kernel_rfl) (fun _ _ _ h => h) (Or.inl ⟨by rfl, fun W hW => ?_⟩) h2 ?_
          rotate_left
          ·have q0 := (hW.cell (p := ⟨BW, 3, none⟩) HvB.out).trans v3.out
           clear hW
           go_simp
           try with_reducible rfl
          simp only [Act.put, l1, l2, l3, l4, l5, l6]
          refine wpAnyH_done (by kernel_rfl) ?_ _
          have B2 := BVO.trans (h2.mono BVO.size)
          clear h2
          go_wp2_with fail
          go_roundw
          case rel => exact ⟨m+1+1, by omega, by go_num, HZ.out, B2⟩
          case measure => simp [intOf]; omega
    ·have hki : ¬ (k : Int) < le.length := by omega
     have HZ : Hid (BIs (decide ((si.length : Int) ≤ 200)) (SitesL sq si le)) := hidM ⟨fun h => ⟨HA.out, fun j hj => HN.out j (by omega), by have := of_decide_eq_true h; omega⟩, fun h => decide_eq_true (by have := h.2.2; omega)⟩
     clear HN HA
     go_wp2_with fail
     go_ret
     exact AnsB.mk HZ.out hbel
end Go.Proofs.YtcjblhiihgdljaaGreat
