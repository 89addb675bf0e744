/- Contracts of what is drawn for chapter 16. -/
import Derived.Test.YtipknapebemejaaRows
import Derived.Test.YtipknapebemejaaDrawWalk
import Derived.Test.YtipknapebemejaaBytRow
import Derived.Test.YtipknapebemejaaAppAt
import Derived.Deep.DeepCutAuto
import Derived.Deep.RegionHeld3
namespace Go.Proofs.Ytipknapebemejaa
open Go.RowKit
set_option linter.unusedVariables false
set_option linter.unusedSimpArgs false

set_option maxRecDepth 100000 in
set_option maxHeartbeats 4000000 in
theorem l1BytesU (n : Nat) (D B : Nat) (ao : Option Addr) (len cap : Nat) (w : World) (hn : n ≤ 1000) (hcur : Cur D B ao len cap w) :
    Calls Try.prog 47 #[.pointer (some ⟨B, 0, none⟩), .int .i64 (n : Int)] w fun e w' => ∃ (v : Value) (l : List UInt8), e = .returned v ∧ w'.ownsRow w.heap.size 5 1 v n (bcells l) ∧ Cur D B ao len cap w' ∧ w.grownBy w' (some B) := by
  have hB := hcur.lt
  have HC : Hid (Cur D B ao len cap (w.alloc (.cells #[] 5))) := hcur.alloc _
  have HO : (w.alloc (.cells #[] 5)).ownsRow w.heap.size 5 1 (.slice (some ⟨w.heap.size, 0, none⟩) 0 0) 0 [] := World.ownsRow_lit w #[] 0 (Nat.le_refl _) (by decide) rfl
  have G0 : w.grownBy (w.alloc (.cells #[] 5)) (some B) := World.grownBy_alloc w _ _
  clear hcur
  go_enter Try.func47, Try.ntmps47
  go_wp2_with fail
  go_loopw [5, 6] (fun v i wr => ∃ (k : Nat) (l : List UInt8), k ≤ n ∧ i = .int .i64 k ∧ wr.ownsRow w.heap.size 5 1 v k (bcells l) ∧ some B ≠ v.ownBlock ∧ Cur D B ao len cap wr ∧ w.grownBy wr (some B)) (fun _ i _ => n - (intOf i).toNat)
  case atStart => exact ⟨0, [], Nat.zero_le _, rfl, HO, by simp [Value.ownBlock]; omega, HC.out, G0⟩
  case round =>
    clear HO G0
    obtain ⟨k, l, hk, rfl, hown, hne, hcu, hgr⟩ := hrel
    have HU : Hid (Cur D B ao len cap wr) := hcu
    have HN : Hid (some B ≠ u5.ownBlock) := hne
    have hBr := hcu.lt
    have hsz := hgr.size
    clear hcu hne
    by_cases hlt : k < n
    · have hki : (k : Int) < (n : Int) := by omega
      go_wp2_with fail
      refine (l1Byte _ _ _ _ _ _ HU.out).mono ?_
      rintro e wc ⟨y, hy0, hy1, rfl, cc, gc⟩
      have CC : Hid (Cur D B ao len cap wc) := cc
      have oc := hown.kept gc (.inr (fun h => HN.out h.symm))
      have Gc := grow_trans hgr gc
      have zc := Gc.size
      have hBc := cc.lt
      clear cc gc hown hgr
      go_wp2_with (at_builtin; refine wpList_append_newG _ rfl _ _ 22 rfl w.heap.size 5 (.int .u8 0) 1 Try.underlying22 Try.infoByte rfl _ _ _ rfl oc #[.int .u8 y] 1 rfl rfl (by intro u hu; simp at hu; subst hu; rfl) (by omega) (by unfold maxLen; omega) zc ?_)
      intro v' w1 hown' hb1 hkeep
      have C1 : Cur D B ao len cap w1 := CC.out.keep (hkeep B hBc HN.out) (fun k hk => hb1.block k (by have := CC.out.le; omega))
      have N1 : some B ≠ v'.ownBlock := by
        intro hx
        have h1 := (hown'.cells (g := B) hx.symm) 0
        obtain ⟨i', h', hc, _⟩ := C1
        rcases hown'.2 with ⟨rfl, _⟩ | ⟨g, cap', cur, rfl, _, hg, _⟩
        · simp [Value.ownBlock] at hx
        · simp [Value.ownBlock] at hx
          subst hx
          rw [hc] at hg
          simp at hg
      have G1 : w.grownBy w1 (some B) := ⟨hb1.os.trans Gc.os, hb1.tape.trans Gc.tape, hb1.output.trans Gc.output, by have := hb1.size; omega, fun k hk hkB => (hb1.block k hk).trans (Gc.block k hk hkB)⟩
      have O1 : w1.ownsRow w.heap.size 5 1 v' (k + 1) (bcells (l ++ [UInt8.ofNat y.toNat])) := by
        rw [bcells_snoc, ofNat_toNat (by omega), Int.toNat_of_nonneg hy0]
        exact hown'
      clear hown' hb1 hkeep oc Gc
      go_wp2_with fail
      go_roundw
      case rel => exact ⟨k + 1, _, by omega, by go_num, O1, N1, C1, G1⟩
      case measure => simp [intOf]; omega
    · have hkn : k = n := by omega
      subst hkn
      go_wp2_with fail
      go_ret
      exact ⟨_, l, rfl, hown, HU.out, hgr⟩

set_option maxRecDepth 100000 in
set_option maxHeartbeats 4000000 in
theorem l16Some (D B : Nat) (ao : Option Addr) (len cap : Nat) (w : World) (hcur : Cur D B ao len cap w) :
    Calls Try.prog 37 #[.pointer (some ⟨B, 0, none⟩)] w fun e w' => ∃ (v : Value) (l : List UInt8), l.length ≤ 9 ∧ e = .returned v ∧ w'.ownsRow w.heap.size 5 1 v l.length (bcells l) ∧ Cur D B ao len cap w' ∧ w.grownBy w' (some B) := by
  have hB := hcur.lt
  have HC : Hid (Cur D B ao len cap w) := hcur
  clear hcur
  go_enter Try.func37, Try.ntmps37
  go_wp2_with fail
  refine (l1Int 5 w.heap.size 5 0 [0, 1, 2, 5, 9] _ _ _ _ _ _ (by omega) (by omega) (HC.out.alloc _) (World.ownsRow_lit w #[.int .i64 0, .int .i64 1, .int .i64 2, .int .i64 5, .int .i64 9] 5 (Nat.zero_le _) (by decide) rfl) (by omega)).mono ?_
  rintro e wa ⟨z, hz, rfl, ca, ga⟩
  have Ga := grow_trans (World.grownBy_alloc w (.cells #[.int .i64 0, .int .i64 1, .int .i64 2, .int .i64 5, .int .i64 9] 3) (some B)) ga
  have CA : Hid (Cur D B ao len cap wa) := ca
  have hz9 : 0 ≤ z ∧ z ≤ 9 := by simp at hz; omega
  obtain ⟨n, rfl⟩ := Int.eq_ofNat_of_zero_le hz9.1
  have za := Ga.size
  clear ca ga hz
  go_wp2_with fail
  refine (l1BytesU n _ _ _ _ _ _ (by omega) CA.out).mono ?_
  rintro e wb ⟨v, l, rfl, ov, cb, gb⟩
  have hl := own_blen ov
  subst hl
  have HV := own_base ov za
  have CB : Hid (Cur D B ao len cap wb) := cb
  have Gb := grow_trans Ga gb
  clear ov cb gb Ga
  go_wp2_with fail
  go_ret
  exact ⟨_, l, by omega, rfl, HV, CB.out, Gb⟩

set_option maxRecDepth 100000 in
set_option maxHeartbeats 4000000 in
theorem drawFrame (ao : Option Addr) (len cap : Nat) (w : World) (hl : len ≤ 1048576) (hcode : CodeRow w.heap.size w ao len) :
    Calls Try.prog 19 #[.slice ao len cap] w fun e w' => ∃ (v : Value) (l : List UInt8), l.length ≤ 9 ∧ e = .returned v ∧ w'.ownsRow w.heap.size 5 1 v l.length (bcells l) ∧ Below w.heap.size w w' := by
  go_enter Try.func19, Try.ntmps19
  go_wp2_with fail
  refine (l1New _ _ _ _ hl hcode).mono ?_
  rintro e wa ⟨B, rfl, hB, ca, ba⟩
  have CA : Hid (Cur w.heap.size B ao len cap wa) := ca
  have za := ba.size
  clear ca
  go_wp2_with fail
  refine (l16Some _ _ _ _ _ _ CA.out).mono ?_
  rintro e wb ⟨v, l, h9, rfl, ov, cb, gb⟩
  have Bb : Below w.heap.size w wb := ba.grown gb za (fun k hk => by cases hk; exact hB)
  have OV := own_base ov za
  clear cb gb ov CA
  go_wp2_with fail
  go_ret
  exact ⟨_, l, h9, rfl, OV, Bb⟩

set_option maxRecDepth 100000 in
set_option maxHeartbeats 4000000 in
theorem drawPutNum (ao : Option Addr) (len cap : Nat) (w : World) (hl : len ≤ 1048576) (hcode : CodeRow w.heap.size w ao len) :
    Calls Try.prog 13 #[.slice ao len cap] w fun e w' => ∃ (v : Value) (l : List UInt8) (x : Int), l.length ≤ 9 ∧ e = .returned (.tuple #[v, .int .i64 x]) ∧ w'.ownsRow w.heap.size 5 1 v l.length (bcells l) ∧ Below w.heap.size w w' := by
  go_enter Try.func13, Try.ntmps13
  go_wp2_with fail
  refine (l1New _ _ _ _ hl hcode).mono ?_
  rintro e wa ⟨B, rfl, hB, ca, ba⟩
  have CA : Hid (Cur w.heap.size B ao len cap wa) := ca
  have hBa := ca.lt
  have za := ba.size
  clear ca
  go_wp2_with fail
  refine (l16Some _ _ _ _ _ _ CA.out).mono ?_
  rintro e wb ⟨v, l, h9, rfl, ov, cb, gb⟩
  have zb := gb.size
  have Bb : Below w.heap.size w wb := ba.grown gb za (fun k hk => by cases hk; exact hB)
  have CB : Hid (Cur w.heap.size B ao len cap wb) := cb
  have HNE : Hid (some B ≠ v.ownBlock) := fun h => by have := (ov.lt B h.symm).1; omega
  clear cb gb CA
  go_wp2_with fail
  refine (l1Below 100000 _ _ _ _ _ _ (by omega) (by omega) CB.out).mono ?_
  rintro e wc ⟨x, hx0, hx1, rfl, cc, gc⟩
  have zc := gc.size
  have CC : Hid (Cur w.heap.size B ao len cap wc) := cc
  have Bc : Below w.heap.size w wc := Bb.grown gc (by omega) (fun k hk => by cases hk; exact hB)
  have oc := ov.kept gc (.inr (fun h => HNE.out h.symm))
  have hBc := cc.lt
  clear cc gc CB ov
  go_wp2_with fail
  refine (l1IntX 11 wc.heap.size 11 0 _ _ _ _ _ _ _ (by omega) (by omega) (CC.out.alloc _) (World.ownsRow_lit wc _ 11 (Nat.zero_le _) (by decide) rfl) (by omega) (by rfl)).mono ?_
  rintro e wd ⟨z, rfl, cd, gd⟩
  have od := own_base ((oc.alloc _).kept gd (.inr (fun h => HNE.out h.symm))) za
  have Bd : Below w.heap.size w wd := (Bc.alloc (by omega) _).grown gd (by simp; omega) (fun k hk => by cases hk; exact hB)
  clear cd gd oc
  go_wp2_with fail
  go_ret2
  exact ⟨_, l, z, h9, rfl, od, Bd⟩

set_option maxRecDepth 100000 in
set_option maxHeartbeats 4000000 in
theorem drawPutText (ao : Option Addr) (len cap : Nat) (w : World) (hl : len ≤ 1048576) (hcode : CodeRow w.heap.size w ao len) :
    Calls Try.prog 16 #[.slice ao len cap] w fun e w' => ∃ (v : Value) (l m : List UInt8), l.length ≤ 9 ∧ m.length ≤ 9 ∧ e = .returned (.tuple #[v, .string ⟨m.toArray⟩]) ∧ w'.ownsRow w.heap.size 5 1 v l.length (bcells l) ∧ Below w.heap.size w w' := by
  go_enter Try.func16, Try.ntmps16
  go_wp2_with fail
  refine (l1New _ _ _ _ hl hcode).mono ?_
  rintro e wa ⟨B, rfl, hB, ca, ba⟩
  have CA : Hid (Cur w.heap.size B ao len cap wa.drew) := ca.below (fun k hk => rfl)
  have hBa := ca.lt
  have za := ba.size
  clear ca
  go_upto_region 2 with fail
  refine wp_region_held_drew (S := fun _ => True) (by kernel_rfl) trivial (fun h0 => ?_)
  refine wpAnyH_take (i := 0) (v := ?_) rfl (by kernel_rfl) (by kernel_rfl) (by kernel_rfl) (fun _ _ _ h => h) (Or.inl ⟨by rfl, fun W hW => ?_⟩) h0 ?_
  rotate_left
  · clear hW
    go_simp
    try with_reducible rfl
  simp only [Act.put, List.getElem_toArray, List.getElem_cons_zero, List.getElem_cons_succ, List.setIfInBounds_toArray, List.set_cons_zero, List.set_cons_succ]
  refine wpAnyH_take (i := 2) (v := ?_) rfl (by kernel_rfl) (by kernel_rfl) (by kernel_rfl) (fun _ _ _ h => h) (Or.inl ⟨by rfl, fun W hW => ?_⟩) h0 ?_
  rotate_left
  · clear hW
    go_simp
    try with_reducible rfl
  simp only [Act.put, List.getElem_toArray, List.getElem_cons_zero, List.getElem_cons_succ, List.setIfInBounds_toArray, List.set_cons_zero, List.set_cons_succ]
  refine wpAnyH_ready (rs := [1]) (by kernel_rfl) (by simp) (AllReadyH.cons rfl (fun K hK => ?_) AllReadyH.nil)
  go_simp
  refine (l16Some _ _ _ _ _ _ CA.out).mono ?_
  rintro e wb ⟨v, l, h9, rfl, ov, cb, gb⟩
  have zb := gb.size
  have Bb : Below w.heap.size w wb := ba.drew.grown gb za (fun k hk => by cases hk; exact hB)
  have CB : Hid (Cur w.heap.size B ao len cap wb) := cb
  have HNE : Hid (some B ≠ v.ownBlock) := fun h => by have := (ov.lt B h.symm).1; simp at this; omega
  refine hK.out _ _ trivial (fun h1 => ?_)
  clear cb gb CA hK K h1
  obtain ⟨vo, vc, hve⟩ := (BRow.of_own ov).slice
  subst hve
  refine wpAnyH_ready (rs := [3]) (by kernel_rfl) (by simp) (AllReadyH.cons rfl (fun K hK => ?_) AllReadyH.nil)
  go_simp
  refine (l16Some _ _ _ _ _ _ CB.out).mono ?_
  rintro e wc ⟨v2, m, hm9, rfl, ov2, cc, gc⟩
  have zc := gc.size
  have zab : wa.heap.size ≤ wb.heap.size := by simpa using zb
  have Bc : Below w.heap.size w wc := Bb.grown gc (by omega) (fun k hk => by cases hk; exact hB)
  have OV : Hid (wc.ownsRow w.heap.size 5 1 (.slice vo l.length vc) l.length (bcells l)) := own_base (ov.kept gc (.inr (fun h => HNE.out h.symm))) (by simpa using za)
  have hcv := run_string_own (P := Try.prog) wc 22 9 5 Try.underlying22 Try.underlying5 Try.underlying9 ov2
  obtain ⟨mo, mc, hme⟩ := (BRow.of_own ov2).slice
  refine hK.out _ _ trivial (fun h1 => ?_)
  clear cc gc CB hK K h1 ov ov2
  subst hme
  refine wpAnyH_take (i := 5) (v := ?_) rfl (by kernel_rfl) (by kernel_rfl) (by kernel_rfl) (fun _ _ _ h => h) (Or.inl ⟨by rfl, fun W hW => ?_⟩) h0 ?_
  rotate_left
  · clear hW
    go_simp
    try with_reducible rfl
  simp only [Act.put, List.getElem_toArray, List.getElem_cons_zero, List.getElem_cons_succ, List.setIfInBounds_toArray, List.set_cons_zero, List.set_cons_succ]
  refine wpAnyH_ready (rs := [4]) (by kernel_rfl) (by simp) (AllReadyH.cons rfl (fun K hK => ?_) AllReadyH.nil)
  go_simp
  refine hK.out _ _ trivial (fun h1 => ?_)
  clear hK K h1 hcv
  refine wpAnyH_take (i := 6) (v := ?_) rfl (by kernel_rfl) (by kernel_rfl) (by kernel_rfl) (fun _ _ _ h => h) (Or.inl ⟨by rfl, fun W hW => ?_⟩) h0 ?_
  rotate_left
  · clear hW
    go_simp
    try with_reducible rfl
  simp only [Act.put, List.getElem_toArray, List.getElem_cons_zero, List.getElem_cons_succ, List.setIfInBounds_toArray, List.set_cons_zero, List.set_cons_succ]
  refine wpAnyH_done (by kernel_rfl) ?_ _
  go_wp2_with fail
  go_ret2
  exact ⟨_, l, m, h9, hm9, rfl, OV.out, Bc⟩
end Go.Proofs.Ytipknapebemejaa
