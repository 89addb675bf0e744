/- Contracts of what is drawn for chapter 5. -/
import Derived.Test.YtophgcneckjdjaaDoorRows
import Derived.Test.YtophgcneckjdjaaDoorDrawWalk
import Derived.Test.YtophgcneckjdjaaDoorIp4Spec
import Derived.Test.YtophgcneckjdjaaDoorParse6Spec
namespace Go.Proofs.YtophgcneckjdjaaDoor
open Go.RowKit

set_option maxRecDepth 100000 in
set_option maxHeartbeats 2000000 in
theorem l5Four (D B : Nat) (ao : Option Addr) (len cap : Nat) (w : World) (hcur : Cur D B ao len cap w) :
    Calls Tryd.prog 26 #[.pointer (some ⟨B, 0, none⟩)] w fun e w' => ∃ z : Int, 0 ≤ z ∧ z < 4294967296 ∧ e = .returned (.int .i64 z) ∧ Cur D B ao len cap w' ∧ w.grownBy w' (some B) := by
  have HC : Hid (Cur D B ao len cap w) := hcur
  clear hcur
  go_enter Tryd.func26, Tryd.ntmps26
  go_wp2_with fail
  refine (l1Below 100000 _ _ _ _ _ _ (by omega) (by omega) HC.out).mono ?_
  rintro e wa ⟨y, hy0, hy1, rfl, ca, ga⟩
  have CA : Hid (Cur D B ao len cap wa) := ca
  have hB := ca.lt
  clear ca
  go_wp2_with fail
  refine (l1Int 8 wa.heap.size 8 0 [0, 1, 2130706433, 4294967295, 256, 65536, 3232235777, y] _ _ _ _ _ _ (by omega) (by omega) (CA.out.alloc _) (World.ownsRow_lit wa _ 8 (Nat.zero_le _) (by decide) rfl) (by omega)).mono ?_
  rintro e wc ⟨z, hz, rfl, cc, gc⟩
  have CC : Hid (Cur D B ao len cap wc) := cc
  have G := grow_trans (grow_alloc ga _) gc
  have hz2 : 0 ≤ z ∧ z < 4294967296 := by
    simp only [List.mem_cons, List.not_mem_nil, or_false] at hz
    omega
  clear cc gc ga hz
  obtain ⟨hz0, hz1⟩ := hz2
  go_wp2_with fail
  go_ret
  exact ⟨z, hz0, hz1, rfl, CC.out, G⟩

set_option maxRecDepth 100000 in
set_option maxHeartbeats 4000000 in
theorem drawLoose (ao : Option Addr) (len cap : Nat) (w : World) (hl : len ≤ 1048576) (hcode : CodeRow w.heap.size w ao len) :
    Calls Tryd.prog 16 #[.slice ao len cap] w fun e w' => ∃ z : ByteArray, z.size ≤ 100 ∧ e = .returned (.string z) ∧ Below w.heap.size w w' := by
  have HCO : Hid (CodeRow w.heap.size w ao len) := hcode
  clear hcode
  go_enter Tryd.func16, Tryd.ntmps16
  go_wp2_with fail
  refine (l1New _ _ _ _ hl HCO.out).mono ?_
  rintro e wa ⟨B, rfl, hBw, ca, ba⟩
  have CA : Hid (Cur w.heap.size B ao len cap wa) := ca
  clear ca
  go_wp2_with fail
  refine (l1Once 3 _ _ _ _ _ _ (by omega) (by omega) CA.out).mono ?_
  rintro e wb ⟨b, rfl, cb, gb⟩
  have CB : Hid (Cur w.heap.size B ao len cap wb) := cb
  have hB := cb.lt
  have B1 : Below w.heap.size w wb := ba.grown gb ba.size (fun k hk => by cases hk; exact hBw)
  clear cb gb ba
  cases b with
  | true =>
    go_wp2_with fail
    refine (l1StrX 100 18 _ 18 0 _ _ _ _ _ _ _ (by omega) (by omega) (CB.out.alloc _) (World.ownsRow_lit wb _ 18 (Nat.zero_le _) (by decide) rfl) (by omega) (by decide)).mono ?_
    rintro e wc ⟨y, hy, rfl, cc, gc⟩
    have B2 : Below w.heap.size w wc := (B1.alloc B1.size _).grown gc (by simp; have := B1.size; omega) (fun k hk => by cases hk; exact hBw)
    clear cc gc
    go_wp2_with fail
    go_ret
    exact ⟨y, hy, rfl, B2⟩
  | false =>
    go_wp2_with fail
    refine (l5Four _ _ _ _ _ _ CB.out).mono ?_
    rintro e wc ⟨z, hz0, hz1, rfl, cc, gc⟩
    have B2 : Below w.heap.size w wc := B1.grown gc B1.size (fun k hk => by cases hk; exact hBw)
    clear cc gc
    have CI : Hid (∀ W, Calls Tryd.prog 18 #[.int .i64 z] W fun e w' => e = .returned (.string (ip4T z)) ∧ Below W.heap.size W w') := fun W => specIp4Text z W hz0 hz1
    have HS : Hid ((ip4T z).size ≤ 100) := by
      show _ ≤ _
      unfold ip4T
      show (ip4L z.toNat).toArray.size ≤ 100
      rw [List.size_toArray]
      unfold ip4L
      have h1 := dec3_len (z.toNat / 16777216)
      have h2 := dec3_len (z.toNat / 65536 % 256)
      have h3 := dec3_len (z.toNat / 256 % 256)
      have h4 := dec3_len (z.toNat % 256)
      simp
      omega
    generalize ip4T z = T at CI HS
    go_wp2_with fail
    refine (CI.out _).mono ?_
    rintro e wd ⟨rfl, bd⟩
    have B3 := B2.trans (bd.mono B2.size)
    clear bd
    go_wp2_with fail
    go_ret
    exact ⟨T, HS.out, rfl, B3⟩

/-- What l5Six answers: eight groups. -/
def sixOk (z : List Int) : Prop := z.length = 8 ∧ ∀ x ∈ z, 0 ≤ x ∧ x ≤ 65535

theorem ArrAt.kept {w w' : World} {B' B : Nat} {z : List Int} (h : ArrAt w B' z) (g : w.grownBy w' (some B)) (hne : B' ≠ B) : ArrAt w' B' z := by
  have hlt : B' < w.heap.size := World.block_lt_of_cell? w ⟨B', 0, none⟩ (h.2 0 (by decide)).1
  have e : w'.heap[B']? = w.heap[B']? := g.block B' hlt (by simp [hne])
  refine ⟨h.1, fun j hj => ⟨(World.cell?_of_block (w := w) (a := ⟨B', j, none⟩) e).trans (h.2 j hj).1, ?_⟩⟩
  have := (h.2 j hj).2
  unfold World.frozen? at this ⊢
  simp only [e]
  exact this
theorem grow_set {w wr : World} {row : Option Nat} (h : w.grownBy wr row) {C k : Nat} (hC : w.heap.size ≤ C) (v : Value) : w.grownBy (wr.setCell ⟨C, k, none⟩ v) row := by
  have b := (Below.refl C wr).setCell (p := ⟨C, k, none⟩) (Nat.le_refl _) v
  exact ⟨b.os.trans h.os, b.tape.trans h.tape, b.output.trans h.output, Nat.le_trans h.size b.size, fun j hj hne => (b.block j (by omega)).trans (h.block j hj hne)⟩
theorem Cur.set {D B : Nat} {ao : Option Addr} {len cap : Nat} {wr : World} (h : Cur D B ao len cap wr) {C k : Nat} (hC : B < C) (v : Value) : Cur D B ao len cap (wr.setCell ⟨C, k, none⟩ v) := by
  have b := (Below.refl C wr).setCell (p := ⟨C, k, none⟩) (Nat.le_refl _) v
  have hle := h.le
  exact h.keep (b.block B hC) fun j hj => b.block j (by omega)
theorem arr_result1 {fn : Func} {p : Tmp} (h : fn.results = #[.cell p 24]) (tmps : Array Value) (W : World) (B : Nat) (x0 x1 x2 x3 x4 x5 x6 x7 : Int)
    (hp : tmps[p]?.getD undef = .pointer (some ⟨B, 0, none⟩)) (ha : ArrAt W B [x0, x1, x2, x3, x4, x5, x6, x7]) :
    (results fn tmps).run Tryd.prog W = .ok (.agg #[.int .i64 x0, .int .i64 x1, .int .i64 x2, .int .i64 x3, .int .i64 x4, .int .i64 x5, .int .i64 x6, .int .i64 x7]) W := by
  have c0 := (ha.2 0 (by decide)).1
  have c1 := (ha.2 1 (by decide)).1
  have c2 := (ha.2 2 (by decide)).1
  have c3 := (ha.2 3 (by decide)).1
  have c4 := (ha.2 4 (by decide)).1
  have c5 := (ha.2 5 (by decide)).1
  have c6 := (ha.2 6 (by decide)).1
  have c7 := (ha.2 7 (by decide)).1
  simp at c0 c1 c2 c3 c4 c5 c6 c7
  simp [results, h, hp, asAddr, go_sem, c0, c1, c2, c3, c4, c5, c6, c7, Addr.add_lit]
theorem grow_store {w W : World} {row : Option Nat} (h : w.grownBy W row) {B : Nat} (hB : w.heap.size ≤ B) (x0 x1 x2 x3 x4 x5 x6 x7 : Int) : w.grownBy ((((((((W.setCell ⟨B, 0, none⟩ (.int .i64 x0)).setCell ⟨B, 1, none⟩ (.int .i64 x1)).setCell ⟨B, 2, none⟩ (.int .i64 x2)).setCell ⟨B, 3, none⟩ (.int .i64 x3)).setCell ⟨B, 4, none⟩ (.int .i64 x4)).setCell ⟨B, 5, none⟩ (.int .i64 x5)).setCell ⟨B, 6, none⟩ (.int .i64 x6)).setCell ⟨B, 7, none⟩ (.int .i64 x7)) row :=
  grow_set (grow_set (grow_set (grow_set (grow_set (grow_set (grow_set (grow_set h hB _) hB _) hB _) hB _) hB _) hB _) hB _) hB _
theorem cur_store {D B : Nat} {ao : Option Addr} {len cap : Nat} {W : World} (h : Cur D B ao len cap W) {C : Nat} (hC : B < C) (x0 x1 x2 x3 x4 x5 x6 x7 : Int) : Cur D B ao len cap ((((((((W.setCell ⟨C, 0, none⟩ (.int .i64 x0)).setCell ⟨C, 1, none⟩ (.int .i64 x1)).setCell ⟨C, 2, none⟩ (.int .i64 x2)).setCell ⟨C, 3, none⟩ (.int .i64 x3)).setCell ⟨C, 4, none⟩ (.int .i64 x4)).setCell ⟨C, 5, none⟩ (.int .i64 x5)).setCell ⟨C, 6, none⟩ (.int .i64 x6)).setCell ⟨C, 7, none⟩ (.int .i64 x7)) :=
  (((((((h.set hC _).set hC _).set hC _).set hC _).set hC _).set hC _).set hC _).set hC _



set_option maxRecDepth 100000 in
set_option maxHeartbeats 4000000 in
theorem l5Six (D B : Nat) (ao : Option Addr) (len cap : Nat) (w : World) (hcur : Cur D B ao len cap w) :
    Calls Tryd.prog 25 #[.pointer (some ⟨B, 0, none⟩)] w fun e w' => ∃ x0 x1 x2 x3 x4 x5 x6 x7 : Int, sixOk [x0, x1, x2, x3, x4, x5, x6, x7] ∧ e = .returned (.agg #[.int .i64 x0, .int .i64 x1, .int .i64 x2, .int .i64 x3, .int .i64 x4, .int .i64 x5, .int .i64 x6, .int .i64 x7]) ∧ Cur D B ao len cap w' ∧ w.grownBy w' (some B) := by
  have HC : Hid (Cur D B ao len cap w) := hcur
  have hB := hcur.lt
  clear hcur
  have AR := hid_arr ((arr_new w).later ((Below.refl _ _).alloc (Nat.le_refl _) (.cells #[.int .i64 0, .int .i64 0, .int .i64 0, .int .i64 0, .int .i64 0, .int .i64 0, .int .i64 0, .int .i64 0] 24)))
  have AO : Hid (ArrAt ((w.alloc (.cells #[.int .i64 0, .int .i64 0, .int .i64 0, .int .i64 0, .int .i64 0, .int .i64 0, .int .i64 0, .int .i64 0] 24)).alloc (.cells #[.int .i64 0, .int .i64 0, .int .i64 0, .int .i64 0, .int .i64 0, .int .i64 0, .int .i64 0, .int .i64 0] 24)) (w.heap.size + 1) [0, 0, 0, 0, 0, 0, 0, 0]) := by
    have h := arr_new (w.alloc (.cells #[.int .i64 0, .int .i64 0, .int .i64 0, .int .i64 0, .int .i64 0, .int .i64 0, .int .i64 0, .int .i64 0] 24))
    rw [show (w.alloc (.cells #[.int .i64 0, .int .i64 0, .int .i64 0, .int .i64 0, .int .i64 0, .int .i64 0, .int .i64 0, .int .i64 0] 24)).heap.size = w.heap.size + 1 by simp] at h
    exact h
  have G0 : Hid (w.grownBy ((w.alloc (.cells #[.int .i64 0, .int .i64 0, .int .i64 0, .int .i64 0, .int .i64 0, .int .i64 0, .int .i64 0, .int .i64 0] 24)).alloc (.cells #[.int .i64 0, .int .i64 0, .int .i64 0, .int .i64 0, .int .i64 0, .int .i64 0, .int .i64 0, .int .i64 0] 24)) (some B)) := grow_alloc (World.grownBy_alloc w _ (some B)) _
  have C0 : Hid (Cur D B ao len cap ((w.alloc (.cells #[.int .i64 0, .int .i64 0, .int .i64 0, .int .i64 0, .int .i64 0, .int .i64 0, .int .i64 0, .int .i64 0] 24)).alloc (.cells #[.int .i64 0, .int .i64 0, .int .i64 0, .int .i64 0, .int .i64 0, .int .i64 0, .int .i64 0, .int .i64 0] 24))) := (HC.out.alloc _).alloc _
  go_enter Tryd.func25, Tryd.ntmps25
  go_wp2_with fail
  go_loopw [4] (fun i wr => ∃ (k : Nat) (z : List Int), k ≤ 8 ∧ i = .int .i64 k ∧ ArrAt wr (w.heap.size + 1) z ∧ ArrAt wr w.heap.size [0, 0, 0, 0, 0, 0, 0, 0] ∧ (∀ x ∈ z, 0 ≤ x ∧ x ≤ 65535) ∧ Cur D B ao len cap wr ∧ w.grownBy wr (some B)) (fun i _ => 8 - (intOf i).toNat)
  case atStart => exact ⟨0, _, Nat.zero_le _, rfl, AO.out, AR.out, by decide, C0.out, G0.out⟩
  case round =>
    obtain ⟨k, z, hk, rfl, oa, ra, hz, cc, gg⟩ := hrel
    have HOW := hid_arr oa
    have HRW := hid_arr ra
    have HZ : Hid (∀ x ∈ z, 0 ≤ x ∧ x ≤ 65535) := hz
    have HCC : Hid (Cur D B ao len cap wr) := cc
    have HGG : Hid (w.grownBy wr (some B)) := gg
    clear oa ra hz cc gg AR AO G0 C0
    by_cases hlt : k < 8
    · have hki : (k : Int) < 8 := by omega
      go_wp2_with fail
      refine (l1Below 65536 _ _ _ _ _ _ (by omega) (by omega) HCC.out).mono ?_
      rintro e wa ⟨y, hy0, hy1, rfl, ca, ga⟩
      have CA : Hid (Cur D B ao len cap wa) := ca
      have hBa := ca.lt
      have oa2 := hid_arr (HOW.out.kept ga (by omega))
      have ra2 := hid_arr (HRW.out.kept ga (by omega))
      have G2 : Hid (w.grownBy wa (some B)) := grow_trans HGG.out ga
      clear ca ga HOW HRW HCC HGG
      go_wp2_with fail
      refine (l1Int 8 wa.heap.size 8 0 [0, 0, 0, 1, 255, 4096, 65535, y] _ _ _ _ _ _ (by omega) (by omega) (CA.out.alloc _) (World.ownsRow_lit wa _ 8 (Nat.zero_le _) (by decide) rfl) (by omega)).mono ?_
      rintro e wc ⟨x, hx, rfl, cc, gc⟩
      have hx2 : 0 ≤ x ∧ x ≤ 65535 := by
        simp only [List.mem_cons, List.not_mem_nil, or_false] at hx
        omega
      have CC : Hid (Cur D B ao len cap wc) := cc
      have oa3 := hid_arr ((oa2.out.later ((Below.refl _ _).alloc (Nat.le_refl _) _)).kept gc (by omega))
      have ra3 := hid_arr ((ra2.out.later ((Below.refl _ _).alloc (Nat.le_refl _) _)).kept gc (by omega))
      have G3 : Hid (w.grownBy wc (some B)) := grow_trans (grow_alloc G2.out _) gc
      have ho := (oa3.out.2 k hlt).1
      have hof := (oa3.out.2 k hlt).2
      have HX : Hid (0 ≤ x ∧ x ≤ 65535) := hx2
      clear cc gc hx hx2 oa2 ra2 G2 CA
      generalize z.getD k 0 = y0 at ho
      go_wp2_with fail
      go_roundw
      case rel =>
        refine ⟨k + 1, z.set k x, by omega, by go_num, oa3.out.set k hlt x, ra3.out.other (by omega) _ _, ?_, CC.out.set (by omega) _, grow_set G3.out (by omega) _⟩
        intro u hu
        rcases List.mem_or_eq_of_mem_set hu with h | h
        · exact HZ.out u h
        · rw [h]; exact HX.out
      case measure => simp [intOf]; omega
    · have hki : ¬ (k : Int) < 8 := by omega
      have OA8 := HOW.out
      have HZ2 := HZ.out
      obtain ⟨x0, x1, x2, x3, x4, x5, x6, x7, rfl⟩ := arr_list OA8
      have HS : Hid (sixOk [x0, x1, x2, x3, x4, x5, x6, x7]) := ⟨rfl, HZ2⟩
      clear HZ2 HZ HOW
      have o0 := (OA8.2 0 (by decide)).1
      have o1 := (OA8.2 1 (by decide)).1
      have o2 := (OA8.2 2 (by decide)).1
      have o3 := (OA8.2 3 (by decide)).1
      have o4 := (OA8.2 4 (by decide)).1
      have o5 := (OA8.2 5 (by decide)).1
      have o6 := (OA8.2 6 (by decide)).1
      have o7 := (OA8.2 7 (by decide)).1
      clear OA8
      simp only [List.getD_eq_getElem?_getD, List.getElem?_cons_zero, List.getElem?_cons_succ, Option.getD_some] at o0 o1 o2 o3 o4 o5 o6 o7
      have RA := HRW.out
      have r0 := (RA.2 0 (by decide)).1
      have r1 := (RA.2 1 (by decide)).1
      have r2 := (RA.2 2 (by decide)).1
      have r3 := (RA.2 3 (by decide)).1
      have r4 := (RA.2 4 (by decide)).1
      have r5 := (RA.2 5 (by decide)).1
      have r6 := (RA.2 6 (by decide)).1
      have r7 := (RA.2 7 (by decide)).1
      have f0 := (RA.2 0 (by decide)).2
      have f1 := (RA.2 1 (by decide)).2
      have f2 := (RA.2 2 (by decide)).2
      have f3 := (RA.2 3 (by decide)).2
      have f4 := (RA.2 4 (by decide)).2
      have f5 := (RA.2 5 (by decide)).2
      have f6 := (RA.2 6 (by decide)).2
      have f7 := (RA.2 7 (by decide)).2
      have HRA := hid_arr RA
      clear RA
      go_wp2_with fail
      refine bodyPost_ret (arr_result1 rfl _ _ w.heap.size x0 x1 x2 x3 x4 x5 x6 x7 rfl (arr_store HRA.out x0 x1 x2 x3 x4 x5 x6 x7)) rfl ⟨x0, x1, x2, x3, x4, x5, x6, x7, HS.out, rfl, cur_store HCC.out (by omega) x0 x1 x2 x3 x4 x5 x6 x7, grow_store HGG.out (Nat.le_refl _) x0 x1 x2 x3 x4 x5 x6 x7⟩

theorem arr_resultsV {fn : Func} {p q : Tmp} (h : fn.results = #[.cell p 24, .tmp q]) (tmps : Array Value) (W : World) (B : Nat) (v : Value) (x0 x1 x2 x3 x4 x5 x6 x7 : Int)
    (hp : tmps[p]?.getD undef = .pointer (some ⟨B, 0, none⟩)) (hq : tmps[q]?.getD undef = v) (ha : ArrAt W B [x0, x1, x2, x3, x4, x5, x6, x7]) :
    (results fn tmps).run Tryd.prog W = .ok (.tuple #[.agg #[.int .i64 x0, .int .i64 x1, .int .i64 x2, .int .i64 x3, .int .i64 x4, .int .i64 x5, .int .i64 x6, .int .i64 x7], v]) W := by
  have c0 := (ha.2 0 (by decide)).1
  have c1 := (ha.2 1 (by decide)).1
  have c2 := (ha.2 2 (by decide)).1
  have c3 := (ha.2 3 (by decide)).1
  have c4 := (ha.2 4 (by decide)).1
  have c5 := (ha.2 5 (by decide)).1
  have c6 := (ha.2 6 (by decide)).1
  have c7 := (ha.2 7 (by decide)).1
  simp at c0 c1 c2 c3 c4 c5 c6 c7
  simp [results, h, hp, hq, asAddr, go_sem, c0, c1, c2, c3, c4, c5, c6, c7, Addr.add_lit]

set_option maxRecDepth 100000 in
set_option maxHeartbeats 4000000 in
theorem drawSix (ao : Option Addr) (len cap : Nat) (w : World) (hl : len ≤ 1048576) (hcode : CodeRow w.heap.size w ao len) :
    Calls Tryd.prog 10 #[.slice ao len cap] w fun e w' => ∃ x0 x1 x2 x3 x4 x5 x6 x7 n : Int, sixOk [x0, x1, x2, x3, x4, x5, x6, x7] ∧ 0 ≤ n ∧ n < 4294967296 ∧ e = .returned (.tuple #[.agg #[.int .i64 x0, .int .i64 x1, .int .i64 x2, .int .i64 x3, .int .i64 x4, .int .i64 x5, .int .i64 x6, .int .i64 x7], .int .i64 n]) ∧ Below w.heap.size w w' := by
  have AR := hid_arr (arr_new w)
  have B0 : Hid (Below w.heap.size w (w.alloc (.cells #[.int .i64 0, .int .i64 0, .int .i64 0, .int .i64 0, .int .i64 0, .int .i64 0, .int .i64 0, .int .i64 0] 24))) := (Below.refl _ w).alloc (Nat.le_refl _) _
  have HCO : Hid (CodeRow (w.alloc (.cells #[.int .i64 0, .int .i64 0, .int .i64 0, .int .i64 0, .int .i64 0, .int .i64 0, .int .i64 0, .int .i64 0] 24)).heap.size (w.alloc (.cells #[.int .i64 0, .int .i64 0, .int .i64 0, .int .i64 0, .int .i64 0, .int .i64 0, .int .i64 0, .int .i64 0] 24)) ao len) := hcode.later B0.out
  have Z0 : Hid ((w.alloc (.cells #[.int .i64 0, .int .i64 0, .int .i64 0, .int .i64 0, .int .i64 0, .int .i64 0, .int .i64 0, .int .i64 0] 24)).heap.size = w.heap.size + 1) := by show _ = _; simp
  clear hcode
  go_enter Tryd.func10, Tryd.ntmps10
  go_wp2_with fail
  refine (l1New _ _ _ _ hl HCO.out).mono ?_
  rintro e wa ⟨B, rfl, hBw, ca, ba⟩
  have CA : Hid (Cur _ B ao len cap wa) := ca
  have ra := hid_arr (AR.out.later ba)
  have B1 : Hid (Below w.heap.size w wa) := B0.out.trans (ba.mono B0.out.size)
  have hBz : w.heap.size + 1 ≤ B := by have := Z0.out; omega
  clear ca ba hBw
  go_wp2_with fail
  refine (l5Six _ _ _ _ _ _ CA.out).mono ?_
  rintro e wb ⟨x0, x1, x2, x3, x4, x5, x6, x7, h6, rfl, cb, gb⟩
  have CB : Hid (Cur _ B ao len cap wb) := cb
  have H6 : Hid (sixOk [x0, x1, x2, x3, x4, x5, x6, x7]) := h6
  have rb := hid_arr (ra.out.kept gb (by omega))
  have B2 : Hid (Below w.heap.size w wb) := B1.out.grown gb B1.out.size (fun k hk => by cases hk; omega)
  clear cb gb h6 CA ra B1
  go_wp2_with fail
  refine (l5Four _ _ _ _ _ _ CB.out).mono ?_
  rintro e wc ⟨n, hn0, hn1, rfl, cc, gc⟩
  have RA := rb.out.kept gc (by omega)
  have B3 : Hid (Below w.heap.size w wc) := B2.out.grown gc B2.out.size (fun k hk => by cases hk; omega)
  clear cc gc rb B2 CB
  have r0 := (RA.2 0 (by decide)).1
  have r1 := (RA.2 1 (by decide)).1
  have r2 := (RA.2 2 (by decide)).1
  have r3 := (RA.2 3 (by decide)).1
  have r4 := (RA.2 4 (by decide)).1
  have r5 := (RA.2 5 (by decide)).1
  have r6 := (RA.2 6 (by decide)).1
  have r7 := (RA.2 7 (by decide)).1
  have f0 := (RA.2 0 (by decide)).2
  have f1 := (RA.2 1 (by decide)).2
  have f2 := (RA.2 2 (by decide)).2
  have f3 := (RA.2 3 (by decide)).2
  have f4 := (RA.2 4 (by decide)).2
  have f5 := (RA.2 5 (by decide)).2
  have f6 := (RA.2 6 (by decide)).2
  have f7 := (RA.2 7 (by decide)).2
  have HRA := hid_arr RA
  clear RA
  go_wp2_with fail
  refine bodyPost_ret (arr_resultsV rfl _ _ w.heap.size _ x0 x1 x2 x3 x4 x5 x6 x7 rfl rfl (arr_store HRA.out x0 x1 x2 x3 x4 x5 x6 x7)) rfl ⟨x0, x1, x2, x3, x4, x5, x6, x7, n, H6.out, hn0, hn1, rfl, below_store B3.out (Nat.le_refl _) x0 x1 x2 x3 x4 x5 x6 x7⟩
end Go.Proofs.YtophgcneckjdjaaDoor
