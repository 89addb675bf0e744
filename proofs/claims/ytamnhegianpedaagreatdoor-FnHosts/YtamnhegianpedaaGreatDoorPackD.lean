/- Contracts and plain laws: Draw5Walk, AddrBack, HostBack, Draw6Walk, Draw6More. -/
import Derived.Test.YtamnhegianpedaaGreatDoorRows
import Derived.Test.YtamnhegianpedaaGreatDoorDrawWalk
import Derived.Test.YtamnhegianpedaaGreatDoorPackA
import Derived.Test.YtamnhegianpedaaGreatDoorPackE
import Derived.Test.YtamnhegianpedaaGreatDoorPackC
import Derived.Test.YtamnhegianpedaaGreatDoorPackB
import Derived.Test.YtamnhegianpedaaGreatDoorDraw4Walk
import Derived.Handy
namespace Go.Proofs.YtamnhegianpedaaGreatDoor
open Go.RowKit

set_option maxRecDepth 100000 in
set_option maxHeartbeats 2000000 in
theorem l5Four (D B : Nat) (ao : Option Addr) (len cap : Nat) (w : World) (hcur : Cur D B ao len cap w) :
    Calls Tryz.prog 57 #[.pointer (some ⟨B, 0, none⟩)] w fun e w' => ∃ z : Int, 0 ≤ z ∧ z < 4294967296 ∧ e = .returned (.int .i64 z) ∧ Cur D B ao len cap w' ∧ w.grownBy w' (some B) := by
  have HC : Hid (Cur D B ao len cap w) := hcur
  clear hcur
  go_enter Tryz.func57, Tryz.ntmps57
  go_wp2_with fail
  refine (l1Below 100000 _ _ _ _ _ _ (by omega) (by omega) HC.out).mono ?_
  rintro e wa ⟨y, hy0, hy1, rfl, ca, ga⟩
  have CA : Hid (Cur D B ao len cap wa) := ca
  have hB := ca.lt
  clear ca
  go_wp2_with fail
  refine (l1Int 8 wa.heap.size 8 0 [0, 1, 2130706433, 4294967295, 256, 65536, 3232235777, y] _ _ _ _ _ _ (by omega) (by omega) (CA.out.alloc _) (World.ownsRow_lit wa _ 8 (Nat.zero_le _) (by decide) rfl) (by omega)).mono ?_
  rintro e wc ⟨z, hz, rfl, cc, gc⟩
  have CC : Hid (Cur D B ao len cap wc) := cc
  have G := grow_trans (grow_alloc ga _) gc
  have hz2 : 0 ≤ z ∧ z < 4294967296 := by
    simp only [List.mem_cons, List.not_mem_nil, or_false] at hz
    omega
  clear cc gc ga hz
  obtain ⟨hz0, hz1⟩ := hz2
  go_wp2_with fail
  go_ret
  exact ⟨z, hz0, hz1, rfl, CC.out, G⟩


/-- What l5Six answers: eight groups. -/
def sixOk (z : List Int) : Prop := z.length = 8 ∧ ∀ x ∈ z, 0 ≤ x ∧ x ≤ 65535

theorem ArrAt.kept {w w' : World} {B' B : Nat} {z : List Int} (h : ArrAt w B' z) (g : w.grownBy w' (some B)) (hne : B' ≠ B) : ArrAt w' B' z := by
  have hlt : B' < w.heap.size := World.block_lt_of_cell? w ⟨B', 0, none⟩ (h.2 0 (by decide)).1
  have e : w'.heap[B']? = w.heap[B']? := g.block B' hlt (by simp [hne])
  refine ⟨h.1, fun j hj => ⟨(World.cell?_of_block (w := w) (a := ⟨B', j, none⟩) e).trans (h.2 j hj).1, ?_⟩⟩
  have := (h.2 j hj).2
  unfold World.frozen? at this ⊢
  simp only [e]
  exact this
theorem grow_set {w wr : World} {row : Option Nat} (h : w.grownBy wr row) {C k : Nat} (hC : w.heap.size ≤ C) (v : Value) : w.grownBy (wr.setCell ⟨C, k, none⟩ v) row := by
  have b := (Below.refl C wr).setCell (p := ⟨C, k, none⟩) (Nat.le_refl _) v
  exact ⟨b.os.trans h.os, b.tape.trans h.tape, b.output.trans h.output, Nat.le_trans h.size b.size, fun j hj hne => (b.block j (by omega)).trans (h.block j hj hne)⟩
theorem Cur.set {D B : Nat} {ao : Option Addr} {len cap : Nat} {wr : World} (h : Cur D B ao len cap wr) {C k : Nat} (hC : B < C) (v : Value) : Cur D B ao len cap (wr.setCell ⟨C, k, none⟩ v) := by
  have b := (Below.refl C wr).setCell (p := ⟨C, k, none⟩) (Nat.le_refl _) v
  have hle := h.le
  exact h.keep (b.block B hC) fun j hj => b.block j (by omega)
theorem arr_result1 {fn : Func} {p : Tmp} (h : fn.results = #[.cell p 24]) (tmps : Array Value) (W : World) (B : Nat) (x0 x1 x2 x3 x4 x5 x6 x7 : Int)
    (hp : tmps[p]?.getD undef = .pointer (some ⟨B, 0, none⟩)) (ha : ArrAt W B [x0, x1, x2, x3, x4, x5, x6, x7]) :
    (results fn tmps).run Tryz.prog W = .ok (.agg #[.int .i64 x0, .int .i64 x1, .int .i64 x2, .int .i64 x3, .int .i64 x4, .int .i64 x5, .int .i64 x6, .int .i64 x7]) W := by
  have c0 := (ha.2 0 (by decide)).1
  have c1 := (ha.2 1 (by decide)).1
  have c2 := (ha.2 2 (by decide)).1
  have c3 := (ha.2 3 (by decide)).1
  have c4 := (ha.2 4 (by decide)).1
  have c5 := (ha.2 5 (by decide)).1
  have c6 := (ha.2 6 (by decide)).1
  have c7 := (ha.2 7 (by decide)).1
  simp at c0 c1 c2 c3 c4 c5 c6 c7
  simp [results, h, hp, asAddr, go_sem, c0, c1, c2, c3, c4, c5, c6, c7, Addr.add_lit]
theorem grow_store {w W : World} {row : Option Nat} (h : w.grownBy W row) {B : Nat} (hB : w.heap.size ≤ B) (x0 x1 x2 x3 x4 x5 x6 x7 : Int) : w.grownBy ((((((((W.setCell ⟨B, 0, none⟩ (.int .i64 x0)).setCell ⟨B, 1, none⟩ (.int .i64 x1)).setCell ⟨B, 2, none⟩ (.int .i64 x2)).setCell ⟨B, 3, none⟩ (.int .i64 x3)).setCell ⟨B, 4, none⟩ (.int .i64 x4)).setCell ⟨B, 5, none⟩ (.int .i64 x5)).setCell ⟨B, 6, none⟩ (.int .i64 x6)).setCell ⟨B, 7, none⟩ (.int .i64 x7)) row :=
  grow_set (grow_set (grow_set (grow_set (grow_set (grow_set (grow_set (grow_set h hB _) hB _) hB _) hB _) hB _) hB _) hB _) hB _
theorem cur_store {D B : Nat} {ao : Option Addr} {len cap : Nat} {W : World} (h : Cur D B ao len cap W) {C : Nat} (hC : B < C) (x0 x1 x2 x3 x4 x5 x6 x7 : Int) : Cur D B ao len cap ((((((((W.setCell ⟨C, 0, none⟩ (.int .i64 x0)).setCell ⟨C, 1, none⟩ (.int .i64 x1)).setCell ⟨C, 2, none⟩ (.int .i64 x2)).setCell ⟨C, 3, none⟩ (.int .i64 x3)).setCell ⟨C, 4, none⟩ (.int .i64 x4)).setCell ⟨C, 5, none⟩ (.int .i64 x5)).setCell ⟨C, 6, none⟩ (.int .i64 x6)).setCell ⟨C, 7, none⟩ (.int .i64 x7)) :=
  (((((((h.set hC _).set hC _).set hC _).set hC _).set hC _).set hC _).set hC _).set hC _



set_option maxRecDepth 100000 in
set_option maxHeartbeats 4000000 in
theorem l5Six (D B : Nat) (ao : Option Addr) (len cap : Nat) (w : World) (hcur : Cur D B ao len cap w) :
    Calls Tryz.prog 58 #[.pointer (some ⟨B, 0, none⟩)] w fun e w' => ∃ x0 x1 x2 x3 x4 x5 x6 x7 : Int, sixOk [x0, x1, x2, x3, x4, x5, x6, x7] ∧ e = .returned (.agg #[.int .i64 x0, .int .i64 x1, .int .i64 x2, .int .i64 x3, .int .i64 x4, .int .i64 x5, .int .i64 x6, .int .i64 x7]) ∧ Cur D B ao len cap w' ∧ w.grownBy w' (some B) := by
  have HC : Hid (Cur D B ao len cap w) := hcur
  have hB := hcur.lt
  clear hcur
  have AR := hid_arr ((arr_new w).later ((Below.refl _ _).alloc (Nat.le_refl _) (.cells #[.int .i64 0, .int .i64 0, .int .i64 0, .int .i64 0, .int .i64 0, .int .i64 0, .int .i64 0, .int .i64 0] 24)))
  have AO : Hid (ArrAt ((w.alloc (.cells #[.int .i64 0, .int .i64 0, .int .i64 0, .int .i64 0, .int .i64 0, .int .i64 0, .int .i64 0, .int .i64 0] 24)).alloc (.cells #[.int .i64 0, .int .i64 0, .int .i64 0, .int .i64 0, .int .i64 0, .int .i64 0, .int .i64 0, .int .i64 0] 24)) (w.heap.size + 1) [0, 0, 0, 0, 0, 0, 0, 0]) := by
    have h := arr_new (w.alloc (.cells #[.int .i64 0, .int .i64 0, .int .i64 0, .int .i64 0, .int .i64 0, .int .i64 0, .int .i64 0, .int .i64 0] 24))
    rw [show (w.alloc (.cells #[.int .i64 0, .int .i64 0, .int .i64 0, .int .i64 0, .int .i64 0, .int .i64 0, .int .i64 0, .int .i64 0] 24)).heap.size = w.heap.size + 1 by simp] at h
    exact h
  have G0 : Hid (w.grownBy ((w.alloc (.cells #[.int .i64 0, .int .i64 0, .int .i64 0, .int .i64 0, .int .i64 0, .int .i64 0, .int .i64 0, .int .i64 0] 24)).alloc (.cells #[.int .i64 0, .int .i64 0, .int .i64 0, .int .i64 0, .int .i64 0, .int .i64 0, .int .i64 0, .int .i64 0] 24)) (some B)) := grow_alloc (World.grownBy_alloc w _ (some B)) _
  have C0 : Hid (Cur D B ao len cap ((w.alloc (.cells #[.int .i64 0, .int .i64 0, .int .i64 0, .int .i64 0, .int .i64 0, .int .i64 0, .int .i64 0, .int .i64 0] 24)).alloc (.cells #[.int .i64 0, .int .i64 0, .int .i64 0, .int .i64 0, .int .i64 0, .int .i64 0, .int .i64 0, .int .i64 0] 24))) := (HC.out.alloc _).alloc _
  go_enter Tryz.func58, Tryz.ntmps58
  go_wp2_with fail
  go_loopw [4] (fun i wr => ∃ (k : Nat) (z : List Int), k ≤ 8 ∧ i = .int .i64 k ∧ ArrAt wr (w.heap.size + 1) z ∧ ArrAt wr w.heap.size [0, 0, 0, 0, 0, 0, 0, 0] ∧ (∀ x ∈ z, 0 ≤ x ∧ x ≤ 65535) ∧ Cur D B ao len cap wr ∧ w.grownBy wr (some B)) (fun i _ => 8 - (intOf i).toNat)
  case atStart => exact ⟨0, _, Nat.zero_le _, rfl, AO.out, AR.out, by decide, C0.out, G0.out⟩
  case round =>
    obtain ⟨k, z, hk, rfl, oa, ra, hz, cc, gg⟩ := hrel
    have HOW := hid_arr oa
    have HRW := hid_arr ra
    have HZ : Hid (∀ x ∈ z, 0 ≤ x ∧ x ≤ 65535) := hz
    have HCC : Hid (Cur D B ao len cap wr) := cc
    have HGG : Hid (w.grownBy wr (some B)) := gg
    clear oa ra hz cc gg AR AO G0 C0
    by_cases hlt : k < 8
    · have hki : (k : Int) < 8 := by omega
      go_wp2_with fail
      refine (l1Below 65536 _ _ _ _ _ _ (by omega) (by omega) HCC.out).mono ?_
      rintro e wa ⟨y, hy0, hy1, rfl, ca, ga⟩
      have CA : Hid (Cur D B ao len cap wa) := ca
      have hBa := ca.lt
      have oa2 := hid_arr (HOW.out.kept ga (by omega))
      have ra2 := hid_arr (HRW.out.kept ga (by omega))
      have G2 : Hid (w.grownBy wa (some B)) := grow_trans HGG.out ga
      clear ca ga HOW HRW HCC HGG
      go_wp2_with fail
      refine (l1Int 8 wa.heap.size 8 0 [0, 0, 0, 1, 255, 4096, 65535, y] _ _ _ _ _ _ (by omega) (by omega) (CA.out.alloc _) (World.ownsRow_lit wa _ 8 (Nat.zero_le _) (by decide) rfl) (by omega)).mono ?_
      rintro e wc ⟨x, hx, rfl, cc, gc⟩
      have hx2 : 0 ≤ x ∧ x ≤ 65535 := by
        simp only [List.mem_cons, List.not_mem_nil, or_false] at hx
        omega
      have CC : Hid (Cur D B ao len cap wc) := cc
      have oa3 := hid_arr ((oa2.out.later ((Below.refl _ _).alloc (Nat.le_refl _) _)).kept gc (by omega))
      have ra3 := hid_arr ((ra2.out.later ((Below.refl _ _).alloc (Nat.le_refl _) _)).kept gc (by omega))
      have G3 : Hid (w.grownBy wc (some B)) := grow_trans (grow_alloc G2.out _) gc
      have ho := (oa3.out.2 k hlt).1
      have hof := (oa3.out.2 k hlt).2
      have HX : Hid (0 ≤ x ∧ x ≤ 65535) := hx2
      clear cc gc hx hx2 oa2 ra2 G2 CA
      generalize z.getD k 0 = y0 at ho
      go_wp2_with fail
      go_roundw
      case rel =>
        refine ⟨k + 1, z.set k x, by omega, by go_num, oa3.out.set k hlt x, ra3.out.other (by omega) _ _, ?_, CC.out.set (by omega) _, grow_set G3.out (by omega) _⟩
        intro u hu
        rcases List.mem_or_eq_of_mem_set hu with h | h
        · exact HZ.out u h
        · rw [h]; exact HX.out
      case measure => simp [intOf]; omega
    · have hki : ¬ (k : Int) < 8 := by omega
      have OA8 := HOW.out
      have HZ2 := HZ.out
      obtain ⟨x0, x1, x2, x3, x4, x5, x6, x7, rfl⟩ := arr_list OA8
      have HS : Hid (sixOk [x0, x1, x2, x3, x4, x5, x6, x7]) := ⟨rfl, HZ2⟩
      clear HZ2 HZ HOW
      have o0 := (OA8.2 0 (by decide)).1
      have o1 := (OA8.2 1 (by decide)).1
      have o2 := (OA8.2 2 (by decide)).1
      have o3 := (OA8.2 3 (by decide)).1
      have o4 := (OA8.2 4 (by decide)).1
      have o5 := (OA8.2 5 (by decide)).1
      have o6 := (OA8.2 6 (by decide)).1
      have o7 := (OA8.2 7 (by decide)).1
      clear OA8
      simp only [List.getD_eq_getElem?_getD, List.getElem?_cons_zero, List.getElem?_cons_succ, Option.getD_some] at o0 o1 o2 o3 o4 o5 o6 o7
      have RA := HRW.out
      have r0 := (RA.2 0 (by decide)).1
      have r1 := (RA.2 1 (by decide)).1
      have r2 := (RA.2 2 (by decide)).1
      have r3 := (RA.2 3 (by decide)).1
      have r4 := (RA.2 4 (by decide)).1
      have r5 := (RA.2 5 (by decide)).1
      have r6 := (RA.2 6 (by decide)).1
      have r7 := (RA.2 7 (by decide)).1
      have f0 := (RA.2 0 (by decide)).2
      have f1 := (RA.2 1 (by decide)).2
      have f2 := (RA.2 2 (by decide)).2
      have f3 := (RA.2 3 (by decide)).2
      have f4 := (RA.2 4 (by decide)).2
      have f5 := (RA.2 5 (by decide)).2
      have f6 := (RA.2 6 (by decide)).2
      have f7 := (RA.2 7 (by decide)).2
      have HRA := hid_arr RA
      clear RA
      go_wp2_with fail
      refine bodyPost_ret (arr_result1 rfl _ _ w.heap.size x0 x1 x2 x3 x4 x5 x6 x7 rfl (arr_store HRA.out x0 x1 x2 x3 x4 x5 x6 x7)) rfl ⟨x0, x1, x2, x3, x4, x5, x6, x7, HS.out, rfl, cur_store HCC.out (by omega) x0 x1 x2 x3 x4 x5 x6 x7, grow_store HGG.out (Nat.le_refl _) x0 x1 x2 x3 x4 x5 x6 x7⟩

end Go.Proofs.YtamnhegianpedaaGreatDoor

namespace Go.Proofs.YtamnhegianpedaaGreatDoor
open Go.RowKit

theorem ip4T_list {n : Int} : (ip4T n).data.toList = ip4L n.toNat := by simp [ip4T]
theorem ip4T_size (n : Int) : (ip4T n).size ≤ 100 := by
  unfold ip4T
  show (ip4L n.toNat).toArray.size ≤ 100
  rw [List.size_toArray]
  unfold ip4L
  have h1 := dec3_len (n.toNat / 16777216)
  have h2 := dec3_len (n.toNat / 65536 % 256)
  have h3 := dec3_len (n.toNat / 256 % 256)
  have h4 := dec3_len (n.toNat % 256)
  simp
  omega
theorem numA_back {n : Int} (h : 0 ≤ n) : numA (some n.toNat) = .tuple #[.int .i64 n, .bool true] := by
  show Value.tuple #[.int .i64 ((n.toNat : Nat) : Int), .bool true] = _
  rw [Int.toNat_of_nonneg h]

theorem implParse_back {n : Int} (h0 : 0 ≤ n) (h1 : n < 4294967296) (W : World) (hT : Pow W) :
    Calls Tryz.prog 112 #[.string (ip4T n)] W fun e w' => e = .returned (.tuple #[.int .i64 n, .bool true]) ∧ Below W.heap.size W w' := by
  have h := implParseIp4 (ip4T n) W (by have := ip4T_size n; omega) hT
  rw [ip4T_list, p4_ip4 (by omega), numA_back h0] at h
  exact h
theorem implLoose_back {n : Int} (h0 : 0 ≤ n) (h1 : n < 4294967296) (W : World) :
    Calls Tryz.prog 80 #[.string (ip4T n)] W fun e w' => e = .returned (.tuple #[.int .i64 n, .bool true]) ∧ Below W.heap.size W w' := by
  have h := implLooseIp4 (ip4T n) W (by have := ip4T_size n; omega)
  rw [loA_ip4 (n := n.toNat) (by omega) ip4T_list, numA_back h0] at h
  exact h

theorem six_nat {z : List Int} (h : sixOk z) : ∀ g ∈ z.map Int.toNat, g < 65536 := by
  intro g hg
  obtain ⟨x, hx, rfl⟩ := List.mem_map.1 hg
  have := h.2 x hx
  omega
theorem six_ok {z : List Int} (h : sixOk z) : okG z = true := okG_yes h.2
theorem six_list {x0 x1 x2 x3 x4 x5 x6 x7 : Int} (h : sixOk [x0, x1, x2, x3, x4, x5, x6, x7]) : par6 (ip6L [x0, x1, x2, x3, x4, x5, x6, x7]) = some ([x0, x1, x2, x3, x4, x5, x6, x7].map Int.toNat) := by
  unfold ip6L
  rw [if_pos (six_ok h)]
  have hr := row_ok x0 x1 x2 x3 x4 x5 x6 x7
  have hle := row_le hr
  unfold rowOkB at hr
  have hz : ∀ i, i < 8 → (zb [x0, x1, x2, x3, x4, x5, x6, x7]).getD i false = true → ([x0, x1, x2, x3, x4, x5, x6, x7].map Int.toNat).getD i 0 = 0 := by
    intro i hi hb
    have h8 : i = 0 ∨ i = 1 ∨ i = 2 ∨ i = 3 ∨ i = 4 ∨ i = 5 ∨ i = 6 ∨ i = 7 := by omega
    rcases h8 with rfl | rfl | rfl | rfl | rfl | rfl | rfl | rfl <;> simp [zb] at hb ⊢ <;> omega
  generalize rowI 0 (0, 0, 0) (zb [x0, x1, x2, x3, x4, x5, x6, x7]) = p at hr hle ⊢
  simp only [Bool.and_eq_true, decide_eq_true_eq] at hr
  by_cases c : p.2.1 - p.1 < 2
  · unfold ip6T
    rw [if_pos c]
    exact par6_gt rfl (six_nat h)
  · have h3 := hr.2
    rw [if_neg c] at h3
    simp only [Bool.and_eq_true, decide_eq_true_eq, List.all_eq_true, List.mem_range, Bool.or_eq_true, Bool.not_eq_true', Bool.and_eq_false_iff, decide_eq_false_iff_not] at h3
    refine par6_text rfl (six_nat h) hle.2 ?_
    intro i h1 h2
    refine hz i (by omega) ?_
    rcases h3.2 i (by omega) with h4 | h4
    · omega
    · exact h4

theorem ip6_sizes {x0 x1 x2 x3 x4 x5 x6 x7 : Int} (h : sixOk [x0, x1, x2, x3, x4, x5, x6, x7]) : 2 ≤ (⟨(ip6L [x0, x1, x2, x3, x4, x5, x6, x7]).toArray⟩ : ByteArray).size ∧ (⟨(ip6L [x0, x1, x2, x3, x4, x5, x6, x7]).toArray⟩ : ByteArray).size ≤ 39 := by
  show 2 ≤ (ip6L [x0, x1, x2, x3, x4, x5, x6, x7]).toArray.size ∧ (ip6L [x0, x1, x2, x3, x4, x5, x6, x7]).toArray.size ≤ 39
  rw [List.size_toArray]
  unfold ip6L
  rw [if_pos (six_ok h)]
  exact ip6_len rfl (row_le (row_ok x0 x1 x2 x3 x4 x5 x6 x7)).2

theorem implParse6_back {x0 x1 x2 x3 x4 x5 x6 x7 : Int} (h : sixOk [x0, x1, x2, x3, x4, x5, x6, x7]) (W : World) (hT : Pow W) (hD : Bruijn W) (hM : MaxI W) :
    Calls Tryz.prog 76 #[.string ⟨(ip6L [x0, x1, x2, x3, x4, x5, x6, x7]).toArray⟩] W fun e w' => e = .returned (.tuple #[.agg #[.int .i64 x0, .int .i64 x1, .int .i64 x2, .int .i64 x3, .int .i64 x4, .int .i64 x5, .int .i64 x6, .int .i64 x7], .bool true]) ∧ Below W.heap.size W w' := by
  have hc := implParseIp6 ⟨(ip6L [x0, x1, x2, x3, x4, x5, x6, x7]).toArray⟩ W (by have := (ip6_sizes h).2; omega) hT hD hM
  rw [show (⟨(ip6L [x0, x1, x2, x3, x4, x5, x6, x7]).toArray⟩ : ByteArray).data.toList = ip6L [x0, x1, x2, x3, x4, x5, x6, x7] by simp, six_list h] at hc
  have e : parV (some ([x0, x1, x2, x3, x4, x5, x6, x7].map Int.toNat)) = .tuple #[.agg #[.int .i64 x0, .int .i64 x1, .int .i64 x2, .int .i64 x3, .int .i64 x4, .int .i64 x5, .int .i64 x6, .int .i64 x7], .bool true] := by
    show Value.tuple #[.agg ((toI ([x0, x1, x2, x3, x4, x5, x6, x7].map Int.toNat)).map (Value.int .i64)).toArray, .bool true] = _
    have ht : toI ([x0, x1, x2, x3, x4, x5, x6, x7].map Int.toNat) = [x0, x1, x2, x3, x4, x5, x6, x7] := by
      have hs := h.2
      unfold toI
      rw [List.map_map]
      generalize [x0, x1, x2, x3, x4, x5, x6, x7] = z at hs
      have e1 : z.map ((fun n : Nat => (n : Int)) ∘ Int.toNat) = z.map id := List.map_congr_left fun x hx => by
        have := hs x hx
        simp
        omega
      rw [e1, List.map_id]
    rw [ht]
    rfl
  rw [e] at hc
  exact hc
end Go.Proofs.YtamnhegianpedaaGreatDoor

namespace Go.Proofs.YtamnhegianpedaaGreatDoor
open Go.RowKit
set_option linter.unusedVariables false

theorem un_id : ∀ {l : List UInt8}, (∀ c ∈ l, c.toNat ≠ 37) → unL l = l
  | [], _ => rfl
  | c :: r, h => by
    rw [un_byte c r (hd_no c r (h c List.mem_cons_self)), un_id fun x hx => h x (List.mem_cons_of_mem _ hx)]

theorem jn_chars : ∀ {ls : List ByteArray}, (∀ a ∈ ls, labL a.data.toList = true) → ∀ c ∈ jn 46 ls, labB c = true ∨ c = 46 := by
  intro ls h c hc
  cases ls with
  | nil => simp [jn] at hc
  | cons x xs =>
    unfold jn at hc
    rcases List.mem_append.1 hc with h1 | h1
    · exact .inl ((labL_parts (h x List.mem_cons_self)).2.2.2.2 c h1)
    · obtain ⟨y, hy, h2⟩ := List.mem_flatMap.1 h1
      rcases List.mem_cons.1 h2 with h3 | h3
      · exact .inr h3
      · exact .inl ((labL_parts (h y (List.mem_cons_of_mem _ hy))).2.2.2.2 c h3)

theorem char_no {c : UInt8} (h : labB c = true ∨ c = 46) : c.toNat ≠ 37 ∧ c ≠ 91 := by
  rcases h with h | rfl
  · rcases labB_parts h with h1 | h1 | h1
    · exact ⟨by omega, fun e => by rw [e] at h1; simp at h1⟩
    · exact ⟨by omega, fun e => by rw [e] at h1; simp at h1⟩
    · exact ⟨by omega, fun e => by rw [e] at h1; simp at h1⟩
  · exact ⟨by decide, by decide⟩

/-- Of a name that is its own name: it is read again. -/
theorem readH_self {s : ByteArray} (h : nameL s = some s.data.toList) : readH s = readM s.data.toList ∧ 0 < s.size := by
  obtain ⟨ls, hne, _, _, hl, hj, _, _, hp⟩ := name_back h
  have hch : ∀ c ∈ s.data.toList, labB c = true ∨ c = 46 := by
    rw [hj]
    exact jn_chars fun a ha => (hl a ha).1
  have hp' : 0 < s.size := by simpa using hp
  refine ⟨?_, hp'⟩
  have h0 : s[0] ∈ s.data.toList := by
    rw [toL_one s hp']
    exact List.mem_cons_self
  rw [readH_name hp' (fun e => (char_no (hch _ h0)).2 (u8_is e))]
  unfold readN unB
  rw [un_id fun c hc => (char_no (hch c hc)).1, arr_back, h]

theorem dec3_ok : ∀ v, v < 256 → okA (dec3 v) = true := by decide +kernel
theorem dec3_end : ∀ v, v < 256 → endT ⟨(dec3 v).toArray⟩ = true := by decide +kernel

theorem ip4_jn (n : Nat) : jn 46 [⟨(dec3 (n / 16777216)).toArray⟩, ⟨(dec3 (n / 65536 % 256)).toArray⟩, ⟨(dec3 (n / 256 % 256)).toArray⟩, ⟨(dec3 (n % 256)).toArray⟩] = ip4L n := by
  simp [jn, ip4L]

theorem ip4_name {n : Nat} (hn : n < 4294967296) : nameL ⟨(ip4L n).toArray⟩ = some (ip4L n) := by
  have hv : ∀ a ∈ ([⟨(dec3 (n / 16777216)).toArray⟩, ⟨(dec3 (n / 65536 % 256)).toArray⟩, ⟨(dec3 (n / 256 % 256)).toArray⟩, ⟨(dec3 (n % 256)).toArray⟩] : List ByteArray), ∃ v, v < 256 ∧ a = ⟨(dec3 v).toArray⟩ := by
    intro a ha
    simp only [List.mem_cons, List.not_mem_nil, or_false] at ha
    rcases ha with rfl | rfl | rfl | rfl
    · exact ⟨_, by omega, rfl⟩
    · exact ⟨_, by omega, rfl⟩
    · exact ⟨_, by omega, rfl⟩
    · exact ⟨_, by omega, rfl⟩
  have hj := ip4_jn n
  generalize ([⟨(dec3 (n / 16777216)).toArray⟩, ⟨(dec3 (n / 65536 % 256)).toArray⟩, ⟨(dec3 (n / 256 % 256)).toArray⟩, ⟨(dec3 (n % 256)).toArray⟩] : List ByteArray) = ls at hv hj
  have hlab : ∀ a ∈ ls, labL a.data.toList = true := by
    intro a ha
    obtain ⟨v, hv1, rfl⟩ := hv a ha
    exact okA_lab (dec3_ok v hv1)
  have hasc : ∀ a ∈ ls, ascB a = some a := by
    intro a ha
    obtain ⟨v, hv1, rfl⟩ := hv a ha
    unfold ascB
    rw [show (⟨(dec3 v).toArray⟩ : ByteArray).data.toList = dec3 v from rfl, ascL_of_ok (dec3_ok v hv1)]
  have hne : ls ≠ [] := by
    intro h0
    rw [h0] at hj
    have := congrArg List.length hj
    simp [jn, ip4L] at this
  rw [← hj]
  unfold nameL
  rw [fields_jn hne hlab, dropE_labs hlab]
  refine namesL_yes (ascs_self hasc) ?_
  rw [hj]
  have := ip4T_size (n : Int)
  unfold ip4T at this
  have e : (ip4L n).length = (⟨(ip4L ((n : Int).toNat)).toArray⟩ : ByteArray).size := by
    show _ = (ip4L ((n : Int).toNat)).toArray.size
    rw [List.size_toArray]
    rfl
  omega

theorem ip4_ends {n : Nat} (hn : n < 4294967296) : endL ⟨(ip4L n).toArray⟩ = true := by
  have h := lastF_spl ⟨(ip4L n).toArray⟩ (dec3 (n / 16777216) ++ 46 :: (dec3 (n / 65536 % 256) ++ 46 :: (dec3 (n / 256 % 256) ++ [46]))) (dec3 (n % 256)) (by simp [ip4L])
    (.inr ⟨dec3 (n / 16777216) ++ 46 :: (dec3 (n / 65536 % 256) ++ 46 :: dec3 (n / 256 % 256)), by simp⟩) (dec3_46 (by omega))
  unfold endL
  have e : lastF ⟨(ip4L n).toArray⟩ = ⟨(dec3 (n % 256)).toArray⟩ := data_inj h
  rw [e]
  exact dec3_end _ (by omega)

theorem readM_ip4 {n : Nat} (hn : n < 4294967296) : readM (ip4L n) = .fo n := by
  unfold readM
  rw [if_pos (ip4_ends hn), loA_ip4 hn rfl]

theorem grp_lt (t : Bool) : ∀ {fs : List (List UInt8)} {g : List Nat}, grp t fs = some g → ∀ x ∈ g, x < 65536
  | [], g, h, x, hx => by cases h; simp at hx
  | y :: r, g, h, x, hx => by
    rw [grp] at h
    split at h
    · rename_i n hn
      cases h
      have hn4 : n < 4294967296 := by
        split at hn
        · exact (p4_some hn).1
        · cases hn
      simp only [List.mem_cons, List.not_mem_nil, or_false] at hx
      omega
    · split at h
      · cases h
      · rename_i v hv
        cases hr : grp t r with
        | none => rw [hr] at h; cases h
        | some q =>
          rw [hr] at h
          cases h
          rcases List.mem_cons.1 hx with rfl | h2
          · unfold g16 at hv
            split at hv
            · cases hv
            · exact g16_lt hv
          · exact grp_lt t hr x h2
theorem grpS_lt (t : Bool) {l : List UInt8} {g : List Nat} (h : grpS t l = some g) : ∀ x ∈ g, x < 65536 := by
  unfold grpS at h
  split at h
  · cases h
    intro x hx
    simp at hx
  · exact grp_lt t h
theorem par6_lt {l : List UInt8} {g : List Nat} (h : par6 l = some g) : ∀ x ∈ g, x < 65536 := by
  unfold par6 at h
  split at h
  · split at h
    · cases h
    · rename_i q hq
      split at h
      · cases h
        exact grpS_lt true hq
      · cases h
  · split at h
    · rename_i a b ha hb
      split at h
      · cases h
        intro x hx
        unfold fill8 at hx
        rcases List.mem_append.1 hx with h1 | h1
        · rcases List.mem_append.1 h1 with h2 | h2
          · exact grpS_lt false ha x h2
          · rw [(List.mem_replicate.1 h2).2]
            decide
        · exact grpS_lt true hb x h1
      · cases h
    · cases h

theorem okG_nat {g : List Nat} (h : ∀ x ∈ g, x < 65536) : okG (g.map fun (x : Nat) => (x : Int)) = true := by
  refine okG_yes ?_
  intro x hx
  obtain ⟨y, hy, rfl⟩ := List.mem_map.1 hx
  have := h y hy
  omega

/-- What is read well is right. -/
theorem read_ok (s : ByteArray) : (∃ c, readH s = .bad c ∧ 1 ≤ c ∧ c ≤ 4) ∨ (hOk (rV (readH s)) = true ∧ rC (readH s) = 0) := by
  have key : ∀ l, (∃ c, readM l = .bad c ∧ 1 ≤ c ∧ c ≤ 4) ∨ nameL ⟨l.toArray⟩ = some l → (∃ c, readM l = .bad c ∧ 1 ≤ c ∧ c ≤ 4) ∨ (hOk (rV (readM l)) = true ∧ rC (readM l) = 0) := by
    intro l hl
    rcases hl with hl | hl
    · exact .inl hl
    · unfold readM
      split
      · cases h : loA ⟨l.toArray⟩ with
        | none => exact .inl ⟨4, rfl, by decide, by decide⟩
        | some v =>
          have := loA_lt h
          refine .inr ⟨?_, rfl⟩
          show hOk ⟨2, ⟨#[]⟩, v, zeros⟩ = true
          unfold hOk
          rw [if_neg (show ¬ (2 : Int) = 1 by decide), if_pos rfl]
          simp only [Bool.and_eq_true, decide_eq_true_eq]
          exact ⟨⟨rfl, by omega, by omega⟩, trivial⟩
      · rename_i he
        refine .inr ⟨?_, rfl⟩
        show hOk ⟨1, ⟨l.toArray⟩, 0, zeros⟩ = true
        unfold hOk
        rw [if_pos rfl]
        have he' : endL ⟨l.toArray⟩ = false := by simpa using he
        simp [hl, he']
  unfold readH
  split
  · exact .inl ⟨1, rfl, by decide, by decide⟩
  · rename_i c r hl
    split
    · unfold readS
      split
      · cases h : par6 r.dropLast with
        | none => exact .inl ⟨2, rfl, by decide, by decide⟩
        | some g =>
          refine .inr ⟨?_, rfl⟩
          show hOk ⟨3, ⟨#[]⟩, 0, g.map fun (x : Nat) => (x : Int)⟩ = true
          unfold hOk
          rw [if_neg (show ¬ (3 : Int) = 1 by decide), if_neg (show ¬ (3 : Int) = 2 by decide), if_pos rfl]
          simp only [okG_nat (par6_lt h)]
          rfl
      · exact .inl ⟨2, rfl, by decide, by decide⟩
    · unfold readN
      split
      · exact .inl ⟨3, rfl, by decide, by decide⟩
      · rename_i n hn
        obtain ⟨_, _, _, _, _, _, hb, _, _⟩ := name_back hn
        exact key n (.inr hb)

theorem readH_cons {s : ByteArray} {c : UInt8} {r : List UInt8} (h : s.data.toList = c :: r) : readH s = if c = 91 then readS r else readN s := by
  unfold readH
  rw [h]

/-- A right host's text is that host's. -/
theorem host_back {k n : Int} {s : ByteArray} {x0 x1 x2 x3 x4 x5 x6 x7 : Int} (h : hOk ⟨k, s, n, [x0, x1, x2, x3, x4, x5, x6, x7]⟩ = true) : 0 < (hTx ⟨k, s, n, [x0, x1, x2, x3, x4, x5, x6, x7]⟩).size ∧ rV (readH (hTx ⟨k, s, n, [x0, x1, x2, x3, x4, x5, x6, x7]⟩)) = ⟨k, s, n, [x0, x1, x2, x3, x4, x5, x6, x7]⟩ ∧ rC (readH (hTx ⟨k, s, n, [x0, x1, x2, x3, x4, x5, x6, x7]⟩)) = 0 := by
  unfold hTx
  rw [if_pos h]
  unfold hOk at h
  simp only at h ⊢
  by_cases h1 : k = 1
  · subst h1
    rw [if_pos rfl] at h ⊢
    simp only [Bool.and_eq_true, decide_eq_true_eq, Bool.not_eq_true'] at h
    obtain ⟨⟨⟨h1, h2⟩, h3⟩, h4⟩ := h
    obtain ⟨h5, h6⟩ := readH_self h1
    have h7 : readM s.data.toList = .nm s.data.toList := by
      unfold readM
      rw [arr_back, if_neg (by rw [h2]; decide)]
    rw [h5, h7]
    refine ⟨h6, ?_, rfl⟩
    show HV.mk 1 ⟨s.data.toList.toArray⟩ 0 zeros = _
    rw [arr_back, h3, h4]
  · rw [if_neg h1] at h ⊢
    by_cases h2 : k = 2
    · subst h2
      rw [if_pos rfl] at h ⊢
      simp only [Bool.and_eq_true, decide_eq_true_eq] at h
      obtain ⟨⟨h3, h4, h5⟩, h6⟩ := h
      have hn : n.toNat < 4294967296 := by omega
      have hs : s = ⟨#[]⟩ := data_inj (List.eq_nil_of_length_eq_zero (by simpa using h3))
      have hr : readH (ip4T n) = .fo n.toNat ∧ 0 < (ip4T n).size := by
        have hnm : nameL (ip4T n) = some (ip4T n).data.toList := ip4_name hn
        obtain ⟨a, b⟩ := readH_self hnm
        refine ⟨?_, b⟩
        rw [a]
        exact readM_ip4 hn
      rw [hr.1]
      refine ⟨hr.2, ?_, rfl⟩
      show HV.mk 2 ⟨#[]⟩ ((n.toNat : Nat) : Int) zeros = _
      rw [Int.toNat_of_nonneg h4, hs, h6]
    · rw [if_neg h2] at h ⊢
      by_cases h3 : k = 3
      · subst h3
        rw [if_pos rfl] at h
        simp only [Bool.and_eq_true, decide_eq_true_eq] at h
        obtain ⟨⟨h4, h5⟩, h6⟩ := h
        have h8 := okG_all h6
        have hsix : sixOk [x0, x1, x2, x3, x4, x5, x6, x7] := ⟨rfl, h8⟩
        have hs : s = ⟨#[]⟩ := data_inj (List.eq_nil_of_length_eq_zero (by simpa using h4))
        have hr : readH ⟨(91 :: (ip6L [x0, x1, x2, x3, x4, x5, x6, x7] ++ [93])).toArray⟩ = .si ([x0, x1, x2, x3, x4, x5, x6, x7].map Int.toNat) := by
          rw [readH_cons (c := 91) (r := ip6L [x0, x1, x2, x3, x4, x5, x6, x7] ++ [93]) rfl, if_pos rfl]
          unfold readS
          rw [List.getLast?_concat, if_pos rfl, List.dropLast_concat, six_list hsix]
          rfl
        rw [hr]
        refine ⟨?_, ?_, rfl⟩
        · show 0 < (91 :: (ip6L [x0, x1, x2, x3, x4, x5, x6, x7] ++ [93])).toArray.size
          simp
        · show HV.mk 3 ⟨#[]⟩ 0 (([x0, x1, x2, x3, x4, x5, x6, x7].map Int.toNat).map fun (y : Nat) => (y : Int)) = _
          have e : ([x0, x1, x2, x3, x4, x5, x6, x7].map Int.toNat).map (fun (y : Nat) => (y : Int)) = [x0, x1, x2, x3, x4, x5, x6, x7] := by
            rw [List.map_map]
            conv => rhs; rw [← List.map_id [x0, x1, x2, x3, x4, x5, x6, x7]]
            refine List.map_congr_left ?_
            intro y hy
            have := (h8 y hy).1
            simp only [Function.comp, id]
            omega
          rw [e, hs, h5]
      · rw [if_neg h3] at h
        cases h
end Go.Proofs.YtamnhegianpedaaGreatDoor

namespace Go.Proofs.YtamnhegianpedaaGreatDoor
open Go.RowKit

set_option maxRecDepth 100000 in
set_option maxHeartbeats 4000000 in
theorem drawParse4 (ao : Option Addr) (len cap : Nat) (w : World) (hl : len ≤ 1048576) (hcode : CodeRow w.heap.size w ao len) :
    Calls Tryz.prog 50 #[.slice ao len cap] w fun e w' => ∃ z : ByteArray, z.size ≤ 100 ∧ e = .returned (.string z) ∧ Below w.heap.size w w' := by
  have HCO : Hid (CodeRow w.heap.size w ao len) := hcode
  clear hcode
  go_enter Tryz.func50, Tryz.ntmps50
  go_wp2_with fail
  refine (l1New _ _ _ _ hl HCO.out).mono ?_
  rintro e wa ⟨B, rfl, hBw, ca, ba⟩
  have CA : Hid (Cur w.heap.size B ao len cap wa) := ca
  clear ca
  go_wp2_with fail
  refine (l1Once 3 _ _ _ _ _ _ (by omega) (by omega) CA.out).mono ?_
  rintro e wb ⟨b, rfl, cb, gb⟩
  have CB : Hid (Cur w.heap.size B ao len cap wb) := cb
  have hB := cb.lt
  have B1 : Below w.heap.size w wb := ba.grown gb ba.size (fun k hk => by cases hk; exact hBw)
  clear cb gb ba
  cases b with
  | true =>
    go_wp2_with fail
    refine (l1StrX 100 10 _ 10 0 _ _ _ _ _ _ _ (by omega) (by omega) (CB.out.alloc _) (World.ownsRow_lit wb _ 10 (Nat.zero_le _) (by decide) rfl) (by omega) (by decide)).mono ?_
    rintro e wc ⟨y, hy, rfl, cc, gc⟩
    have B2 : Below w.heap.size w wc := (B1.alloc B1.size _).grown gc (by simp; have := B1.size; omega) (fun k hk => by cases hk; exact hBw)
    clear cc gc
    go_wp2_with fail
    go_ret
    exact ⟨y, hy, rfl, B2⟩
  | false =>
    go_wp2_with fail
    refine (l5Four _ _ _ _ _ _ CB.out).mono ?_
    rintro e wc ⟨z, hz0, hz1, rfl, cc, gc⟩
    have B2 : Below w.heap.size w wc := B1.grown gc B1.size (fun k hk => by cases hk; exact hBw)
    clear cc gc
    have CI : Hid (∀ W, Calls Tryz.prog 32 #[.int .i64 z] W fun e w' => e = .returned (.string (ip4T z)) ∧ Below W.heap.size W w') := fun W => specIp4Text z W hz0 hz1
    have HS : Hid ((ip4T z).size ≤ 100) := by
      show _ ≤ _
      unfold ip4T
      show (ip4L z.toNat).toArray.size ≤ 100
      rw [List.size_toArray]
      unfold ip4L
      have h1 := dec3_len (z.toNat / 16777216)
      have h2 := dec3_len (z.toNat / 65536 % 256)
      have h3 := dec3_len (z.toNat / 256 % 256)
      have h4 := dec3_len (z.toNat % 256)
      simp
      omega
    generalize ip4T z = T at CI HS
    go_wp2_with fail
    refine (CI.out _).mono ?_
    rintro e wd ⟨rfl, bd⟩
    have B3 := B2.trans (bd.mono B2.size)
    clear bd
    go_wp2_with fail
    go_ret
    exact ⟨T, HS.out, rfl, B3⟩

def u8cells (l : List Int) : List Value := l.map (Value.int .u8)
theorem u8cells_snoc (l : List Int) (x : Int) : u8cells (l ++ [x]) = u8cells l ++ [Value.int .u8 x] := by simp [u8cells]

theorem code_of_own {w : World} {B : Nat} {m : Nat} {v : Value} {zl : List Int} (h : w.ownsRow B 5 1 v m (u8cells zl)) (hz : ∀ x ∈ zl, 0 ≤ x ∧ x ≤ 255) : ∃ ao cap, v = .slice ao m cap ∧ CodeRow w.heap.size w ao m := by
  rcases own_shape h with ⟨rfl, _, ao, cap, rfl⟩ | ⟨_, g, cap, rfl⟩
  · exact ⟨ao, cap, rfl, .inl rfl⟩
  · refine ⟨_, cap, rfl, .inr ⟨g, 0, rfl, (h.lt g rfl).2, fun j hj => ?_⟩⟩
    have hl : zl.length = m := by have := h.1; simpa [u8cells] using this
    have hj' : j < zl.length := by omega
    refine ⟨zl[j], ?_, hz _ (List.getElem_mem hj')⟩
    rw [Nat.zero_add, h.cellAt j (by omega)]
    simp [u8cells, hj']

set_option maxRecDepth 100000 in
set_option maxHeartbeats 4000000 in
theorem l1Bytes (n : Nat) (D B : Nat) (ao : Option Addr) (len cap : Nat) (w : World) (hn : n ≤ 1000) (hcur : Cur D B ao len cap w) :
    Calls Tryz.prog 51 #[.pointer (some ⟨B, 0, none⟩), .int .i64 (n : Int)] w fun e w' => ∃ (v : Value) (zl : List Int), e = .returned v ∧ (∀ x ∈ zl, 0 ≤ x ∧ x ≤ 255) ∧ w'.ownsRow w.heap.size 5 1 v n (u8cells zl) ∧ Cur D B ao len cap w' ∧ w.grownBy w' (some B) := by
  have hB := hcur.lt
  have HC : Hid (Cur D B ao len cap (w.alloc (.cells #[] 5))) := hcur.alloc _
  have HO : (w.alloc (.cells #[] 5)).ownsRow w.heap.size 5 1 (.slice (some ⟨w.heap.size, 0, none⟩) 0 0) 0 [] := World.ownsRow_lit w #[] 0 (Nat.le_refl _) (by decide) rfl
  have G0 : w.grownBy (w.alloc (.cells #[] 5)) (some B) := World.grownBy_alloc w _ _
  clear hcur
  go_enter Tryz.func51, Tryz.ntmps51
  go_wp2_with fail
  go_loopw [5, 6] (fun v i wr => ∃ (k : Nat) (zl : List Int), k ≤ n ∧ i = .int .i64 k ∧ (∀ x ∈ zl, 0 ≤ x ∧ x ≤ 255) ∧ wr.ownsRow w.heap.size 5 1 v k (u8cells zl) ∧ some B ≠ v.ownBlock ∧ Cur D B ao len cap wr ∧ w.grownBy wr (some B)) (fun _ i _ => n - (intOf i).toNat)
  case atStart => exact ⟨0, [], Nat.zero_le _, rfl, by simp, HO, by simp [Value.ownBlock]; omega, HC.out, G0⟩
  case round =>
    clear HO G0
    obtain ⟨k, zl, hk, rfl, hz, hown, hne, hcu, hgr⟩ := hrel
    have HU : Hid (Cur D B ao len cap wr) := hcu
    have HZ : Hid (∀ x ∈ zl, 0 ≤ x ∧ x ≤ 255) := hz
    have HN : Hid (some B ≠ u5.ownBlock) := hne
    have hBr := hcu.lt
    have hsz := hgr.size
    clear hcu hz hne
    by_cases hlt : k < n
    · have hki : (k : Int) < (n : Int) := by omega
      go_wp2_with fail
      refine (l1Byte _ _ _ _ _ _ HU.out).mono ?_
      rintro e wc ⟨y, hy0, hy1, rfl, cc, gc⟩
      have CC : Hid (Cur D B ao len cap wc) := cc
      have oc := hown.kept gc (.inr (fun h => HN.out h.symm))
      have Gc := grow_trans hgr gc
      have zc := Gc.size
      have hBc := cc.lt
      clear cc gc hown hgr
      go_wp2_with (at_builtin; refine wpList_append_newG _ rfl _ _ 22 rfl w.heap.size 5 (.int .u8 0) 1 Tryz.underlying22 Tryz.info5 rfl _ _ _ rfl oc #[.int .u8 y] 1 rfl rfl (by intro u hu; simp at hu; subst hu; rfl) (by omega) (by unfold maxLen; omega) zc ?_)
      intro v' w1 hown' hb1 hkeep
      have C1 : Cur D B ao len cap w1 := CC.out.keep (hkeep B hBc HN.out) (fun k hk => hb1.block k (by have := CC.out.le; omega))
      have N1 : some B ≠ v'.ownBlock := by
        intro hx
        have h1 := (hown'.cells (g := B) hx.symm) 0
        obtain ⟨i', h', hc, _⟩ := C1
        rcases hown'.2 with ⟨rfl, _⟩ | ⟨g, cap', cur, rfl, _, hg, _⟩
        · simp [Value.ownBlock] at hx
        · simp [Value.ownBlock] at hx
          subst hx
          rw [hc] at hg
          simp at hg
      have G1 : w.grownBy w1 (some B) := ⟨hb1.os.trans Gc.os, hb1.tape.trans Gc.tape, hb1.output.trans Gc.output, by have := hb1.size; omega, fun k hk hkB => (hb1.block k hk).trans (Gc.block k hk hkB)⟩
      have O1 : w1.ownsRow w.heap.size 5 1 v' (k + 1) (u8cells (zl ++ [y])) := by rw [u8cells_snoc]; exact hown'
      clear hown' hb1 hkeep oc Gc
      go_wp2_with fail
      go_roundw
      case rel =>
        refine ⟨k + 1, zl ++ [y], by omega, by go_num, ?_, O1, N1, C1, G1⟩
        intro x hx
        rcases List.mem_append.1 hx with h | h
        · exact HZ.out x h
        · rw [List.mem_singleton.1 h]
          exact ⟨hy0, hy1⟩
      case measure => simp [intOf]; omega
    · have hki : ¬ (k : Int) < (n : Int) := by omega
      obtain rfl : k = n := by omega
      go_wp2_with fail
      go_ret
      first | exact ⟨_, zl, rfl, HZ.out, hown, HU.out, hgr⟩ | exact ⟨_, rfl, zl, HZ.out, hown, HU.out, hgr⟩

theorem readH_size (s : ByteArray) : (rV (readH s)).s.size ≤ 1048576 := by
  have hz : (⟨#[]⟩ : ByteArray).size ≤ 1048576 := by decide
  unfold readH
  split
  · exact hz
  · split
    · unfold readS
      split
      · cases par6 _ with
        | none => exact hz
        | some g => exact hz
      · exact hz
    · unfold readN
      split
      · exact hz
      · rename_i n hn
        unfold readM
        split
        · split <;> exact hz
        · show n.toArray.size ≤ 1048576
          rw [List.size_toArray]
          have := nameL_le hn
          omega

theorem none_of_heap {W : World} {R : Nat} {t : TypeId} (h : W.heap[R]? = some (.cells #[.int .i64 0, .string ⟨#[]⟩, .int .i64 0, .int .i64 0, .int .i64 0, .int .i64 0, .int .i64 0, .int .i64 0, .int .i64 0, .int .i64 0, .int .i64 0] t (0, 0))) : NoneCells W R ∧ ∀ j, W.frozen? ⟨R, j, none⟩ = false := by
  refine ⟨⟨?_, ?_, ?_, ?_, ?_, ?_, ?_, ?_, ?_, ?_, ?_⟩, fun j => frozen_of_row W R j _ t h⟩ <;> (rw [cell_of_row W R _ _ t (0, 0) h]; rfl)

theorem cur_hstore {D B : Nat} {ao : Option Addr} {len cap : Nat} {W : World} (h : Cur D B ao len cap W) {C : Nat} (hC : B < C) (k n : Int) (s : ByteArray) (x0 x1 x2 x3 x4 x5 x6 x7 : Int) : Cur D B ao len cap (((((((((((W.setCell ⟨C, 0, none⟩ (.int .i64 k)).setCell ⟨C, 1, none⟩ (.string s)).setCell ⟨C, 2, none⟩ (.int .i64 n)).setCell ⟨C, 3, none⟩ (.int .i64 x0)).setCell ⟨C, 4, none⟩ (.int .i64 x1)).setCell ⟨C, 5, none⟩ (.int .i64 x2)).setCell ⟨C, 6, none⟩ (.int .i64 x3)).setCell ⟨C, 7, none⟩ (.int .i64 x4)).setCell ⟨C, 8, none⟩ (.int .i64 x5)).setCell ⟨C, 9, none⟩ (.int .i64 x6)).setCell ⟨C, 10, none⟩ (.int .i64 x7)) :=
  ((((((((((h.set hC _).set hC _).set hC _).set hC _).set hC _).set hC _).set hC _).set hC _).set hC _).set hC _).set hC _
theorem grow_hstore {w W : World} {row : Option Nat} (h : w.grownBy W row) {C : Nat} (hC : w.heap.size ≤ C) (k n : Int) (s : ByteArray) (x0 x1 x2 x3 x4 x5 x6 x7 : Int) : w.grownBy (((((((((((W.setCell ⟨C, 0, none⟩ (.int .i64 k)).setCell ⟨C, 1, none⟩ (.string s)).setCell ⟨C, 2, none⟩ (.int .i64 n)).setCell ⟨C, 3, none⟩ (.int .i64 x0)).setCell ⟨C, 4, none⟩ (.int .i64 x1)).setCell ⟨C, 5, none⟩ (.int .i64 x2)).setCell ⟨C, 6, none⟩ (.int .i64 x3)).setCell ⟨C, 7, none⟩ (.int .i64 x4)).setCell ⟨C, 8, none⟩ (.int .i64 x5)).setCell ⟨C, 9, none⟩ (.int .i64 x6)).setCell ⟨C, 10, none⟩ (.int .i64 x7)) row :=
  grow_set (grow_set (grow_set (grow_set (grow_set (grow_set (grow_set (grow_set (grow_set (grow_set (grow_set h hC _) hC _) hC _) hC _) hC _) hC _) hC _) hC _) hC _) hC _) hC _

set_option maxRecDepth 100000 in
set_option maxHeartbeats 8000000 in
theorem l6Host (D B : Nat) (ao : Option Addr) (len cap : Nat) (w : World) (hcur : Cur D B ao len cap w) :
    Calls Tryz.prog 35 #[.pointer (some ⟨B, 0, none⟩)] w fun e w' => ∃ (k n : Int) (s : ByteArray) (x0 x1 x2 x3 x4 x5 x6 x7 : Int), s.size ≤ 1048576 ∧ e = .returned (.agg #[.int .i64 k, .string s, .int .i64 n, .int .i64 x0, .int .i64 x1, .int .i64 x2, .int .i64 x3, .int .i64 x4, .int .i64 x5, .int .i64 x6, .int .i64 x7]) ∧ Cur D B ao len cap w' ∧ w.grownBy w' (some B) := by
  have hB := hcur.lt
  obtain ⟨O, hO⟩ : ∃ O, O = w.alloc (.cells #[.int .i64 0, .string ⟨#[]⟩, .int .i64 0, .int .i64 0, .int .i64 0, .int .i64 0, .int .i64 0, .int .i64 0, .int .i64 0, .int .i64 0, .int .i64 0] 26) := ⟨_, rfl⟩
  have HC : Hid (Cur D B ao len cap O) := by rw [hO]; exact hcur.alloc _
  have HG : Hid (w.grownBy O (some B)) := by rw [hO]; exact World.grownBy_alloc w _ _
  have HH : Hid (O.heap[w.heap.size]? = some (.cells #[.int .i64 0, .string ⟨#[]⟩, .int .i64 0, .int .i64 0, .int .i64 0, .int .i64 0, .int .i64 0, .int .i64 0, .int .i64 0, .int .i64 0, .int .i64 0] 26 (0, 0))) := by rw [hO]; exact heap_alloc_new w _
  have HS : Hid (w.heap.size < O.heap.size) := by show _ < _; rw [hO]; simp
  clear hcur
  go_enter Tryz.func35, Tryz.ntmps35
  go_wp2_with fail
  rw [← hO]
  refine (l1Below 6 _ _ _ _ _ _ (by omega) (by omega) HC.out).mono ?_
  rintro e wa ⟨y, hy0, hy1, rfl, ca, ga⟩
  have CA : Hid (Cur D B ao len cap wa) := ca
  have GA : Hid (w.grownBy wa (some B)) := grow_trans HG.out ga
  have HA : Hid (wa.heap[w.heap.size]? = some (.cells #[.int .i64 0, .string ⟨#[]⟩, .int .i64 0, .int .i64 0, .int .i64 0, .int .i64 0, .int .i64 0, .int .i64 0, .int .i64 0, .int .i64 0, .int .i64 0] 26 (0, 0))) := (ga.block _ HS.out (by intro h; cases h; omega)).trans HH.out
  have SA : Hid (w.heap.size < wa.heap.size) := Nat.lt_of_lt_of_le HS.out ga.size
  clear ca ga HC HG HH HS hO
  by_cases y0 : y = 0
  · subst y0
    go_wp2_with fail
    refine (l5Four _ _ _ _ _ _ CA.out).mono ?_
    rintro e wb ⟨z, hz0, hz1, rfl, cb, gb⟩
    have CB : Hid (Cur D B ao len cap wb) := cb
    have GB : Hid (w.grownBy wb (some B)) := grow_trans GA.out gb
    have hh := none_of_heap ((gb.block _ SA.out (by intro h; cases h; omega)).trans HA.out)
    have HR : Hid (RowIs wb w.heap.size (hRow 0 ⟨#[]⟩ 0 0 0 0 0 0 0 0 0)) := row_of_none hh.1
    obtain ⟨⟨c0, c1, c2, c3, c4, c5, c6, c7, c8, c9, c10⟩, fz⟩ := hh
    clear cb gb
    go_wp2_with fail
    refine bodyPost_ret (host_result1 rfl _ _ w.heap.size 2 z ⟨#[]⟩ 0 0 0 0 0 0 0 0 rfl (host_store HR.out 2 z ⟨#[]⟩ 0 0 0 0 0 0 0 0)) rfl ⟨2, z, ⟨#[]⟩, 0, 0, 0, 0, 0, 0, 0, 0, by decide, rfl, cur_hstore CB.out hB 2 z ⟨#[]⟩ 0 0 0 0 0 0 0 0, grow_hstore GB.out (Nat.le_refl _) 2 z ⟨#[]⟩ 0 0 0 0 0 0 0 0⟩
  · by_cases y1 : y = 1
    · subst y1
      go_wp2_with fail
      refine (l5Six _ _ _ _ _ _ CA.out).mono ?_
      rintro e wb ⟨x0, x1, x2, x3, x4, x5, x6, x7, _, rfl, cb, gb⟩
      have CB : Hid (Cur D B ao len cap wb) := cb
      have GB : Hid (w.grownBy wb (some B)) := grow_trans GA.out gb
      have hh := none_of_heap ((gb.block _ SA.out (by intro h; cases h; omega)).trans HA.out)
      have HR : Hid (RowIs wb w.heap.size (hRow 0 ⟨#[]⟩ 0 0 0 0 0 0 0 0 0)) := row_of_none hh.1
      obtain ⟨⟨c0, c1, c2, c3, c4, c5, c6, c7, c8, c9, c10⟩, fz⟩ := hh
      clear cb gb
      go_wp2_with fail
      refine bodyPost_ret (host_result1 rfl _ _ w.heap.size 3 0 ⟨#[]⟩ x0 x1 x2 x3 x4 x5 x6 x7 rfl (host_store HR.out 3 0 ⟨#[]⟩ x0 x1 x2 x3 x4 x5 x6 x7)) rfl ⟨3, 0, ⟨#[]⟩, x0, x1, x2, x3, x4, x5, x6, x7, by decide, rfl, cur_hstore CB.out hB 3 0 ⟨#[]⟩ x0 x1 x2 x3 x4 x5 x6 x7, grow_hstore GB.out (Nat.le_refl _) 3 0 ⟨#[]⟩ x0 x1 x2 x3 x4 x5 x6 x7⟩
    · have q0 : (y == 0) = false := beq_eq_false_iff_ne.2 y0
      have q1 : (y == 1) = false := beq_eq_false_iff_ne.2 y1
      go_wp2_with fail
      go_loopw [3] (fun i wr => ∃ k : Nat, k ≤ 5 ∧ i = .int .i64 k ∧ Cur D B ao len cap wr ∧ w.grownBy wr (some B) ∧ wr.heap[w.heap.size]? = some (.cells #[.int .i64 0, .string ⟨#[]⟩, .int .i64 0, .int .i64 0, .int .i64 0, .int .i64 0, .int .i64 0, .int .i64 0, .int .i64 0, .int .i64 0, .int .i64 0] 26 (0, 0)) ∧ w.heap.size < wr.heap.size) (fun i _ => 5 - (intOf i).toNat)
      case atStart => exact ⟨0, by decide, rfl, CA.out, GA.out, HA.out, SA.out⟩
      case round =>
        obtain ⟨k, hk, rfl, hcu, hgr, hh, hsz⟩ := hrel
        have HU : Hid (Cur D B ao len cap wr) := hcu
        have HG : Hid (w.grownBy wr (some B)) := hgr
        have HH : Hid (wr.heap[w.heap.size]? = some (.cells #[.int .i64 0, .string ⟨#[]⟩, .int .i64 0, .int .i64 0, .int .i64 0, .int .i64 0, .int .i64 0, .int .i64 0, .int .i64 0, .int .i64 0, .int .i64 0] 26 (0, 0))) := hh
        have HSZ : Hid (w.heap.size < wr.heap.size) := hsz
        clear hcu hgr hh hsz CA GA HA SA
        by_cases hlt : k < 5
        · have hki : (k : Int) < 5 := by omega
          go_wp2_with fail
          refine (l4Name _ _ _ _ _ _ HU.out).mono ?_
          rintro e wc ⟨z, hz, rfl, cc, gc⟩
          have CC : Hid (Cur D B ao len cap wc) := cc
          have GC : Hid (w.grownBy wc (some B)) := grow_trans HG.out gc
          have HC : Hid (wc.heap[w.heap.size]? = some (.cells #[.int .i64 0, .string ⟨#[]⟩, .int .i64 0, .int .i64 0, .int .i64 0, .int .i64 0, .int .i64 0, .int .i64 0, .int .i64 0, .int .i64 0, .int .i64 0] 26 (0, 0))) := (gc.block _ HSZ.out (by intro h; cases h; omega)).trans HH.out
          have SC : Hid (w.heap.size < wc.heap.size) := Nat.lt_of_lt_of_le HSZ.out gc.size
          have CP : Hid (Calls Tryz.prog 13 #[.string z] wc fun e w' => e = .returned (.tuple #[hostVal (rV (readH z)), .int .i64 (rC (readH z))]) ∧ Below wc.heap.size wc w') := specParseHost z wc (by omega)
          obtain ⟨x0, x1, x2, x3, x4, x5, x6, x7, _, hv⟩ := hostVal_eight _ (readH_eight z)
          have hvs : (rV (readH z)).s.size ≤ 1048576 := readH_size z
          rw [hv] at CP
          generalize rC (readH z) = C at CP
          generalize (rV (readH z)).k = kk at CP
          generalize (rV (readH z)).s = t at CP hvs
          generalize (rV (readH z)).n = n at CP
          clear cc gc hv
          go_wp2_with fail
          refine CP.out.mono ?_
          rintro e wd ⟨rfl, bd⟩
          have CD : Hid (Cur D B ao len cap (wd.alloc (.cells #[.int .i64 kk, .string t, .int .i64 n, .int .i64 x0, .int .i64 x1, .int .i64 x2, .int .i64 x3, .int .i64 x4, .int .i64 x5, .int .i64 x6, .int .i64 x7] 26))) := (CC.out.below bd.block).alloc _
          have GD : Hid (w.grownBy (wd.alloc (.cells #[.int .i64 kk, .string t, .int .i64 n, .int .i64 x0, .int .i64 x1, .int .i64 x2, .int .i64 x3, .int .i64 x4, .int .i64 x5, .int .i64 x6, .int .i64 x7] 26)) (some B)) := grow_alloc (grow_below GC.out bd) _
          have HD0 : wd.heap[w.heap.size]? = some (.cells #[.int .i64 0, .string ⟨#[]⟩, .int .i64 0, .int .i64 0, .int .i64 0, .int .i64 0, .int .i64 0, .int .i64 0, .int .i64 0, .int .i64 0, .int .i64 0] 26 (0, 0)) := (bd.block _ SC.out).trans HC.out
          have SD0 : w.heap.size < wd.heap.size := Nat.lt_of_lt_of_le SC.out bd.size
          have HD : Hid ((wd.alloc (.cells #[.int .i64 kk, .string t, .int .i64 n, .int .i64 x0, .int .i64 x1, .int .i64 x2, .int .i64 x3, .int .i64 x4, .int .i64 x5, .int .i64 x6, .int .i64 x7] 26)).heap[w.heap.size]? = some (.cells #[.int .i64 0, .string ⟨#[]⟩, .int .i64 0, .int .i64 0, .int .i64 0, .int .i64 0, .int .i64 0, .int .i64 0, .int .i64 0, .int .i64 0, .int .i64 0] 26 (0, 0))) := (Below.heap_alloc wd _ _ SD0).trans HD0
          have SD : Hid (w.heap.size < (wd.alloc (.cells #[.int .i64 kk, .string t, .int .i64 n, .int .i64 x0, .int .i64 x1, .int .i64 x2, .int .i64 x3, .int .i64 x4, .int .i64 x5, .int .i64 x6, .int .i64 x7] 26)).heap.size) := by show _ < _; simp; omega
          clear bd HD0 SD0
          by_cases hC : C = 0
          · subst hC
            have hh := none_of_heap HD.out
            have HR : Hid (RowIs (wd.alloc (.cells #[.int .i64 kk, .string t, .int .i64 n, .int .i64 x0, .int .i64 x1, .int .i64 x2, .int .i64 x3, .int .i64 x4, .int .i64 x5, .int .i64 x6, .int .i64 x7] 26)) w.heap.size (hRow 0 ⟨#[]⟩ 0 0 0 0 0 0 0 0 0)) := row_of_none hh.1
            obtain ⟨⟨c0, c1, c2, c3, c4, c5, c6, c7, c8, c9, c10⟩, fz⟩ := hh
            go_wp2_with fail
            refine bodyPost_ret (host_result1 rfl _ _ w.heap.size kk n t x0 x1 x2 x3 x4 x5 x6 x7 rfl (host_store HR.out kk n t x0 x1 x2 x3 x4 x5 x6 x7)) rfl ⟨kk, n, t, x0, x1, x2, x3, x4, x5, x6, x7, hvs, rfl, cur_hstore CD.out hB kk n t x0 x1 x2 x3 x4 x5 x6 x7, grow_hstore GD.out (Nat.le_refl _) kk n t x0 x1 x2 x3 x4 x5 x6 x7⟩
          · have qC : (C == 0) = false := beq_eq_false_iff_ne.2 hC
            go_wp2_with fail
            go_roundw
            case rel => exact ⟨k + 1, by omega, by go_num, CD.out, GD.out, HD.out, SD.out⟩
            case measure => simp [intOf]; omega
        · have hki : ¬ (k : Int) < 5 := by omega
          have hh := none_of_heap HH.out
          have HR : Hid (RowIs wr w.heap.size (hRow 0 ⟨#[]⟩ 0 0 0 0 0 0 0 0 0)) := row_of_none hh.1
          obtain ⟨⟨c0, c1, c2, c3, c4, c5, c6, c7, c8, c9, c10⟩, fz⟩ := hh
          go_wp2_with fail
          refine bodyPost_ret (host_result1 rfl _ _ w.heap.size 1 0 ⟨#[97, 46, 99, 111, 109]⟩ 0 0 0 0 0 0 0 0 rfl (host_store HR.out 1 0 ⟨#[97, 46, 99, 111, 109]⟩ 0 0 0 0 0 0 0 0)) rfl ⟨1, 0, ⟨#[97, 46, 99, 111, 109]⟩, by decide, ⟨0, 0, 0, 0, 0, 0, 0, 0, rfl⟩, cur_hstore HU.out hB 1 0 ⟨#[97, 46, 99, 111, 109]⟩ 0 0 0 0 0 0 0 0, grow_hstore HG.out (Nat.le_refl _) 1 0 ⟨#[97, 46, 99, 111, 109]⟩ 0 0 0 0 0 0 0 0⟩
end Go.Proofs.YtamnhegianpedaaGreatDoor

namespace Go.Proofs.YtamnhegianpedaaGreatDoor
open Go.RowKit

theorem host_of_heap {W : World} {R : Nat} {t : TypeId} {k n : Int} {s : ByteArray} {x0 x1 x2 x3 x4 x5 x6 x7 : Int} (h : W.heap[R]? = some (.cells #[.int .i64 k, .string s, .int .i64 n, .int .i64 x0, .int .i64 x1, .int .i64 x2, .int .i64 x3, .int .i64 x4, .int .i64 x5, .int .i64 x6, .int .i64 x7] t (0, 0))) :
    (W.cell? ⟨R, 0, none⟩ = some (.int .i64 k) ∧ W.cell? ⟨R, 1, none⟩ = some (.string s) ∧ W.cell? ⟨R, 2, none⟩ = some (.int .i64 n) ∧ W.cell? ⟨R, 3, none⟩ = some (.int .i64 x0) ∧ W.cell? ⟨R, 4, none⟩ = some (.int .i64 x1) ∧ W.cell? ⟨R, 5, none⟩ = some (.int .i64 x2) ∧ W.cell? ⟨R, 6, none⟩ = some (.int .i64 x3) ∧
    W.cell? ⟨R, 7, none⟩ = some (.int .i64 x4) ∧ W.cell? ⟨R, 8, none⟩ = some (.int .i64 x5) ∧ W.cell? ⟨R, 9, none⟩ = some (.int .i64 x6) ∧ W.cell? ⟨R, 10, none⟩ = some (.int .i64 x7)) ∧ ∀ j, W.frozen? ⟨R, j, none⟩ = false := by
  refine ⟨⟨?_, ?_, ?_, ?_, ?_, ?_, ?_, ?_, ?_, ?_, ?_⟩, fun j => frozen_of_row W R j _ t h⟩ <;> (rw [cell_of_row W R _ _ t (0, 0) h]; rfl)


set_option maxRecDepth 100000 in
set_option maxHeartbeats 8000000 in
theorem l6Any (D B : Nat) (ao : Option Addr) (len cap : Nat) (w : World) (hcur : Cur D B ao len cap w) :
    Calls Tryz.prog 19 #[.pointer (some ⟨B, 0, none⟩)] w fun e w' => ∃ (k n : Int) (s : ByteArray) (x0 x1 x2 x3 x4 x5 x6 x7 : Int), s.size ≤ 1048576 ∧ e = .returned (.agg #[.int .i64 k, .string s, .int .i64 n, .int .i64 x0, .int .i64 x1, .int .i64 x2, .int .i64 x3, .int .i64 x4, .int .i64 x5, .int .i64 x6, .int .i64 x7]) ∧ Cur D B ao len cap w' ∧ w.grownBy w' (some B) := by
  have hB := hcur.lt
  obtain ⟨O, hO⟩ : ∃ O, O = w.alloc (.cells #[.int .i64 0, .string ⟨#[]⟩, .int .i64 0, .int .i64 0, .int .i64 0, .int .i64 0, .int .i64 0, .int .i64 0, .int .i64 0, .int .i64 0, .int .i64 0] 26) := ⟨_, rfl⟩
  have HC : Hid (Cur D B ao len cap O) := by rw [hO]; exact hcur.alloc _
  have HG : Hid (w.grownBy O (some B)) := by rw [hO]; exact World.grownBy_alloc w _ _
  have HH : Hid (O.heap[w.heap.size]? = some (.cells #[.int .i64 0, .string ⟨#[]⟩, .int .i64 0, .int .i64 0, .int .i64 0, .int .i64 0, .int .i64 0, .int .i64 0, .int .i64 0, .int .i64 0, .int .i64 0] 26 (0, 0))) := by rw [hO]; exact heap_alloc_new w _
  have HS : Hid (w.heap.size < O.heap.size) := by show _ < _; rw [hO]; simp
  clear hcur
  go_enter Tryz.func19, Tryz.ntmps19
  go_wp2_with fail
  rw [← hO]
  refine (l6Host _ _ _ _ _ _ HC.out).mono ?_
  rintro e wa ⟨k, n, s, x0, x1, x2, x3, x4, x5, x6, x7, hs, rfl, ca, ga⟩
  obtain ⟨Q, hQ⟩ : ∃ Q, Q = wa.alloc (.cells #[.int .i64 k, .string s, .int .i64 n, .int .i64 x0, .int .i64 x1, .int .i64 x2, .int .i64 x3, .int .i64 x4, .int .i64 x5, .int .i64 x6, .int .i64 x7] 26) := ⟨_, rfl⟩
  have CA : Hid (Cur D B ao len cap Q) := by rw [hQ]; exact ca.alloc _
  have GA : Hid (w.grownBy Q (some B)) := by rw [hQ]; exact grow_alloc (grow_trans HG.out ga) _
  have hwa : w.heap.size < wa.heap.size := Nat.lt_of_lt_of_le HS.out ga.size
  have HA : Hid (Q.heap[w.heap.size]? = some (.cells #[.int .i64 0, .string ⟨#[]⟩, .int .i64 0, .int .i64 0, .int .i64 0, .int .i64 0, .int .i64 0, .int .i64 0, .int .i64 0, .int .i64 0, .int .i64 0] 26 (0, 0))) := by
    rw [hQ]
    exact (Below.heap_alloc wa _ _ hwa).trans ((ga.block _ HS.out (by intro h; cases h; omega)).trans HH.out)
  have HK : Hid (Q.heap[wa.heap.size]? = some (.cells #[.int .i64 k, .string s, .int .i64 n, .int .i64 x0, .int .i64 x1, .int .i64 x2, .int .i64 x3, .int .i64 x4, .int .i64 x5, .int .i64 x6, .int .i64 x7] 26 (0, 0))) := by rw [hQ]; exact heap_alloc_new wa _
  have SQ : Hid (wa.heap.size < Q.heap.size) := by show _ < _; rw [hQ]; simp
  clear ca ga HC HG HH HS hO
  go_wp2_with fail
  rw [← hQ]
  refine (l1Below 12 _ _ _ _ _ _ (by omega) (by omega) CA.out).mono ?_
  rintro e wb ⟨y, hy0, hy1, rfl, cb, gb⟩
  have CB : Hid (Cur D B ao len cap wb) := cb
  have GB : Hid (w.grownBy wb (some B)) := grow_trans GA.out gb
  have HZ : Hid (wb.heap[w.heap.size]? = some (.cells #[.int .i64 0, .string ⟨#[]⟩, .int .i64 0, .int .i64 0, .int .i64 0, .int .i64 0, .int .i64 0, .int .i64 0, .int .i64 0, .int .i64 0, .int .i64 0] 26 (0, 0))) := (gb.block _ (by have := SQ.out; omega) (by intro h; cases h; omega)).trans HA.out
  have HX : Hid (wb.heap[wa.heap.size]? = some (.cells #[.int .i64 k, .string s, .int .i64 n, .int .i64 x0, .int .i64 x1, .int .i64 x2, .int .i64 x3, .int .i64 x4, .int .i64 x5, .int .i64 x6, .int .i64 x7] 26 (0, 0))) := (gb.block _ SQ.out (by intro h; cases h; omega)).trans HK.out
  have SB : Hid (wa.heap.size < wb.heap.size) := Nat.lt_of_lt_of_le SQ.out gb.size
  clear cb gb HA HK SQ CA GA hQ
  have hBa : B < wa.heap.size := by omega
  by_cases y0 : y = 0
  · subst y0
    go_wp2_with fail
    refine (l1Below 5 _ _ _ _ _ _ (by omega) (by omega) CB.out).mono ?_
    rintro e wc ⟨z, hz0, hz1, rfl, cc, gc⟩
    have CC : Hid (Cur D B ao len cap wc) := cc
    have GC : Hid (w.grownBy wc (some B)) := grow_trans GB.out gc
    have Z1 := (gc.block _ (by have := SB.out; omega) (by intro h; cases h; omega)).trans HZ.out
    have X1 := (gc.block _ SB.out (by intro h; cases h; omega)).trans HX.out
    have hz := none_of_heap Z1
    have HR : Hid (RowIs wc w.heap.size (hRow 0 ⟨#[]⟩ 0 0 0 0 0 0 0 0 0)) := row_of_none hz.1
    obtain ⟨⟨c0, c1, c2, c3, c4, c5, c6, c7, c8, c9, c10⟩, fz⟩ := hz
    obtain ⟨⟨d0, d1, d2, d3, d4, d5, d6, d7, d8, d9, d10⟩, gz⟩ := host_of_heap X1
    clear cc gc Z1 X1
    go_wp2_with fail
    refine bodyPost_ret (host_result1 rfl _ _ w.heap.size z n s x0 x1 x2 x3 x4 x5 x6 x7 rfl (host_store (HR.out.other (by omega) _ _) z n s x0 x1 x2 x3 x4 x5 x6 x7)) rfl ⟨z, n, s, x0, x1, x2, x3, x4, x5, x6, x7, hs, rfl, cur_hstore (CC.out.set hBa _) hB z n s x0 x1 x2 x3 x4 x5 x6 x7, grow_hstore (grow_set GC.out (by omega) _) (Nat.le_refl _) z n s x0 x1 x2 x3 x4 x5 x6 x7⟩
  · have q0 : (y == 0) = false := beq_eq_false_iff_ne.2 y0
    by_cases y1 : y = 1
    · subst y1
      go_wp2_with fail
      refine (l4LabelAny _ _ _ _ _ _ CB.out).mono ?_
      rintro e wc ⟨z, hz, rfl, cc, gc⟩
      have CC : Hid (Cur D B ao len cap wc) := cc
      have GC : Hid (w.grownBy wc (some B)) := grow_trans GB.out gc
      have Z1 := (gc.block _ (by have := SB.out; omega) (by intro h; cases h; omega)).trans HZ.out
      have X1 := (gc.block _ SB.out (by intro h; cases h; omega)).trans HX.out
      have hz := none_of_heap Z1
      have HR : Hid (RowIs wc w.heap.size (hRow 0 ⟨#[]⟩ 0 0 0 0 0 0 0 0 0)) := row_of_none hz.1
      obtain ⟨⟨c0, c1, c2, c3, c4, c5, c6, c7, c8, c9, c10⟩, fz⟩ := hz
      obtain ⟨⟨d0, d1, d2, d3, d4, d5, d6, d7, d8, d9, d10⟩, gz⟩ := host_of_heap X1
      clear cc gc Z1 X1
      go_wp2_with fail
      refine bodyPost_ret (host_result1 rfl _ _ w.heap.size k n z x0 x1 x2 x3 x4 x5 x6 x7 rfl (host_store (HR.out.other (by omega) _ _) k n z x0 x1 x2 x3 x4 x5 x6 x7)) rfl ⟨k, n, z, x0, x1, x2, x3, x4, x5, x6, x7, by omega, rfl, cur_hstore (CC.out.set hBa _) hB k n z x0 x1 x2 x3 x4 x5 x6 x7, grow_hstore (grow_set GC.out (by omega) _) (Nat.le_refl _) k n z x0 x1 x2 x3 x4 x5 x6 x7⟩
    · have q1 : (y == 1) = false := beq_eq_false_iff_ne.2 y1
      by_cases y2 : y = 2
      · subst y2
        go_wp2_with fail
        refine (l1IntX 3 _ 3 0 _ _ _ _ _ _ _ (by omega) (by omega) (CB.out.alloc _) (World.ownsRow_lit wb _ 3 (Nat.zero_le _) (by decide) rfl) (by have := CB.out.lt; omega) rfl).mono ?_
        rintro e wc ⟨z, rfl, cc, gc⟩
        have CC : Hid (Cur D B ao len cap wc) := cc
        have GC : Hid (w.grownBy wc (some B)) := grow_trans (grow_alloc GB.out _) gc
        have Z1 := (gc.block _ (by have := SB.out; simp; omega) (by intro h; cases h; omega)).trans ((Below.heap_alloc wb _ _ (by have := SB.out; omega)).trans HZ.out)
        have X1 := (gc.block _ (by have := SB.out; simp; omega) (by intro h; cases h; omega)).trans ((Below.heap_alloc wb _ _ SB.out).trans HX.out)
        have hz := none_of_heap Z1
        have HR : Hid (RowIs wc w.heap.size (hRow 0 ⟨#[]⟩ 0 0 0 0 0 0 0 0 0)) := row_of_none hz.1
        obtain ⟨⟨c0, c1, c2, c3, c4, c5, c6, c7, c8, c9, c10⟩, fz⟩ := hz
        obtain ⟨⟨d0, d1, d2, d3, d4, d5, d6, d7, d8, d9, d10⟩, gz⟩ := host_of_heap X1
        clear cc gc Z1 X1
        go_wp2_with fail
        refine bodyPost_ret (host_result1 rfl _ _ w.heap.size k z s x0 x1 x2 x3 x4 x5 x6 x7 rfl (host_store (HR.out.other (by omega) _ _) k z s x0 x1 x2 x3 x4 x5 x6 x7)) rfl ⟨k, z, s, x0, x1, x2, x3, x4, x5, x6, x7, hs, rfl, cur_hstore (CC.out.set hBa _) hB k z s x0 x1 x2 x3 x4 x5 x6 x7, grow_hstore (grow_set GC.out (by omega) _) (Nat.le_refl _) k z s x0 x1 x2 x3 x4 x5 x6 x7⟩
      · have q2 : (y == 2) = false := beq_eq_false_iff_ne.2 y2
        by_cases y3 : y = 3
        · subst y3
          go_wp2_with fail
          refine (l1Below 8 _ _ _ _ _ _ (by omega) (by omega) CB.out).mono ?_
          rintro e wc ⟨z, hz0, hz1, rfl, cc, gc⟩
          have CC : Hid (Cur D B ao len cap wc) := cc
          have hBc := cc.lt
          have GC : Hid (w.grownBy wc (some B)) := grow_trans GB.out gc
          have Z1 : Hid (_ = _) := (gc.block _ (by have := SB.out; omega) (by intro h; cases h; omega)).trans HZ.out
          have X1 : Hid (_ = _) := (gc.block _ SB.out (by intro h; cases h; omega)).trans HX.out
          have SC : Hid (wa.heap.size < wc.heap.size) := Nat.lt_of_lt_of_le SB.out gc.size
          clear cc gc HZ HX SB CB GB
          go_wp2_with fail
          refine (l1IntX 3 _ 3 0 _ _ _ _ _ _ _ (by omega) (by omega) (CC.out.alloc _) (World.ownsRow_lit wc _ 3 (Nat.zero_le _) (by decide) rfl) (by omega) rfl).mono ?_
          rintro e wd ⟨v, rfl, cd, gd⟩
          have CD : Hid (Cur D B ao len cap wd) := cd
          have GD : Hid (w.grownBy wd (some B)) := grow_trans (grow_alloc GC.out _) gd
          have Z2 := (gd.block _ (by have := SC.out; simp; omega) (by intro h; cases h; omega)).trans ((Below.heap_alloc wc _ _ (by have := SC.out; omega)).trans Z1.out)
          have X2 := (gd.block _ (by have := SC.out; simp; omega) (by intro h; cases h; omega)).trans ((Below.heap_alloc wc _ _ SC.out).trans X1.out)
          have hz := none_of_heap Z2
          have HR : Hid (RowIs wd w.heap.size (hRow 0 ⟨#[]⟩ 0 0 0 0 0 0 0 0 0)) := row_of_none hz.1
          obtain ⟨⟨c0, c1, c2, c3, c4, c5, c6, c7, c8, c9, c10⟩, fz⟩ := hz
          obtain ⟨⟨d0, d1, d2, d3, d4, d5, d6, d7, d8, d9, d10⟩, gz⟩ := host_of_heap X2
          clear cd gd Z1 X1 Z2 X2 CC GC hBc
          have h8 : z = 0 ∨ z = 1 ∨ z = 2 ∨ z = 3 ∨ z = 4 ∨ z = 5 ∨ z = 6 ∨ z = 7 := by omega
          clear hz0 hz1
          rcases h8 with rfl | rfl | rfl | rfl | rfl | rfl | rfl | rfl
          · go_wp2_with fail
            refine bodyPost_ret (host_result1 rfl _ _ w.heap.size k n s v x1 x2 x3 x4 x5 x6 x7 rfl (host_store (HR.out.other (by omega) _ _) k n s v x1 x2 x3 x4 x5 x6 x7)) rfl ⟨k, n, s, v, x1, x2, x3, x4, x5, x6, x7, hs, rfl, cur_hstore (CD.out.set hBa _) hB k n s v x1 x2 x3 x4 x5 x6 x7, grow_hstore (grow_set GD.out (by omega) _) (Nat.le_refl _) k n s v x1 x2 x3 x4 x5 x6 x7⟩
          · go_wp2_with fail
            refine bodyPost_ret (host_result1 rfl _ _ w.heap.size k n s x0 v x2 x3 x4 x5 x6 x7 rfl (host_store (HR.out.other (by omega) _ _) k n s x0 v x2 x3 x4 x5 x6 x7)) rfl ⟨k, n, s, x0, v, x2, x3, x4, x5, x6, x7, hs, rfl, cur_hstore (CD.out.set hBa _) hB k n s x0 v x2 x3 x4 x5 x6 x7, grow_hstore (grow_set GD.out (by omega) _) (Nat.le_refl _) k n s x0 v x2 x3 x4 x5 x6 x7⟩
          · go_wp2_with fail
            refine bodyPost_ret (host_result1 rfl _ _ w.heap.size k n s x0 x1 v x3 x4 x5 x6 x7 rfl (host_store (HR.out.other (by omega) _ _) k n s x0 x1 v x3 x4 x5 x6 x7)) rfl ⟨k, n, s, x0, x1, v, x3, x4, x5, x6, x7, hs, rfl, cur_hstore (CD.out.set hBa _) hB k n s x0 x1 v x3 x4 x5 x6 x7, grow_hstore (grow_set GD.out (by omega) _) (Nat.le_refl _) k n s x0 x1 v x3 x4 x5 x6 x7⟩
          · go_wp2_with fail
            refine bodyPost_ret (host_result1 rfl _ _ w.heap.size k n s x0 x1 x2 v x4 x5 x6 x7 rfl (host_store (HR.out.other (by omega) _ _) k n s x0 x1 x2 v x4 x5 x6 x7)) rfl ⟨k, n, s, x0, x1, x2, v, x4, x5, x6, x7, hs, rfl, cur_hstore (CD.out.set hBa _) hB k n s x0 x1 x2 v x4 x5 x6 x7, grow_hstore (grow_set GD.out (by omega) _) (Nat.le_refl _) k n s x0 x1 x2 v x4 x5 x6 x7⟩
          · go_wp2_with fail
            refine bodyPost_ret (host_result1 rfl _ _ w.heap.size k n s x0 x1 x2 x3 v x5 x6 x7 rfl (host_store (HR.out.other (by omega) _ _) k n s x0 x1 x2 x3 v x5 x6 x7)) rfl ⟨k, n, s, x0, x1, x2, x3, v, x5, x6, x7, hs, rfl, cur_hstore (CD.out.set hBa _) hB k n s x0 x1 x2 x3 v x5 x6 x7, grow_hstore (grow_set GD.out (by omega) _) (Nat.le_refl _) k n s x0 x1 x2 x3 v x5 x6 x7⟩
          · go_wp2_with fail
            refine bodyPost_ret (host_result1 rfl _ _ w.heap.size k n s x0 x1 x2 x3 x4 v x6 x7 rfl (host_store (HR.out.other (by omega) _ _) k n s x0 x1 x2 x3 x4 v x6 x7)) rfl ⟨k, n, s, x0, x1, x2, x3, x4, v, x6, x7, hs, rfl, cur_hstore (CD.out.set hBa _) hB k n s x0 x1 x2 x3 x4 v x6 x7, grow_hstore (grow_set GD.out (by omega) _) (Nat.le_refl _) k n s x0 x1 x2 x3 x4 v x6 x7⟩
          · go_wp2_with fail
            refine bodyPost_ret (host_result1 rfl _ _ w.heap.size k n s x0 x1 x2 x3 x4 x5 v x7 rfl (host_store (HR.out.other (by omega) _ _) k n s x0 x1 x2 x3 x4 x5 v x7)) rfl ⟨k, n, s, x0, x1, x2, x3, x4, x5, v, x7, hs, rfl, cur_hstore (CD.out.set hBa _) hB k n s x0 x1 x2 x3 x4 x5 v x7, grow_hstore (grow_set GD.out (by omega) _) (Nat.le_refl _) k n s x0 x1 x2 x3 x4 x5 v x7⟩
          · go_wp2_with fail
            refine bodyPost_ret (host_result1 rfl _ _ w.heap.size k n s x0 x1 x2 x3 x4 x5 x6 v rfl (host_store (HR.out.other (by omega) _ _) k n s x0 x1 x2 x3 x4 x5 x6 v)) rfl ⟨k, n, s, x0, x1, x2, x3, x4, x5, x6, v, hs, rfl, cur_hstore (CD.out.set hBa _) hB k n s x0 x1 x2 x3 x4 x5 x6 v, grow_hstore (grow_set GD.out (by omega) _) (Nat.le_refl _) k n s x0 x1 x2 x3 x4 x5 x6 v⟩
        · have q3 : (y == 3) = false := beq_eq_false_iff_ne.2 y3
          have Z1 := HZ.out
          have X1 := HX.out
          have hz := none_of_heap Z1
          have HR : Hid (RowIs wb w.heap.size (hRow 0 ⟨#[]⟩ 0 0 0 0 0 0 0 0 0)) := row_of_none hz.1
          obtain ⟨⟨c0, c1, c2, c3, c4, c5, c6, c7, c8, c9, c10⟩, fz⟩ := hz
          obtain ⟨⟨d0, d1, d2, d3, d4, d5, d6, d7, d8, d9, d10⟩, gz⟩ := host_of_heap X1
          clear Z1 X1
          go_wp2_with fail
          refine bodyPost_ret (host_result1 rfl _ _ w.heap.size k n s x0 x1 x2 x3 x4 x5 x6 x7 rfl (host_store HR.out k n s x0 x1 x2 x3 x4 x5 x6 x7)) rfl ⟨k, n, s, x0, x1, x2, x3, x4, x5, x6, x7, hs, rfl, cur_hstore CB.out hB k n s x0 x1 x2 x3 x4 x5 x6 x7, grow_hstore GB.out (Nat.le_refl _) k n s x0 x1 x2 x3 x4 x5 x6 x7⟩

set_option maxRecDepth 100000 in
set_option maxHeartbeats 4000000 in
theorem drawHost (ao : Option Addr) (len cap : Nat) (w : World) (hl : len ≤ 1048576) (hcode : CodeRow w.heap.size w ao len) :
    Calls Tryz.prog 7 #[.slice ao len cap] w fun e w' => ∃ (k n : Int) (s : ByteArray) (x0 x1 x2 x3 x4 x5 x6 x7 : Int), s.size ≤ 1048576 ∧ e = .returned (.agg #[.int .i64 k, .string s, .int .i64 n, .int .i64 x0, .int .i64 x1, .int .i64 x2, .int .i64 x3, .int .i64 x4, .int .i64 x5, .int .i64 x6, .int .i64 x7]) ∧ Below w.heap.size w w' := by
  obtain ⟨O, hO⟩ : ∃ O, O = w.alloc (.cells #[.int .i64 0, .string ⟨#[]⟩, .int .i64 0, .int .i64 0, .int .i64 0, .int .i64 0, .int .i64 0, .int .i64 0, .int .i64 0, .int .i64 0, .int .i64 0] 26) := ⟨_, rfl⟩
  have HCO : Hid (CodeRow O.heap.size O ao len) := by rw [hO]; exact hcode.later ((Below.refl _ w).alloc (Nat.le_refl _) _)
  have HB : Hid (Below w.heap.size w O) := by rw [hO]; exact (Below.refl _ w).alloc (Nat.le_refl _) _
  have HH : Hid (O.heap[w.heap.size]? = some (.cells #[.int .i64 0, .string ⟨#[]⟩, .int .i64 0, .int .i64 0, .int .i64 0, .int .i64 0, .int .i64 0, .int .i64 0, .int .i64 0, .int .i64 0, .int .i64 0] 26 (0, 0))) := by rw [hO]; exact heap_alloc_new w _
  have HS : Hid (w.heap.size < O.heap.size) := by show _ < _; rw [hO]; simp
  clear hcode
  go_enter Tryz.func7, Tryz.ntmps7
  go_wp2_with fail
  rw [← hO]
  refine (l1New _ _ _ _ hl HCO.out).mono ?_
  rintro e wa ⟨B, rfl, hBw, ca, ba⟩
  have CA : Hid (Cur O.heap.size B ao len cap wa) := ca
  have BA : Hid (Below w.heap.size w wa) := HB.out.trans (ba.mono HB.out.size)
  have HA : Hid (wa.heap[w.heap.size]? = some (.cells #[.int .i64 0, .string ⟨#[]⟩, .int .i64 0, .int .i64 0, .int .i64 0, .int .i64 0, .int .i64 0, .int .i64 0, .int .i64 0, .int .i64 0, .int .i64 0] 26 (0, 0))) := (ba.block _ HS.out).trans HH.out
  have SA : Hid (w.heap.size < wa.heap.size) := Nat.lt_of_lt_of_le HS.out ba.size
  have hBg : w.heap.size < B := by have := HS.out; omega
  clear ca ba HCO HB HH hO
  go_wp2_with fail
  refine (l6Any _ _ _ _ _ _ CA.out).mono ?_
  rintro e wb ⟨k, n, s, x0, x1, x2, x3, x4, x5, x6, x7, hs, rfl, cb, gb⟩
  have BB : Hid (Below w.heap.size w wb) := BA.out.grown gb BA.out.size (fun k hk => by cases hk; omega)
  have hz := none_of_heap ((gb.block _ SA.out (by intro h; cases h; omega)).trans HA.out)
  have HR : Hid (RowIs wb w.heap.size (hRow 0 ⟨#[]⟩ 0 0 0 0 0 0 0 0 0)) := row_of_none hz.1
  obtain ⟨⟨c0, c1, c2, c3, c4, c5, c6, c7, c8, c9, c10⟩, fz⟩ := hz
  clear cb gb
  go_wp2_with fail
  refine bodyPost_ret (host_result1 rfl _ _ w.heap.size k n s x0 x1 x2 x3 x4 x5 x6 x7 rfl (host_store HR.out k n s x0 x1 x2 x3 x4 x5 x6 x7)) rfl ⟨k, n, s, x0, x1, x2, x3, x4, x5, x6, x7, hs, rfl, below_hstore BB.out (Nat.le_refl _) k n s x0 x1 x2 x3 x4 x5 x6 x7⟩

theorem ip4T_le (n : Int) : (ip4T n).size ≤ 100 := by
  unfold ip4T
  show (ip4L n.toNat).toArray.size ≤ 100
  rw [List.size_toArray]
  unfold ip4L
  have h1 := dec3_len (n.toNat / 16777216)
  have h2 := dec3_len (n.toNat / 65536 % 256)
  have h3 := dec3_len (n.toNat / 256 % 256)
  have h4 := dec3_len (n.toNat % 256)
  simp
  omega

theorem hTx_size {k n : Int} {s : ByteArray} {x0 x1 x2 x3 x4 x5 x6 x7 : Int} (hs : s.size ≤ 1048576) : (hTx ⟨k, s, n, [x0, x1, x2, x3, x4, x5, x6, x7]⟩).size ≤ 1048576 := by
  cases hok : hOk ⟨k, s, n, [x0, x1, x2, x3, x4, x5, x6, x7]⟩ with
  | false => rw [hTx_no hok]; decide
  | true =>
    by_cases h1 : k = 1
    · subst h1; rw [hTx1 hok]; exact hs
    · by_cases h2 : k = 2
      · subst h2
        rw [hTx2 hok]
        have := ip4T_le n
        omega
      · by_cases h3 : k = 3
        · subst h3
          have hr : okG [x0, x1, x2, x3, x4, x5, x6, x7] = true := by
            have h := hok
            rw [hOk3, Bool.and_eq_true] at h
            exact h.1
          rw [hTx3 hok, six_text, ByteArray.size_append, ByteArray.size_append]
          have := six_len hr
          have e1 : (⟨#[91]⟩ : ByteArray).size = 1 := rfl
          have e2 : (⟨#[93]⟩ : ByteArray).size = 1 := rfl
          omega
        · rw [hOk0 k n s _ h1 h2 h3] at hok
          cases hok

set_option maxRecDepth 100000 in
set_option maxHeartbeats 4000000 in
theorem l6Text (D B : Nat) (ao : Option Addr) (len cap : Nat) (w : World) (hcur : Cur D B ao len cap w) :
    Calls Tryz.prog 28 #[.pointer (some ⟨B, 0, none⟩)] w fun e w' => ∃ s : ByteArray, s.size ≤ 1048576 ∧ e = .returned (.string s) ∧ Cur D B ao len cap w' ∧ w.grownBy w' (some B) := by
  have HC : Hid (Cur D B ao len cap w) := hcur
  clear hcur
  go_enter Tryz.func28, Tryz.ntmps28
  go_wp2_with fail
  refine (l1Below 6 _ _ _ _ _ _ (by omega) (by omega) HC.out).mono ?_
  rintro e wa ⟨y, hy0, hy1, rfl, ca, ga⟩
  have CA : Hid (Cur D B ao len cap wa) := ca
  have GA : Hid (w.grownBy wa (some B)) := ga
  have hB := ca.lt
  clear ca ga HC
  by_cases y0 : y = 0
  · subst y0
    go_wp2_with fail
    refine (l1StrX 100 17 _ 17 0 _ _ _ _ _ _ _ (by omega) (by omega) (CA.out.alloc _) (World.ownsRow_lit wa _ 17 (Nat.zero_le _) (by decide) rfl) (by omega) (by decide)).mono ?_
    rintro e wb ⟨z, hz, rfl, cb, gb⟩
    have CB : Hid (Cur D B ao len cap wb) := cb
    have GB : Hid (w.grownBy wb (some B)) := grow_trans (grow_alloc GA.out _) gb
    clear cb gb
    go_wp2_with fail
    go_ret
    exact ⟨z, by omega, rfl, CB.out, GB.out⟩
  · have q0 : (y == 0) = false := beq_eq_false_iff_ne.2 y0
    by_cases y1 : y = 1
    · subst y1
      go_wp2_with fail
      refine (l1Bytes 4 _ _ _ _ _ _ (by omega) CA.out).mono ?_
      rintro e wb ⟨v, zl, rfl, hzl, ow, cb, gb⟩
      obtain ⟨ao2, cap2, rfl, hcd⟩ := code_of_own ow hzl
      have CB : Hid (Cur D B ao len cap wb) := cb
      have GB : Hid (w.grownBy wb (some B)) := grow_trans GA.out gb
      have HCD : Hid (CodeRow wb.heap.size wb ao2 4) := hcd
      clear cb gb ow hcd hzl
      go_wp2_with fail
      refine (drawParse4 ao2 4 cap2 _ (by omega) HCD.out).mono ?_
      rintro e wc ⟨z, hz, rfl, bc⟩
      have CC : Hid (Cur D B ao len cap wc) := CB.out.below bc.block
      have GC : Hid (w.grownBy wc (some B)) := grow_below GB.out bc
      clear bc
      go_wp2_with fail
      go_ret
      exact ⟨z, by omega, rfl, CC.out, GC.out⟩
    · have q1 : (y == 1) = false := beq_eq_false_iff_ne.2 y1
      go_wp2_with fail
      refine (l6Host _ _ _ _ _ _ CA.out).mono ?_
      rintro e wb ⟨k, n, s, x0, x1, x2, x3, x4, x5, x6, x7, hs, rfl, cb, gb⟩
      have CB : Hid (Cur D B ao len cap wb) := cb
      have GB : Hid (w.grownBy wb (some B)) := grow_trans GA.out gb
      have CT : Hid (∀ W, Calls Tryz.prog 15 #[.agg #[.int .i64 k, .string s, .int .i64 n, .int .i64 x0, .int .i64 x1, .int .i64 x2, .int .i64 x3, .int .i64 x4, .int .i64 x5, .int .i64 x6, .int .i64 x7]] W fun e w' => e = .returned (.string (hTx ⟨k, s, n, [x0, x1, x2, x3, x4, x5, x6, x7]⟩)) ∧ Below W.heap.size W w') := fun W => specHostText k n s x0 x1 x2 x3 x4 x5 x6 x7 W hs
      have hts := hTx_size (k := k) (n := n) (s := s) (x0 := x0) (x1 := x1) (x2 := x2) (x3 := x3) (x4 := x4) (x5 := x5) (x6 := x6) (x7 := x7) hs
      generalize hTx ⟨k, s, n, [x0, x1, x2, x3, x4, x5, x6, x7]⟩ = T at CT hts
      clear cb gb
      go_wp2_with fail
      refine (CT.out _).mono ?_
      rintro e wc ⟨rfl, bc⟩
      have CC : Hid (Cur D B ao len cap wc) := CB.out.below bc.block
      have GC : Hid (w.grownBy wc (some B)) := grow_below GB.out bc
      clear bc
      go_wp2_with fail
      go_ret
      exact ⟨T, hts, rfl, CC.out, GC.out⟩

set_option maxRecDepth 100000 in
set_option maxHeartbeats 4000000 in
theorem drawParseHost (ao : Option Addr) (len cap : Nat) (w : World) (hl : len ≤ 1048576) (hcode : CodeRow w.heap.size w ao len) :
    Calls Tryz.prog 12 #[.slice ao len cap] w fun e w' => ∃ s : ByteArray, s.size ≤ 1048576 ∧ e = .returned (.string s) ∧ Below w.heap.size w w' := by
  have HCO : Hid (CodeRow w.heap.size w ao len) := hcode
  clear hcode
  go_enter Tryz.func12, Tryz.ntmps12
  go_wp2_with fail
  refine (l1New _ _ _ _ hl HCO.out).mono ?_
  rintro e wa ⟨B, rfl, hBw, ca, ba⟩
  have CA : Hid (Cur w.heap.size B ao len cap wa) := ca
  clear ca
  go_wp2_with fail
  refine (l6Text _ _ _ _ _ _ CA.out).mono ?_
  rintro e wb ⟨z, hz, rfl, cb, gb⟩
  have B1 : Below w.heap.size w wb := ba.grown gb ba.size (fun k hk => by cases hk; exact hBw)
  clear cb gb ba
  go_wp2_with fail
  go_ret
  exact ⟨z, hz, rfl, B1⟩
end Go.Proofs.YtamnhegianpedaaGreatDoor
