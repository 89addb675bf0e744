/- DrawWalk, Draw5Walk, AddrBack, HostBack, DotPlain, UrlPath, DportWalk. -/
import Derived.Test.YtidecdlaeomfoaaGreatQA15
set_option maxHeartbeats 2000000
set_option maxRecDepth 100000
namespace Go.Proofs.YtidecdlaeomfoaaGreat
open Go.RowKit
def CodeRow (D : Nat) (w : World) (ao : Option Addr) (len : Nat) : Prop :=
 len = 0 ∨ ∃ b off, ao = some ⟨b, off, none⟩ ∧ b < D ∧ ∀ j, j < len → ∃ x : Int, w.cell? ⟨b, off + j, none⟩ = some (.int .u8 x) ∧ 0 ≤ x ∧ x ≤ 255
def Cur (D B : Nat) (ao : Option Addr) (len cap : Nat) (w : World) : Prop :=
 ∃ i h : Int, w.heap[B]? = some (.cells #[.slice ao len cap, .int .i64 i, .int .i64 h] 54 (0, 0)) ∧ 0 ≤ i ∧ i ≤ len ∧ len ≤ 1048576 ∧ D ≤ B ∧ CodeRow D w ao len
theorem i64_and255 (n : Int) : bits .and .i64 n 255 = n % 256 := by
 have h255 : (BitVec.ofInt 64 255).toNat = 2 ^ 8 - 1 := by decide
 have key : (BitVec.ofInt 64 n &&& BitVec.ofInt 64 255).toNat = (n % ((2 ^ 64 : Nat) : Int)).toNat % 2 ^ 8 := by
  rw [BitVec.toNat_and, BitVec.toNat_ofInt, h255, Nat.and_two_pow_sub_one_eq_mod]
 show IntKind.i64.wrap ((BitVec.ofInt 64 n &&& BitVec.ofInt 64 255).toNat : Nat) = n % 256
 rw [key, IntKind.wrap_i64]
 omega
theorem CodeRow.grown {D : Nat} {w w' : World} {ao : Option Addr} {len : Nat} (h : CodeRow D w ao len) (hb : ∀ k, k < D → w'.heap[k]? = w.heap[k]?) : CodeRow D w' ao len := by
 rcases h with h | ⟨b, off, h1, h2, h3⟩
 ·exact .inl h
 refine .inr ⟨b, off, h1, h2, fun j hj => ?_⟩
 obtain ⟨x, h4, h5⟩ := h3 j hj
 exact ⟨x, (World.cell?_of_block (w := w) (a := ⟨b, off + j, none⟩) (hb b h2)).trans h4, h5⟩
theorem heap_set3 {w : World} {B k : Nat} {cs : Array Value} {t : TypeId} (v : Value) (h : w.heap[B]? = some (.cells cs t (0, 0))) : (w.setCell ⟨B, k, none⟩ v).heap[B]? = some (.cells (cs.setIfInBounds k v) t (0, 0)) :=
 heap_setCell_same w B k cs t v h
theorem Cur.seth {D B : Nat} {ao : Option Addr} {len cap : Nat} {w : World} {i h : Int} (hc : w.heap[B]? = some (.cells #[.slice ao len cap, .int .i64 i, .int .i64 h] 54 (0, 0))) (h0 : 0 ≤ i) (h1 : i ≤ len) (hl : len ≤ 1048576) (hDB : D ≤ B) (hcode : CodeRow D w ao len) (h' : Int) :
  Cur D B ao len cap (w.setCell ⟨B, 2, none⟩ (.int .i64 h')) ∧ w.grownBy (w.setCell ⟨B, 2, none⟩ (.int .i64 h')) (some B) := by
 refine ⟨⟨i, h', ?_, h0, h1, hl, hDB, hcode.grown fun k hk => Below.heap_setCell _ _ _ _ (by simp; omega)⟩, ⟨rfl, rfl, rfl, by simp [World.setCell], fun k _ hk => Below.heap_setCell _ _ _ _ (fun e => hk (by simp [e]))⟩⟩
 rw [heap_set3 _ hc]
 rfl
theorem Cur.seti {D B : Nat} {ao : Option Addr} {len cap : Nat} {w : World} {i h : Int} (hc : w.heap[B]? = some (.cells #[.slice ao len cap, .int .i64 i, .int .i64 h] 54 (0, 0))) (hl : len ≤ 1048576) (hDB : D ≤ B) (hcode : CodeRow D w ao len) (i' : Int) (h0 : 0 ≤ i') (h1 : i' ≤ len) :
  Cur D B ao len cap (w.setCell ⟨B, 1, none⟩ (.int .i64 i')) ∧ w.grownBy (w.setCell ⟨B, 1, none⟩ (.int .i64 i')) (some B) := by
 refine ⟨⟨i', h, ?_, h0, h1, hl, hDB, hcode.grown fun k hk => Below.heap_setCell _ _ _ _ (by simp; omega)⟩, ⟨rfl, rfl, rfl, by simp [World.setCell], fun k _ hk => Below.heap_setCell _ _ _ _ (fun e => hk (by simp [e]))⟩⟩
 rw [heap_set3 _ hc]
 rfl
theorem cur_cells {w : World} {B : Nat} {a b c : Value} {t : TypeId} (h : w.heap[B]? = some (.cells #[a, b, c] t (0, 0))) :
  w.cell? ⟨B, 0, none⟩ = some a ∧ w.cell? ⟨B, 1, none⟩ = some b ∧ w.cell? ⟨B, 2, none⟩ = some c ∧ ∀ j, w.frozen? ⟨B, j, none⟩ = false := by
 refine ⟨?_, ?_, ?_, fun j => frozen_of_row w B j _ t h⟩ <;> (rw [cell_of_row w B _ _ t (0, 0) h]; rfl)
theorem Cur.drewN {D B : Nat} {ao : Option Addr} {len cap : Nat} {w : World} (h : Cur D B ao len cap w) (n : Nat) : Cur D B ao len cap (w.drewN n) := h
theorem grow_drewN {w w' : World} {row : Option Nat} (h : w.grownBy w' row) (n : Nat) : w.grownBy (w'.drewN n) row := ⟨h.os, h.tape, h.output, h.size, h.block⟩
theorem l1Byte (D B : Nat) (ao : Option Addr) (len cap : Nat) (w : World) (hcur : Cur D B ao len cap w) :
  Calls Tryz.prog 39 #[.pointer (some ⟨B, 0, none⟩)] w fun e w' => ∃ x : Int, 0 ≤ x ∧ x ≤ 255 ∧ e = .returned (.int .i64 x) ∧ Cur D B ao len cap w' ∧ w.grownBy w' (some B) := by
 obtain ⟨i, h, hc, h0, h1, hl, hDB, hcode⟩ := hcur
 obtain ⟨c0, c1, c2, cf⟩ := cur_cells hc
 have f2 := cf 2
 have HS : Hid (∀ h', Cur D B ao len cap (w.setCell ⟨B, 2, none⟩ (.int .i64 h')) ∧ w.grownBy (w.setCell ⟨B, 2, none⟩ (.int .i64 h')) (some B)) := fun h' => Cur.seth hc h0 h1 hl hDB hcode h'
 clear hc cf hcode hDB
 go_enter Tryz.func39, Tryz.ntmps39
 go_upto_region 1 with fail
 go_cut [] (fun w1 => Cur D B ao len cap w1 ∧ w.grownBy w1 (some B))
 case first =>
  go_wp2_with fail
  go_meet
  case rel => exact HS.out _
 clear HS c0 c1 c2 f2 h0 h1 hl
 go_upto_region 2 with fail
 go_cut [3] (fun v w1 => ∃ x : Int, v = .int .i64 x ∧ 0 ≤ x ∧ x ≤ 255 ∧ Cur D B ao len cap w1 ∧ w.grownBy w1 (some B))
 case first =>
  obtain ⟨hcu, hgr⟩ := hcut
  have HU : Hid (Cur D B ao len cap wc) := hcu
  obtain ⟨i', h', hc, h0, h1, hl, hDB, hcode⟩ := hcu
  obtain ⟨c0, c1, c2, cf⟩ := cur_cells hc
  clear hc hcode cf hDB
  go_quiet (fail)
  go_wp2_with fail
  go_meet
  case rel =>
   refine ⟨_, rfl, ?_, ?_, HU.out.drewN _, grow_drewN hgr _⟩
   ·rw [i64_and255]; omega
   rw [i64_and255]; omega
 obtain ⟨x, rfl, hx0, hx1, hcu, hgr⟩ := hcut
 have HU : Hid (Cur D B ao len cap wc) := hcu
 obtain ⟨i', h', hc, h0, h1, hl, hDB, hcode⟩ := hcu
 have HI : Hid (∀ i'' : Int, 0 ≤ i'' → i'' ≤ len → Cur D B ao len cap (wc.setCell ⟨B, 1, none⟩ (.int .i64 i'')) ∧ wc.grownBy (wc.setCell ⟨B, 1, none⟩ (.int .i64 i'')) (some B)) := fun i'' a b => Cur.seti hc hl hDB hcode i'' a b
 obtain ⟨c0, c1, c2, cf⟩ := cur_cells hc
 have f1 := cf 1
 clear hc cf hDB
 by_cases hlt : i' < (len : Int)
 ·rcases hcode with hz | ⟨b, off, rfl, hb, hcells⟩
  ·omega
  obtain ⟨n, rfl⟩ := Int.eq_ofNat_of_zero_le h0
  obtain ⟨y, cy, hy0, hy1⟩ := hcells n (by omega)
  clear hcells c2
  go_wp2_with fail
  go_quiet (fail)
  go_wp2_with fail
  go_quiet (fail)
  go_wp2_with fail
  go_ret
  refine ⟨_, ?_, ?_, rfl, ?_, ?_⟩
  ·rw [i64_and255]; omega
  ·rw [i64_and255]; omega
  ·exact (HI.out ((n : Int) + 1) (by omega) (by omega)).1
  have g := grow_trans hgr (HI.out ((n : Int) + 1) (by omega) (by omega)).2
  exact ⟨g.os, g.tape, g.output, g.size, g.block⟩
 clear hcode c2 f1
 go_wp2_with fail
 go_quiet (fail)
 go_wp2_with fail
 go_ret
 exact ⟨x, hx0, hx1, rfl, HU.out.drewN _, grow_drewN hgr _⟩
theorem l1Below (n : Int) (D B : Nat) (ao : Option Addr) (len cap : Nat) (w : World) (hn : 0 < n) (hn1 : n ≤ 1099511627776) (hcur : Cur D B ao len cap w) :
  Calls Tryz.prog 28 #[.pointer (some ⟨B, 0, none⟩), .int .i64 n] w fun e w' => ∃ x : Int, 0 ≤ x ∧ x < n ∧ e = .returned (.int .i64 x) ∧ Cur D B ao len cap w' ∧ w.grownBy w' (some B) := by
 have hz : ¬ n ≤ 0 := by omega
 have hne : (n == 0) = false := by simp; omega
 have HC : Hid (Cur D B ao len cap w) := hcur
 clear hcur
 by_cases h256 : n ≤ 256
 ·go_enter Tryz.func28, Tryz.ntmps28
  go_wp2_with fail
  refine (l1Byte _ _ _ _ _ _ HC.out).mono ?_
  rintro e wa ⟨x, hx0, hx1, rfl, ca, ga⟩
  have CA : Hid (Cur D B ao len cap wa) := ca
  clear ca
  go_wp2_with fail
  go_ret
  refine ⟨_, ?_, ?_, rfl, CA.out, ga⟩
  ·first | exact Int.emod_nonneg _ (by omega) | omega
  first | exact Int.emod_lt_of_pos _ hn | omega
 go_enter Tryz.func28, Tryz.ntmps28
 go_wp2_with fail
 refine (l1Byte _ _ _ _ _ _ HC.out).mono ?_
 rintro e wa ⟨x, hx0, hx1, rfl, ca, ga⟩
 have CA : Hid (Cur D B ao len cap wa) := ca
 clear ca
 go_wp2_with fail
 refine (l1Byte _ _ _ _ _ _ CA.out).mono ?_
 rintro e wb ⟨y, hy0, hy1, rfl, cb, gb⟩
 have CB : Hid (Cur D B ao len cap wb) := cb
 clear cb
 go_wp2_with fail
 refine (l1Byte _ _ _ _ _ _ CB.out).mono ?_
 rintro e wc ⟨z, hz0, hz1, rfl, cc, gc⟩
 have CC : Hid (Cur D B ao len cap wc) := cc
 clear cc
 go_wp2_with fail
 go_ret
 refine ⟨_, ?_, ?_, rfl, CC.out, grow_trans (grow_trans ga gb) gc⟩
 ·first | exact Int.emod_nonneg _ (by omega) | omega
 first | exact Int.emod_lt_of_pos _ hn | omega
theorem l1Int (m g cp G : Nat) (zs : List Int) (D B : Nat) (ao : Option Addr) (len cap : Nat) (w : World) (hm : 0 < m) (hm1 : m ≤ 1099511627776) (hcur : Cur D B ao len cap w)
  (hown : w.ownsRow G 3 1 (.slice (some ⟨g, 0, none⟩) m cp) m (icells zs)) (hgB : g ≠ B) :
  Calls Tryz.prog 29 #[.pointer (some ⟨B, 0, none⟩), .slice (some ⟨g, 0, none⟩) m cp] w fun e w' => ∃ z : Int, z ∈ zs ∧ e = .returned (.int .i64 z) ∧ Cur D B ao len cap w' ∧ w.grownBy w' (some B) := by
 have HC : Hid (Cur D B ao len cap w) := hcur
 clear hcur
 go_enter Tryz.func29, Tryz.ntmps29
 go_wp2_with fail
 refine (l1Below (m : Int) _ _ _ _ _ _ (by omega) (by omega) HC.out).mono ?_
 rintro e wa ⟨x, hx0, hx1, rfl, ca, ga⟩
 have CA : Hid (Cur D B ao len cap wa) := ca
 have oa : wa.ownsRow G 3 1 (.slice (some ⟨g, 0, none⟩) m cp) m (icells zs) := hown.kept ga (by simp [Value.ownBlock, hgB])
 obtain ⟨k, rfl⟩ := Int.eq_ofNat_of_zero_le hx0
 have cc := icell_at oa k (by omega)
 have hl : zs.length = m := by have := hown.1; simpa [icells] using this
 have HM : Hid (zs.getD k 0 ∈ zs) := by
  show _ ∈ _
  rw [List.getD_eq_getElem?_getD, List.getElem?_eq_getElem (by omega)]
  exact List.getElem_mem _
 clear ca oa hown hl
 generalize zs.getD k 0 = z at *
 go_wp2_with fail
 go_ret
 exact ⟨z, HM.out, rfl, CA.out, ga⟩
theorem l1Str (m g cp G : Nat) (fs : List ByteArray) (D B : Nat) (ao : Option Addr) (len cap : Nat) (w : World) (hm : 0 < m) (hm1 : m ≤ 1099511627776) (hcur : Cur D B ao len cap w)
  (hown : w.ownsRow G 9 1 (.slice (some ⟨g, 0, none⟩) m cp) m (scells fs)) (hgB : g ≠ B) :
  Calls Tryz.prog 30 #[.pointer (some ⟨B, 0, none⟩), .slice (some ⟨g, 0, none⟩) m cp] w fun e w' => ∃ z : ByteArray, z ∈ fs ∧ e = .returned (.string z) ∧ Cur D B ao len cap w' ∧ w.grownBy w' (some B) := by
 have HC : Hid (Cur D B ao len cap w) := hcur
 clear hcur
 go_enter Tryz.func30, Tryz.ntmps30
 go_wp2_with fail
 refine (l1Below (m : Int) _ _ _ _ _ _ (by omega) (by omega) HC.out).mono ?_
 rintro e wa ⟨x, hx0, hx1, rfl, ca, ga⟩
 have CA : Hid (Cur D B ao len cap wa) := ca
 have oa : wa.ownsRow G 9 1 (.slice (some ⟨g, 0, none⟩) m cp) m (scells fs) := hown.kept ga (by simp [Value.ownBlock, hgB])
 obtain ⟨k, rfl⟩ := Int.eq_ofNat_of_zero_le hx0
 have cc := scell_at oa k (by omega)
 have hl : fs.length = m := by have := hown.1; simpa [scells] using this
 have HM : Hid (fs.getD k ByteArray.empty ∈ fs) := by
  show _ ∈ _
  rw [List.getD_eq_getElem?_getD, List.getElem?_eq_getElem (by omega)]
  exact List.getElem_mem _
 clear ca oa hown hl
 generalize fs.getD k ByteArray.empty = z at *
 go_wp2_with fail
 go_ret
 exact ⟨z, HM.out, rfl, CA.out, ga⟩
theorem l1New (ao : Option Addr) (len cap : Nat) (w : World) (hl : len ≤ 1048576) (hcode : CodeRow w.heap.size w ao len) :
  Calls Tryz.prog 14 #[.slice ao len cap] w fun e w' => ∃ B : Nat, e = .returned (.pointer (some ⟨B, 0, none⟩)) ∧ w.heap.size ≤ B ∧ Cur w.heap.size B ao len cap w' ∧ Below w.heap.size w w' := by
 have HC : Hid (∀ h : Int, Cur w.heap.size w.heap.size ao len cap (w.alloc (.cells #[.slice ao len cap, .int .i64 0, .int .i64 h] 54))) := fun h =>
  ⟨0, h, heap_alloc_new w _, by omega, by omega, hl, Nat.le_refl _, hcode.grown fun k hk => Below.heap_alloc w _ k hk⟩
 have HD : Hid (CodeRow w.heap.size w ao len) := hcode
 clear hcode
 go_enter Tryz.func14, Tryz.ntmps14
 go_wp2
 go_loop [3, 4] (fun a i => ∃ (k : Nat) (h : Int), k ≤ len ∧ i = .int .i64 k ∧ a = .int .i64 h) (fun _ i => len - (intOf i).toNat)
 case atStart => exact ⟨0, _, Nat.zero_le _, rfl, rfl⟩
 obtain ⟨k, h, hk, rfl, rfl⟩ := hrel
 by_cases hlt : k < len
 ·by_cases h4 : (k : Int) < 4000
  ·rcases HD.out with hz | ⟨b, off, rfl, hb, hcells⟩
   ·omega
   obtain ⟨y, cy, hy0, hy1⟩ := hcells k hlt
   clear hcells
   go_wp2
   go_round
   case rel => exact ⟨k + 1, _, by omega, by go_num, rfl⟩
   case measure => simp [intOf]; omega
  go_wp2
  go_ret
  exact ⟨w.heap.size, rfl, Nat.le_refl _, HC.out h, (Below.refl _ _).alloc (Nat.le_refl _) _⟩
 go_wp2
 go_ret
 exact ⟨w.heap.size, rfl, Nat.le_refl _, HC.out h, (Below.refl _ _).alloc (Nat.le_refl _) _⟩
def strsOk (M : Nat) (xs : List Value) : Bool := xs.all fun | .string z => decide (z.size ≤ M) | _ => false
theorem strsOk_scells {M : Nat} : ∀ {xs : List Value}, strsOk M xs = true → ∃ fs : List ByteArray, xs = scells fs ∧ ∀ z ∈ fs, z.size ≤ M
 | [], _ => ⟨[], rfl, fun z h => by simp at h⟩
 | u :: xs, h => by
  simp only [strsOk, List.all_cons, Bool.and_eq_true] at h
  obtain ⟨h1, h2⟩ := h
  obtain ⟨fs, rfl, hf⟩ := strsOk_scells (xs := xs) h2
  cases u with
  | string z => exact ⟨z :: fs, rfl, fun y hy => by rcases List.mem_cons.1 hy with rfl | hy; exact of_decide_eq_true h1; exact hf y hy⟩
  | _ => simp at h1
theorem l1StrX (M m g cp G : Nat) (xs : List Value) (D B : Nat) (ao : Option Addr) (len cap : Nat) (w : World) (hm : 0 < m) (hm1 : m ≤ 1099511627776) (hcur : Cur D B ao len cap w)
  (hown : w.ownsRow G 9 1 (.slice (some ⟨g, 0, none⟩) m cp) m xs) (hgB : g ≠ B) (hx : strsOk M xs = true) :
  Calls Tryz.prog 30 #[.pointer (some ⟨B, 0, none⟩), .slice (some ⟨g, 0, none⟩) m cp] w fun e w' => ∃ z : ByteArray, z.size ≤ M ∧ e = .returned (.string z) ∧ Cur D B ao len cap w' ∧ w.grownBy w' (some B) := by
 obtain ⟨fs, rfl, hf⟩ := strsOk_scells hx
 refine (l1Str m g cp G fs D B ao len cap w hm hm1 hcur hown hgB).mono ?_
 rintro e w' ⟨z, hz, he, hc, hg⟩
 exact ⟨z, hf z hz, he, hc, hg⟩
theorem Cur.lt {D B : Nat} {ao : Option Addr} {len cap : Nat} {w : World} (h : Cur D B ao len cap w) : B < w.heap.size := by
 obtain ⟨i, h', hc, _⟩ := h
 exact (Array.getElem?_eq_some_iff.1 hc).1
theorem Cur.keep {D B : Nat} {ao : Option Addr} {len cap : Nat} {w w' : World} (h : Cur D B ao len cap w) (hB : w'.heap[B]? = w.heap[B]?) (hD : ∀ k, k < D → w'.heap[k]? = w.heap[k]?) : Cur D B ao len cap w' := by
 obtain ⟨i, h', hc, h0, h1, hl, hDB, hcode⟩ := h
 exact ⟨i, h', hB.trans hc, h0, h1, hl, hDB, hcode.grown hD⟩
theorem Cur.le {D B : Nat} {ao : Option Addr} {len cap : Nat} {w : World} (h : Cur D B ao len cap w) : D ≤ B := by
 obtain ⟨i, h', hc, h0, h1, hl, hDB, hcode⟩ := h
 exact hDB
theorem Cur.below {D B : Nat} {ao : Option Addr} {len cap : Nat} {w w' : World} (h : Cur D B ao len cap w) (hb : ∀ k, k < w.heap.size → w'.heap[k]? = w.heap[k]?) : Cur D B ao len cap w' := by
 have hlt := h.lt
 have hle := h.le
 exact h.keep (hb B hlt) fun k hk => hb k (by omega)
theorem Cur.alloc {D B : Nat} {ao : Option Addr} {len cap : Nat} {w : World} (h : Cur D B ao len cap w) (o : Obj) : Cur D B ao len cap (w.alloc o) := h.below fun k hk => Below.heap_alloc w o k hk
theorem grow_alloc {w w1 : World} {row : Option Nat} (h : w.grownBy w1 row) (o : Obj) : w.grownBy (w1.alloc o) row := grow_trans h (World.grownBy_alloc w1 o row)
theorem big_no (ao : Option Addr) (len cap : Nat) (w : World) (h : (len : Int) ≤ 1048576) : Calls Tryz.prog 4 #[.slice ao len cap] w fun e w' => e = .returned (.bool false) ∧ w = w' := by
 go_enter Tryz.func4, Tryz.ntmps4
 go_wp2
 go_ret
 exact ⟨ret_bool (by simp <;> omega), rfl⟩
theorem big_yes (ao : Option Addr) (len cap : Nat) (w : World) (h : 1048576 < (len : Int)) : Calls Tryz.prog 4 #[.slice ao len cap] w fun e w' => e = .returned (.bool true) ∧ w = w' := by
 go_enter Tryz.func4, Tryz.ntmps4
 go_wp2
 go_ret
 exact ⟨ret_bool (by simp <;> omega), rfl⟩
theorem CodeRow.le {D D' : Nat} {w : World} {ao : Option Addr} {len : Nat} (h : CodeRow D w ao len) (hD : D ≤ D') : CodeRow D' w ao len := by
 rcases h with h | ⟨b, off, h1, h2, h3⟩
 ·exact .inl h
 exact .inr ⟨b, off, h1, by omega, h3⟩
theorem CodeRow.later {w w' : World} {ao : Option Addr} {len : Nat} (h : CodeRow w.heap.size w ao len) (hb : Below w.heap.size w w') : CodeRow w'.heap.size w' ao len :=
 (h.grown hb.block).le hb.size
theorem ArrAt.kept {w w' : World} {B' B : Nat} {z : List Int} (h : ArrAt w B' z) (g : w.grownBy w' (some B)) (hne : B' ≠ B) : ArrAt w' B' z := by
 have hlt : B' < w.heap.size := World.block_lt_of_cell? w ⟨B', 0, none⟩ (h.2 0 (by decide)).1
 have e : w'.heap[B']? = w.heap[B']? := g.block B' hlt (by simp [hne])
 refine ⟨h.1, fun j hj => ⟨(World.cell?_of_block (w := w) (a := ⟨B', j, none⟩) e).trans (h.2 j hj).1, ?_⟩⟩
 have := (h.2 j hj).2
 unfold World.frozen? at this ⊢
 simp only [e]
 exact this
theorem Cur.set {D B : Nat} {ao : Option Addr} {len cap : Nat} {wr : World} (h : Cur D B ao len cap wr) {C k : Nat} (hC : B < C) (v : Value) : Cur D B ao len cap (wr.setCell ⟨C, k, none⟩ v) := by
 have b := (Below.refl C wr).setCell (p := ⟨C, k, none⟩) (Nat.le_refl _) v
 have hle := h.le
 exact h.keep (b.block B hC) fun j hj => b.block j (by omega)

theorem grp_lt (t : Bool) : ∀ {fs : List (List UInt8)} {g : List Nat}, grp t fs = some g → ∀ x ∈ g, x < 65536
 | [], g, h, x, hx => by cases h; simp at hx
 | y :: r, g, h, x, hx => by
  rw [grp] at h
  split at h
  ·rename_i n hn
   cases h
   have hn4 : n < 4294967296 := by
    split at hn
    ·exact (p4_some hn).1
    cases hn
   simp only [List.mem_cons, List.not_mem_nil, or_false] at hx
   omega
  split at h
  ·cases h
  rename_i v hv
  cases hr : grp t r with
  | none => rw [hr] at h; cases h
  | some q =>
   rw [hr] at h
   cases h
   rcases List.mem_cons.1 hx with rfl | h2
   ·unfold g16 at hv
    split at hv
    ·cases hv
    exact g16_lt hv
   exact grp_lt t hr x h2
theorem grpS_lt (t : Bool) {l : List UInt8} {g : List Nat} (h : grpS t l = some g) : ∀ x ∈ g, x < 65536 := by
 unfold grpS at h
 split at h
 ·cases h
  intro x hx
  simp at hx
 exact grp_lt t h
theorem par6_lt {l : List UInt8} {g : List Nat} (h : par6 l = some g) : ∀ x ∈ g, x < 65536 := by
 unfold par6 at h
 split at h
 ·split at h
  ·cases h
  rename_i q hq
  split at h
  ·cases h
   exact grpS_lt true hq
  cases h
 split at h
 ·rename_i a b ha hb
  split at h
  ·cases h
   intro x hx
   unfold fill8 at hx
   rcases List.mem_append.1 hx with h1 | h1
   ·rcases List.mem_append.1 h1 with h2 | h2
    ·exact grpS_lt false ha x h2
    rw [(List.mem_replicate.1 h2).2]
    decide
   exact grpS_lt true hb x h1
  cases h
 cases h
theorem okG_nat {g : List Nat} (h : ∀ x ∈ g, x < 65536) : okG (g.map fun (x : Nat) => (x : Int)) = true := by
 refine okG_yes ?_
 intro x hx
 obtain ⟨y, hy, rfl⟩ := List.mem_map.1 hx
 have := h y hy
 omega
theorem read_ok (s : ByteArray) : (∃ c, readH s = .bad c ∧ 1 ≤ c ∧ c ≤ 4) ∨ (hOk (rV (readH s)) = true ∧ rC (readH s) = 0) := by
 have key : ∀ l, (∃ c, readM l = .bad c ∧ 1 ≤ c ∧ c ≤ 4) ∨ nameL ⟨l.toArray⟩ = some l → (∃ c, readM l = .bad c ∧ 1 ≤ c ∧ c ≤ 4) ∨ (hOk (rV (readM l)) = true ∧ rC (readM l) = 0) := by
  intro l hl
  rcases hl with hl | hl
  ·exact .inl hl
  unfold readM
  split
  ·cases h : loA ⟨l.toArray⟩ with
   | none => exact .inl ⟨4, rfl, by decide, by decide⟩
   | some v =>
    have := loA_lt h
    refine .inr ⟨?_, rfl⟩
    show hOk ⟨2, ⟨#[]⟩, v, zeros⟩ = true
    unfold hOk
    rw [if_neg (show ¬ (2 : Int) = 1 by decide), if_pos rfl]
    simp only [Bool.and_eq_true, decide_eq_true_eq]
    exact ⟨⟨rfl, by omega, by omega⟩, trivial⟩
  rename_i he
  refine .inr ⟨?_, rfl⟩
  show hOk ⟨1, ⟨l.toArray⟩, 0, zeros⟩ = true
  unfold hOk
  rw [if_pos rfl]
  have he' : endL ⟨l.toArray⟩ = false := by simpa using he
  simp [hl, he']
 unfold readH
 split
 ·exact .inl ⟨1, rfl, by decide, by decide⟩
 rename_i c r hl
 split
 ·unfold readS
  split
  ·cases h : par6 r.dropLast with
   | none => exact .inl ⟨2, rfl, by decide, by decide⟩
   | some g =>
    refine .inr ⟨?_, rfl⟩
    show hOk ⟨3, ⟨#[]⟩, 0, g.map fun (x : Nat) => (x : Int)⟩ = true
    unfold hOk
    rw [if_neg (show ¬ (3 : Int) = 1 by decide), if_neg (show ¬ (3 : Int) = 2 by decide), if_pos rfl]
    simp only [okG_nat (par6_lt h)]
    rfl
  exact .inl ⟨2, rfl, by decide, by decide⟩
 unfold readN
 split
 ·exact .inl ⟨3, rfl, by decide, by decide⟩
 rename_i n hn
 obtain ⟨_, _, _, _, _, _, hb, _, _⟩ := name_back hn
 exact key n (.inr hb)
def isd (l : List UInt8) : Nat := if unL l = [46] then 1 else if unL l = [46, 46] then 2 else 0
theorem isd_le (l : List UInt8) : isd l ≤ 2 := by unfold isd; split; omega; split <;> omega
theorem isd_nil : isd [] = 0 := by decide
theorem isd_dots {l : List UInt8} {n : Nat} (h : unL l = List.replicate n 46) : isd l = if 1 ≤ n ∧ n ≤ 2 then n else 0 := by
 unfold isd
 rw [h]
 match n with
 | 0 => decide
 | 1 => decide
 | 2 => decide
 | n + 3 =>
  have h1 : ¬ (List.replicate (n + 3) (46 : UInt8) = [46]) := fun e => by have := congrArg List.length e; simp at this
  have h2 : ¬ (List.replicate (n + 3) (46 : UInt8) = [46, 46]) := fun e => by have := congrArg List.length e; simp at this
  rw [if_neg h1, if_neg h2, if_neg (by omega)]
theorem isd_other {l : List UInt8} {n : Nat} {c : UInt8} {r : List UInt8} (h : unL l = List.replicate n 46 ++ c :: r) (hc : c ≠ 46) : isd l = 0 := by
 have hm : c ∈ unL l := by rw [h]; simp
 unfold isd
 rw [if_neg, if_neg]
 ·intro e; rw [e] at hm; simp at hm; exact hc hm
 intro e; rw [e] at hm; simp at hm; exact hc hm
def stepD (out : List ByteArray) (x : ByteArray) : List ByteArray := if isd (toL x) = 0 then out ++ [x] else if isd (toL x) = 2 then out.dropLast else out
def foldD (l : List ByteArray) : List ByteArray := l.foldl stepD []
def lastD (l : List ByteArray) : ByteArray := l.getD (l.length - 1) ByteArray.empty
def keptD (l : List ByteArray) : List ByteArray := if isd (toL (lastD l)) = 0 then foldD l else foldD l ++ [ByteArray.empty]
def slL (l : List ByteArray) : List UInt8 := l.flatMap fun x => 47 :: toL x
def partsD (p : ByteArray) : List ByteArray := (fieldsL p 47).drop 1
def rooted (p : ByteArray) : Bool := p.data.toList.head? == some 47
def dropT (p : ByteArray) : ByteArray := if rooted p then ⟨(slL (keptD (partsD p))).toArray⟩ else p
theorem map_toL_inj {a b : List ByteArray} (h : a.map toL = b.map toL) : a = b := by
 induction a generalizing b with
 | nil => cases b with
  | nil => rfl
  | cons _ _ => simp at h
 | cons x a ih => cases b with
  | nil => simp at h
  | cons y b =>
   simp only [List.map_cons, List.cons.injEq] at h
   rw [toL_inj h.1, ih h.2]
theorem fieldsL_47 (s : ByteArray) : (fieldsL s 47).map toL = spl 47 s.data.toList := fieldsL_spl s 47
theorem spl_cons_hit (b : UInt8) (l : List UInt8) : spl b (b :: l) = [] :: spl b l := by
 simp [spl]
theorem rooted_data {p : ByteArray} (h : rooted p = true) : ∃ r, p.data.toList = 47 :: r := by
 unfold rooted at h
 cases hp : p.data.toList with
 | nil => rw [hp] at h; simp at h
 | cons a r => rw [hp] at h; simp at h; exact ⟨r, by rw [h]⟩
theorem fields_rooted {p : ByteArray} (h : rooted p = true) : fieldsL p 47 = ByteArray.empty :: fieldsL (p.extract 1 p.size) 47 := by
 obtain ⟨r, hr⟩ := rooted_data h
 apply map_toL_inj
 have hx : (p.extract 1 p.size).data.toList = r := by rw [extract_list, take_all p p.size (Nat.le_refl _), hr]; rfl
 rw [List.map_cons, fieldsL_47, fieldsL_47, hx, hr, spl_cons_hit]
 rfl
theorem parts_rooted {p : ByteArray} (h : rooted p = true) : partsD p = fieldsL (p.extract 1 p.size) 47 := by
 unfold partsD
 rw [fields_rooted h]
 rfl
theorem fields_parts {p : ByteArray} (h : rooted p = true) : fieldsL p 47 = ByteArray.empty :: partsD p := by
 rw [parts_rooted h, fields_rooted h]
theorem sl_parts {p : ByteArray} (h : rooted p = true) : slL (partsD p) = p.data.toList := by
 have h1 := fieldsL_join p 47 (by decide) (by decide)
 rw [fields_parts h] at h1
 exact h1
theorem parts_pos {p : ByteArray} (h : rooted p = true) : 0 < (partsD p).length := by
 rw [parts_rooted h]
 simp [fieldsL]
def sumD (f : ByteArray → Nat) (l : List ByteArray) : Nat := (l.map f).sum
theorem sumD_snoc (f : ByteArray → Nat) (l : List ByteArray) (x : ByteArray) : sumD f (l ++ [x]) = sumD f l + f x := by simp [sumD]
theorem sumD_drop (f : ByteArray → Nat) (l : List ByteArray) : sumD f l.dropLast ≤ sumD f l := by
 rcases List.eq_nil_or_concat l with h | ⟨m, x, h⟩
 ·rw [h]; exact Nat.le_refl _
 rw [h, List.concat_eq_append, List.dropLast_concat, sumD_snoc]; omega
theorem sumD_step (f : ByteArray → Nat) (out : List ByteArray) (x : ByteArray) : sumD f (stepD out x) ≤ sumD f out + f x := by
 unfold stepD
 split
 ·rw [sumD_snoc]; exact Nat.le_refl _
 split
 ·have := sumD_drop f out; omega
 omega
theorem sumD_dot (f : ByteArray → Nat) (out : List ByteArray) (x : ByteArray) (h : isd (toL x) ≠ 0) : sumD f (stepD out x) ≤ sumD f out := by
 unfold stepD
 rw [if_neg h]
 split
 ·exact sumD_drop f out
 exact Nat.le_refl _
theorem foldD_snoc (l : List ByteArray) (x : ByteArray) : foldD (l ++ [x]) = stepD (foldD l) x := by simp [foldD]
theorem sumD_fold (f : ByteArray → Nat) : ∀ r : List ByteArray, sumD f (foldD r.reverse) ≤ sumD f r.reverse
 | [] => Nat.le_refl _
 | x :: r => by
  rw [List.reverse_cons, foldD_snoc, sumD_snoc]
  have h1 := sumD_step f (foldD r.reverse) x
  have h2 := sumD_fold f r
  omega
theorem sum_fold (f : ByteArray → Nat) (l : List ByteArray) : sumD f (foldD l) ≤ sumD f l := by
 have h := sumD_fold f l.reverse
 rwa [List.reverse_reverse] at h
theorem lastD_snoc (l : List ByteArray) (x : ByteArray) : lastD (l ++ [x]) = x := by
 unfold lastD
 simp [List.getD_eq_getElem?_getD]
theorem sum_kept (f : ByteArray → Nat) (hf : ∀ x, f ByteArray.empty ≤ f x) (l : List ByteArray) : sumD f (keptD l) ≤ sumD f l := by
 unfold keptD
 split
 ·exact sum_fold f l
 next h =>
 rcases List.eq_nil_or_concat l with e | ⟨m, x, e⟩
 ·rw [e] at h
  exact absurd isd_nil h
 rw [List.concat_eq_append] at e
 rw [e, lastD_snoc] at h
 rw [e, foldD_snoc, sumD_snoc, sumD_snoc]
 have h1 := sumD_dot f (foldD m) x h
 have h2 := sum_fold f m
 have h3 := hf x
 omega
theorem sum_one (l : List ByteArray) : sumD (fun _ => 1) l = l.length := by
 induction l with
 | nil => rfl
 | cons x l ih => simp only [sumD, List.map_cons, List.sum_cons, List.length_cons] at ih ⊢; omega
theorem sum_size (l : List ByteArray) : sumD (fun x => x.size + 1) l = (slL l).length := by
 induction l with
 | nil => rfl
 | cons x l ih =>
  simp only [sumD, List.map_cons, List.sum_cons, slL, List.flatMap_cons, List.length_append, List.length_cons] at ih ⊢
  rw [ih]
  simp [toL]
theorem kept_length (l : List ByteArray) : (keptD l).length ≤ l.length := by
 have h := sum_kept (fun _ => 1) (fun _ => Nat.le_refl _) l
 rwa [sum_one, sum_one] at h
theorem kept_size (l : List ByteArray) : (slL (keptD l)).length ≤ (slL l).length := by
 have h := sum_kept (fun x => x.size + 1) (fun x => Nat.add_le_add_right (Nat.zero_le _) 1) l
 rwa [sum_size, sum_size] at h
theorem fold_length (l : List ByteArray) : (foldD l).length ≤ l.length := by
 have h := sum_fold (fun _ => 1) l
 rwa [sum_one, sum_one] at h
theorem kept_ne {l : List ByteArray} (h : 0 < l.length) : keptD l ≠ [] := by
 unfold keptD
 split
 ·next e =>
  rcases List.eq_nil_or_concat l with e1 | ⟨m, x, e1⟩
  ·rw [e1] at h; simp at h
  rw [List.concat_eq_append] at e1
  rw [e1, lastD_snoc] at e
  rw [e1, foldD_snoc]
  unfold stepD
  rw [if_pos e]
  simp
 simp
theorem dropT_data {p : ByteArray} (h : rooted p = true) : (dropT p).data.toList = slL (keptD (partsD p)) := by
 unfold dropT
 rw [if_pos h]
theorem dropT_size (p : ByteArray) : (dropT p).size ≤ p.size := by
 by_cases h : rooted p = true
 ·have h1 := kept_size (partsD p)
  rw [← dropT_data h, sl_parts h] at h1
  simpa using h1
 unfold dropT
 rw [if_neg h]
 exact Nat.le_refl _
theorem dot_hit {s : ByteArray} {k n : Nat} (hk : k < s.size) (h : s[k].toNat = 46) (he : unL s.data.toList = List.replicate n 46 ++ unL (s.data.toList.drop k)) :
  unL s.data.toList = List.replicate (n + 1) 46 ++ unL (s.data.toList.drop (k + 1)) := by
 have hp : pctAt s k < 0 := by
  by_cases h2 : k + 2 < s.size
  ·rw [pctAt_in s k h2]; unfold pctV; rw [if_neg (by omega)]; omega
  rw [pctAt_out s k (by omega)]; omega
 have hc : s[k] = 46 := UInt8.toNat_inj.1 h
 rw [he]
 unfold unL
 rw [tok_miss _ _ s k hk hp, hc, List.replicate_succ']
 simp
theorem dot_pct {s : ByteArray} {k n : Nat} (hk : k + 2 < s.size) (h : s[k].toNat = 37) (h1 : s[k + 1].toNat = 50) (h2 : s[k + 2].toNat = 101 ∨ s[k + 2].toNat = 69) (he : unL s.data.toList = List.replicate n 46 ++ unL (s.data.toList.drop k)) :
  unL s.data.toList = List.replicate (n + 1) 46 ++ unL (s.data.toList.drop (k + 3)) := by
 have hp : pctAt s k = 46 := by
  rw [pctAt_in s k hk, h, h1]
  rcases h2 with h2 | h2 <;> rw [h2] <;> decide
 rw [he]
 unfold unL
 rw [tok_hit _ _ s k (by omega), hp, List.replicate_succ']
 simp
theorem hex_2e : ∀ x, x < 256 → ∀ y, y < 256 → hexN x * 16 + hexN y = 46 → 0 ≤ hexN x → 0 ≤ hexN y → x = 50 ∧ (y = 101 ∨ y = 69) := by
 intro x _ y _ h hx hy
 have h1 := hexN_le x
 have h2 := hexN_le y
 have hx2 : hexN x = 2 := by omega
 have hy2 : hexN y = 14 := by omega
 unfold hexN at hx2 hy2
 refine ⟨?_, ?_⟩
 ·split at hx2
  ·omega
  split at hx2
  ·omega
  split at hx2 <;> omega
 split at hy2
 ·omega
 split at hy2
 ·omega
 split at hy2 <;> omega
theorem dot_out {s : ByteArray} {k n : Nat} (hk : k < s.size) (h : s[k].toNat ≠ 46) (h2 : ∀ _ : k + 2 < s.size, ¬ (s[k].toNat = 37 ∧ s[k + 1].toNat = 50 ∧ (s[k + 2].toNat = 101 ∨ s[k + 2].toNat = 69)))
  (he : unL s.data.toList = List.replicate n 46 ++ unL (s.data.toList.drop k)) : isd s.data.toList = 0 := by
 by_cases hp : 0 ≤ pctAt s k
 ·have hk2 := pctAt_lt hp
  have hin := pctAt_in s k hk2
  have hne : pctAt s k ≠ 46 := by
   intro e
   rw [hin] at e
   unfold pctV at e
   split at e
   ·next hc =>
    have := hex_2e _ s[k + 1].toNat_lt _ s[k + 2].toNat_lt e hc.2.1 hc.2.2
    exact h2 hk2 ⟨hc.1, this.1, this.2⟩
   omega
  have hle := pctAt_le s k
  refine isd_other (n := n) (c := UInt8.ofNat (pctAt s k).toNat) (r := unL (s.data.toList.drop (k + 3))) ?_ ?_
  ·rw [he]
   conv => lhs; rw [show unL (s.data.toList.drop k) = _ from tok_hit _ _ s k hp]
   rfl
  intro e
  have e2 := congrArg UInt8.toNat e
  have e3 : (UInt8.ofNat (pctAt s k).toNat).toNat = (pctAt s k).toNat % 256 := by simp
  rw [e3] at e2
  have e4 : (pctAt s k).toNat % 256 = 46 := e2
  omega
 refine isd_other (n := n) (c := s[k]) (r := unL (s.data.toList.drop (k + 1))) ?_ fun e => h (by rw [e]; rfl)
 rw [he]
 conv => lhs; rw [show unL (s.data.toList.drop k) = _ from tok_miss _ _ s k hk (by omega)]
 rfl
theorem dot_end {s : ByteArray} {k n : Nat} (hk : s.size ≤ k) (he : unL s.data.toList = List.replicate n 46 ++ unL (s.data.toList.drop k)) : isd s.data.toList = if 1 ≤ n ∧ n ≤ 2 then n else 0 := by
 apply isd_dots
 rw [he, List.drop_of_length_le (by simpa using hk)]
 simp [unL, tokL]
theorem step_zero {out : List ByteArray} {x : ByteArray} (h : isd (toL x) = 0) : stepD out x = out ++ [x] := by unfold stepD; rw [if_pos h]
theorem step_one {out : List ByteArray} {x : ByteArray} (h : isd (toL x) = 1) : stepD out x = out := by unfold stepD; rw [if_neg (by omega), if_neg (by omega)]
theorem step_two {out : List ByteArray} {x : ByteArray} (h : isd (toL x) = 2) : stepD out x = out.take (out.length - 1) := by unfold stepD; rw [if_neg (by omega), if_pos h, List.dropLast_eq_take]
theorem fold_take (l : List ByteArray) (k : Nat) (h : k < l.length) : foldD (l.take (k + 1)) = stepD (foldD (l.take k)) (l.getD k ByteArray.empty) := by
 rw [btake_snoc l k h, foldD_snoc]
theorem sl_snoc (l : List ByteArray) (x : ByteArray) : slL (l ++ [x]) = slL l ++ 47 :: toL x := by simp [slL]
theorem sl_take (l : List ByteArray) (k : Nat) : (slL (l.take k)).length ≤ (slL l).length := by
 conv => rhs; rw [← List.take_append_drop k l]
 unfold slL
 rw [List.flatMap_append, List.length_append]
 omega
def plB (set : Int) (x : ByteArray) : ByteArray := ⟨(plL set (toL x)).toArray⟩
theorem toL_plB (set : Int) (x : ByteArray) : toL (plB set x) = plL set (toL x) := rfl
def pathOk (p : ByteArray) : Prop := rooted p = true ∧ okL 1 (toL p) = true ∧ plL 1 (toL p) = toL p ∧ dropT p = p
def dport (s : Int) : Int := if s = 1 then 80 else if s = 2 then 443 else 0
theorem specDefaultPort (s : Int) (w : World) :
  Calls Tryz.prog 48 #[.int .i64 s] w fun e w' => e = .returned (.int .i64 (dport s)) ∧ w = w' := by
 by_cases h1 : s = 1
 ·subst h1
  go_enter Tryz.func48, Tryz.ntmps48
  go_wp2
  go_ret
  exact ⟨rfl, rfl⟩
 have q1 : (s == 1) = false := beq_eq_false_iff_ne.2 h1
 by_cases h2 : s = 2
 ·subst h2
  go_enter Tryz.func48, Tryz.ntmps48
  go_wp2
  go_ret
  exact ⟨rfl, rfl⟩
 have q2 : (s == 2) = false := beq_eq_false_iff_ne.2 h2
 have HD : Hid (dport s = 0) := by show _ = _; unfold dport; rw [if_neg h1, if_neg h2]
 clear h1 h2
 go_enter Tryz.func48, Tryz.ntmps48
 go_wp2
 go_ret
 exact ⟨ret_int (by rw [HD.out]), rfl⟩
end Go.Proofs.YtidecdlaeomfoaaGreat
