/- Contracts of the drawing helpers: a cursor over the bytes of a draw. What is drawn is not said: that something is, within its range, and that nothing turns but the cursor. -/
import Derived.Test.YtdnlaijpgjpplaaRows
import Derived.Test.YtdnlaijpgjpplaaBase
import Derived.Test.YtdnlaijpgjpplaaBits
import Derived.BigQuiet
import Derived.Deep.QuietTactic
import Derived.Deep.DeepCutAuto
namespace Go.Proofs.Ytdnlaijpgjpplaa
open Go.RowKit

/-- The bytes of a draw, below block D. -/
def CodeRow (D : Nat) (w : World) (ao : Option Addr) (len : Nat) : Prop :=
  len = 0 ∨ ∃ b off, ao = some ⟨b, off, none⟩ ∧ b < D ∧ ∀ j, j < len → ∃ x : Int, w.cell? ⟨b, off + j, none⟩ = some (.int .u8 x) ∧ 0 ≤ x ∧ x ≤ 255

/-- A cursor in block B. -/
def Cur (D B : Nat) (ao : Option Addr) (len cap : Nat) (w : World) : Prop :=
  ∃ i h : Int, w.heap[B]? = some (.cells #[.slice ao len cap, .int .i64 i, .int .i64 h] 58 (0, 0)) ∧ 0 ≤ i ∧ i ≤ len ∧ len ≤ 1048576 ∧ D ≤ B ∧ CodeRow D w ao len

theorem i64_and255 (n : Int) : bits .and .i64 n 255 = n % 256 := by
  have h255 : (BitVec.ofInt 64 255).toNat = 2 ^ 8 - 1 := by decide
  have key : (BitVec.ofInt 64 n &&& BitVec.ofInt 64 255).toNat = (n % ((2 ^ 64 : Nat) : Int)).toNat % 2 ^ 8 := by
    rw [BitVec.toNat_and, BitVec.toNat_ofInt, h255, Nat.and_two_pow_sub_one_eq_mod]
  show IntKind.i64.wrap ((BitVec.ofInt 64 n &&& BitVec.ofInt 64 255).toNat : Nat) = n % 256
  rw [key, IntKind.wrap_i64]
  omega

theorem CodeRow.grown {D : Nat} {w w' : World} {ao : Option Addr} {len : Nat} (h : CodeRow D w ao len) (hb : ∀ k, k < D → w'.heap[k]? = w.heap[k]?) : CodeRow D w' ao len := by
  rcases h with h | ⟨b, off, h1, h2, h3⟩
  · exact .inl h
  · refine .inr ⟨b, off, h1, h2, fun j hj => ?_⟩
    obtain ⟨x, h4, h5⟩ := h3 j hj
    exact ⟨x, (World.cell?_of_block (w := w) (a := ⟨b, off + j, none⟩) (hb b h2)).trans h4, h5⟩

theorem heap_set3 {w : World} {B k : Nat} {cs : Array Value} {t : TypeId} (v : Value) (h : w.heap[B]? = some (.cells cs t (0, 0))) : (w.setCell ⟨B, k, none⟩ v).heap[B]? = some (.cells (cs.setIfInBounds k v) t (0, 0)) :=
  heap_setCell_same w B k cs t v h

theorem Cur.seth {D B : Nat} {ao : Option Addr} {len cap : Nat} {w : World} {i h : Int} (hc : w.heap[B]? = some (.cells #[.slice ao len cap, .int .i64 i, .int .i64 h] 58 (0, 0))) (h0 : 0 ≤ i) (h1 : i ≤ len) (hl : len ≤ 1048576) (hDB : D ≤ B) (hcode : CodeRow D w ao len) (h' : Int) :
    Cur D B ao len cap (w.setCell ⟨B, 2, none⟩ (.int .i64 h')) ∧ w.grownBy (w.setCell ⟨B, 2, none⟩ (.int .i64 h')) (some B) := by
  refine ⟨⟨i, h', ?_, h0, h1, hl, hDB, hcode.grown fun k hk => Below.heap_setCell _ _ _ _ (by simp; omega)⟩, ⟨rfl, rfl, rfl, by simp [World.setCell], fun k _ hk => Below.heap_setCell _ _ _ _ (fun e => hk (by simp [e]))⟩⟩
  rw [heap_set3 _ hc]
  rfl

theorem Cur.seti {D B : Nat} {ao : Option Addr} {len cap : Nat} {w : World} {i h : Int} (hc : w.heap[B]? = some (.cells #[.slice ao len cap, .int .i64 i, .int .i64 h] 58 (0, 0))) (hl : len ≤ 1048576) (hDB : D ≤ B) (hcode : CodeRow D w ao len) (i' : Int) (h0 : 0 ≤ i') (h1 : i' ≤ len) :
    Cur D B ao len cap (w.setCell ⟨B, 1, none⟩ (.int .i64 i')) ∧ w.grownBy (w.setCell ⟨B, 1, none⟩ (.int .i64 i')) (some B) := by
  refine ⟨⟨i', h, ?_, h0, h1, hl, hDB, hcode.grown fun k hk => Below.heap_setCell _ _ _ _ (by simp; omega)⟩, ⟨rfl, rfl, rfl, by simp [World.setCell], fun k _ hk => Below.heap_setCell _ _ _ _ (fun e => hk (by simp [e]))⟩⟩
  rw [heap_set3 _ hc]
  rfl

theorem cur_cells {w : World} {B : Nat} {a b c : Value} {t : TypeId} (h : w.heap[B]? = some (.cells #[a, b, c] t (0, 0))) :
    w.cell? ⟨B, 0, none⟩ = some a ∧ w.cell? ⟨B, 1, none⟩ = some b ∧ w.cell? ⟨B, 2, none⟩ = some c ∧ ∀ j, w.frozen? ⟨B, j, none⟩ = false := by
  refine ⟨?_, ?_, ?_, fun j => frozen_of_row w B j _ t h⟩ <;> (rw [cell_of_row w B _ _ t (0, 0) h]; rfl)

theorem Cur.drewN {D B : Nat} {ao : Option Addr} {len cap : Nat} {w : World} (h : Cur D B ao len cap w) (n : Nat) : Cur D B ao len cap (w.drewN n) := h

theorem grow_drewN {w w' : World} {row : Option Nat} (h : w.grownBy w' row) (n : Nat) : w.grownBy (w'.drewN n) row := ⟨h.os, h.tape, h.output, h.size, h.block⟩

set_option maxHeartbeats 2000000 in
theorem l1Byte (D B : Nat) (ao : Option Addr) (len cap : Nat) (w : World) (hcur : Cur D B ao len cap w) :
    Calls Try.prog 46 #[.pointer (some ⟨B, 0, none⟩)] w fun e w' => ∃ x : Int, 0 ≤ x ∧ x ≤ 255 ∧ e = .returned (.int .i64 x) ∧ Cur D B ao len cap w' ∧ w.grownBy w' (some B) := by
  obtain ⟨i, h, hc, h0, h1, hl, hDB, hcode⟩ := hcur
  obtain ⟨c0, c1, c2, cf⟩ := cur_cells hc
  have f2 := cf 2
  have HS : Hid (∀ h', Cur D B ao len cap (w.setCell ⟨B, 2, none⟩ (.int .i64 h')) ∧ w.grownBy (w.setCell ⟨B, 2, none⟩ (.int .i64 h')) (some B)) := fun h' => Cur.seth hc h0 h1 hl hDB hcode h'
  clear hc cf hcode hDB
  go_enter Try.func46, Try.ntmps46
  go_upto_region 1 with fail
  go_cut [] (fun w1 => Cur D B ao len cap w1 ∧ w.grownBy w1 (some B))
  case first =>
    go_wp2_with fail
    go_meet
    case rel => exact HS.out _
  case rest =>
    clear HS c0 c1 c2 f2 h0 h1 hl
    go_upto_region 2 with fail
    go_cut [3] (fun v w1 => ∃ x : Int, v = .int .i64 x ∧ 0 ≤ x ∧ x ≤ 255 ∧ Cur D B ao len cap w1 ∧ w.grownBy w1 (some B))
    case first =>
      obtain ⟨hcu, hgr⟩ := hcut
      have HU : Hid (Cur D B ao len cap wc) := hcu
      obtain ⟨i', h', hc, h0, h1, hl, hDB, hcode⟩ := hcu
      obtain ⟨c0, c1, c2, cf⟩ := cur_cells hc
      clear hc hcode cf hDB
      go_quiet (fail)
      go_wp2_with fail
      go_meet
      case rel =>
        refine ⟨_, rfl, ?_, ?_, HU.out.drewN _, grow_drewN hgr _⟩
        · rw [i64_and255]; omega
        · rw [i64_and255]; omega
    case rest =>
      obtain ⟨x, rfl, hx0, hx1, hcu, hgr⟩ := hcut
      have HU : Hid (Cur D B ao len cap wc) := hcu
      obtain ⟨i', h', hc, h0, h1, hl, hDB, hcode⟩ := hcu
      have HI : Hid (∀ i'' : Int, 0 ≤ i'' → i'' ≤ len → Cur D B ao len cap (wc.setCell ⟨B, 1, none⟩ (.int .i64 i'')) ∧ wc.grownBy (wc.setCell ⟨B, 1, none⟩ (.int .i64 i'')) (some B)) := fun i'' a b => Cur.seti hc hl hDB hcode i'' a b
      obtain ⟨c0, c1, c2, cf⟩ := cur_cells hc
      have f1 := cf 1
      clear hc cf hDB
      by_cases hlt : i' < (len : Int)
      · rcases hcode with hz | ⟨b, off, rfl, hb, hcells⟩
        · omega
        · obtain ⟨n, rfl⟩ := Int.eq_ofNat_of_zero_le h0
          obtain ⟨y, cy, hy0, hy1⟩ := hcells n (by omega)
          clear hcells c2
          go_wp2_with fail
          go_quiet (fail)
          go_wp2_with fail
          go_quiet (fail)
          go_wp2_with fail
          go_ret
          refine ⟨_, ?_, ?_, rfl, ?_, ?_⟩
          · rw [i64_and255]; omega
          · rw [i64_and255]; omega
          · exact (HI.out ((n : Int) + 1) (by omega) (by omega)).1
          · have g := grow_trans hgr (HI.out ((n : Int) + 1) (by omega) (by omega)).2
            exact ⟨g.os, g.tape, g.output, g.size, g.block⟩
      · clear hcode c2 f1
        go_wp2_with fail
        go_quiet (fail)
        go_wp2_with fail
        go_ret
        exact ⟨x, hx0, hx1, rfl, HU.out.drewN _, grow_drewN hgr _⟩

set_option maxHeartbeats 2000000 in
theorem l1Below (n : Int) (D B : Nat) (ao : Option Addr) (len cap : Nat) (w : World) (hn : 0 < n) (hn1 : n ≤ 1099511627776) (hcur : Cur D B ao len cap w) :
    Calls Try.prog 34 #[.pointer (some ⟨B, 0, none⟩), .int .i64 n] w fun e w' => ∃ x : Int, 0 ≤ x ∧ x < n ∧ e = .returned (.int .i64 x) ∧ Cur D B ao len cap w' ∧ w.grownBy w' (some B) := by
  have hz : ¬ n ≤ 0 := by omega
  have hne : (n == 0) = false := by simp; omega
  have HC : Hid (Cur D B ao len cap w) := hcur
  clear hcur
  by_cases h256 : n ≤ 256
  · go_enter Try.func34, Try.ntmps34
    go_wp2_with fail
    refine (l1Byte _ _ _ _ _ _ HC.out).mono ?_
    rintro e wa ⟨x, hx0, hx1, rfl, ca, ga⟩
    have CA : Hid (Cur D B ao len cap wa) := ca
    clear ca
    go_wp2_with fail
    go_ret
    refine ⟨_, ?_, ?_, rfl, CA.out, ga⟩
    · first | exact Int.emod_nonneg _ (by omega) | omega
    · first | exact Int.emod_lt_of_pos _ hn | omega
  · go_enter Try.func34, Try.ntmps34
    go_wp2_with fail
    refine (l1Byte _ _ _ _ _ _ HC.out).mono ?_
    rintro e wa ⟨x, hx0, hx1, rfl, ca, ga⟩
    have CA : Hid (Cur D B ao len cap wa) := ca
    clear ca
    go_wp2_with fail
    refine (l1Byte _ _ _ _ _ _ CA.out).mono ?_
    rintro e wb ⟨y, hy0, hy1, rfl, cb, gb⟩
    have CB : Hid (Cur D B ao len cap wb) := cb
    clear cb
    go_wp2_with fail
    refine (l1Byte _ _ _ _ _ _ CB.out).mono ?_
    rintro e wc ⟨z, hz0, hz1, rfl, cc, gc⟩
    have CC : Hid (Cur D B ao len cap wc) := cc
    clear cc
    go_wp2_with fail
    go_ret
    refine ⟨_, ?_, ?_, rfl, CC.out, grow_trans (grow_trans ga gb) gc⟩
    · first | exact Int.emod_nonneg _ (by omega) | omega
    · first | exact Int.emod_lt_of_pos _ hn | omega

set_option maxHeartbeats 1000000 in
theorem l1Once (n : Int) (D B : Nat) (ao : Option Addr) (len cap : Nat) (w : World) (hn : 0 < n) (hn1 : n ≤ 1099511627776) (hcur : Cur D B ao len cap w) :
    Calls Try.prog 20 #[.pointer (some ⟨B, 0, none⟩), .int .i64 n] w fun e w' => ∃ b : Bool, e = .returned (.bool b) ∧ Cur D B ao len cap w' ∧ w.grownBy w' (some B) := by
  have HC : Hid (Cur D B ao len cap w) := hcur
  clear hcur
  go_enter Try.func20, Try.ntmps20
  go_wp2_with fail
  refine (l1Below n _ _ _ _ _ _ hn hn1 HC.out).mono ?_
  rintro e wa ⟨x, hx0, hx1, rfl, ca, ga⟩
  have CA : Hid (Cur D B ao len cap wa) := ca
  clear ca
  go_wp2_with fail
  go_ret
  exact ⟨_, rfl, CA.out, ga⟩

set_option maxHeartbeats 1000000 in
theorem l1Int (m g cp G : Nat) (zs : List Int) (D B : Nat) (ao : Option Addr) (len cap : Nat) (w : World) (hm : 0 < m) (hm1 : m ≤ 1099511627776) (hcur : Cur D B ao len cap w)
    (hown : w.ownsRow G 3 1 (.slice (some ⟨g, 0, none⟩) m cp) m (icells zs)) (hgB : g ≠ B) :
    Calls Try.prog 21 #[.pointer (some ⟨B, 0, none⟩), .slice (some ⟨g, 0, none⟩) m cp] w fun e w' => ∃ z : Int, z ∈ zs ∧ e = .returned (.int .i64 z) ∧ Cur D B ao len cap w' ∧ w.grownBy w' (some B) := by
  have HC : Hid (Cur D B ao len cap w) := hcur
  clear hcur
  go_enter Try.func21, Try.ntmps21
  go_wp2_with fail
  refine (l1Below (m : Int) _ _ _ _ _ _ (by omega) (by omega) HC.out).mono ?_
  rintro e wa ⟨x, hx0, hx1, rfl, ca, ga⟩
  have CA : Hid (Cur D B ao len cap wa) := ca
  have oa : wa.ownsRow G 3 1 (.slice (some ⟨g, 0, none⟩) m cp) m (icells zs) := hown.kept ga (by simp [Value.ownBlock, hgB])
  obtain ⟨k, rfl⟩ := Int.eq_ofNat_of_zero_le hx0
  have cc := icell_at oa k (by omega)
  have hl : zs.length = m := by have := hown.1; simpa [icells] using this
  have HM : Hid (zs.getD k 0 ∈ zs) := by
    show _ ∈ _
    rw [List.getD_eq_getElem?_getD, List.getElem?_eq_getElem (by omega)]
    exact List.getElem_mem _
  clear ca oa hown hl
  generalize zs.getD k 0 = z at *
  go_wp2_with fail
  go_ret
  exact ⟨z, HM.out, rfl, CA.out, ga⟩

set_option maxHeartbeats 1000000 in
theorem l1Str (m g cp G : Nat) (fs : List ByteArray) (D B : Nat) (ao : Option Addr) (len cap : Nat) (w : World) (hm : 0 < m) (hm1 : m ≤ 1099511627776) (hcur : Cur D B ao len cap w)
    (hown : w.ownsRow G 9 1 (.slice (some ⟨g, 0, none⟩) m cp) m (scells fs)) (hgB : g ≠ B) :
    Calls Try.prog 35 #[.pointer (some ⟨B, 0, none⟩), .slice (some ⟨g, 0, none⟩) m cp] w fun e w' => ∃ z : ByteArray, z ∈ fs ∧ e = .returned (.string z) ∧ Cur D B ao len cap w' ∧ w.grownBy w' (some B) := by
  have HC : Hid (Cur D B ao len cap w) := hcur
  clear hcur
  go_enter Try.func35, Try.ntmps35
  go_wp2_with fail
  refine (l1Below (m : Int) _ _ _ _ _ _ (by omega) (by omega) HC.out).mono ?_
  rintro e wa ⟨x, hx0, hx1, rfl, ca, ga⟩
  have CA : Hid (Cur D B ao len cap wa) := ca
  have oa : wa.ownsRow G 9 1 (.slice (some ⟨g, 0, none⟩) m cp) m (scells fs) := hown.kept ga (by simp [Value.ownBlock, hgB])
  obtain ⟨k, rfl⟩ := Int.eq_ofNat_of_zero_le hx0
  have cc := scell_at oa k (by omega)
  have hl : fs.length = m := by have := hown.1; simpa [scells] using this
  have HM : Hid (fs.getD k ByteArray.empty ∈ fs) := by
    show _ ∈ _
    rw [List.getD_eq_getElem?_getD, List.getElem?_eq_getElem (by omega)]
    exact List.getElem_mem _
  clear ca oa hown hl
  generalize fs.getD k ByteArray.empty = z at *
  go_wp2_with fail
  go_ret
  exact ⟨z, HM.out, rfl, CA.out, ga⟩

set_option maxRecDepth 100000 in
set_option maxHeartbeats 2000000 in
theorem l1New (ao : Option Addr) (len cap : Nat) (w : World) (hl : len ≤ 1048576) (hcode : CodeRow w.heap.size w ao len) :
    Calls Try.prog 16 #[.slice ao len cap] w fun e w' => ∃ B : Nat, e = .returned (.pointer (some ⟨B, 0, none⟩)) ∧ w.heap.size ≤ B ∧ Cur w.heap.size B ao len cap w' ∧ Below w.heap.size w w' := by
  have HC : Hid (∀ h : Int, Cur w.heap.size w.heap.size ao len cap (w.alloc (.cells #[.slice ao len cap, .int .i64 0, .int .i64 h] 58))) := fun h =>
    ⟨0, h, heap_alloc_new w _, by omega, by omega, hl, Nat.le_refl _, hcode.grown fun k hk => Below.heap_alloc w _ k hk⟩
  have HD : Hid (CodeRow w.heap.size w ao len) := hcode
  clear hcode
  go_enter Try.func16, Try.ntmps16
  go_wp2
  go_loop [3, 4] (fun a i => ∃ (k : Nat) (h : Int), k ≤ len ∧ i = .int .i64 k ∧ a = .int .i64 h) (fun _ i => len - (intOf i).toNat)
  case atStart => exact ⟨0, _, Nat.zero_le _, rfl, rfl⟩
  case round =>
    obtain ⟨k, h, hk, rfl, rfl⟩ := hrel
    by_cases hlt : k < len
    · by_cases h4 : (k : Int) < 4000
      · rcases HD.out with hz | ⟨b, off, rfl, hb, hcells⟩
        · omega
        · obtain ⟨y, cy, hy0, hy1⟩ := hcells k hlt
          clear hcells
          go_wp2
          go_round
          case rel => exact ⟨k + 1, _, by omega, by go_num, rfl⟩
          case measure => simp [intOf]; omega
      · go_wp2
        go_ret
        exact ⟨w.heap.size, rfl, Nat.le_refl _, HC.out h, (Below.refl _ _).alloc (Nat.le_refl _) _⟩
    · go_wp2
      go_ret
      exact ⟨w.heap.size, rfl, Nat.le_refl _, HC.out h, (Below.refl _ _).alloc (Nat.le_refl _) _⟩

/-- Each is a text of at most M bytes. -/
def strsOk (M : Nat) (xs : List Value) : Bool := xs.all fun | .string z => decide (z.size ≤ M) | _ => false
/-- Each is an int. -/
def intsOk (xs : List Value) : Bool := xs.all fun | .int .i64 _ => true | _ => false

theorem strsOk_scells {M : Nat} : ∀ {xs : List Value}, strsOk M xs = true → ∃ fs : List ByteArray, xs = scells fs ∧ ∀ z ∈ fs, z.size ≤ M
  | [], _ => ⟨[], rfl, fun z h => by simp at h⟩
  | u :: xs, h => by
    simp only [strsOk, List.all_cons, Bool.and_eq_true] at h
    obtain ⟨h1, h2⟩ := h
    obtain ⟨fs, rfl, hf⟩ := strsOk_scells (xs := xs) h2
    cases u with
    | string z => exact ⟨z :: fs, rfl, fun y hy => by rcases List.mem_cons.1 hy with rfl | hy; exact of_decide_eq_true h1; exact hf y hy⟩
    | _ => simp at h1

theorem intsOk_icells : ∀ {xs : List Value}, intsOk xs = true → ∃ zs : List Int, xs = icells zs
  | [], _ => ⟨[], rfl⟩
  | u :: xs, h => by
    simp only [intsOk, List.all_cons, Bool.and_eq_true] at h
    obtain ⟨h1, h2⟩ := h
    obtain ⟨zs, rfl⟩ := intsOk_icells (xs := xs) h2
    cases u with
    | int k z =>
      cases k with
      | i64 => exact ⟨z :: zs, rfl⟩
      | _ => simp at h1
    | _ => simp at h1

theorem l1StrX (M m g cp G : Nat) (xs : List Value) (D B : Nat) (ao : Option Addr) (len cap : Nat) (w : World) (hm : 0 < m) (hm1 : m ≤ 1099511627776) (hcur : Cur D B ao len cap w)
    (hown : w.ownsRow G 9 1 (.slice (some ⟨g, 0, none⟩) m cp) m xs) (hgB : g ≠ B) (hx : strsOk M xs = true) :
    Calls Try.prog 35 #[.pointer (some ⟨B, 0, none⟩), .slice (some ⟨g, 0, none⟩) m cp] w fun e w' => ∃ z : ByteArray, z.size ≤ M ∧ e = .returned (.string z) ∧ Cur D B ao len cap w' ∧ w.grownBy w' (some B) := by
  obtain ⟨fs, rfl, hf⟩ := strsOk_scells hx
  refine (l1Str m g cp G fs D B ao len cap w hm hm1 hcur hown hgB).mono ?_
  rintro e w' ⟨z, hz, he, hc, hg⟩
  exact ⟨z, hf z hz, he, hc, hg⟩

theorem l1IntX (m g cp G : Nat) (xs : List Value) (D B : Nat) (ao : Option Addr) (len cap : Nat) (w : World) (hm : 0 < m) (hm1 : m ≤ 1099511627776) (hcur : Cur D B ao len cap w)
    (hown : w.ownsRow G 3 1 (.slice (some ⟨g, 0, none⟩) m cp) m xs) (hgB : g ≠ B) (hx : intsOk xs = true) :
    Calls Try.prog 21 #[.pointer (some ⟨B, 0, none⟩), .slice (some ⟨g, 0, none⟩) m cp] w fun e w' => ∃ z : Int, e = .returned (.int .i64 z) ∧ Cur D B ao len cap w' ∧ w.grownBy w' (some B) := by
  obtain ⟨zs, rfl⟩ := intsOk_icells hx
  refine (l1Int m g cp G zs D B ao len cap w hm hm1 hcur hown hgB).mono ?_
  rintro e w' ⟨z, _, he, hc, hg⟩
  exact ⟨z, he, hc, hg⟩

theorem Cur.lt {D B : Nat} {ao : Option Addr} {len cap : Nat} {w : World} (h : Cur D B ao len cap w) : B < w.heap.size := by
  obtain ⟨i, h', hc, _⟩ := h
  exact (Array.getElem?_eq_some_iff.1 hc).1

theorem Cur.keep {D B : Nat} {ao : Option Addr} {len cap : Nat} {w w' : World} (h : Cur D B ao len cap w) (hB : w'.heap[B]? = w.heap[B]?) (hD : ∀ k, k < D → w'.heap[k]? = w.heap[k]?) : Cur D B ao len cap w' := by
  obtain ⟨i, h', hc, h0, h1, hl, hDB, hcode⟩ := h
  exact ⟨i, h', hB.trans hc, h0, h1, hl, hDB, hcode.grown hD⟩

theorem Cur.le {D B : Nat} {ao : Option Addr} {len cap : Nat} {w : World} (h : Cur D B ao len cap w) : D ≤ B := by
  obtain ⟨i, h', hc, h0, h1, hl, hDB, hcode⟩ := h
  exact hDB

theorem Cur.below {D B : Nat} {ao : Option Addr} {len cap : Nat} {w w' : World} (h : Cur D B ao len cap w) (hb : ∀ k, k < w.heap.size → w'.heap[k]? = w.heap[k]?) : Cur D B ao len cap w' := by
  have hlt := h.lt
  have hle := h.le
  exact h.keep (hb B hlt) fun k hk => hb k (by omega)

theorem Cur.alloc {D B : Nat} {ao : Option Addr} {len cap : Nat} {w : World} (h : Cur D B ao len cap w) (o : Obj) : Cur D B ao len cap (w.alloc o) := h.below fun k hk => Below.heap_alloc w o k hk

theorem grow_alloc {w w1 : World} {row : Option Nat} (h : w.grownBy w1 row) (o : Obj) : w.grownBy (w1.alloc o) row := grow_trans h (World.grownBy_alloc w1 o row)

theorem big_no (ao : Option Addr) (len cap : Nat) (w : World) (h : (len : Int) ≤ 1048576) : Calls Try.prog 5 #[.slice ao len cap] w fun e w' => e = .returned (.bool false) ∧ w = w' := by
  go_enter Try.func5, Try.ntmps5
  go_wp2
  go_ret
  exact ⟨ret_bool (by simp <;> omega), rfl⟩

theorem big_yes (ao : Option Addr) (len cap : Nat) (w : World) (h : 1048576 < (len : Int)) : Calls Try.prog 5 #[.slice ao len cap] w fun e w' => e = .returned (.bool true) ∧ w = w' := by
  go_enter Try.func5, Try.ntmps5
  go_wp2
  go_ret
  exact ⟨ret_bool (by simp <;> omega), rfl⟩

theorem CodeRow.le {D D' : Nat} {w : World} {ao : Option Addr} {len : Nat} (h : CodeRow D w ao len) (hD : D ≤ D') : CodeRow D' w ao len := by
  rcases h with h | ⟨b, off, h1, h2, h3⟩
  · exact .inl h
  · exact .inr ⟨b, off, h1, by omega, h3⟩

theorem CodeRow.later {w w' : World} {ao : Option Addr} {len : Nat} (h : CodeRow w.heap.size w ao len) (hb : Below w.heap.size w w') : CodeRow w'.heap.size w' ao len :=
  (h.grown hb.block).le hb.size
end Go.Proofs.Ytdnlaijpgjpplaa
