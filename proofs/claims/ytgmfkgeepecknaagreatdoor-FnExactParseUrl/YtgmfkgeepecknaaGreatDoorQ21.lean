/- HostKinds, UrlKinds, ArrEq, HostEq, RuneImpl. -/
import Derived.Handy
import Derived.Test.YtgmfkgeepecknaaGreatDoorQ16
import Derived.RangeFuncBox
import Derived.ChangeKeysEq
import Derived.Laws.StructEq
set_option maxHeartbeats 2000000
set_option maxRecDepth 100000
namespace Go.Proofs.YtgmfkgeepecknaaGreatDoor
open Go.RowKit
def HostCells (w W : World) (k : Int) (s : ByteArray) (n : Int) (x0 x1 x2 x3 x4 x5 x6 x7 : Int) : Prop :=
 W.cell? ⟨w.heap.size, 0, none⟩ = some (.int .i64 k) ∧ W.cell? ⟨w.heap.size, 1, none⟩ = some (.string s) ∧ W.cell? ⟨w.heap.size, 2, none⟩ = some (.int .i64 n) ∧
 W.cell? ⟨w.heap.size, 3, none⟩ = some (.int .i64 x0) ∧ W.cell? ⟨w.heap.size, 4, none⟩ = some (.int .i64 x1) ∧ W.cell? ⟨w.heap.size, 5, none⟩ = some (.int .i64 x2) ∧ W.cell? ⟨w.heap.size, 6, none⟩ = some (.int .i64 x3) ∧
 W.cell? ⟨w.heap.size, 7, none⟩ = some (.int .i64 x4) ∧ W.cell? ⟨w.heap.size, 8, none⟩ = some (.int .i64 x5) ∧ W.cell? ⟨w.heap.size, 9, none⟩ = some (.int .i64 x6) ∧ W.cell? ⟨w.heap.size, 10, none⟩ = some (.int .i64 x7)
theorem host_cells (w W : World) (k : Int) (s : ByteArray) (n : Int) (x0 x1 x2 x3 x4 x5 x6 x7 : Int) (t : TypeId) (hb : Below (w.alloc (.cells #[.int .i64 k, .string s, .int .i64 n, .int .i64 x0, .int .i64 x1, .int .i64 x2, .int .i64 x3, .int .i64 x4, .int .i64 x5, .int .i64 x6, .int .i64 x7] t)).heap.size (w.alloc (.cells #[.int .i64 k, .string s, .int .i64 n, .int .i64 x0, .int .i64 x1, .int .i64 x2, .int .i64 x3, .int .i64 x4, .int .i64 x5, .int .i64 x6, .int .i64 x7] t)) W) :
  HostCells w W k s n x0 x1 x2 x3 x4 x5 x6 x7 := by
 have key : ∀ j v, (#[.int .i64 k, .string s, .int .i64 n, .int .i64 x0, .int .i64 x1, .int .i64 x2, .int .i64 x3, .int .i64 x4, .int .i64 x5, .int .i64 x6, .int .i64 x7] : Array Value)[j]? = some v → W.cell? ⟨w.heap.size, j, none⟩ = some v := fun j v h => cell_later hb (by rw [World.cell?_alloc_at _ _ _ _ rfl]; simpa using h)
 exact ⟨key 0 _ rfl, key 1 _ rfl, key 2 _ rfl, key 3 _ rfl, key 4 _ rfl, key 5 _ rfl, key 6 _ rfl, key 7 _ rfl, key 8 _ rfl, key 9 _ rfl, key 10 _ rfl⟩
theorem host_frozen (w W : World) (cs : Array Value) (t : TypeId) (hb : Below (w.alloc (.cells cs t)).heap.size (w.alloc (.cells cs t)) W) : ∀ j, W.frozen? ⟨w.heap.size, j, none⟩ = false :=
 fun j => frozen_of_row W _ j _ t ((hb.block _ (by simp)).trans (heap_alloc_new w _))
def RowIs (W : World) (B : Nat) (vs : List Value) : Prop := ∀ j v, vs[j]? = some v → W.cell? ⟨B, j, none⟩ = some v
theorem RowIs.set {W : World} {B : Nat} {vs : List Value} (h : RowIs W B vs) (j : Nat) (hj : j < vs.length) (x : Value) : RowIs (W.setCell ⟨B, j, none⟩ x) B (vs.set j x) := by
 intro i v hv
 by_cases e : j = i
 ·subst e
  rw [World.cell?_setCell_same' _ _ _ (by rw [h j _ (List.getElem?_eq_getElem hj)]; rfl)]
  rw [List.getElem?_set_self hj] at hv
  exact hv
 rw [World.cell?_setCell_other _ _ _ _ (fun h => e (by injection h)), h i v]
 rwa [List.getElem?_set_ne e] at hv
theorem RowIs.other {W : World} {B : Nat} {vs : List Value} (h : RowIs W B vs) {C : Nat} (hne : B ≠ C) (j : Nat) (x : Value) : RowIs (W.setCell ⟨C, j, none⟩ x) B vs := by
 intro i v hv
 rw [World.cell?_setCell_other _ _ _ _ (fun h => hne (by injection h with h1 _; exact h1.symm))]
 exact h i v hv
def hRow (k : Int) (s : ByteArray) (n : Int) (x0 x1 x2 x3 x4 x5 x6 x7 : Int) : List Value := [.int .i64 k, .string s, .int .i64 n, .int .i64 x0, .int .i64 x1, .int .i64 x2, .int .i64 x3, .int .i64 x4, .int .i64 x5, .int .i64 x6, .int .i64 x7]
theorem row_of_cells {w W : World} {k n : Int} {s : ByteArray} {x0 x1 x2 x3 x4 x5 x6 x7 : Int} (h : HostCells w W k s n x0 x1 x2 x3 x4 x5 x6 x7) : RowIs W w.heap.size (hRow k s n x0 x1 x2 x3 x4 x5 x6 x7) := by
 obtain ⟨c0, c1, c2, c3, c4, c5, c6, c7, c8, c9, c10⟩ := h
 intro j v hv
 match j, hv with
 | 0, hv => cases hv; exact c0
 | 1, hv => cases hv; exact c1
 | 2, hv => cases hv; exact c2
 | 3, hv => cases hv; exact c3
 | 4, hv => cases hv; exact c4
 | 5, hv => cases hv; exact c5
 | 6, hv => cases hv; exact c6
 | 7, hv => cases hv; exact c7
 | 8, hv => cases hv; exact c8
 | 9, hv => cases hv; exact c9
 | 10, hv => cases hv; exact c10
 | j + 11, hv => simp [hRow] at hv
theorem host_store {W : World} {B : Nat} {k' n' : Int} {s' : ByteArray} {y0 y1 y2 y3 y4 y5 y6 y7 : Int} (h : RowIs W B (hRow k' s' n' y0 y1 y2 y3 y4 y5 y6 y7)) (k n : Int) (s : ByteArray) (x0 x1 x2 x3 x4 x5 x6 x7 : Int) : RowIs (((((((((((W.setCell ⟨B, 0, none⟩ (.int .i64 k)).setCell ⟨B, 1, none⟩ (.string s)).setCell ⟨B, 2, none⟩ (.int .i64 n)).setCell ⟨B, 3, none⟩ (.int .i64 x0)).setCell ⟨B, 4, none⟩ (.int .i64 x1)).setCell ⟨B, 5, none⟩ (.int .i64 x2)).setCell ⟨B, 6, none⟩ (.int .i64 x3)).setCell ⟨B, 7, none⟩ (.int .i64 x4)).setCell ⟨B, 8, none⟩ (.int .i64 x5)).setCell ⟨B, 9, none⟩ (.int .i64 x6)).setCell ⟨B, 10, none⟩ (.int .i64 x7)) B (hRow k s n x0 x1 x2 x3 x4 x5 x6 x7) :=
 ((((((((((h.set 0 (by simp [hRow]) (.int .i64 k)).set 1 (by simp [hRow]) (.string s)).set 2 (by simp [hRow]) (.int .i64 n)).set 3 (by simp [hRow]) (.int .i64 x0)).set 4 (by simp [hRow]) (.int .i64 x1)).set 5 (by simp [hRow]) (.int .i64 x2)).set 6 (by simp [hRow]) (.int .i64 x3)).set 7 (by simp [hRow]) (.int .i64 x4)).set 8 (by simp [hRow]) (.int .i64 x5)).set 9 (by simp [hRow]) (.int .i64 x6)).set 10 (by simp [hRow]) (.int .i64 x7)
theorem below_hstore {m : Nat} {w W : World} (h : Below m w W) {B : Nat} (hB : m ≤ B) (k n : Int) (s : ByteArray) (x0 x1 x2 x3 x4 x5 x6 x7 : Int) : Below m w (((((((((((W.setCell ⟨B, 0, none⟩ (.int .i64 k)).setCell ⟨B, 1, none⟩ (.string s)).setCell ⟨B, 2, none⟩ (.int .i64 n)).setCell ⟨B, 3, none⟩ (.int .i64 x0)).setCell ⟨B, 4, none⟩ (.int .i64 x1)).setCell ⟨B, 5, none⟩ (.int .i64 x2)).setCell ⟨B, 6, none⟩ (.int .i64 x3)).setCell ⟨B, 7, none⟩ (.int .i64 x4)).setCell ⟨B, 8, none⟩ (.int .i64 x5)).setCell ⟨B, 9, none⟩ (.int .i64 x6)).setCell ⟨B, 10, none⟩ (.int .i64 x7)) := by
 have st : ∀ (U : World) (j : Nat) (x : Value), Below m w U → Below m w (U.setCell ⟨B, j, none⟩ x) := fun U j x hU => hU.setCell (p := ⟨B, j, none⟩) hB _
 exact st _ _ _ (st _ _ _ (st _ _ _ (st _ _ _ (st _ _ _ (st _ _ _ (st _ _ _ (st _ _ _ (st _ _ _ (st _ _ _ (st _ _ _ h))))))))))
theorem host_result2 {fn : Func} {p q : Tmp} (h : fn.results = #[.cell p 26, .tmp q]) (tmps : Array Value) (W : World) (B : Nat) (v : Value) (k n : Int) (s : ByteArray) (x0 x1 x2 x3 x4 x5 x6 x7 : Int)
  (hp : tmps[p]?.getD undef = .pointer (some ⟨B, 0, none⟩)) (hq : tmps[q]?.getD undef = v) (ha : RowIs W B (hRow k s n x0 x1 x2 x3 x4 x5 x6 x7)) :
  (results fn tmps).run Tryz.prog W = .ok (.tuple #[.agg #[.int .i64 k, .string s, .int .i64 n, .int .i64 x0, .int .i64 x1, .int .i64 x2, .int .i64 x3, .int .i64 x4, .int .i64 x5, .int .i64 x6, .int .i64 x7], v]) W := by
 have c0 := ha 0 _ rfl
 have c1 := ha 1 _ rfl
 have c2 := ha 2 _ rfl
 have c3 := ha 3 _ rfl
 have c4 := ha 4 _ rfl
 have c5 := ha 5 _ rfl
 have c6 := ha 6 _ rfl
 have c7 := ha 7 _ rfl
 have c8 := ha 8 _ rfl
 have c9 := ha 9 _ rfl
 have c10 := ha 10 _ rfl
 simp [results, h, hp, hq, asAddr, go_sem, c0, c1, c2, c3, c4, c5, c6, c7, c8, c9, c10, Addr.add_lit]
theorem implWithin1 (n : Int) (s : ByteArray) (x0 x1 x2 x3 x4 x5 x6 x7 : Int) (w : World) :
  Calls Tryz.prog 67 #[.agg #[.int .i64 1, .string s, .int .i64 n, .int .i64 x0, .int .i64 x1, .int .i64 x2, .int .i64 x3, .int .i64 x4, .int .i64 x5, .int .i64 x6, .int .i64 x7]] w fun e w' => e = .returned (.iface 127 (.string s)) ∧ Below w.heap.size w w' := by
 go_enter Tryz.func67, Tryz.ntmps67
 go_wp2
 go_ret
 exact ⟨rfl, (Below.refl _ _).alloc (Nat.le_refl _) _⟩
theorem implWithin2 (n : Int) (s : ByteArray) (x0 x1 x2 x3 x4 x5 x6 x7 : Int) (w : World) :
  Calls Tryz.prog 67 #[.agg #[.int .i64 2, .string s, .int .i64 n, .int .i64 x0, .int .i64 x1, .int .i64 x2, .int .i64 x3, .int .i64 x4, .int .i64 x5, .int .i64 x6, .int .i64 x7]] w fun e w' => e = .returned (.iface 128 (.int .i64 n)) ∧ Below w.heap.size w w' := by
 go_enter Tryz.func67, Tryz.ntmps67
 go_wp2
 go_ret
 exact ⟨rfl, (Below.refl _ _).alloc (Nat.le_refl _) _⟩
theorem implWithin3 (n : Int) (s : ByteArray) (x0 x1 x2 x3 x4 x5 x6 x7 : Int) (w : World) :
  Calls Tryz.prog 67 #[.agg #[.int .i64 3, .string s, .int .i64 n, .int .i64 x0, .int .i64 x1, .int .i64 x2, .int .i64 x3, .int .i64 x4, .int .i64 x5, .int .i64 x6, .int .i64 x7]] w fun e w' => e = .returned (.iface 129 (.agg #[.int .i64 x0, .int .i64 x1, .int .i64 x2, .int .i64 x3, .int .i64 x4, .int .i64 x5, .int .i64 x6, .int .i64 x7])) ∧ Below w.heap.size w w' := by
 go_enter Tryz.func67, Tryz.ntmps67
 go_wp2
 go_ret
 exact ⟨rfl, (Below.refl _ _).alloc (Nat.le_refl _) _⟩
theorem implWithin0 (k n : Int) (s : ByteArray) (x0 x1 x2 x3 x4 x5 x6 x7 : Int) (w : World) (h1 : ¬ k = 1) (h2 : ¬ k = 2) (h3 : ¬ k = 3) :
  Calls Tryz.prog 67 #[.agg #[.int .i64 k, .string s, .int .i64 n, .int .i64 x0, .int .i64 x1, .int .i64 x2, .int .i64 x3, .int .i64 x4, .int .i64 x5, .int .i64 x6, .int .i64 x7]] w fun e w' => e = .returned .nilIface ∧ Below w.heap.size w w' := by
 have q1 : (k == 1) = false := beq_eq_false_iff_ne.2 h1
 have q2 : (k == 2) = false := beq_eq_false_iff_ne.2 h2
 have q3 : (k == 3) = false := beq_eq_false_iff_ne.2 h3
 clear h1 h2 h3
 go_enter Tryz.func67, Tryz.ntmps67
 go_wp2
 go_ret
 exact ⟨rfl, (Below.refl _ _).alloc (Nat.le_refl _) _⟩
theorem ta11 (s : ByteArray) (W : World) : (Instr.typeAssert (.iface 127 (.string s)) 87 127 true).run Tryz.prog W = .ok (.tuple #[.string s, .bool true]) W := by kernel_rfl
theorem ta21 (n : Int) (W : World) : (Instr.typeAssert (.iface 128 (.int .i64 n)) 87 127 true).run Tryz.prog W = .ok (.tuple #[.string ⟨#[]⟩, .bool false]) W := by kernel_rfl
theorem ta22 (n : Int) (W : World) : (Instr.typeAssert (.iface 128 (.int .i64 n)) 87 128 true).run Tryz.prog W = .ok (.tuple #[.int .i64 n, .bool true]) W := by kernel_rfl
theorem ta31 (v : Value) (W : World) : (Instr.typeAssert (.iface 129 v) 87 127 true).run Tryz.prog W = .ok (.tuple #[.string ⟨#[]⟩, .bool false]) W := by kernel_rfl
theorem ta32 (v : Value) (W : World) : (Instr.typeAssert (.iface 129 v) 87 128 true).run Tryz.prog W = .ok (.tuple #[.int .i64 0, .bool false]) W := by kernel_rfl
theorem ta33 (v : Value) (W : World) : (Instr.typeAssert (.iface 129 v) 87 129 true).run Tryz.prog W = .ok (.tuple #[v, .bool true]) W := by kernel_rfl
theorem ta01 (W : World) : (Instr.typeAssert .nilIface 87 127 true).run Tryz.prog W = .ok (.tuple #[.string ⟨#[]⟩, .bool false]) W := by kernel_rfl
theorem ta02 (W : World) : (Instr.typeAssert .nilIface 87 128 true).run Tryz.prog W = .ok (.tuple #[.int .i64 0, .bool false]) W := by kernel_rfl
theorem ta03 (W : World) : (Instr.typeAssert .nilIface 87 129 true).run Tryz.prog W = .ok (.tuple #[.agg #[.int .i64 0, .int .i64 0, .int .i64 0, .int .i64 0, .int .i64 0, .int .i64 0, .int .i64 0, .int .i64 0], .bool false]) W := by kernel_rfl
theorem implOutside1 (s : ByteArray) (w : World) :
  Calls Tryz.prog 68 #[.iface 127 (.string s)] w fun e w' => e = .returned (.agg #[.int .i64 1, .string s, .int .i64 0, .int .i64 0, .int .i64 0, .int .i64 0, .int .i64 0, .int .i64 0, .int .i64 0, .int .i64 0, .int .i64 0]) ∧ Below w.heap.size w w' := by
 have t1 := ta11 s
 go_enter Tryz.func68, Tryz.ntmps68
 go_wp2
 go_returns
 exact ⟨rfl, by go_grown⟩
theorem implOutside2 (n : Int) (w : World) :
  Calls Tryz.prog 68 #[.iface 128 (.int .i64 n)] w fun e w' => e = .returned (.agg #[.int .i64 2, .string ⟨#[]⟩, .int .i64 n, .int .i64 0, .int .i64 0, .int .i64 0, .int .i64 0, .int .i64 0, .int .i64 0, .int .i64 0, .int .i64 0]) ∧ Below w.heap.size w w' := by
 have t1 := ta21 n
 have t2 := ta22 n
 go_enter Tryz.func68, Tryz.ntmps68
 go_wp2
 go_returns
 exact ⟨rfl, by go_grown⟩
theorem implOutside3 (x0 x1 x2 x3 x4 x5 x6 x7 : Int) (w : World) :
  Calls Tryz.prog 68 #[.iface 129 (.agg #[.int .i64 x0, .int .i64 x1, .int .i64 x2, .int .i64 x3, .int .i64 x4, .int .i64 x5, .int .i64 x6, .int .i64 x7])] w fun e w' => e = .returned (.agg #[.int .i64 3, .string ⟨#[]⟩, .int .i64 0, .int .i64 x0, .int .i64 x1, .int .i64 x2, .int .i64 x3, .int .i64 x4, .int .i64 x5, .int .i64 x6, .int .i64 x7]) ∧ Below w.heap.size w w' := by
 have t1 := ta31 (.agg #[.int .i64 x0, .int .i64 x1, .int .i64 x2, .int .i64 x3, .int .i64 x4, .int .i64 x5, .int .i64 x6, .int .i64 x7])
 have t2 := ta32 (.agg #[.int .i64 x0, .int .i64 x1, .int .i64 x2, .int .i64 x3, .int .i64 x4, .int .i64 x5, .int .i64 x6, .int .i64 x7])
 have t3 := ta33 (.agg #[.int .i64 x0, .int .i64 x1, .int .i64 x2, .int .i64 x3, .int .i64 x4, .int .i64 x5, .int .i64 x6, .int .i64 x7])
 go_enter Tryz.func68, Tryz.ntmps68
 go_wp2
 go_returns
 exact ⟨rfl, by go_grown⟩
theorem implOutside0 (w : World) :
  Calls Tryz.prog 68 #[.nilIface] w fun e w' => e = .returned (.agg #[.int .i64 0, .string ⟨#[]⟩, .int .i64 0, .int .i64 0, .int .i64 0, .int .i64 0, .int .i64 0, .int .i64 0, .int .i64 0, .int .i64 0, .int .i64 0]) ∧ Below w.heap.size w w' := by
 have t1 := ta01
 have t2 := ta02
 have t3 := ta03
 go_enter Tryz.func68, Tryz.ntmps68
 go_wp2
 go_returns
 exact ⟨rfl, by go_grown⟩
def UAt (W : World) (B : Nat) (vs : List Value) : Prop := RowIs W B vs ∧ (∀ j, W.frozen? ⟨B, j, none⟩ = false) ∧ B < W.heap.size
theorem UAt.new (w : World) (vs : Array Value) (t : TypeId) : UAt (w.alloc (.cells vs t)) w.heap.size vs.toList := by
 refine ⟨fun j v h => ?_, fun j => frozen_of_row _ _ j _ t (heap_alloc_new w _), by simp⟩
 rw [World.cell?_alloc_at _ _ _ _ rfl]
 simpa using h
theorem UAt.below {W W' : World} {B : Nat} {vs : List Value} (h : UAt W B vs) (hb : Below W.heap.size W W') : UAt W' B vs := by
 have hs := hb.block B h.2.2
 refine ⟨fun j v hv => cell_later hb (h.1 j v hv), fun j => ?_, Nat.lt_of_lt_of_le h.2.2 hb.size⟩
 have hf := h.2.1 j
 unfold World.frozen? at hf ⊢
 rw [hs]
 exact hf
theorem frozen_set (W : World) (B C j i : Nat) (v : Value) (h : W.frozen? ⟨B, i, none⟩ = false) : (W.setCell ⟨C, j, none⟩ v).frozen? ⟨B, i, none⟩ = false := by
 simpa [go_sem] using h
theorem UAt.set {W : World} {B : Nat} {vs : List Value} (h : UAt W B vs) (j : Nat) (hj : j < vs.length) (v : Value) : UAt (W.setCell ⟨B, j, none⟩ v) B (vs.set j v) :=
 ⟨h.1.set j hj v, fun i => frozen_set W B B j i v (h.2.1 i), Nat.lt_of_lt_of_le h.2.2 (KeepsWalks.setCell W _ v).size⟩
theorem UAt.other {W : World} {B C : Nat} {vs : List Value} (h : UAt W B vs) (hne : B ≠ C) (j : Nat) (v : Value) : UAt (W.setCell ⟨C, j, none⟩ v) B vs :=
 ⟨h.1.other hne j v, fun i => frozen_set W B C j i v (h.2.1 i), Nat.lt_of_lt_of_le h.2.2 (KeepsWalks.setCell W _ v).size⟩
def setRow (W : World) (C : Nat) : Nat → List Value → World
 | _, [] => W
 | j, v :: vs => setRow (W.setCell ⟨C, j, none⟩ v) C (j + 1) vs
theorem UAt.row : ∀ {vs : List Value} {W : World} {C : Nat} {pre old : List Value}, UAt W C (pre ++ old) → old.length = vs.length → UAt (setRow W C pre.length vs) C (pre ++ vs)
 | [], W, C, pre, old, h, hl => by
  have : old = [] := List.eq_nil_of_length_eq_zero hl
  subst this
  exact h
 | v :: vs, W, C, pre, [], h, hl => by simp at hl
 | v :: vs, W, C, pre, o :: old, h, hl => by
  have h1 := h.set pre.length (by simp) v
  rw [List.set_append_right _ _ (Nat.le_refl _), Nat.sub_self, List.set_cons_zero] at h1
  have h2 : UAt (W.setCell ⟨C, pre.length, none⟩ v) C ((pre ++ [v]) ++ old) := by rw [List.append_assoc]; exact h1
  have h3 := UAt.row (vs := vs) h2 (by simpa using hl)
  rw [List.length_append, List.length_singleton, List.append_assoc] at h3
  exact h3
theorem UAt.whole {vs old : List Value} {W : World} {C : Nat} (h : UAt W C old) (hl : old.length = vs.length) : UAt (setRow W C 0 vs) C vs := UAt.row (pre := []) h hl
def uRow (s k : Int) (nm : ByteArray) (n : Int) (x0 x1 x2 x3 x4 x5 x6 x7 : Int) (p : Int) (a : ByteArray) (q : Bool) (r : ByteArray) : List Value := [.int .i64 s, .int .i64 k, .string nm, .int .i64 n, .int .i64 x0, .int .i64 x1, .int .i64 x2, .int .i64 x3, .int .i64 x4, .int .i64 x5, .int .i64 x6, .int .i64 x7, .int .i64 p, .string a, .bool q, .string r]
def uRow0 : List Value := uRow 0 0 ⟨#[]⟩ 0 0 0 0 0 0 0 0 0 0 ⟨#[]⟩ false ⟨#[]⟩

theorem eq_int (d : Nat) (x y : Int) (W : World) : (Op.equalIn (d + 1) 3 (.int .i64 x) (.int .i64 y)).run Tryz.prog W = .ok (x == y) W := run_equalIn_int W d 3 .i64 .i64 x y Tryz.underlying3
theorem eq_str (d : Nat) (x y : ByteArray) (W : World) : (Op.equalIn (d + 1) 9 (.string x) (.string y)).run Tryz.prog W = .ok (x.toList == y.toList) W := run_equalIn_string W d 9 x y Tryz.underlying9
def eqB (z y : List Int) : Bool := decide (z = y)
theorem items_run (d : Nat) (xs ys : Array Value) (W : World) (zx zy : Nat → Int) : ∀ (js : List Nat),
  (∀ j ∈ js, (part 3 xs (j * 1)).run Tryz.prog W = .ok (.int .i64 (zx j)) W) → (∀ j ∈ js, (part 3 ys (j * 1)).run Tryz.prog W = .ok (.int .i64 (zy j)) W) →
  (Op.eqItems (d + 1) 3 1 xs ys js).run Tryz.prog W = .ok (js.all fun j => zx j == zy j) W
 | [], _, _ => by simp [Op.eqItems]
 | j :: js, hx, hy => by
  have ih := items_run d xs ys W zx zy js (fun i hi => hx i (List.mem_cons_of_mem _ hi)) (fun i hi => hy i (List.mem_cons_of_mem _ hi))
  simp only [Op.eqItems, Sem.run_bind, hx j List.mem_cons_self, hy j List.mem_cons_self, Result.andThen_ok, eq_int]
  cases h : (zx j == zy j) with
  | false => simp [h]
  | true => simp [h, ih]
theorem part_at (x0 x1 x2 x3 x4 x5 x6 x7 : Int) (W : World) : ∀ j ∈ [0, 1, 2, 3, 4, 5, 6, 7], (part 3 #[.int .i64 x0, .int .i64 x1, .int .i64 x2, .int .i64 x3, .int .i64 x4, .int .i64 x5, .int .i64 x6, .int .i64 x7] (j * 1)).run Tryz.prog W = .ok (.int .i64 ([x0, x1, x2, x3, x4, x5, x6, x7].getD j 0)) W := by
 intro j hj
 simp only [List.mem_cons, List.not_mem_nil, or_false] at hj
 rcases hj with rfl | rfl | rfl | rfl | rfl | rfl | rfl | rfl <;> simp [part, Tryz.isAgg3, go_sem]
theorem all_eq (x0 x1 x2 x3 x4 x5 x6 x7 y0 y1 y2 y3 y4 y5 y6 y7 : Int) : ([0, 1, 2, 3, 4, 5, 6, 7].all fun j => [x0, x1, x2, x3, x4, x5, x6, x7].getD j 0 == [y0, y1, y2, y3, y4, y5, y6, y7].getD j 0) = eqB [x0, x1, x2, x3, x4, x5, x6, x7] [y0, y1, y2, y3, y4, y5, y6, y7] := by
 unfold eqB
 rw [Bool.eq_iff_iff, decide_eq_true_eq, List.all_eq_true]
 constructor
 ·intro h
  have e : ∀ j, j ∈ [0, 1, 2, 3, 4, 5, 6, 7] → [x0, x1, x2, x3, x4, x5, x6, x7].getD j 0 = [y0, y1, y2, y3, y4, y5, y6, y7].getD j 0 := fun j hj => by simpa using h j hj
  have e0 : x0 = y0 := e 0 (by simp)
  have e1 : x1 = y1 := e 1 (by simp)
  have e2 : x2 = y2 := e 2 (by simp)
  have e3 : x3 = y3 := e 3 (by simp)
  have e4 : x4 = y4 := e 4 (by simp)
  have e5 : x5 = y5 := e 5 (by simp)
  have e6 : x6 = y6 := e 6 (by simp)
  have e7 : x7 = y7 := e 7 (by simp)
  rw [e0, e1, e2, e3, e4, e5, e6, e7]
 intro h j _
 rw [h]
 simp
theorem eqA (d : Nat) (x0 x1 x2 x3 x4 x5 x6 x7 y0 y1 y2 y3 y4 y5 y6 y7 : Int) (W : World) :
  (Op.equalIn (d + 2) 24 (.agg #[.int .i64 x0, .int .i64 x1, .int .i64 x2, .int .i64 x3, .int .i64 x4, .int .i64 x5, .int .i64 x6, .int .i64 x7]) (.agg #[.int .i64 y0, .int .i64 y1, .int .i64 y2, .int .i64 y3, .int .i64 y4, .int .i64 y5, .int .i64 y6, .int .i64 y7])).run Tryz.prog W = .ok (eqB [x0, x1, x2, x3, x4, x5, x6, x7] [y0, y1, y2, y3, y4, y5, y6, y7]) W := by
 obtain ⟨i0, hi, hz0, hz1, hz2⟩ := info_parts Tryz.infoI5
 rw [run_equalIn_array W (d + 1) _ _ Tryz.underlying24 hi, show Tryz.prog.cellsOf 3 = 1 by kernel_rfl, show List.range 8 = [0, 1, 2, 3, 4, 5, 6, 7] from rfl,
  items_run d _ _ W (fun j => [x0, x1, x2, x3, x4, x5, x6, x7].getD j 0) (fun j => [y0, y1, y2, y3, y4, y5, y6, y7].getD j 0) _ (part_at x0 x1 x2 x3 x4 x5 x6 x7 W) (part_at y0 y1 y2 y3 y4 y5 y6 y7 W), all_eq x0 x1 x2 x3 x4 x5 x6 x7 y0 y1 y2 y3 y4 y5 y6 y7]
def eqHB (k : Int) (s : ByteArray) (n : Int) (z : List Int) (k' : Int) (s' : ByteArray) (n' : Int) (z' : List Int) : Bool := (k == k') && ((s.toList == s'.toList) && ((n == n') && eqB z z'))
theorem host_fields : ((Tryz.prog.fieldsOf 26).toList.map fun f => (f.type, f.offset, decide (f.name ≠ "_"))) = [(3, 0, true), (9, 1, true), (3, 2, true), (24, 3, true)] := by kernel_rfl
theorem fields_step (d : Nat) (f : Field) (fs : List Field) (xs ys : Array Value) (a b : Value) (r : Bool) (W : World) (hn : f.name ≠ "_") (h1 : (part f.type xs f.offset).run Tryz.prog W = .ok a W) (h2 : (part f.type ys f.offset).run Tryz.prog W = .ok b W) (h3 : (Op.equalIn d f.type a b).run Tryz.prog W = .ok r W) :
  (Op.eqFields d xs ys (f :: fs)).run Tryz.prog W = if r = true then (Op.eqFields d xs ys fs).run Tryz.prog W else .ok false W := by
 simp only [Op.eqFields, hn, ne_eq, not_false_eq_true, if_true, Sem.run_bind, h1, h2, h3, Result.andThen_ok]
 cases r <;> simp
theorem part0 (k n : Int) (s : ByteArray) (x0 x1 x2 x3 x4 x5 x6 x7 : Int) (W : World) : (part 3 #[.int .i64 k, .string s, .int .i64 n, .int .i64 x0, .int .i64 x1, .int .i64 x2, .int .i64 x3, .int .i64 x4, .int .i64 x5, .int .i64 x6, .int .i64 x7] 0).run Tryz.prog W = .ok (.int .i64 k) W := by kernel_rfl
theorem part1 (k n : Int) (s : ByteArray) (x0 x1 x2 x3 x4 x5 x6 x7 : Int) (W : World) : (part 9 #[.int .i64 k, .string s, .int .i64 n, .int .i64 x0, .int .i64 x1, .int .i64 x2, .int .i64 x3, .int .i64 x4, .int .i64 x5, .int .i64 x6, .int .i64 x7] 1).run Tryz.prog W = .ok (.string s) W := by kernel_rfl
theorem part2 (k n : Int) (s : ByteArray) (x0 x1 x2 x3 x4 x5 x6 x7 : Int) (W : World) : (part 3 #[.int .i64 k, .string s, .int .i64 n, .int .i64 x0, .int .i64 x1, .int .i64 x2, .int .i64 x3, .int .i64 x4, .int .i64 x5, .int .i64 x6, .int .i64 x7] 2).run Tryz.prog W = .ok (.int .i64 n) W := by kernel_rfl
theorem part3 (k n : Int) (s : ByteArray) (x0 x1 x2 x3 x4 x5 x6 x7 : Int) (W : World) : (part 24 #[.int .i64 k, .string s, .int .i64 n, .int .i64 x0, .int .i64 x1, .int .i64 x2, .int .i64 x3, .int .i64 x4, .int .i64 x5, .int .i64 x6, .int .i64 x7] 3).run Tryz.prog W = .ok (.agg #[.int .i64 x0, .int .i64 x1, .int .i64 x2, .int .i64 x3, .int .i64 x4, .int .i64 x5, .int .i64 x6, .int .i64 x7]) W := by kernel_rfl
theorem eqH (k : Int) (s : ByteArray) (n : Int) (x0 x1 x2 x3 x4 x5 x6 x7 : Int) (k' : Int) (s' : ByteArray) (n' : Int) (y0 y1 y2 y3 y4 y5 y6 y7 : Int) (W : World) :
  (Op.equalIn 10000 26 (.agg #[.int .i64 k, .string s, .int .i64 n, .int .i64 x0, .int .i64 x1, .int .i64 x2, .int .i64 x3, .int .i64 x4, .int .i64 x5, .int .i64 x6, .int .i64 x7]) (.agg #[.int .i64 k', .string s', .int .i64 n', .int .i64 y0, .int .i64 y1, .int .i64 y2, .int .i64 y3, .int .i64 y4, .int .i64 y5, .int .i64 y6, .int .i64 y7])).run Tryz.prog W = .ok (eqHB k s n [x0, x1, x2, x3, x4, x5, x6, x7] k' s' n' [y0, y1, y2, y3, y4, y5, y6, y7]) W := by
 rw [show (10000 : Nat) = 9999 + 1 from rfl, run_equalIn_struct W 9999 26 _ _ (by kernel_rfl) (by kernel_rfl)]
 have hf := host_fields
 generalize (Tryz.prog.fieldsOf 26).toList = fs at hf
 obtain ⟨f0, r0, rfl, e0, hf⟩ := List.map_eq_cons_iff.1 hf
 obtain ⟨f1, r1, rfl, e1, hf⟩ := List.map_eq_cons_iff.1 hf
 obtain ⟨f2, r2, rfl, e2, hf⟩ := List.map_eq_cons_iff.1 hf
 obtain ⟨f3, r3, rfl, e3, hf⟩ := List.map_eq_cons_iff.1 hf
 obtain rfl := List.map_eq_nil_iff.1 hf
 simp only [Prod.mk.injEq, decide_eq_true_eq] at e0 e1 e2 e3
 obtain ⟨a0, a1, a2⟩ := e0
 obtain ⟨b0, b1, b2⟩ := e1
 obtain ⟨c0, c1, c2⟩ := e2
 obtain ⟨d0, d1, d2⟩ := e3
 rw [fields_step 9999 f0 _ _ _ (.int .i64 k) (.int .i64 k') (k == k') W a2 (by rw [a0, a1]; exact part0 ..) (by rw [a0, a1]; exact part0 ..) (by rw [a0]; exact eq_int 9998 ..),
  fields_step 9999 f1 _ _ _ (.string s) (.string s') (s.toList == s'.toList) W b2 (by rw [b0, b1]; exact part1 ..) (by rw [b0, b1]; exact part1 ..) (by rw [b0]; exact eq_str 9998 ..),
  fields_step 9999 f2 _ _ _ (.int .i64 n) (.int .i64 n') (n == n') W c2 (by rw [c0, c1]; exact part2 ..) (by rw [c0, c1]; exact part2 ..) (by rw [c0]; exact eq_int 9998 ..),
  fields_step 9999 f3 _ _ _ (.agg #[.int .i64 x0, .int .i64 x1, .int .i64 x2, .int .i64 x3, .int .i64 x4, .int .i64 x5, .int .i64 x6, .int .i64 x7]) (.agg #[.int .i64 y0, .int .i64 y1, .int .i64 y2, .int .i64 y3, .int .i64 y4, .int .i64 y5, .int .i64 y6, .int .i64 y7]) (eqB [x0, x1, x2, x3, x4, x5, x6, x7] [y0, y1, y2, y3, y4, y5, y6, y7]) W d2 (by rw [d0, d1]; exact part3 ..) (by rw [d0, d1]; exact part3 ..) (by rw [d0]; exact eqA 9997 ..)]
 unfold eqHB
 cases (k == k') <;> cases (s.toList == s'.toList) <;> cases (n == n') <;> cases (eqB [x0, x1, x2, x3, x4, x5, x6, x7] [y0, y1, y2, y3, y4, y5, y6, y7]) <;> rfl
end Go.Proofs.YtgmfkgeepecknaaGreatDoor
namespace Go.Proofs.YtgmfkgeepecknaaGreatDoor
open Go.RowKit Go.Shelf
def runeB (r : Int) : Bool := decide (0 ≤ r ∧ r ≤ 1114111 ∧ (r < 55296 ∨ 57343 < r))
theorem runeB_iff (r : Int) : runeB r = true ↔ runeOk r := by unfold runeB runeOk; exact decide_eq_true_iff
theorem implIsRune (r : Int) (w : World) :
  Calls Tryz.prog 278 #[.int .i64 r] w fun e w' => e = .returned (.bool (runeB r)) ∧ w = w' := by
 by_cases h0 : r < 0
 ·have HV : Hid (runeB r = false) := by show _ = _; unfold runeB; rw [decide_eq_false_iff_not]; omega
  go_enter Tryz.func278, Tryz.ntmps278
  go_wp2
  go_ret
  exact ⟨ret_bool HV.out.symm, rfl⟩
 by_cases h1 : 1114111 < r
 ·have HV : Hid (runeB r = false) := by show _ = _; unfold runeB; rw [decide_eq_false_iff_not]; omega
  go_enter Tryz.func278, Tryz.ntmps278
  go_wp2
  go_ret
  exact ⟨ret_bool HV.out.symm, rfl⟩
 by_cases h2 : r < 55296
 ·have HV : Hid (runeB r = true) := by show _ = _; unfold runeB; rw [decide_eq_true_iff]; omega
  go_enter Tryz.func278, Tryz.ntmps278
  go_wp2
  go_ret
  exact ⟨ret_bool (by rw [HV.out]), rfl⟩
 by_cases h3 : 57343 < r
 ·have HV : Hid (runeB r = true) := by show _ = _; unfold runeB; rw [decide_eq_true_iff]; omega
  go_enter Tryz.func278, Tryz.ntmps278
  go_wp2
  go_ret
  exact ⟨ret_bool (by rw [HV.out]), rfl⟩
 have HV : Hid (runeB r = false) := by show _ = _; unfold runeB; rw [decide_eq_false_iff_not]; omega
 go_enter Tryz.func278, Tryz.ntmps278
 go_wp2
 go_ret
 exact ⟨ret_bool (by rw [HV.out]), rfl⟩
theorem implNoRune (r : Int) (w : World) :
  Calls Tryz.prog 270 #[.int .i64 r] w fun e w' => e = .returned (.bool (!(runeB r))) ∧ w = w' := by
 have HC : Hid (CS 278 #[.int .i64 r] w (.bool (runeB r))) := implIsRune r w
 generalize runeB r = b at HC
 go_enter Tryz.func270, Tryz.ntmps270
 go_wp2_with fail
 refine HC.out.mono ?_
 rintro e w' ⟨rfl, rfl⟩
 go_wp2_with fail
 go_ret
 exact ⟨rfl, rfl⟩
theorem noRune_pred (w : World) : PredAt Tryz.prog 270 #[] (fun z : Int => Value.int .i64 z) (fun z => !runeB z) w := by
 intro W x _
 exact (implNoRune x W).mono fun e w' h => ⟨h.1, 0, h.2.symm⟩
theorem implLeast (l : List Nat) (n0 N cap g : Nat) (B : Nat) (w : World) (hN : l.length = N) (hN1 : N ≤ 1048576) (hv : ∀ c ∈ l, c ≤ 1114111) (hex : leastN n0 l ≤ 1114111) (hown : w.ownsRow B 3 1 (.slice (some ⟨g, 0, none⟩) N cap) N (icN l)) :
  Calls Tryz.prog 271 #[.slice (some ⟨g, 0, none⟩) N cap, .int .i64 (n0 : Int)] w fun e w' => e = .returned (.int .i64 (leastN n0 l : Int)) ∧ w = w' := by
 have HL : Hid (l.length = N) := hN
 have HV : Hid (∀ c ∈ l, c ≤ 1114111) := hv
 have H0 : Hid (leastL n0 1114111 l = leastN n0 l) := by
  show _ = _
  rw [leastL_eq n0 l _ (by decide)]
  split <;> omega
 clear hN hv hex
 go_enter Tryz.func271, Tryz.ntmps271
 go_wp2_with fail
 go_loop [5, 10] (fun a i => ∃ k m : Nat, k ≤ N ∧ i = .int .i64 k ∧ a = .int .i64 m ∧ m ≤ 1114112 ∧ leastL n0 m (l.drop k) = leastN n0 l) (fun _ i => N - (intOf i).toNat)
 case atStart => exact ⟨0, 1114111, Nat.zero_le _, rfl, rfl, by decide, H0.out⟩
 obtain ⟨k, m, hk, rfl, rfl, hm, he⟩ := hrel
 have HE : Hid (leastL n0 m (l.drop k) = leastN n0 l) := he
 clear he
 by_cases hlt : k < N
 ·have ca := icN_at hown k hlt
  have HS : Hid (l.drop k = l.getD k 0 :: l.drop (k + 1)) := nat_drop l k (by have := HL.out; omega)
  have hc := HV.out (l.getD k 0) (by
   rw [List.getD_eq_getElem?_getD, List.getElem?_eq_getElem (by have := HL.out; omega)]
   exact List.getElem_mem _)
  generalize l.getD k 0 = c at ca HS hc
  have HR : Hid (leastL n0 (if n0 ≤ c ∧ c < m then c else m) (l.drop (k + 1)) = leastN n0 l) := by show _ = _; rw [← HE.out, HS.out]; rfl
  by_cases h1 : (n0 : Int) ≤ (c : Int)
  ·by_cases h2 : (c : Int) < (m : Int)
   ·rw [if_pos (by omega)] at HR
    go_wp2_with fail
    go_round
    case rel => exact ⟨k + 1, c, by omega, by go_num, by go_num, by omega, HR.out⟩
    case measure => simp [intOf]; omega
   rw [if_neg (by omega)] at HR
   go_wp2_with fail
   go_round
   case rel => exact ⟨k + 1, m, by omega, by go_num, by go_num, hm, HR.out⟩
   case measure => simp [intOf]; omega
  rw [if_neg (by omega)] at HR
  go_wp2_with fail
  go_round
  case rel => exact ⟨k + 1, m, by omega, by go_num, rfl, hm, HR.out⟩
  case measure => simp [intOf]; omega
 have HR : Hid (m = leastN n0 l) := by
  show _ = _
  rw [← HE.out, List.drop_of_length_le (by have := HL.out; omega)]
  rfl
 go_wp2_with fail
 go_ret
 exact ⟨ret_int (by rw [← HR.out]), rfl⟩
end Go.Proofs.YtgmfkgeepecknaaGreatDoor
