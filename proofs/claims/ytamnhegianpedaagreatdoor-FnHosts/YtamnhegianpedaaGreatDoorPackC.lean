/- Contracts and plain laws: HostPlain, HostEq, HostKinds, HostImpl, HostTextImpl, HostParse, HostSpec, HostSpec2, HostSpec3, HostSpec4, HostMarks, LaidHost. -/
import Derived.Test.YtamnhegianpedaaGreatDoorRows
import Derived.Test.YtamnhegianpedaaGreatDoorPackB
import Derived.Test.YtamnhegianpedaaGreatDoorPackA
import Derived.Test.YtamnhegianpedaaGreatDoorPackE
import Derived.ChangeKeysEq
import Derived.Laws.StructEq
import Derived.Test.YtamnhegianpedaaGreatDoorRowMore
import Derived.Handy
import Derived.Test.YtamnhegianpedaaGreatDoorCloneWalk
namespace Go.Proofs.YtamnhegianpedaaGreatDoor
open Go.RowKit

structure HV where
  k : Int
  s : ByteArray
  n : Int
  z : List Int

def zeros : List Int := [0, 0, 0, 0, 0, 0, 0, 0]
def hOk (h : HV) : Bool :=
  if h.k = 1 then decide (nameL h.s = some h.s.data.toList) && !endL h.s && decide (h.n = 0) && decide (h.z = zeros)
  else if h.k = 2 then decide (h.s.size = 0) && decide (0 ≤ h.n ∧ h.n < 4294967296) && decide (h.z = zeros)
  else if h.k = 3 then decide (h.s.size = 0) && decide (h.n = 0) && okG h.z
  else false
def hTx (h : HV) : ByteArray := if hOk h = true then (if h.k = 1 then h.s else if h.k = 2 then ip4T h.n else ⟨(91 :: (ip6L h.z ++ [93])).toArray⟩) else ⟨#[]⟩

/-- What is read of a text: a fault, a name, an address of four, one of eight. -/
structure HostR where
  t : Nat
  c : Int
  l : List UInt8
  n : Nat
  g : List Nat
def HostR.bad (c : Int) : HostR := ⟨0, c, [], 0, []⟩
def HostR.nm (l : List UInt8) : HostR := ⟨1, 0, l, 0, []⟩
def HostR.fo (n : Nat) : HostR := ⟨2, 0, [], n, []⟩
def HostR.si (g : List Nat) : HostR := ⟨3, 0, [], 0, g⟩
def unB (s : ByteArray) : ByteArray := ⟨(unL s.data.toList).toArray⟩
def readM (n : List UInt8) : HostR := if endL ⟨n.toArray⟩ = true then (match loA ⟨n.toArray⟩ with
  | none => .bad 4
  | some v => .fo v) else .nm n
def readN (s : ByteArray) : HostR := match nameL (unB s) with
  | none => .bad 3
  | some n => readM n
def readB (r : Option (List Nat)) : HostR := match r with
  | none => .bad 2
  | some g => .si g
def readS (r : List UInt8) : HostR := if r.getLast? = some 93 then readB (par6 r.dropLast) else .bad 2
def readH (s : ByteArray) : HostR := match s.data.toList with
  | [] => .bad 1
  | c :: r => if c = 91 then readS r else readN s
def rV (r : HostR) : HV := match r.t with
  | 0 => ⟨0, ⟨#[]⟩, 0, zeros⟩
  | 1 => ⟨1, ⟨r.l.toArray⟩, 0, zeros⟩
  | 2 => ⟨2, ⟨#[]⟩, r.n, zeros⟩
  | _ => ⟨3, ⟨#[]⟩, 0, r.g.map fun (x : Nat) => (x : Int)⟩
def rC (r : HostR) : Int := r.c

theorem readH_nil {s : ByteArray} (h : s.size = 0) : readH s = .bad 1 := by
  have e : s.data.toList = [] := List.eq_nil_of_length_eq_zero (by simpa using h)
  unfold readH
  rw [e]
theorem readH_six {s : ByteArray} (h : 0 < s.size) (h0 : s[0].toNat = 91) : readH s = readS (s.extract 1 s.size).data.toList := by
  have e := toL_one s h
  unfold readH
  rw [e]
  simp only
  rw [if_pos (u8_is h0)]
theorem readH_name {s : ByteArray} (h : 0 < s.size) (h0 : ¬ s[0].toNat = 91) : readH s = readN s := by
  have e := toL_one s h
  unfold readH
  rw [e]
  simp only
  rw [if_neg (u8_not h0)]

theorem unB_size (s : ByteArray) : (unB s).size ≤ s.size := by
  unfold unB
  show (unL s.data.toList).toArray.size ≤ s.size
  rw [List.size_toArray]
  have := un_len s.data.toList
  simpa using this

theorem arr_back (s : ByteArray) : (⟨s.data.toList.toArray⟩ : ByteArray) = s := by
  apply toL_inj
  simp [toL]

theorem nameL_le {s : ByteArray} {n : List UInt8} (h : nameL s = some n) : n.length ≤ 253 := by
  unfold nameL namesL at h
  split at h
  · split at h
    · cases h; assumption
    · cases h
  · cases h

/-- Is a name right by itself? -/
def nmOk (s : ByteArray) : Bool := decide (nameL s = some s.data.toList) && !endL s
end Go.Proofs.YtamnhegianpedaaGreatDoor

namespace Go.Proofs.YtamnhegianpedaaGreatDoor
open Go.RowKit

theorem eq_int (d : Nat) (x y : Int) (W : World) : (Op.equalIn (d + 1) 3 (.int .i64 x) (.int .i64 y)).run Tryz.prog W = .ok (x == y) W := run_equalIn_int W d 3 .i64 .i64 x y Tryz.underlying3
theorem eq_str (d : Nat) (x y : ByteArray) (W : World) : (Op.equalIn (d + 1) 9 (.string x) (.string y)).run Tryz.prog W = .ok (x.toList == y.toList) W := run_equalIn_string W d 9 x y Tryz.underlying9

def eqB (z y : List Int) : Bool := decide (z = y)
theorem eqB_self (z : List Int) : eqB z z = true := decide_eq_true rfl

theorem items_run (d : Nat) (xs ys : Array Value) (W : World) (zx zy : Nat → Int) : ∀ (js : List Nat),
    (∀ j ∈ js, (part 3 xs (j * 1)).run Tryz.prog W = .ok (.int .i64 (zx j)) W) → (∀ j ∈ js, (part 3 ys (j * 1)).run Tryz.prog W = .ok (.int .i64 (zy j)) W) →
    (Op.eqItems (d + 1) 3 1 xs ys js).run Tryz.prog W = .ok (js.all fun j => zx j == zy j) W
  | [], _, _ => by simp [Op.eqItems]
  | j :: js, hx, hy => by
    have ih := items_run d xs ys W zx zy js (fun i hi => hx i (List.mem_cons_of_mem _ hi)) (fun i hi => hy i (List.mem_cons_of_mem _ hi))
    simp only [Op.eqItems, Sem.run_bind, hx j List.mem_cons_self, hy j List.mem_cons_self, Result.andThen_ok, eq_int]
    cases h : (zx j == zy j) with
    | false => simp [h]
    | true => simp [h, ih]

theorem part_at (x0 x1 x2 x3 x4 x5 x6 x7 : Int) (W : World) : ∀ j ∈ [0, 1, 2, 3, 4, 5, 6, 7], (part 3 #[.int .i64 x0, .int .i64 x1, .int .i64 x2, .int .i64 x3, .int .i64 x4, .int .i64 x5, .int .i64 x6, .int .i64 x7] (j * 1)).run Tryz.prog W = .ok (.int .i64 ([x0, x1, x2, x3, x4, x5, x6, x7].getD j 0)) W := by
  intro j hj
  simp only [List.mem_cons, List.not_mem_nil, or_false] at hj
  rcases hj with rfl | rfl | rfl | rfl | rfl | rfl | rfl | rfl <;> simp [part, Tryz.isAgg3, go_sem]

theorem all_eq (x0 x1 x2 x3 x4 x5 x6 x7 y0 y1 y2 y3 y4 y5 y6 y7 : Int) : ([0, 1, 2, 3, 4, 5, 6, 7].all fun j => [x0, x1, x2, x3, x4, x5, x6, x7].getD j 0 == [y0, y1, y2, y3, y4, y5, y6, y7].getD j 0) = eqB [x0, x1, x2, x3, x4, x5, x6, x7] [y0, y1, y2, y3, y4, y5, y6, y7] := by
  unfold eqB
  rw [Bool.eq_iff_iff, decide_eq_true_eq, List.all_eq_true]
  constructor
  · intro h
    have e : ∀ j, j ∈ [0, 1, 2, 3, 4, 5, 6, 7] → [x0, x1, x2, x3, x4, x5, x6, x7].getD j 0 = [y0, y1, y2, y3, y4, y5, y6, y7].getD j 0 := fun j hj => by simpa using h j hj
    have e0 : x0 = y0 := e 0 (by simp)
    have e1 : x1 = y1 := e 1 (by simp)
    have e2 : x2 = y2 := e 2 (by simp)
    have e3 : x3 = y3 := e 3 (by simp)
    have e4 : x4 = y4 := e 4 (by simp)
    have e5 : x5 = y5 := e 5 (by simp)
    have e6 : x6 = y6 := e 6 (by simp)
    have e7 : x7 = y7 := e 7 (by simp)
    rw [e0, e1, e2, e3, e4, e5, e6, e7]
  · intro h j _
    rw [h]
    simp
theorem eqA (d : Nat) (x0 x1 x2 x3 x4 x5 x6 x7 y0 y1 y2 y3 y4 y5 y6 y7 : Int) (W : World) :
    (Op.equalIn (d + 2) 24 (.agg #[.int .i64 x0, .int .i64 x1, .int .i64 x2, .int .i64 x3, .int .i64 x4, .int .i64 x5, .int .i64 x6, .int .i64 x7]) (.agg #[.int .i64 y0, .int .i64 y1, .int .i64 y2, .int .i64 y3, .int .i64 y4, .int .i64 y5, .int .i64 y6, .int .i64 y7])).run Tryz.prog W = .ok (eqB [x0, x1, x2, x3, x4, x5, x6, x7] [y0, y1, y2, y3, y4, y5, y6, y7]) W := by
  obtain ⟨i0, hi, hz0, hz1, hz2⟩ := info_parts Tryz.infoI5
  rw [run_equalIn_array W (d + 1) _ _ Tryz.underlying24 hi, show Tryz.prog.cellsOf 3 = 1 by kernel_rfl, show List.range 8 = [0, 1, 2, 3, 4, 5, 6, 7] from rfl,
    items_run d _ _ W (fun j => [x0, x1, x2, x3, x4, x5, x6, x7].getD j 0) (fun j => [y0, y1, y2, y3, y4, y5, y6, y7].getD j 0) _ (part_at x0 x1 x2 x3 x4 x5 x6 x7 W) (part_at y0 y1 y2 y3 y4 y5 y6 y7 W), all_eq x0 x1 x2 x3 x4 x5 x6 x7 y0 y1 y2 y3 y4 y5 y6 y7]

def eqHB (k : Int) (s : ByteArray) (n : Int) (z : List Int) (k' : Int) (s' : ByteArray) (n' : Int) (z' : List Int) : Bool := (k == k') && ((s.toList == s'.toList) && ((n == n') && eqB z z'))
theorem eqHB_self (k : Int) (s : ByteArray) (n : Int) (z : List Int) : eqHB k s n z k s n z = true := by simp [eqHB, eqB_self]

theorem host_fields : ((Tryz.prog.fieldsOf 26).toList.map fun f => (f.type, f.offset, decide (f.name ≠ "_"))) = [(3, 0, true), (9, 1, true), (3, 2, true), (24, 3, true)] := by kernel_rfl

theorem fields_step (d : Nat) (f : Field) (fs : List Field) (xs ys : Array Value) (a b : Value) (r : Bool) (W : World) (hn : f.name ≠ "_") (h1 : (part f.type xs f.offset).run Tryz.prog W = .ok a W) (h2 : (part f.type ys f.offset).run Tryz.prog W = .ok b W) (h3 : (Op.equalIn d f.type a b).run Tryz.prog W = .ok r W) :
    (Op.eqFields d xs ys (f :: fs)).run Tryz.prog W = if r = true then (Op.eqFields d xs ys fs).run Tryz.prog W else .ok false W := by
  simp only [Op.eqFields, hn, ne_eq, not_false_eq_true, if_true, Sem.run_bind, h1, h2, h3, Result.andThen_ok]
  cases r <;> simp

theorem part0 (k n : Int) (s : ByteArray) (x0 x1 x2 x3 x4 x5 x6 x7 : Int) (W : World) : (part 3 #[.int .i64 k, .string s, .int .i64 n, .int .i64 x0, .int .i64 x1, .int .i64 x2, .int .i64 x3, .int .i64 x4, .int .i64 x5, .int .i64 x6, .int .i64 x7] 0).run Tryz.prog W = .ok (.int .i64 k) W := by kernel_rfl
theorem part1 (k n : Int) (s : ByteArray) (x0 x1 x2 x3 x4 x5 x6 x7 : Int) (W : World) : (part 9 #[.int .i64 k, .string s, .int .i64 n, .int .i64 x0, .int .i64 x1, .int .i64 x2, .int .i64 x3, .int .i64 x4, .int .i64 x5, .int .i64 x6, .int .i64 x7] 1).run Tryz.prog W = .ok (.string s) W := by kernel_rfl
theorem part2 (k n : Int) (s : ByteArray) (x0 x1 x2 x3 x4 x5 x6 x7 : Int) (W : World) : (part 3 #[.int .i64 k, .string s, .int .i64 n, .int .i64 x0, .int .i64 x1, .int .i64 x2, .int .i64 x3, .int .i64 x4, .int .i64 x5, .int .i64 x6, .int .i64 x7] 2).run Tryz.prog W = .ok (.int .i64 n) W := by kernel_rfl
theorem part3 (k n : Int) (s : ByteArray) (x0 x1 x2 x3 x4 x5 x6 x7 : Int) (W : World) : (part 24 #[.int .i64 k, .string s, .int .i64 n, .int .i64 x0, .int .i64 x1, .int .i64 x2, .int .i64 x3, .int .i64 x4, .int .i64 x5, .int .i64 x6, .int .i64 x7] 3).run Tryz.prog W = .ok (.agg #[.int .i64 x0, .int .i64 x1, .int .i64 x2, .int .i64 x3, .int .i64 x4, .int .i64 x5, .int .i64 x6, .int .i64 x7]) W := by kernel_rfl

theorem eqH (k : Int) (s : ByteArray) (n : Int) (x0 x1 x2 x3 x4 x5 x6 x7 : Int) (k' : Int) (s' : ByteArray) (n' : Int) (y0 y1 y2 y3 y4 y5 y6 y7 : Int) (W : World) :
    (Op.equalIn 10000 26 (.agg #[.int .i64 k, .string s, .int .i64 n, .int .i64 x0, .int .i64 x1, .int .i64 x2, .int .i64 x3, .int .i64 x4, .int .i64 x5, .int .i64 x6, .int .i64 x7]) (.agg #[.int .i64 k', .string s', .int .i64 n', .int .i64 y0, .int .i64 y1, .int .i64 y2, .int .i64 y3, .int .i64 y4, .int .i64 y5, .int .i64 y6, .int .i64 y7])).run Tryz.prog W = .ok (eqHB k s n [x0, x1, x2, x3, x4, x5, x6, x7] k' s' n' [y0, y1, y2, y3, y4, y5, y6, y7]) W := by
  rw [show (10000 : Nat) = 9999 + 1 from rfl, run_equalIn_struct W 9999 26 _ _ (by kernel_rfl) (by kernel_rfl)]
  have hf := host_fields
  generalize (Tryz.prog.fieldsOf 26).toList = fs at hf
  obtain ⟨f0, r0, rfl, e0, hf⟩ := List.map_eq_cons_iff.1 hf
  obtain ⟨f1, r1, rfl, e1, hf⟩ := List.map_eq_cons_iff.1 hf
  obtain ⟨f2, r2, rfl, e2, hf⟩ := List.map_eq_cons_iff.1 hf
  obtain ⟨f3, r3, rfl, e3, hf⟩ := List.map_eq_cons_iff.1 hf
  obtain rfl := List.map_eq_nil_iff.1 hf
  simp only [Prod.mk.injEq, decide_eq_true_eq] at e0 e1 e2 e3
  obtain ⟨a0, a1, a2⟩ := e0
  obtain ⟨b0, b1, b2⟩ := e1
  obtain ⟨c0, c1, c2⟩ := e2
  obtain ⟨d0, d1, d2⟩ := e3
  rw [fields_step 9999 f0 _ _ _ (.int .i64 k) (.int .i64 k') (k == k') W a2 (by rw [a0, a1]; exact part0 ..) (by rw [a0, a1]; exact part0 ..) (by rw [a0]; exact eq_int 9998 ..),
    fields_step 9999 f1 _ _ _ (.string s) (.string s') (s.toList == s'.toList) W b2 (by rw [b0, b1]; exact part1 ..) (by rw [b0, b1]; exact part1 ..) (by rw [b0]; exact eq_str 9998 ..),
    fields_step 9999 f2 _ _ _ (.int .i64 n) (.int .i64 n') (n == n') W c2 (by rw [c0, c1]; exact part2 ..) (by rw [c0, c1]; exact part2 ..) (by rw [c0]; exact eq_int 9998 ..),
    fields_step 9999 f3 _ _ _ (.agg #[.int .i64 x0, .int .i64 x1, .int .i64 x2, .int .i64 x3, .int .i64 x4, .int .i64 x5, .int .i64 x6, .int .i64 x7]) (.agg #[.int .i64 y0, .int .i64 y1, .int .i64 y2, .int .i64 y3, .int .i64 y4, .int .i64 y5, .int .i64 y6, .int .i64 y7]) (eqB [x0, x1, x2, x3, x4, x5, x6, x7] [y0, y1, y2, y3, y4, y5, y6, y7]) W d2 (by rw [d0, d1]; exact part3 ..) (by rw [d0, d1]; exact part3 ..) (by rw [d0]; exact eqA 9997 ..)]
  unfold eqHB
  cases (k == k') <;> cases (s.toList == s'.toList) <;> cases (n == n') <;> cases (eqB [x0, x1, x2, x3, x4, x5, x6, x7] [y0, y1, y2, y3, y4, y5, y6, y7]) <;> rfl
end Go.Proofs.YtamnhegianpedaaGreatDoor

namespace Go.Proofs.YtamnhegianpedaaGreatDoor
open Go.RowKit

/-- A host laid in the block behind w's. -/
def HostCells (w W : World) (k : Int) (s : ByteArray) (n : Int) (x0 x1 x2 x3 x4 x5 x6 x7 : Int) : Prop :=
  W.cell? ⟨w.heap.size, 0, none⟩ = some (.int .i64 k) ∧ W.cell? ⟨w.heap.size, 1, none⟩ = some (.string s) ∧ W.cell? ⟨w.heap.size, 2, none⟩ = some (.int .i64 n) ∧
  W.cell? ⟨w.heap.size, 3, none⟩ = some (.int .i64 x0) ∧ W.cell? ⟨w.heap.size, 4, none⟩ = some (.int .i64 x1) ∧ W.cell? ⟨w.heap.size, 5, none⟩ = some (.int .i64 x2) ∧ W.cell? ⟨w.heap.size, 6, none⟩ = some (.int .i64 x3) ∧
  W.cell? ⟨w.heap.size, 7, none⟩ = some (.int .i64 x4) ∧ W.cell? ⟨w.heap.size, 8, none⟩ = some (.int .i64 x5) ∧ W.cell? ⟨w.heap.size, 9, none⟩ = some (.int .i64 x6) ∧ W.cell? ⟨w.heap.size, 10, none⟩ = some (.int .i64 x7)

theorem host_cells (w W : World) (k : Int) (s : ByteArray) (n : Int) (x0 x1 x2 x3 x4 x5 x6 x7 : Int) (t : TypeId) (hb : Below (w.alloc (.cells #[.int .i64 k, .string s, .int .i64 n, .int .i64 x0, .int .i64 x1, .int .i64 x2, .int .i64 x3, .int .i64 x4, .int .i64 x5, .int .i64 x6, .int .i64 x7] t)).heap.size (w.alloc (.cells #[.int .i64 k, .string s, .int .i64 n, .int .i64 x0, .int .i64 x1, .int .i64 x2, .int .i64 x3, .int .i64 x4, .int .i64 x5, .int .i64 x6, .int .i64 x7] t)) W) :
    HostCells w W k s n x0 x1 x2 x3 x4 x5 x6 x7 := by
  have key : ∀ j v, (#[.int .i64 k, .string s, .int .i64 n, .int .i64 x0, .int .i64 x1, .int .i64 x2, .int .i64 x3, .int .i64 x4, .int .i64 x5, .int .i64 x6, .int .i64 x7] : Array Value)[j]? = some v → W.cell? ⟨w.heap.size, j, none⟩ = some v := fun j v h => cell_later hb (by rw [World.cell?_alloc_at _ _ _ _ rfl]; simpa using h)
  exact ⟨key 0 _ rfl, key 1 _ rfl, key 2 _ rfl, key 3 _ rfl, key 4 _ rfl, key 5 _ rfl, key 6 _ rfl, key 7 _ rfl, key 8 _ rfl, key 9 _ rfl, key 10 _ rfl⟩

theorem host_frozen (w W : World) (cs : Array Value) (t : TypeId) (hb : Below (w.alloc (.cells cs t)).heap.size (w.alloc (.cells cs t)) W) : ∀ j, W.frozen? ⟨w.heap.size, j, none⟩ = false :=
  fun j => frozen_of_row W _ j _ t ((hb.block _ (by simp)).trans (heap_alloc_new w _))

/-- A row of values in a block. -/
def RowIs (W : World) (B : Nat) (vs : List Value) : Prop := ∀ j v, vs[j]? = some v → W.cell? ⟨B, j, none⟩ = some v
theorem RowIs.set {W : World} {B : Nat} {vs : List Value} (h : RowIs W B vs) (j : Nat) (hj : j < vs.length) (x : Value) : RowIs (W.setCell ⟨B, j, none⟩ x) B (vs.set j x) := by
  intro i v hv
  by_cases e : j = i
  · subst e
    rw [World.cell?_setCell_same' _ _ _ (by rw [h j _ (List.getElem?_eq_getElem hj)]; rfl)]
    rw [List.getElem?_set_self hj] at hv
    exact hv
  · rw [World.cell?_setCell_other _ _ _ _ (fun h => e (by injection h)), h i v]
    rwa [List.getElem?_set_ne e] at hv
def hRow (k : Int) (s : ByteArray) (n : Int) (x0 x1 x2 x3 x4 x5 x6 x7 : Int) : List Value := [.int .i64 k, .string s, .int .i64 n, .int .i64 x0, .int .i64 x1, .int .i64 x2, .int .i64 x3, .int .i64 x4, .int .i64 x5, .int .i64 x6, .int .i64 x7]
theorem row_of_cells {w W : World} {k n : Int} {s : ByteArray} {x0 x1 x2 x3 x4 x5 x6 x7 : Int} (h : HostCells w W k s n x0 x1 x2 x3 x4 x5 x6 x7) : RowIs W w.heap.size (hRow k s n x0 x1 x2 x3 x4 x5 x6 x7) := by
  obtain ⟨c0, c1, c2, c3, c4, c5, c6, c7, c8, c9, c10⟩ := h
  intro j v hv
  match j, hv with
  | 0, hv => cases hv; exact c0
  | 1, hv => cases hv; exact c1
  | 2, hv => cases hv; exact c2
  | 3, hv => cases hv; exact c3
  | 4, hv => cases hv; exact c4
  | 5, hv => cases hv; exact c5
  | 6, hv => cases hv; exact c6
  | 7, hv => cases hv; exact c7
  | 8, hv => cases hv; exact c8
  | 9, hv => cases hv; exact c9
  | 10, hv => cases hv; exact c10
  | j + 11, hv => simp [hRow] at hv
theorem host_store {W : World} {B : Nat} {k' n' : Int} {s' : ByteArray} {y0 y1 y2 y3 y4 y5 y6 y7 : Int} (h : RowIs W B (hRow k' s' n' y0 y1 y2 y3 y4 y5 y6 y7)) (k n : Int) (s : ByteArray) (x0 x1 x2 x3 x4 x5 x6 x7 : Int) : RowIs (((((((((((W.setCell ⟨B, 0, none⟩ (.int .i64 k)).setCell ⟨B, 1, none⟩ (.string s)).setCell ⟨B, 2, none⟩ (.int .i64 n)).setCell ⟨B, 3, none⟩ (.int .i64 x0)).setCell ⟨B, 4, none⟩ (.int .i64 x1)).setCell ⟨B, 5, none⟩ (.int .i64 x2)).setCell ⟨B, 6, none⟩ (.int .i64 x3)).setCell ⟨B, 7, none⟩ (.int .i64 x4)).setCell ⟨B, 8, none⟩ (.int .i64 x5)).setCell ⟨B, 9, none⟩ (.int .i64 x6)).setCell ⟨B, 10, none⟩ (.int .i64 x7)) B (hRow k s n x0 x1 x2 x3 x4 x5 x6 x7) :=
  ((((((((((h.set 0 (by simp [hRow]) (.int .i64 k)).set 1 (by simp [hRow]) (.string s)).set 2 (by simp [hRow]) (.int .i64 n)).set 3 (by simp [hRow]) (.int .i64 x0)).set 4 (by simp [hRow]) (.int .i64 x1)).set 5 (by simp [hRow]) (.int .i64 x2)).set 6 (by simp [hRow]) (.int .i64 x3)).set 7 (by simp [hRow]) (.int .i64 x4)).set 8 (by simp [hRow]) (.int .i64 x5)).set 9 (by simp [hRow]) (.int .i64 x6)).set 10 (by simp [hRow]) (.int .i64 x7)
theorem below_hstore {m : Nat} {w W : World} (h : Below m w W) {B : Nat} (hB : m ≤ B) (k n : Int) (s : ByteArray) (x0 x1 x2 x3 x4 x5 x6 x7 : Int) : Below m w (((((((((((W.setCell ⟨B, 0, none⟩ (.int .i64 k)).setCell ⟨B, 1, none⟩ (.string s)).setCell ⟨B, 2, none⟩ (.int .i64 n)).setCell ⟨B, 3, none⟩ (.int .i64 x0)).setCell ⟨B, 4, none⟩ (.int .i64 x1)).setCell ⟨B, 5, none⟩ (.int .i64 x2)).setCell ⟨B, 6, none⟩ (.int .i64 x3)).setCell ⟨B, 7, none⟩ (.int .i64 x4)).setCell ⟨B, 8, none⟩ (.int .i64 x5)).setCell ⟨B, 9, none⟩ (.int .i64 x6)).setCell ⟨B, 10, none⟩ (.int .i64 x7)) := by
  have st : ∀ (U : World) (j : Nat) (x : Value), Below m w U → Below m w (U.setCell ⟨B, j, none⟩ x) := fun U j x hU => hU.setCell (p := ⟨B, j, none⟩) hB _
  exact st _ _ _ (st _ _ _ (st _ _ _ (st _ _ _ (st _ _ _ (st _ _ _ (st _ _ _ (st _ _ _ (st _ _ _ (st _ _ _ (st _ _ _ h))))))))))
theorem host_result1 {fn : Func} {p : Tmp} (h : fn.results = #[.cell p 26]) (tmps : Array Value) (W : World) (B : Nat) (k n : Int) (s : ByteArray) (x0 x1 x2 x3 x4 x5 x6 x7 : Int)
    (hp : tmps[p]?.getD undef = .pointer (some ⟨B, 0, none⟩)) (ha : RowIs W B (hRow k s n x0 x1 x2 x3 x4 x5 x6 x7)) :
    (results fn tmps).run Tryz.prog W = .ok (.agg #[.int .i64 k, .string s, .int .i64 n, .int .i64 x0, .int .i64 x1, .int .i64 x2, .int .i64 x3, .int .i64 x4, .int .i64 x5, .int .i64 x6, .int .i64 x7]) W := by
  have c0 := ha 0 _ rfl
  have c1 := ha 1 _ rfl
  have c2 := ha 2 _ rfl
  have c3 := ha 3 _ rfl
  have c4 := ha 4 _ rfl
  have c5 := ha 5 _ rfl
  have c6 := ha 6 _ rfl
  have c7 := ha 7 _ rfl
  have c8 := ha 8 _ rfl
  have c9 := ha 9 _ rfl
  have c10 := ha 10 _ rfl
  simp [results, h, hp, asAddr, go_sem, c0, c1, c2, c3, c4, c5, c6, c7, c8, c9, c10, Addr.add_lit]
theorem host_result2 {fn : Func} {p q : Tmp} (h : fn.results = #[.cell p 26, .tmp q]) (tmps : Array Value) (W : World) (B : Nat) (v : Value) (k n : Int) (s : ByteArray) (x0 x1 x2 x3 x4 x5 x6 x7 : Int)
    (hp : tmps[p]?.getD undef = .pointer (some ⟨B, 0, none⟩)) (hq : tmps[q]?.getD undef = v) (ha : RowIs W B (hRow k s n x0 x1 x2 x3 x4 x5 x6 x7)) :
    (results fn tmps).run Tryz.prog W = .ok (.tuple #[.agg #[.int .i64 k, .string s, .int .i64 n, .int .i64 x0, .int .i64 x1, .int .i64 x2, .int .i64 x3, .int .i64 x4, .int .i64 x5, .int .i64 x6, .int .i64 x7], v]) W := by
  have c0 := ha 0 _ rfl
  have c1 := ha 1 _ rfl
  have c2 := ha 2 _ rfl
  have c3 := ha 3 _ rfl
  have c4 := ha 4 _ rfl
  have c5 := ha 5 _ rfl
  have c6 := ha 6 _ rfl
  have c7 := ha 7 _ rfl
  have c8 := ha 8 _ rfl
  have c9 := ha 9 _ rfl
  have c10 := ha 10 _ rfl
  simp [results, h, hp, hq, asAddr, go_sem, c0, c1, c2, c3, c4, c5, c6, c7, c8, c9, c10, Addr.add_lit]

set_option maxHeartbeats 1000000 in
theorem implWithin1 (n : Int) (s : ByteArray) (x0 x1 x2 x3 x4 x5 x6 x7 : Int) (w : World) :
    Calls Tryz.prog 21 #[.agg #[.int .i64 1, .string s, .int .i64 n, .int .i64 x0, .int .i64 x1, .int .i64 x2, .int .i64 x3, .int .i64 x4, .int .i64 x5, .int .i64 x6, .int .i64 x7]] w fun e w' => e = .returned (.iface 68 (.string s)) ∧ Below w.heap.size w w' := by
  go_enter Tryz.func21, Tryz.ntmps21
  go_wp2
  go_ret
  exact ⟨rfl, (Below.refl _ _).alloc (Nat.le_refl _) _⟩

set_option maxHeartbeats 1000000 in
theorem implWithin2 (n : Int) (s : ByteArray) (x0 x1 x2 x3 x4 x5 x6 x7 : Int) (w : World) :
    Calls Tryz.prog 21 #[.agg #[.int .i64 2, .string s, .int .i64 n, .int .i64 x0, .int .i64 x1, .int .i64 x2, .int .i64 x3, .int .i64 x4, .int .i64 x5, .int .i64 x6, .int .i64 x7]] w fun e w' => e = .returned (.iface 69 (.int .i64 n)) ∧ Below w.heap.size w w' := by
  go_enter Tryz.func21, Tryz.ntmps21
  go_wp2
  go_ret
  exact ⟨rfl, (Below.refl _ _).alloc (Nat.le_refl _) _⟩

set_option maxHeartbeats 1000000 in
theorem implWithin3 (n : Int) (s : ByteArray) (x0 x1 x2 x3 x4 x5 x6 x7 : Int) (w : World) :
    Calls Tryz.prog 21 #[.agg #[.int .i64 3, .string s, .int .i64 n, .int .i64 x0, .int .i64 x1, .int .i64 x2, .int .i64 x3, .int .i64 x4, .int .i64 x5, .int .i64 x6, .int .i64 x7]] w fun e w' => e = .returned (.iface 70 (.agg #[.int .i64 x0, .int .i64 x1, .int .i64 x2, .int .i64 x3, .int .i64 x4, .int .i64 x5, .int .i64 x6, .int .i64 x7])) ∧ Below w.heap.size w w' := by
  go_enter Tryz.func21, Tryz.ntmps21
  go_wp2
  go_ret
  exact ⟨rfl, (Below.refl _ _).alloc (Nat.le_refl _) _⟩

set_option maxHeartbeats 1000000 in
theorem implWithin0 (k n : Int) (s : ByteArray) (x0 x1 x2 x3 x4 x5 x6 x7 : Int) (w : World) (h1 : ¬ k = 1) (h2 : ¬ k = 2) (h3 : ¬ k = 3) :
    Calls Tryz.prog 21 #[.agg #[.int .i64 k, .string s, .int .i64 n, .int .i64 x0, .int .i64 x1, .int .i64 x2, .int .i64 x3, .int .i64 x4, .int .i64 x5, .int .i64 x6, .int .i64 x7]] w fun e w' => e = .returned .nilIface ∧ Below w.heap.size w w' := by
  have q1 : (k == 1) = false := beq_eq_false_iff_ne.2 h1
  have q2 : (k == 2) = false := beq_eq_false_iff_ne.2 h2
  have q3 : (k == 3) = false := beq_eq_false_iff_ne.2 h3
  clear h1 h2 h3
  go_enter Tryz.func21, Tryz.ntmps21
  go_wp2
  go_ret
  exact ⟨rfl, (Below.refl _ _).alloc (Nat.le_refl _) _⟩

theorem ta11 (s : ByteArray) (W : World) : (Instr.typeAssert (.iface 68 (.string s)) 44 68 true).run Tryz.prog W = .ok (.tuple #[.string s, .bool true]) W := by kernel_rfl
theorem ta21 (n : Int) (W : World) : (Instr.typeAssert (.iface 69 (.int .i64 n)) 44 68 true).run Tryz.prog W = .ok (.tuple #[.string ⟨#[]⟩, .bool false]) W := by kernel_rfl
theorem ta22 (n : Int) (W : World) : (Instr.typeAssert (.iface 69 (.int .i64 n)) 44 69 true).run Tryz.prog W = .ok (.tuple #[.int .i64 n, .bool true]) W := by kernel_rfl
theorem ta31 (v : Value) (W : World) : (Instr.typeAssert (.iface 70 v) 44 68 true).run Tryz.prog W = .ok (.tuple #[.string ⟨#[]⟩, .bool false]) W := by kernel_rfl
theorem ta32 (v : Value) (W : World) : (Instr.typeAssert (.iface 70 v) 44 69 true).run Tryz.prog W = .ok (.tuple #[.int .i64 0, .bool false]) W := by kernel_rfl
theorem ta33 (v : Value) (W : World) : (Instr.typeAssert (.iface 70 v) 44 70 true).run Tryz.prog W = .ok (.tuple #[v, .bool true]) W := by kernel_rfl
theorem ta01 (W : World) : (Instr.typeAssert .nilIface 44 68 true).run Tryz.prog W = .ok (.tuple #[.string ⟨#[]⟩, .bool false]) W := by kernel_rfl
theorem ta02 (W : World) : (Instr.typeAssert .nilIface 44 69 true).run Tryz.prog W = .ok (.tuple #[.int .i64 0, .bool false]) W := by kernel_rfl
theorem ta03 (W : World) : (Instr.typeAssert .nilIface 44 70 true).run Tryz.prog W = .ok (.tuple #[.agg #[.int .i64 0, .int .i64 0, .int .i64 0, .int .i64 0, .int .i64 0, .int .i64 0, .int .i64 0, .int .i64 0], .bool false]) W := by kernel_rfl

set_option maxRecDepth 100000 in
set_option maxHeartbeats 1000000 in
theorem implOutside1 (s : ByteArray) (w : World) :
    Calls Tryz.prog 26 #[.iface 68 (.string s)] w fun e w' => e = .returned (.agg #[.int .i64 1, .string s, .int .i64 0, .int .i64 0, .int .i64 0, .int .i64 0, .int .i64 0, .int .i64 0, .int .i64 0, .int .i64 0, .int .i64 0]) ∧ Below w.heap.size w w' := by
  have t1 := ta11 s
  go_enter Tryz.func26, Tryz.ntmps26
  go_wp2
  go_returns
  exact ⟨rfl, by go_grown⟩

set_option maxRecDepth 100000 in
set_option maxHeartbeats 1000000 in
theorem implOutside2 (n : Int) (w : World) :
    Calls Tryz.prog 26 #[.iface 69 (.int .i64 n)] w fun e w' => e = .returned (.agg #[.int .i64 2, .string ⟨#[]⟩, .int .i64 n, .int .i64 0, .int .i64 0, .int .i64 0, .int .i64 0, .int .i64 0, .int .i64 0, .int .i64 0, .int .i64 0]) ∧ Below w.heap.size w w' := by
  have t1 := ta21 n
  have t2 := ta22 n
  go_enter Tryz.func26, Tryz.ntmps26
  go_wp2
  go_returns
  exact ⟨rfl, by go_grown⟩

set_option maxRecDepth 100000 in
set_option maxHeartbeats 1000000 in
theorem implOutside3 (x0 x1 x2 x3 x4 x5 x6 x7 : Int) (w : World) :
    Calls Tryz.prog 26 #[.iface 70 (.agg #[.int .i64 x0, .int .i64 x1, .int .i64 x2, .int .i64 x3, .int .i64 x4, .int .i64 x5, .int .i64 x6, .int .i64 x7])] w fun e w' => e = .returned (.agg #[.int .i64 3, .string ⟨#[]⟩, .int .i64 0, .int .i64 x0, .int .i64 x1, .int .i64 x2, .int .i64 x3, .int .i64 x4, .int .i64 x5, .int .i64 x6, .int .i64 x7]) ∧ Below w.heap.size w w' := by
  have t1 := ta31 (.agg #[.int .i64 x0, .int .i64 x1, .int .i64 x2, .int .i64 x3, .int .i64 x4, .int .i64 x5, .int .i64 x6, .int .i64 x7])
  have t2 := ta32 (.agg #[.int .i64 x0, .int .i64 x1, .int .i64 x2, .int .i64 x3, .int .i64 x4, .int .i64 x5, .int .i64 x6, .int .i64 x7])
  have t3 := ta33 (.agg #[.int .i64 x0, .int .i64 x1, .int .i64 x2, .int .i64 x3, .int .i64 x4, .int .i64 x5, .int .i64 x6, .int .i64 x7])
  go_enter Tryz.func26, Tryz.ntmps26
  go_wp2
  go_returns
  exact ⟨rfl, by go_grown⟩

set_option maxRecDepth 100000 in
set_option maxHeartbeats 1000000 in
theorem implOutside0 (w : World) :
    Calls Tryz.prog 26 #[.nilIface] w fun e w' => e = .returned (.agg #[.int .i64 0, .string ⟨#[]⟩, .int .i64 0, .int .i64 0, .int .i64 0, .int .i64 0, .int .i64 0, .int .i64 0, .int .i64 0, .int .i64 0, .int .i64 0]) ∧ Below w.heap.size w w' := by
  have t1 := ta01
  have t2 := ta02
  have t3 := ta03
  go_enter Tryz.func26, Tryz.ntmps26
  go_wp2
  go_returns
  exact ⟨rfl, by go_grown⟩
end Go.Proofs.YtamnhegianpedaaGreatDoor

namespace Go.Proofs.YtamnhegianpedaaGreatDoor
open Go.RowKit

set_option maxHeartbeats 2000000 in
theorem implOkNamed (s : ByteArray) (w : World) (hs : s.size ≤ 1048576) (hT : Lib.Utf8Tabs 2 3 w) :
    Calls Tryz.prog 191 #[.string s] w fun e w' => e = .returned (.bool (nmOk s)) ∧ Below w.heap.size w w' := by
  have CN : Hid (Calls Tryz.prog 77 #[.string s] w fun e w' => e = .returned (ansS (nameL s)) ∧ Below w.heap.size w w') := implNameOf s w hs hT
  have CE : Hid (∀ W, Calls Tryz.prog 79 #[.string s] W fun e w' => e = .returned (.bool (endL s)) ∧ W = w') := fun W => implEndsInNumber s W hs
  clear hT
  cases hn : nameL s with
  | none =>
    have HZ : Hid (nmOk s = false) := by
      show _ = _
      unfold nmOk
      rw [hn, decide_eq_false (by simp)]
      rfl
    rw [hn] at CN
    clear hn
    go_enter Tryz.func191, Tryz.ntmps191
    go_wp2_with fail
    refine CN.out.mono ?_
    rintro e w1 ⟨rfl, b1⟩
    simp only [ansS]
    go_wp2_with fail
    go_ret
    exact ⟨by rw [HZ.out]; rfl, b1⟩
  | some n =>
    by_cases he : n = s.data.toList
    · have HZ : Hid (nmOk s = !endL s) := by
        show _ = _
        unfold nmOk
        rw [hn, he, decide_eq_true rfl]
        rfl
      rw [hn, show ansS (some n) = .tuple #[.string s, .bool true] by rw [he]; show Value.tuple #[.string ⟨s.data.toList.toArray⟩, .bool true] = _; rw [arr_back]] at CN
      clear hn he
      generalize endL s = r at HZ CE
      go_enter Tryz.func191, Tryz.ntmps191
      go_wp2_with fail
      refine CN.out.mono ?_
      rintro e w1 ⟨rfl, b1⟩
      go_wp2_with fail
      refine (CE.out _).mono ?_
      rintro e w2 ⟨rfl, rfl⟩
      go_wp2_with fail
      go_ret
      exact ⟨by rw [HZ.out]; rfl, b1⟩
    · have HZ : Hid (nmOk s = false) := by
        show _ = _
        unfold nmOk
        rw [hn, decide_eq_false (by intro e; exact he (Option.some.inj e))]
        rfl
      have hne : ((⟨n.toArray⟩ : ByteArray).toList == s.toList) = false := str_ne (fun e => he (by rw [← e]))
      rw [hn] at CN
      simp only [ansS] at CN
      generalize (⟨n.toArray⟩ : ByteArray) = T at CN hne
      clear hn he
      go_enter Tryz.func191, Tryz.ntmps191
      go_wp2_with fail
      refine CN.out.mono ?_
      rintro e w1 ⟨rfl, b1⟩
      go_wp2_with fail
      go_ret
      exact ⟨by rw [HZ.out]; rfl, b1⟩

theorem ip4T_pos (n : Int) : 0 < (ip4T n).size := by
  unfold ip4T
  show 0 < (ip4L n.toNat).toArray.size
  rw [List.size_toArray]
  unfold ip4L
  simp
  omega

set_option maxHeartbeats 2000000 in
theorem implOkFour (n : Int) (w : World) (hT : Pow w) :
    Calls Tryz.prog 192 #[.int .i64 n] w fun e w' => e = .returned (.bool (decide (0 ≤ n ∧ n < 4294967296))) ∧ Below w.heap.size w w' := by
  by_cases h : 0 ≤ n ∧ n < 4294967296
  · have CT : Hid (Calls Tryz.prog 40 #[.int .i64 n] w fun e w' => e = .returned (.string (ip4T n)) ∧ Below w.heap.size w w') := implIp4Text n w h.1 h.2 hT
    have HZ : Hid (decide (0 ≤ n ∧ n < 4294967296) = true) := decide_eq_true h
    have hem := empty_no (ip4T_pos n)
    generalize ip4T n = T at CT hem
    clear h hT
    go_enter Tryz.func192, Tryz.ntmps192
    go_wp2_with fail
    refine CT.out.mono ?_
    rintro e w1 ⟨rfl, b1⟩
    go_wp2_with fail
    go_ret
    exact ⟨by rw [HZ.out]; rfl, b1⟩
  · have CT : Hid (Calls Tryz.prog 40 #[.int .i64 n] w fun e w' => e = .returned (.string ⟨#[]⟩) ∧ Below w.heap.size w w') := implIp4Text_no n w (by omega)
    have HZ : Hid (decide (0 ≤ n ∧ n < 4294967296) = false) := decide_eq_false h
    clear h hT
    go_enter Tryz.func192, Tryz.ntmps192
    go_wp2_with fail
    refine CT.out.mono ?_
    rintro e w1 ⟨rfl, b1⟩
    go_wp2_with fail
    go_ret
    exact ⟨by rw [HZ.out]; rfl, b1⟩

set_option maxHeartbeats 2000000 in
theorem implOkSix (x0 x1 x2 x3 x4 x5 x6 x7 : Int) (w : World) :
    Calls Tryz.prog 193 #[.agg #[.int .i64 x0, .int .i64 x1, .int .i64 x2, .int .i64 x3, .int .i64 x4, .int .i64 x5, .int .i64 x6, .int .i64 x7]] w fun e w' => e = .returned (.bool (okG [x0, x1, x2, x3, x4, x5, x6, x7])) ∧ Below w.heap.size w w' := by
  have CG : Hid (∀ W, Calls Tryz.prog 65 #[.agg #[.int .i64 x0, .int .i64 x1, .int .i64 x2, .int .i64 x3, .int .i64 x4, .int .i64 x5, .int .i64 x6, .int .i64 x7]] W fun e w' => e = .returned (.bool (okG [x0, x1, x2, x3, x4, x5, x6, x7])) ∧ Below W.heap.size W w') := fun W => implGroupsOk x0 x1 x2 x3 x4 x5 x6 x7 W
  generalize okG [x0, x1, x2, x3, x4, x5, x6, x7] = r at CG ⊢
  go_enter Tryz.func193, Tryz.ntmps193
  go_wp2_with fail
  refine (CG.out _).mono ?_
  rintro e w1 ⟨rfl, b1⟩
  go_wp2_with fail
  go_ret
  exact ⟨rfl, ((Below.refl _ _).alloc (Nat.le_refl _) _).trans (b1.mono (by simp))⟩

theorem beq_bytes (a b : ByteArray) : (a.toList == b.toList) = decide (a = b) := by
  by_cases h : a = b
  · rw [str_eq h, decide_eq_true h]
  · rw [str_ne h, decide_eq_false h]
theorem size_nil (s : ByteArray) : s.size = 0 ↔ (⟨#[]⟩ : ByteArray) = s := by
  constructor
  · intro h
    apply toL_inj
    exact (List.eq_nil_of_length_eq_zero (by simpa [toL] using h)).symm
  · intro h
    rw [← h]
    rfl

theorem hOk1 (s : ByteArray) (n : Int) (z : List Int) : hOk ⟨1, s, n, z⟩ = (nmOk s && eqHB 1 s 0 zeros 1 s n z) := by
  unfold hOk nmOk eqHB eqB
  rw [if_pos rfl, Bool.eq_iff_iff]
  simp only [Bool.and_eq_true, decide_eq_true_eq, beq_self_eq_true, true_and, beq_iff_eq]
  constructor
  · rintro ⟨⟨h1, h2⟩, h3⟩
    exact ⟨h1, h2.symm, h3.symm⟩
  · rintro ⟨h1, h2, h3⟩
    exact ⟨⟨h1, h2.symm⟩, h3.symm⟩
theorem hOk2 (s : ByteArray) (n : Int) (z : List Int) : hOk ⟨2, s, n, z⟩ = (decide (0 ≤ n ∧ n < 4294967296) && eqHB 2 ⟨#[]⟩ n zeros 2 s n z) := by
  unfold hOk eqHB eqB
  rw [if_neg (show ¬ (2 : Int) = 1 by decide), if_pos rfl, Bool.eq_iff_iff, beq_bytes]
  simp only [Bool.and_eq_true, decide_eq_true_eq, beq_self_eq_true, true_and, size_nil]
  constructor
  · rintro ⟨⟨h1, h2⟩, h3⟩
    exact ⟨h2, h1, h3.symm⟩
  · rintro ⟨h1, h2, h3⟩
    exact ⟨⟨h2, h1⟩, h3.symm⟩
theorem hOk3 (s : ByteArray) (n : Int) (z : List Int) : hOk ⟨3, s, n, z⟩ = (okG z && eqHB 3 ⟨#[]⟩ 0 z 3 s n z) := by
  unfold hOk eqHB eqB
  rw [if_neg (show ¬ (3 : Int) = 1 by decide), if_neg (show ¬ (3 : Int) = 2 by decide), if_pos rfl, Bool.eq_iff_iff, beq_bytes]
  simp only [Bool.and_eq_true, decide_eq_true_eq, beq_self_eq_true, true_and, size_nil, beq_iff_eq, and_true]
  constructor
  · rintro ⟨⟨h1, h2⟩, h3⟩
    exact ⟨h3, h1, h2.symm⟩
  · rintro ⟨h1, h2, h3⟩
    exact ⟨⟨h2, h3.symm⟩, h1⟩
theorem hOk0 (k n : Int) (s : ByteArray) (z : List Int) (h1 : ¬ k = 1) (h2 : ¬ k = 2) (h3 : ¬ k = 3) : hOk ⟨k, s, n, z⟩ = false := by
  unfold hOk
  rw [if_neg h1, if_neg h2, if_neg h3]


set_option maxRecDepth 20000 in
set_option maxHeartbeats 4000000 in
theorem implHostOk1 (n : Int) (s : ByteArray) (x0 x1 x2 x3 x4 x5 x6 x7 : Int) (w : World) (hs : s.size ≤ 1048576) (hT : Lib.Utf8Tabs 2 3 w) :
    Calls Tryz.prog 10 #[.agg #[.int .i64 1, .string s, .int .i64 n, .int .i64 x0, .int .i64 x1, .int .i64 x2, .int .i64 x3, .int .i64 x4, .int .i64 x5, .int .i64 x6, .int .i64 x7]] w fun e w' => e = .returned (.bool (hOk ⟨1, s, n, [x0, x1, x2, x3, x4, x5, x6, x7]⟩)) ∧ Below w.heap.size w w' := by
  have HZ : Hid (hOk ⟨1, s, n, [x0, x1, x2, x3, x4, x5, x6, x7]⟩ = (nmOk s && eqHB 1 s 0 zeros 1 s n [x0, x1, x2, x3, x4, x5, x6, x7])) := hOk1 s n _
  have CW : Hid (∀ W, Calls Tryz.prog 21 #[.agg #[.int .i64 1, .string s, .int .i64 n, .int .i64 x0, .int .i64 x1, .int .i64 x2, .int .i64 x3, .int .i64 x4, .int .i64 x5, .int .i64 x6, .int .i64 x7]] W fun e w' => e = .returned (.iface 68 (.string s)) ∧ Below W.heap.size W w') := fun W => implWithin1 n s x0 x1 x2 x3 x4 x5 x6 x7 W
  have CK : Hid (∀ W, Below w.heap.size w W → Calls Tryz.prog 191 #[.string s] W fun e w' => e = .returned (.bool (nmOk s)) ∧ Below W.heap.size W w') := fun W hb => implOkNamed s W hs (tabs_below hT hb)
  have CO : Hid (∀ W, Calls Tryz.prog 26 #[.iface 68 (.string s)] W fun e w' => e = .returned (.agg #[.int .i64 1, .string s, .int .i64 0, .int .i64 0, .int .i64 0, .int .i64 0, .int .i64 0, .int .i64 0, .int .i64 0, .int .i64 0, .int .i64 0]) ∧ Below W.heap.size W w') := fun W => implOutside1 s W
  have heq : ∀ W, _ := eqH 1 s 0 0 0 0 0 0 0 0 0 1 s n x0 x1 x2 x3 x4 x5 x6 x7
  rw [show [0, 0, 0, 0, 0, 0, 0, 0] = zeros from rfl] at heq
  clear hT
  have HC : Hid (∀ W, Below (w.alloc (.cells #[.int .i64 1, .string s, .int .i64 n, .int .i64 x0, .int .i64 x1, .int .i64 x2, .int .i64 x3, .int .i64 x4, .int .i64 x5, .int .i64 x6, .int .i64 x7] 26)).heap.size (w.alloc (.cells #[.int .i64 1, .string s, .int .i64 n, .int .i64 x0, .int .i64 x1, .int .i64 x2, .int .i64 x3, .int .i64 x4, .int .i64 x5, .int .i64 x6, .int .i64 x7] 26)) W → HostCells w W 1 s n x0 x1 x2 x3 x4 x5 x6 x7) := fun W h => host_cells w W _ _ _ x0 x1 x2 x3 x4 x5 x6 x7 _ h
  generalize nmOk s = r at CK HZ
  generalize eqHB 1 s 0 zeros 1 s n [x0, x1, x2, x3, x4, x5, x6, x7] = q at HZ heq
  go_enter Tryz.func10, Tryz.ntmps10
  go_wp2_with fail
  refine (CW.out _).mono ?_
  rintro e w1 ⟨rfl, b1⟩
  have HB : Hid (Below (w.alloc (.cells #[.int .i64 1, .string s, .int .i64 n, .int .i64 x0, .int .i64 x1, .int .i64 x2, .int .i64 x3, .int .i64 x4, .int .i64 x5, .int .i64 x6, .int .i64 x7] 26)).heap.size (w.alloc (.cells #[.int .i64 1, .string s, .int .i64 n, .int .i64 x0, .int .i64 x1, .int .i64 x2, .int .i64 x3, .int .i64 x4, .int .i64 x5, .int .i64 x6, .int .i64 x7] 26)) w1.drew) := ⟨b1.os, b1.tape, b1.output, b1.size, b1.block⟩
  obtain ⟨c0, c1, c2, c3, c4, c5, c6, c7, c8, c9, c10⟩ := HC.out w1.drew HB.out
  have CK1 : Hid (∀ W, Below (w.alloc (.cells #[.int .i64 1, .string s, .int .i64 n, .int .i64 x0, .int .i64 x1, .int .i64 x2, .int .i64 x3, .int .i64 x4, .int .i64 x5, .int .i64 x6, .int .i64 x7] 26)).heap.size (w.alloc (.cells #[.int .i64 1, .string s, .int .i64 n, .int .i64 x0, .int .i64 x1, .int .i64 x2, .int .i64 x3, .int .i64 x4, .int .i64 x5, .int .i64 x6, .int .i64 x7] 26)) W → Calls Tryz.prog 191 #[(.string s)] W fun e w' => e = .returned (.bool r) ∧ HostCells w w' 1 s n x0 x1 x2 x3 x4 x5 x6 x7 ∧ Hid (Below (w.alloc (.cells #[.int .i64 1, .string s, .int .i64 n, .int .i64 x0, .int .i64 x1, .int .i64 x2, .int .i64 x3, .int .i64 x4, .int .i64 x5, .int .i64 x6, .int .i64 x7] 26)).heap.size (w.alloc (.cells #[.int .i64 1, .string s, .int .i64 n, .int .i64 x0, .int .i64 x1, .int .i64 x2, .int .i64 x3, .int .i64 x4, .int .i64 x5, .int .i64 x6, .int .i64 x7] 26)) w')) :=
    fun W hW => (CK.out W (((Below.refl _ w).alloc (Nat.le_refl _) _).trans (hW.mono (by simp)))).mono fun e w' h => ⟨h.1, HC.out w' (hW.trans (h.2.mono hW.size)), hW.trans (h.2.mono hW.size)⟩
  have CO1 : Hid (∀ W, Below (w.alloc (.cells #[.int .i64 1, .string s, .int .i64 n, .int .i64 x0, .int .i64 x1, .int .i64 x2, .int .i64 x3, .int .i64 x4, .int .i64 x5, .int .i64 x6, .int .i64 x7] 26)).heap.size (w.alloc (.cells #[.int .i64 1, .string s, .int .i64 n, .int .i64 x0, .int .i64 x1, .int .i64 x2, .int .i64 x3, .int .i64 x4, .int .i64 x5, .int .i64 x6, .int .i64 x7] 26)) W → Calls Tryz.prog 26 #[.iface 68 (.string s)] W fun e w' => e = .returned (.agg #[.int .i64 1, .string s, .int .i64 0, .int .i64 0, .int .i64 0, .int .i64 0, .int .i64 0, .int .i64 0, .int .i64 0, .int .i64 0, .int .i64 0]) ∧ HostCells w w' 1 s n x0 x1 x2 x3 x4 x5 x6 x7 ∧ Hid (Below (w.alloc (.cells #[.int .i64 1, .string s, .int .i64 n, .int .i64 x0, .int .i64 x1, .int .i64 x2, .int .i64 x3, .int .i64 x4, .int .i64 x5, .int .i64 x6, .int .i64 x7] 26)).heap.size (w.alloc (.cells #[.int .i64 1, .string s, .int .i64 n, .int .i64 x0, .int .i64 x1, .int .i64 x2, .int .i64 x3, .int .i64 x4, .int .i64 x5, .int .i64 x6, .int .i64 x7] 26)) w')) :=
    fun W hW => (CO.out W).mono fun e w' h => ⟨h.1, HC.out w' (hW.trans (h.2.mono hW.size)), hW.trans (h.2.mono hW.size)⟩
  have HE : Hid (∀ W, Below (w.alloc (.cells #[.int .i64 1, .string s, .int .i64 n, .int .i64 x0, .int .i64 x1, .int .i64 x2, .int .i64 x3, .int .i64 x4, .int .i64 x5, .int .i64 x6, .int .i64 x7] 26)).heap.size (w.alloc (.cells #[.int .i64 1, .string s, .int .i64 n, .int .i64 x0, .int .i64 x1, .int .i64 x2, .int .i64 x3, .int .i64 x4, .int .i64 x5, .int .i64 x6, .int .i64 x7] 26)) W → Below w.heap.size w W) := fun W hW => ((Below.refl _ w).alloc (Nat.le_refl _) _).trans (hW.mono (by simp))
  clear b1
  go_wp2_with fail
  cases r with
  | false =>
    first | go_region_with (go_at_call 191; refine (CK1.out _ HB.out).mono ?_; rintro e w2 ⟨rfl, hc2, hb2⟩) | fail
    all_goals go_wp2_with fail
    all_goals go_ret
    all_goals exact ⟨by rw [HZ.out]; rfl, HE.out _ hb2.out⟩
  | true =>
    go_region_with (first | (go_at_call 191; refine (CK1.out _ HB.out).mono ?_; rintro e w2 ⟨rfl, ⟨d0, d1, d2, d3, d4, d5, d6, d7, d8, d9, d10⟩, hb2⟩) | (go_at_call 26; refine (CO1.out _ hb2.out).mono ?_; rintro e w3 ⟨rfl, ⟨e0, e1, e2, e3, e4, e5, e6, e7, e8, e9, e10⟩, hb3⟩))
    all_goals go_wp2_with fail
    all_goals go_ret
    all_goals exact ⟨by rw [HZ.out]; rfl, HE.out _ hb3.out⟩

set_option maxRecDepth 20000 in
set_option maxHeartbeats 4000000 in
theorem implHostOk2 (n : Int) (s : ByteArray) (x0 x1 x2 x3 x4 x5 x6 x7 : Int) (w : World) (hP : Pow w) :
    Calls Tryz.prog 10 #[.agg #[.int .i64 2, .string s, .int .i64 n, .int .i64 x0, .int .i64 x1, .int .i64 x2, .int .i64 x3, .int .i64 x4, .int .i64 x5, .int .i64 x6, .int .i64 x7]] w fun e w' => e = .returned (.bool (hOk ⟨2, s, n, [x0, x1, x2, x3, x4, x5, x6, x7]⟩)) ∧ Below w.heap.size w w' := by
  have HZ : Hid (hOk ⟨2, s, n, [x0, x1, x2, x3, x4, x5, x6, x7]⟩ = (decide (0 ≤ n ∧ n < 4294967296) && eqHB 2 ⟨#[]⟩ n zeros 2 s n [x0, x1, x2, x3, x4, x5, x6, x7])) := hOk2 s n _
  have CW : Hid (∀ W, Calls Tryz.prog 21 #[.agg #[.int .i64 2, .string s, .int .i64 n, .int .i64 x0, .int .i64 x1, .int .i64 x2, .int .i64 x3, .int .i64 x4, .int .i64 x5, .int .i64 x6, .int .i64 x7]] W fun e w' => e = .returned (.iface 69 (.int .i64 n)) ∧ Below W.heap.size W w') := fun W => implWithin2 n s x0 x1 x2 x3 x4 x5 x6 x7 W
  have CK : Hid (∀ W, Below w.heap.size w W → Calls Tryz.prog 192 #[.int .i64 n] W fun e w' => e = .returned (.bool (decide (0 ≤ n ∧ n < 4294967296))) ∧ Below W.heap.size W w') := fun W hb => implOkFour n W (pow_below hP hb)
  have CO : Hid (∀ W, Calls Tryz.prog 26 #[.iface 69 (.int .i64 n)] W fun e w' => e = .returned (.agg #[.int .i64 2, .string ⟨#[]⟩, .int .i64 n, .int .i64 0, .int .i64 0, .int .i64 0, .int .i64 0, .int .i64 0, .int .i64 0, .int .i64 0, .int .i64 0]) ∧ Below W.heap.size W w') := fun W => implOutside2 n W
  have heq : ∀ W, _ := eqH 2 ⟨#[]⟩ n 0 0 0 0 0 0 0 0 2 s n x0 x1 x2 x3 x4 x5 x6 x7
  rw [show [0, 0, 0, 0, 0, 0, 0, 0] = zeros from rfl] at heq
  clear hP
  have HC : Hid (∀ W, Below (w.alloc (.cells #[.int .i64 2, .string s, .int .i64 n, .int .i64 x0, .int .i64 x1, .int .i64 x2, .int .i64 x3, .int .i64 x4, .int .i64 x5, .int .i64 x6, .int .i64 x7] 26)).heap.size (w.alloc (.cells #[.int .i64 2, .string s, .int .i64 n, .int .i64 x0, .int .i64 x1, .int .i64 x2, .int .i64 x3, .int .i64 x4, .int .i64 x5, .int .i64 x6, .int .i64 x7] 26)) W → HostCells w W 2 s n x0 x1 x2 x3 x4 x5 x6 x7) := fun W h => host_cells w W _ _ _ x0 x1 x2 x3 x4 x5 x6 x7 _ h
  generalize decide (0 ≤ n ∧ n < 4294967296) = r at CK HZ
  generalize eqHB 2 ⟨#[]⟩ n zeros 2 s n [x0, x1, x2, x3, x4, x5, x6, x7] = q at HZ heq
  go_enter Tryz.func10, Tryz.ntmps10
  go_wp2_with fail
  refine (CW.out _).mono ?_
  rintro e w1 ⟨rfl, b1⟩
  have HB : Hid (Below (w.alloc (.cells #[.int .i64 2, .string s, .int .i64 n, .int .i64 x0, .int .i64 x1, .int .i64 x2, .int .i64 x3, .int .i64 x4, .int .i64 x5, .int .i64 x6, .int .i64 x7] 26)).heap.size (w.alloc (.cells #[.int .i64 2, .string s, .int .i64 n, .int .i64 x0, .int .i64 x1, .int .i64 x2, .int .i64 x3, .int .i64 x4, .int .i64 x5, .int .i64 x6, .int .i64 x7] 26)) w1.drew) := ⟨b1.os, b1.tape, b1.output, b1.size, b1.block⟩
  obtain ⟨c0, c1, c2, c3, c4, c5, c6, c7, c8, c9, c10⟩ := HC.out w1.drew HB.out
  have CK1 : Hid (∀ W, Below (w.alloc (.cells #[.int .i64 2, .string s, .int .i64 n, .int .i64 x0, .int .i64 x1, .int .i64 x2, .int .i64 x3, .int .i64 x4, .int .i64 x5, .int .i64 x6, .int .i64 x7] 26)).heap.size (w.alloc (.cells #[.int .i64 2, .string s, .int .i64 n, .int .i64 x0, .int .i64 x1, .int .i64 x2, .int .i64 x3, .int .i64 x4, .int .i64 x5, .int .i64 x6, .int .i64 x7] 26)) W → Calls Tryz.prog 192 #[(.int .i64 n)] W fun e w' => e = .returned (.bool r) ∧ HostCells w w' 2 s n x0 x1 x2 x3 x4 x5 x6 x7 ∧ Hid (Below (w.alloc (.cells #[.int .i64 2, .string s, .int .i64 n, .int .i64 x0, .int .i64 x1, .int .i64 x2, .int .i64 x3, .int .i64 x4, .int .i64 x5, .int .i64 x6, .int .i64 x7] 26)).heap.size (w.alloc (.cells #[.int .i64 2, .string s, .int .i64 n, .int .i64 x0, .int .i64 x1, .int .i64 x2, .int .i64 x3, .int .i64 x4, .int .i64 x5, .int .i64 x6, .int .i64 x7] 26)) w')) :=
    fun W hW => (CK.out W (((Below.refl _ w).alloc (Nat.le_refl _) _).trans (hW.mono (by simp)))).mono fun e w' h => ⟨h.1, HC.out w' (hW.trans (h.2.mono hW.size)), hW.trans (h.2.mono hW.size)⟩
  have CO1 : Hid (∀ W, Below (w.alloc (.cells #[.int .i64 2, .string s, .int .i64 n, .int .i64 x0, .int .i64 x1, .int .i64 x2, .int .i64 x3, .int .i64 x4, .int .i64 x5, .int .i64 x6, .int .i64 x7] 26)).heap.size (w.alloc (.cells #[.int .i64 2, .string s, .int .i64 n, .int .i64 x0, .int .i64 x1, .int .i64 x2, .int .i64 x3, .int .i64 x4, .int .i64 x5, .int .i64 x6, .int .i64 x7] 26)) W → Calls Tryz.prog 26 #[.iface 69 (.int .i64 n)] W fun e w' => e = .returned (.agg #[.int .i64 2, .string ⟨#[]⟩, .int .i64 n, .int .i64 0, .int .i64 0, .int .i64 0, .int .i64 0, .int .i64 0, .int .i64 0, .int .i64 0, .int .i64 0]) ∧ HostCells w w' 2 s n x0 x1 x2 x3 x4 x5 x6 x7 ∧ Hid (Below (w.alloc (.cells #[.int .i64 2, .string s, .int .i64 n, .int .i64 x0, .int .i64 x1, .int .i64 x2, .int .i64 x3, .int .i64 x4, .int .i64 x5, .int .i64 x6, .int .i64 x7] 26)).heap.size (w.alloc (.cells #[.int .i64 2, .string s, .int .i64 n, .int .i64 x0, .int .i64 x1, .int .i64 x2, .int .i64 x3, .int .i64 x4, .int .i64 x5, .int .i64 x6, .int .i64 x7] 26)) w')) :=
    fun W hW => (CO.out W).mono fun e w' h => ⟨h.1, HC.out w' (hW.trans (h.2.mono hW.size)), hW.trans (h.2.mono hW.size)⟩
  have HE : Hid (∀ W, Below (w.alloc (.cells #[.int .i64 2, .string s, .int .i64 n, .int .i64 x0, .int .i64 x1, .int .i64 x2, .int .i64 x3, .int .i64 x4, .int .i64 x5, .int .i64 x6, .int .i64 x7] 26)).heap.size (w.alloc (.cells #[.int .i64 2, .string s, .int .i64 n, .int .i64 x0, .int .i64 x1, .int .i64 x2, .int .i64 x3, .int .i64 x4, .int .i64 x5, .int .i64 x6, .int .i64 x7] 26)) W → Below w.heap.size w W) := fun W hW => ((Below.refl _ w).alloc (Nat.le_refl _) _).trans (hW.mono (by simp))
  clear b1
  go_wp2_with fail
  cases r with
  | false =>
    first | go_region_with (go_at_call 192; refine (CK1.out _ HB.out).mono ?_; rintro e w2 ⟨rfl, hc2, hb2⟩) | fail
    all_goals go_wp2_with fail
    all_goals go_ret
    all_goals exact ⟨by rw [HZ.out]; rfl, HE.out _ hb2.out⟩
  | true =>
    go_region_with (first | (go_at_call 192; refine (CK1.out _ HB.out).mono ?_; rintro e w2 ⟨rfl, ⟨d0, d1, d2, d3, d4, d5, d6, d7, d8, d9, d10⟩, hb2⟩) | (go_at_call 26; refine (CO1.out _ hb2.out).mono ?_; rintro e w3 ⟨rfl, ⟨e0, e1, e2, e3, e4, e5, e6, e7, e8, e9, e10⟩, hb3⟩))
    all_goals go_wp2_with fail
    all_goals go_ret
    all_goals exact ⟨by rw [HZ.out]; rfl, HE.out _ hb3.out⟩

set_option maxRecDepth 20000 in
set_option maxHeartbeats 4000000 in
theorem implHostOk3 (n : Int) (s : ByteArray) (x0 x1 x2 x3 x4 x5 x6 x7 : Int) (w : World) :
    Calls Tryz.prog 10 #[.agg #[.int .i64 3, .string s, .int .i64 n, .int .i64 x0, .int .i64 x1, .int .i64 x2, .int .i64 x3, .int .i64 x4, .int .i64 x5, .int .i64 x6, .int .i64 x7]] w fun e w' => e = .returned (.bool (hOk ⟨3, s, n, [x0, x1, x2, x3, x4, x5, x6, x7]⟩)) ∧ Below w.heap.size w w' := by
  have HZ : Hid (hOk ⟨3, s, n, [x0, x1, x2, x3, x4, x5, x6, x7]⟩ = (okG [x0, x1, x2, x3, x4, x5, x6, x7] && eqHB 3 ⟨#[]⟩ 0 [x0, x1, x2, x3, x4, x5, x6, x7] 3 s n [x0, x1, x2, x3, x4, x5, x6, x7])) := hOk3 s n _
  have CW : Hid (∀ W, Calls Tryz.prog 21 #[.agg #[.int .i64 3, .string s, .int .i64 n, .int .i64 x0, .int .i64 x1, .int .i64 x2, .int .i64 x3, .int .i64 x4, .int .i64 x5, .int .i64 x6, .int .i64 x7]] W fun e w' => e = .returned (.iface 70 (.agg #[.int .i64 x0, .int .i64 x1, .int .i64 x2, .int .i64 x3, .int .i64 x4, .int .i64 x5, .int .i64 x6, .int .i64 x7])) ∧ Below W.heap.size W w') := fun W => implWithin3 n s x0 x1 x2 x3 x4 x5 x6 x7 W
  have CK : Hid (∀ W, Below w.heap.size w W → Calls Tryz.prog 193 #[.agg #[.int .i64 x0, .int .i64 x1, .int .i64 x2, .int .i64 x3, .int .i64 x4, .int .i64 x5, .int .i64 x6, .int .i64 x7]] W fun e w' => e = .returned (.bool (okG [x0, x1, x2, x3, x4, x5, x6, x7])) ∧ Below W.heap.size W w') := fun W _ => implOkSix x0 x1 x2 x3 x4 x5 x6 x7 W
  have CO : Hid (∀ W, Calls Tryz.prog 26 #[.iface 70 (.agg #[.int .i64 x0, .int .i64 x1, .int .i64 x2, .int .i64 x3, .int .i64 x4, .int .i64 x5, .int .i64 x6, .int .i64 x7])] W fun e w' => e = .returned (.agg #[.int .i64 3, .string ⟨#[]⟩, .int .i64 0, .int .i64 x0, .int .i64 x1, .int .i64 x2, .int .i64 x3, .int .i64 x4, .int .i64 x5, .int .i64 x6, .int .i64 x7]) ∧ Below W.heap.size W w') := fun W => implOutside3 x0 x1 x2 x3 x4 x5 x6 x7 W
  have heq : ∀ W, _ := eqH 3 ⟨#[]⟩ 0 x0 x1 x2 x3 x4 x5 x6 x7 3 s n x0 x1 x2 x3 x4 x5 x6 x7
  have HC : Hid (∀ W, Below (w.alloc (.cells #[.int .i64 3, .string s, .int .i64 n, .int .i64 x0, .int .i64 x1, .int .i64 x2, .int .i64 x3, .int .i64 x4, .int .i64 x5, .int .i64 x6, .int .i64 x7] 26)).heap.size (w.alloc (.cells #[.int .i64 3, .string s, .int .i64 n, .int .i64 x0, .int .i64 x1, .int .i64 x2, .int .i64 x3, .int .i64 x4, .int .i64 x5, .int .i64 x6, .int .i64 x7] 26)) W → HostCells w W 3 s n x0 x1 x2 x3 x4 x5 x6 x7) := fun W h => host_cells w W _ _ _ x0 x1 x2 x3 x4 x5 x6 x7 _ h
  generalize okG [x0, x1, x2, x3, x4, x5, x6, x7] = r at CK HZ
  generalize eqHB 3 ⟨#[]⟩ 0 [x0, x1, x2, x3, x4, x5, x6, x7] 3 s n [x0, x1, x2, x3, x4, x5, x6, x7] = q at HZ heq
  go_enter Tryz.func10, Tryz.ntmps10
  go_wp2_with fail
  refine (CW.out _).mono ?_
  rintro e w1 ⟨rfl, b1⟩
  have HB : Hid (Below (w.alloc (.cells #[.int .i64 3, .string s, .int .i64 n, .int .i64 x0, .int .i64 x1, .int .i64 x2, .int .i64 x3, .int .i64 x4, .int .i64 x5, .int .i64 x6, .int .i64 x7] 26)).heap.size (w.alloc (.cells #[.int .i64 3, .string s, .int .i64 n, .int .i64 x0, .int .i64 x1, .int .i64 x2, .int .i64 x3, .int .i64 x4, .int .i64 x5, .int .i64 x6, .int .i64 x7] 26)) w1.drew) := ⟨b1.os, b1.tape, b1.output, b1.size, b1.block⟩
  obtain ⟨c0, c1, c2, c3, c4, c5, c6, c7, c8, c9, c10⟩ := HC.out w1.drew HB.out
  have CK1 : Hid (∀ W, Below (w.alloc (.cells #[.int .i64 3, .string s, .int .i64 n, .int .i64 x0, .int .i64 x1, .int .i64 x2, .int .i64 x3, .int .i64 x4, .int .i64 x5, .int .i64 x6, .int .i64 x7] 26)).heap.size (w.alloc (.cells #[.int .i64 3, .string s, .int .i64 n, .int .i64 x0, .int .i64 x1, .int .i64 x2, .int .i64 x3, .int .i64 x4, .int .i64 x5, .int .i64 x6, .int .i64 x7] 26)) W → Calls Tryz.prog 193 #[(.agg #[.int .i64 x0, .int .i64 x1, .int .i64 x2, .int .i64 x3, .int .i64 x4, .int .i64 x5, .int .i64 x6, .int .i64 x7])] W fun e w' => e = .returned (.bool r) ∧ HostCells w w' 3 s n x0 x1 x2 x3 x4 x5 x6 x7 ∧ Hid (Below (w.alloc (.cells #[.int .i64 3, .string s, .int .i64 n, .int .i64 x0, .int .i64 x1, .int .i64 x2, .int .i64 x3, .int .i64 x4, .int .i64 x5, .int .i64 x6, .int .i64 x7] 26)).heap.size (w.alloc (.cells #[.int .i64 3, .string s, .int .i64 n, .int .i64 x0, .int .i64 x1, .int .i64 x2, .int .i64 x3, .int .i64 x4, .int .i64 x5, .int .i64 x6, .int .i64 x7] 26)) w')) :=
    fun W hW => (CK.out W (((Below.refl _ w).alloc (Nat.le_refl _) _).trans (hW.mono (by simp)))).mono fun e w' h => ⟨h.1, HC.out w' (hW.trans (h.2.mono hW.size)), hW.trans (h.2.mono hW.size)⟩
  have CO1 : Hid (∀ W, Below (w.alloc (.cells #[.int .i64 3, .string s, .int .i64 n, .int .i64 x0, .int .i64 x1, .int .i64 x2, .int .i64 x3, .int .i64 x4, .int .i64 x5, .int .i64 x6, .int .i64 x7] 26)).heap.size (w.alloc (.cells #[.int .i64 3, .string s, .int .i64 n, .int .i64 x0, .int .i64 x1, .int .i64 x2, .int .i64 x3, .int .i64 x4, .int .i64 x5, .int .i64 x6, .int .i64 x7] 26)) W → Calls Tryz.prog 26 #[.iface 70 (.agg #[.int .i64 x0, .int .i64 x1, .int .i64 x2, .int .i64 x3, .int .i64 x4, .int .i64 x5, .int .i64 x6, .int .i64 x7])] W fun e w' => e = .returned (.agg #[.int .i64 3, .string ⟨#[]⟩, .int .i64 0, .int .i64 x0, .int .i64 x1, .int .i64 x2, .int .i64 x3, .int .i64 x4, .int .i64 x5, .int .i64 x6, .int .i64 x7]) ∧ HostCells w w' 3 s n x0 x1 x2 x3 x4 x5 x6 x7 ∧ Hid (Below (w.alloc (.cells #[.int .i64 3, .string s, .int .i64 n, .int .i64 x0, .int .i64 x1, .int .i64 x2, .int .i64 x3, .int .i64 x4, .int .i64 x5, .int .i64 x6, .int .i64 x7] 26)).heap.size (w.alloc (.cells #[.int .i64 3, .string s, .int .i64 n, .int .i64 x0, .int .i64 x1, .int .i64 x2, .int .i64 x3, .int .i64 x4, .int .i64 x5, .int .i64 x6, .int .i64 x7] 26)) w')) :=
    fun W hW => (CO.out W).mono fun e w' h => ⟨h.1, HC.out w' (hW.trans (h.2.mono hW.size)), hW.trans (h.2.mono hW.size)⟩
  have HE : Hid (∀ W, Below (w.alloc (.cells #[.int .i64 3, .string s, .int .i64 n, .int .i64 x0, .int .i64 x1, .int .i64 x2, .int .i64 x3, .int .i64 x4, .int .i64 x5, .int .i64 x6, .int .i64 x7] 26)).heap.size (w.alloc (.cells #[.int .i64 3, .string s, .int .i64 n, .int .i64 x0, .int .i64 x1, .int .i64 x2, .int .i64 x3, .int .i64 x4, .int .i64 x5, .int .i64 x6, .int .i64 x7] 26)) W → Below w.heap.size w W) := fun W hW => ((Below.refl _ w).alloc (Nat.le_refl _) _).trans (hW.mono (by simp))
  clear b1
  go_wp2_with fail
  cases r with
  | false =>
    first | go_region_with (go_at_call 193; refine (CK1.out _ HB.out).mono ?_; rintro e w2 ⟨rfl, hc2, hb2⟩) | fail
    all_goals go_wp2_with fail
    all_goals go_ret
    all_goals exact ⟨by rw [HZ.out]; rfl, HE.out _ hb2.out⟩
  | true =>
    go_region_with (first | (go_at_call 193; refine (CK1.out _ HB.out).mono ?_; rintro e w2 ⟨rfl, ⟨d0, d1, d2, d3, d4, d5, d6, d7, d8, d9, d10⟩, hb2⟩) | (go_at_call 26; refine (CO1.out _ hb2.out).mono ?_; rintro e w3 ⟨rfl, ⟨e0, e1, e2, e3, e4, e5, e6, e7, e8, e9, e10⟩, hb3⟩))
    all_goals go_wp2_with fail
    all_goals go_ret
    all_goals exact ⟨by rw [HZ.out]; rfl, HE.out _ hb3.out⟩

set_option maxRecDepth 20000 in
set_option maxHeartbeats 4000000 in
theorem implHostOk0 (k n : Int) (s : ByteArray) (x0 x1 x2 x3 x4 x5 x6 x7 : Int) (w : World) (h1 : ¬ k = 1) (h2 : ¬ k = 2) (h3 : ¬ k = 3) :
    Calls Tryz.prog 10 #[.agg #[.int .i64 k, .string s, .int .i64 n, .int .i64 x0, .int .i64 x1, .int .i64 x2, .int .i64 x3, .int .i64 x4, .int .i64 x5, .int .i64 x6, .int .i64 x7]] w fun e w' => e = .returned (.bool (hOk ⟨k, s, n, [x0, x1, x2, x3, x4, x5, x6, x7]⟩)) ∧ Below w.heap.size w w' := by
  have HZ : Hid (hOk ⟨k, s, n, [x0, x1, x2, x3, x4, x5, x6, x7]⟩ = false) := hOk0 k n s _ h1 h2 h3
  have CW : Hid (∀ W, Calls Tryz.prog 21 #[.agg #[.int .i64 k, .string s, .int .i64 n, .int .i64 x0, .int .i64 x1, .int .i64 x2, .int .i64 x3, .int .i64 x4, .int .i64 x5, .int .i64 x6, .int .i64 x7]] W fun e w' => e = .returned .nilIface ∧ Below W.heap.size W w') := fun W => implWithin0 k n s x0 x1 x2 x3 x4 x5 x6 x7 W h1 h2 h3
  clear h1 h2 h3
  go_enter Tryz.func10, Tryz.ntmps10
  go_wp2_with fail
  refine (CW.out _).mono ?_
  rintro e w1 ⟨rfl, b1⟩
  have B1 := ((Below.refl _ w).alloc (Nat.le_refl _) (.cells #[.int .i64 k, .string s, .int .i64 n, .int .i64 x0, .int .i64 x1, .int .i64 x2, .int .i64 x3, .int .i64 x4, .int .i64 x5, .int .i64 x6, .int .i64 x7] 26)).trans (b1.mono (by simp))
  have HB : Hid (Below w.heap.size w w1.drew) := ⟨B1.os, B1.tape, B1.output, B1.size, B1.block⟩
  clear b1 B1
  go_wp2_with fail
  first | go_region_with fail | fail
  all_goals go_wp2_with fail
  all_goals go_ret
  all_goals exact ⟨by rw [HZ.out]; rfl, HB.out⟩

theorem implHostOk (k n : Int) (s : ByteArray) (x0 x1 x2 x3 x4 x5 x6 x7 : Int) (w : World) (hs : s.size ≤ 1048576) (hT : Lib.Utf8Tabs 2 3 w) (hP : Pow w) :
    Calls Tryz.prog 10 #[.agg #[.int .i64 k, .string s, .int .i64 n, .int .i64 x0, .int .i64 x1, .int .i64 x2, .int .i64 x3, .int .i64 x4, .int .i64 x5, .int .i64 x6, .int .i64 x7]] w fun e w' => e = .returned (.bool (hOk ⟨k, s, n, [x0, x1, x2, x3, x4, x5, x6, x7]⟩)) ∧ Below w.heap.size w w' := by
  by_cases h1 : k = 1
  · subst h1; exact implHostOk1 n s x0 x1 x2 x3 x4 x5 x6 x7 w hs hT
  · by_cases h2 : k = 2
    · subst h2; exact implHostOk2 n s x0 x1 x2 x3 x4 x5 x6 x7 w hP
    · by_cases h3 : k = 3
      · subst h3; exact implHostOk3 n s x0 x1 x2 x3 x4 x5 x6 x7 w
      · exact implHostOk0 k n s x0 x1 x2 x3 x4 x5 x6 x7 w h1 h2 h3
end Go.Proofs.YtamnhegianpedaaGreatDoor

namespace Go.Proofs.YtamnhegianpedaaGreatDoor
open Go.RowKit

set_option maxRecDepth 20000 in
set_option maxHeartbeats 2000000 in
theorem implText1 (s : ByteArray) (w : World) (hs : s.size ≤ 1048576) :
    Calls Tryz.prog 20 #[.iface 68 (.string s)] w fun e w' => e = .returned (.string s) ∧ Below w.heap.size w w' := by
  have t1 := ta11 s
  have CC : Hid (∀ W, Calls Tryz.prog 39 #[.string s] W fun e w' => e = .returned (.string s) ∧ Below W.heap.size W w') := fun W => strClone s W (by omega)
  go_enter Tryz.func20, Tryz.ntmps20
  go_wp2_with fail
  refine (CC.out _).mono ?_
  rintro e w1 ⟨rfl, b1⟩
  go_wp2_with fail
  go_ret
  exact ⟨rfl, b1⟩

set_option maxRecDepth 20000 in
set_option maxHeartbeats 2000000 in
theorem implText2 (n : Int) (w : World) (h0 : 0 ≤ n) (h1 : n < 4294967296) (hP : Pow w) :
    Calls Tryz.prog 20 #[.iface 69 (.int .i64 n)] w fun e w' => e = .returned (.string (ip4T n)) ∧ Below w.heap.size w w' := by
  have t1 := ta21 n
  have t2 := ta22 n
  have CC : Hid (Calls Tryz.prog 40 #[.int .i64 n] w fun e w' => e = .returned (.string (ip4T n)) ∧ Below w.heap.size w w') := implIp4Text n w h0 h1 hP
  generalize ip4T n = T at CC ⊢
  clear h0 h1 hP
  go_enter Tryz.func20, Tryz.ntmps20
  go_wp2_with fail
  refine CC.out.mono ?_
  rintro e w1 ⟨rfl, b1⟩
  go_wp2_with fail
  go_ret
  exact ⟨rfl, b1⟩

theorem six_len {x0 x1 x2 x3 x4 x5 x6 x7 : Int} (h : okG [x0, x1, x2, x3, x4, x5, x6, x7] = true) : (⟨(ip6L [x0, x1, x2, x3, x4, x5, x6, x7]).toArray⟩ : ByteArray).size ≤ 39 := by
  show (ip6L [x0, x1, x2, x3, x4, x5, x6, x7]).toArray.size ≤ 39
  rw [List.size_toArray]
  unfold ip6L
  rw [if_pos h]
  exact (ip6_len rfl (row_le (row_ok x0 x1 x2 x3 x4 x5 x6 x7)).2).2
theorem six_text (l : List UInt8) : (⟨(91 :: (l ++ [93])).toArray⟩ : ByteArray) = (⟨#[91]⟩ : ByteArray) ++ ⟨l.toArray⟩ ++ (⟨#[93]⟩ : ByteArray) := by
  apply toL_inj
  simp [toL]

set_option maxRecDepth 20000 in
set_option maxHeartbeats 2000000 in
theorem implText3 (x0 x1 x2 x3 x4 x5 x6 x7 : Int) (w : World) (h : okG [x0, x1, x2, x3, x4, x5, x6, x7] = true) (hD : Bruijn w) :
    Calls Tryz.prog 20 #[.iface 70 (.agg #[.int .i64 x0, .int .i64 x1, .int .i64 x2, .int .i64 x3, .int .i64 x4, .int .i64 x5, .int .i64 x6, .int .i64 x7])] w fun e w' => e = .returned (.string ⟨(91 :: (ip6L [x0, x1, x2, x3, x4, x5, x6, x7] ++ [93])).toArray⟩) ∧ Below w.heap.size w w' := by
  have t1 := ta31 (.agg #[.int .i64 x0, .int .i64 x1, .int .i64 x2, .int .i64 x3, .int .i64 x4, .int .i64 x5, .int .i64 x6, .int .i64 x7])
  have t2 := ta32 (.agg #[.int .i64 x0, .int .i64 x1, .int .i64 x2, .int .i64 x3, .int .i64 x4, .int .i64 x5, .int .i64 x6, .int .i64 x7])
  have t3 := ta33 (.agg #[.int .i64 x0, .int .i64 x1, .int .i64 x2, .int .i64 x3, .int .i64 x4, .int .i64 x5, .int .i64 x6, .int .i64 x7])
  have CC : Hid (∀ W, Below w.heap.size w W → Calls Tryz.prog 41 #[.agg #[.int .i64 x0, .int .i64 x1, .int .i64 x2, .int .i64 x3, .int .i64 x4, .int .i64 x5, .int .i64 x6, .int .i64 x7]] W fun e w' => e = .returned (.string ⟨(ip6L [x0, x1, x2, x3, x4, x5, x6, x7]).toArray⟩) ∧ Below W.heap.size W w') := fun W hb => implIp6Text x0 x1 x2 x3 x4 x5 x6 x7 W (bruijn_below hD hb)
  have hl := six_len h
  rw [six_text]
  generalize (⟨(ip6L [x0, x1, x2, x3, x4, x5, x6, x7]).toArray⟩ : ByteArray) = T at CC hl ⊢
  have e1 : (⟨#[91]⟩ : ByteArray).size = 1 := rfl
  have e2 : (⟨#[93]⟩ : ByteArray).size = 1 := rfl
  have HA : Hid (∀ o, Below w.heap.size w (w.alloc o)) := fun o => (Below.refl _ w).alloc (Nat.le_refl _) o
  clear h hD
  go_enter Tryz.func20, Tryz.ntmps20
  go_wp2_with fail
  refine (CC.out _ (HA.out _)).mono ?_
  rintro e w1 ⟨rfl, b1⟩
  have B1 := (HA.out (.cells #[.int .i64 x0, .int .i64 x1, .int .i64 x2, .int .i64 x3, .int .i64 x4, .int .i64 x5, .int .i64 x6, .int .i64 x7] 70)).trans (b1.mono (by simp))
  clear b1
  go_wp2_with fail
  go_ret
  exact ⟨rfl, B1⟩

theorem hTx_no {h : HV} (e : hOk h = false) : hTx h = ⟨#[]⟩ := by unfold hTx; rw [if_neg (by rw [e]; decide)]
theorem hTx1 {n : Int} {s : ByteArray} {z : List Int} (e : hOk ⟨1, s, n, z⟩ = true) : hTx ⟨1, s, n, z⟩ = s := by unfold hTx; rw [if_pos e, if_pos rfl]
theorem hTx2 {n : Int} {s : ByteArray} {z : List Int} (e : hOk ⟨2, s, n, z⟩ = true) : hTx ⟨2, s, n, z⟩ = ip4T n := by unfold hTx; rw [if_pos e, if_neg (show ¬ (2 : Int) = 1 by decide), if_pos rfl]
theorem hTx3 {n : Int} {s : ByteArray} {z : List Int} (e : hOk ⟨3, s, n, z⟩ = true) : hTx ⟨3, s, n, z⟩ = ⟨(91 :: (ip6L z ++ [93])).toArray⟩ := by unfold hTx; rw [if_pos e, if_neg (show ¬ (3 : Int) = 1 by decide), if_neg (show ¬ (3 : Int) = 2 by decide)]


set_option maxRecDepth 20000 in
set_option maxHeartbeats 4000000 in
theorem implHostText (k n : Int) (s : ByteArray) (x0 x1 x2 x3 x4 x5 x6 x7 : Int) (w : World) (hs : s.size ≤ 1048576) (hT : Lib.Utf8Tabs 2 3 w) (hP : Pow w) (hD : Bruijn w) :
    Calls Tryz.prog 8 #[.agg #[.int .i64 k, .string s, .int .i64 n, .int .i64 x0, .int .i64 x1, .int .i64 x2, .int .i64 x3, .int .i64 x4, .int .i64 x5, .int .i64 x6, .int .i64 x7]] w fun e w' => e = .returned (.string (hTx ⟨k, s, n, [x0, x1, x2, x3, x4, x5, x6, x7]⟩)) ∧ Below w.heap.size w w' := by
  have CO : Hid (∀ W, Below w.heap.size w W → Calls Tryz.prog 10 #[.agg #[.int .i64 k, .string s, .int .i64 n, .int .i64 x0, .int .i64 x1, .int .i64 x2, .int .i64 x3, .int .i64 x4, .int .i64 x5, .int .i64 x6, .int .i64 x7]] W fun e w' => e = .returned (.bool (hOk ⟨k, s, n, [x0, x1, x2, x3, x4, x5, x6, x7]⟩)) ∧ Below W.heap.size W w') := fun W hb => implHostOk k n s x0 x1 x2 x3 x4 x5 x6 x7 W hs (tabs_below hT hb) (pow_below hP hb)
  have HA : Hid (∀ o, Below w.heap.size w (w.alloc o)) := fun o => (Below.refl _ w).alloc (Nat.le_refl _) o
  cases hok : hOk ⟨k, s, n, [x0, x1, x2, x3, x4, x5, x6, x7]⟩ with
  | false =>
    have HX : Hid (hTx ⟨k, s, n, [x0, x1, x2, x3, x4, x5, x6, x7]⟩ = ⟨#[]⟩) := hTx_no hok
    rw [hok] at CO
    clear hok hT hP hD
    go_enter Tryz.func8, Tryz.ntmps8
    go_wp2_with fail
    refine (CO.out _ (HA.out _)).mono ?_
    rintro e w1 ⟨rfl, b1⟩
    have B1 := (HA.out (.cells #[.int .i64 k, .string s, .int .i64 n, .int .i64 x0, .int .i64 x1, .int .i64 x2, .int .i64 x3, .int .i64 x4, .int .i64 x5, .int .i64 x6, .int .i64 x7] 26)).trans (b1.mono (by simp))
    clear b1
    go_wp2_with fail
    go_ret
    exact ⟨by rw [HX.out]; rfl, B1⟩
  | true =>
    by_cases h1 : k = 1
    · subst h1
      have HX : Hid (hTx ⟨1, s, n, [x0, x1, x2, x3, x4, x5, x6, x7]⟩ = s) := hTx1 hok
      have CW : Hid (∀ W, Calls Tryz.prog 21 #[.agg #[.int .i64 1, .string s, .int .i64 n, .int .i64 x0, .int .i64 x1, .int .i64 x2, .int .i64 x3, .int .i64 x4, .int .i64 x5, .int .i64 x6, .int .i64 x7]] W fun e w' => e = .returned (.iface 68 (.string s)) ∧ Below W.heap.size W w') := fun W => implWithin1 n s x0 x1 x2 x3 x4 x5 x6 x7 W
      have CT : Hid (∀ W, Below w.heap.size w W → Calls Tryz.prog 20 #[.iface 68 (.string s)] W fun e w' => e = .returned (.string s) ∧ Below W.heap.size W w') := fun W _ => implText1 s W hs
      rw [hok] at CO
      clear hok hT hP hD
      go_enter Tryz.func8, Tryz.ntmps8
      go_wp2_with fail
      refine (CO.out _ (HA.out _)).mono ?_
      rintro e w1 ⟨rfl, b1⟩
      have K1 := host_cells w w1 _ _ _ x0 x1 x2 x3 x4 x5 x6 x7 _ b1
      obtain ⟨c0, c1, c2, c3, c4, c5, c6, c7, c8, c9, c10⟩ := K1
      have B1 := (HA.out (.cells #[.int .i64 1, .string s, .int .i64 n, .int .i64 x0, .int .i64 x1, .int .i64 x2, .int .i64 x3, .int .i64 x4, .int .i64 x5, .int .i64 x6, .int .i64 x7] 26)).trans (b1.mono (by simp))
      clear b1
      go_wp2_with fail
      refine (CW.out _).mono ?_
      rintro e w2 ⟨rfl, b2⟩
      have B2 := B1.trans (b2.mono B1.size)
      clear b2
      go_wp2_with fail
      refine (CT.out _ B2).mono ?_
      rintro e w3 ⟨rfl, b3⟩
      have B3 := B2.trans (b3.mono B2.size)
      clear b3
      go_wp2_with fail
      go_ret
      exact ⟨by rw [HX.out]; rfl, B3⟩
    · by_cases h2 : k = 2
      · subst h2
        have HX : Hid (hTx ⟨2, s, n, [x0, x1, x2, x3, x4, x5, x6, x7]⟩ = ip4T n) := hTx2 hok
        have hr : 0 ≤ n ∧ n < 4294967296 := by
          have h := hok
          rw [hOk2, Bool.and_eq_true] at h
          exact of_decide_eq_true h.1
        have CW : Hid (∀ W, Calls Tryz.prog 21 #[.agg #[.int .i64 2, .string s, .int .i64 n, .int .i64 x0, .int .i64 x1, .int .i64 x2, .int .i64 x3, .int .i64 x4, .int .i64 x5, .int .i64 x6, .int .i64 x7]] W fun e w' => e = .returned (.iface 69 (.int .i64 n)) ∧ Below W.heap.size W w') := fun W => implWithin2 n s x0 x1 x2 x3 x4 x5 x6 x7 W
        have CT : Hid (∀ W, Below w.heap.size w W → Calls Tryz.prog 20 #[.iface 69 (.int .i64 n)] W fun e w' => e = .returned (.string (ip4T n)) ∧ Below W.heap.size W w') := fun W hb => implText2 n W hr.1 hr.2 (pow_below hP hb)
        generalize ip4T n = T at CT HX
        rw [hok] at CO
        clear hok hT hP hD hr h1
        go_enter Tryz.func8, Tryz.ntmps8
        go_wp2_with fail
        refine (CO.out _ (HA.out _)).mono ?_
        rintro e w1 ⟨rfl, b1⟩
        have K1 := host_cells w w1 _ _ _ x0 x1 x2 x3 x4 x5 x6 x7 _ b1
        obtain ⟨c0, c1, c2, c3, c4, c5, c6, c7, c8, c9, c10⟩ := K1
        have B1 := (HA.out (.cells #[.int .i64 2, .string s, .int .i64 n, .int .i64 x0, .int .i64 x1, .int .i64 x2, .int .i64 x3, .int .i64 x4, .int .i64 x5, .int .i64 x6, .int .i64 x7] 26)).trans (b1.mono (by simp))
        clear b1
        go_wp2_with fail
        refine (CW.out _).mono ?_
        rintro e w2 ⟨rfl, b2⟩
        have B2 := B1.trans (b2.mono B1.size)
        clear b2
        go_wp2_with fail
        refine (CT.out _ B2).mono ?_
        rintro e w3 ⟨rfl, b3⟩
        have B3 := B2.trans (b3.mono B2.size)
        clear b3
        go_wp2_with fail
        go_ret
        exact ⟨by rw [HX.out]; rfl, B3⟩
      · by_cases h3 : k = 3
        · subst h3
          have HX : Hid (hTx ⟨3, s, n, [x0, x1, x2, x3, x4, x5, x6, x7]⟩ = ⟨(91 :: (ip6L [x0, x1, x2, x3, x4, x5, x6, x7] ++ [93])).toArray⟩) := hTx3 hok
          have hr : okG [x0, x1, x2, x3, x4, x5, x6, x7] = true := by
            have h := hok
            rw [hOk3, Bool.and_eq_true] at h
            exact h.1
          have CW : Hid (∀ W, Calls Tryz.prog 21 #[.agg #[.int .i64 3, .string s, .int .i64 n, .int .i64 x0, .int .i64 x1, .int .i64 x2, .int .i64 x3, .int .i64 x4, .int .i64 x5, .int .i64 x6, .int .i64 x7]] W fun e w' => e = .returned (.iface 70 (.agg #[.int .i64 x0, .int .i64 x1, .int .i64 x2, .int .i64 x3, .int .i64 x4, .int .i64 x5, .int .i64 x6, .int .i64 x7])) ∧ Below W.heap.size W w') := fun W => implWithin3 n s x0 x1 x2 x3 x4 x5 x6 x7 W
          have CT : Hid (∀ W, Below w.heap.size w W → Calls Tryz.prog 20 #[.iface 70 (.agg #[.int .i64 x0, .int .i64 x1, .int .i64 x2, .int .i64 x3, .int .i64 x4, .int .i64 x5, .int .i64 x6, .int .i64 x7])] W fun e w' => e = .returned (.string ⟨(91 :: (ip6L [x0, x1, x2, x3, x4, x5, x6, x7] ++ [93])).toArray⟩) ∧ Below W.heap.size W w') := fun W hb => implText3 x0 x1 x2 x3 x4 x5 x6 x7 W hr (bruijn_below hD hb)
          generalize (⟨(91 :: (ip6L [x0, x1, x2, x3, x4, x5, x6, x7] ++ [93])).toArray⟩ : ByteArray) = T at CT HX
          rw [hok] at CO
          clear hok hT hP hD hr h1 h2
          go_enter Tryz.func8, Tryz.ntmps8
          go_wp2_with fail
          refine (CO.out _ (HA.out _)).mono ?_
          rintro e w1 ⟨rfl, b1⟩
          have K1 := host_cells w w1 _ _ _ x0 x1 x2 x3 x4 x5 x6 x7 _ b1
          obtain ⟨c0, c1, c2, c3, c4, c5, c6, c7, c8, c9, c10⟩ := K1
          have B1 := (HA.out (.cells #[.int .i64 3, .string s, .int .i64 n, .int .i64 x0, .int .i64 x1, .int .i64 x2, .int .i64 x3, .int .i64 x4, .int .i64 x5, .int .i64 x6, .int .i64 x7] 26)).trans (b1.mono (by simp))
          clear b1
          go_wp2_with fail
          refine (CW.out _).mono ?_
          rintro e w2 ⟨rfl, b2⟩
          have B2 := B1.trans (b2.mono B1.size)
          clear b2
          go_wp2_with fail
          refine (CT.out _ B2).mono ?_
          rintro e w3 ⟨rfl, b3⟩
          have B3 := B2.trans (b3.mono B2.size)
          clear b3
          go_wp2_with fail
          go_ret
          exact ⟨by rw [HX.out]; rfl, B3⟩
        · rw [hOk0 k n s _ h1 h2 h3] at hok
          cases hok
end Go.Proofs.YtamnhegianpedaaGreatDoor

namespace Go.Proofs.YtamnhegianpedaaGreatDoor
open Go.RowKit

def hostVal (h : HV) : Value := .agg (#[.int .i64 h.k, .string h.s, .int .i64 h.n] ++ (h.z.map (Value.int .i64)).toArray)
def mV (r : HostR) : Value := match r.t with
  | 0 => .nilIface
  | 1 => .iface 68 (.string ⟨r.l.toArray⟩)
  | 2 => .iface 69 (.int .i64 (r.n : Int))
  | _ => .iface 70 (.agg ((r.g.map fun (x : Nat) => (x : Int)).map (Value.int .i64)).toArray)

theorem suf93 (l : List UInt8) : Lib.hasSuffix l [93] = decide (l.getLast? = some 93) := by
  unfold Lib.hasSuffix
  rw [List.isSuffixOf, List.getLast?_eq_head?_reverse]
  cases l.reverse with
  | nil => rfl
  | cons c r =>
    by_cases h : c = 93
    · subst h; simp [List.isPrefixOf]
    · have : ¬ (93 : UInt8) = c := fun e => h e.symm
      simp [List.isPrefixOf, h, this]
theorem trim93 {l : List UInt8} (h : l.getLast? = some 93) : Lib.trimSuffix l [93] = l.dropLast := by
  unfold Lib.trimSuffix
  rw [if_pos (by rw [suf93, decide_eq_true h]), List.dropLast_eq_take]
  rfl
theorem readS_yes {r : List UInt8} (h : r.getLast? = some 93) : readS r = readB (par6 r.dropLast) := by unfold readS; rw [if_pos h]
theorem readS_no {r : List UInt8} (h : ¬ r.getLast? = some 93) : readS r = .bad 2 := by unfold readS; rw [if_neg h]

theorem parV_si {gs : List Nat} (h : gs.length = 8) : ∃ x0 x1 x2 x3 x4 x5 x6 x7 : Int, parV (some gs) = .tuple #[.agg #[.int .i64 x0, .int .i64 x1, .int .i64 x2, .int .i64 x3, .int .i64 x4, .int .i64 x5, .int .i64 x6, .int .i64 x7], .bool true] ∧ mV (.si gs) = .iface 70 (.agg #[.int .i64 x0, .int .i64 x1, .int .i64 x2, .int .i64 x3, .int .i64 x4, .int .i64 x5, .int .i64 x6, .int .i64 x7]) ∧ (gs.map fun (x : Nat) => (x : Int)) = [x0, x1, x2, x3, x4, x5, x6, x7] := by
  obtain ⟨x0, x1, x2, x3, x4, x5, x6, x7, hx⟩ := list_eight (z := gs.map fun (x : Nat) => (x : Int)) (by simpa using h)
  refine ⟨x0, x1, x2, x3, x4, x5, x6, x7, ?_, ?_, hx⟩
  · show Value.tuple #[.agg ((toI gs).map (Value.int .i64)).toArray, .bool true] = _
    rw [show toI gs = gs.map (fun (x : Nat) => (x : Int)) from rfl, hx]
    rfl
  · show Value.iface 70 (.agg ((gs.map fun (x : Nat) => (x : Int)).map (Value.int .i64)).toArray) = _
    rw [hx]
    rfl

set_option maxRecDepth 20000 in
set_option maxHeartbeats 4000000 in
theorem implReadSix (s : ByteArray) (w : World) (hs : s.size ≤ 1048576) (h0 : 0 < s.size) (hP : Pow w) (hD : Bruijn w) (hM : MaxI w) :
    Calls Tryz.prog 47 #[.string s] w fun e w' => e = .returned (.tuple #[mV (readS (s.extract 1 s.size).data.toList), .int .i64 (rC (readS (s.extract 1 s.size).data.toList))]) ∧ Below w.heap.size w w' := by
  have hts : (s.extract 1 s.size).size ≤ 1048576 := by rw [ByteArray.size_extract]; omega
  have h0i : 1 ≤ (s.size : Int) := by omega
  have CC : Hid (∀ W, Calls Tryz.prog 75 #[.string (s.extract 1 s.size), .string ⟨#[93]⟩] W fun e w' => e = .returned (.tuple #[.string ⟨(Lib.trimSuffix (s.extract 1 s.size).data.toList [93]).toArray⟩, .bool (Lib.hasSuffix (s.extract 1 s.size).data.toList [93])]) ∧ W = w') := fun W => (Tryz.strings_CutSuffix (s.extract 1 s.size) ⟨#[93]⟩ W (by omega)).mono fun e w' h => ⟨h.1, h.2.symm⟩
  have CP : Hid (∀ q : ByteArray, q.size ≤ 1048576 → Calls Tryz.prog 76 #[.string q] w fun e w' => e = .returned (parV (par6 q.data.toList)) ∧ Below w.heap.size w w') := fun q hq => implParseIp6 q w hq hP hD hM
  clear hP hD hM
  obtain ⟨t, ht⟩ : ∃ t, s.extract 1 s.size = t := ⟨_, rfl⟩
  have HE : Hid (s.extract 1 s.size = t) := ht
  have hsl : ∀ W, (Instr.slice 9 (.string s) (some (.int .i64 1)) none none).run Tryz.prog W = .ok (.string t) W := by
    intro W
    rw [← ht]
    simp [Instr.slice, run_underlying Tryz.underlying9, Instr.sliceBounds, go_sem, show ¬ (s.size : Int) < 1 by omega]
  rw [ht] at hts CC ⊢
  clear ht
  by_cases hcl : t.data.toList.getLast? = some 93
  · have hin : (⟨(Lib.trimSuffix t.data.toList [93]).toArray⟩ : ByteArray) = ⟨t.data.toList.dropLast.toArray⟩ := by rw [trim93 hcl]
    rw [hin, suf93, decide_eq_true hcl] at CC
    have HZ : Hid (readS t.data.toList = readB (par6 t.data.toList.dropLast)) := readS_yes hcl
    have hq : (⟨t.data.toList.dropLast.toArray⟩ : ByteArray).size ≤ 1048576 := by
      show t.data.toList.dropLast.toArray.size ≤ 1048576
      rw [List.size_toArray, List.length_dropLast]
      have : t.data.toList.length = t.size := by simp
      omega
    have CP1 : Hid (Calls Tryz.prog 76 #[.string ⟨t.data.toList.dropLast.toArray⟩] w fun e w' => e = .returned (parV (par6 t.data.toList.dropLast)) ∧ Below w.heap.size w w') := CP.out _ hq
    have H8 : Hid (∀ gs, par6 t.data.toList.dropLast = some gs → gs.length = 8) := par6_eight _
    generalize (⟨t.data.toList.dropLast.toArray⟩ : ByteArray) = Q at CC CP1
    generalize par6 t.data.toList.dropLast = R at HZ CP1 H8
    clear CP hcl hin hq
    cases R with
    | none =>
      go_enter Tryz.func47, Tryz.ntmps47
      go_wp2_with fail
      refine (CC.out _).mono ?_
      rintro e w' ⟨rfl, rfl⟩
      go_wp2_with fail
      refine CP1.out.mono ?_
      rintro e w1 ⟨rfl, b1⟩
      simp only [parV]
      go_wp2_with fail
      go_ret2
      rw [HZ.out]
      exact ⟨rfl, b1.alloc b1.size _⟩
    | some gs =>
      obtain ⟨x0, x1, x2, x3, x4, x5, x6, x7, hv, hm, _⟩ := parV_si (H8.out gs rfl)
      rw [hv] at CP1
      have HM : Hid (mV (readS t.data.toList) = .iface 70 (.agg #[.int .i64 x0, .int .i64 x1, .int .i64 x2, .int .i64 x3, .int .i64 x4, .int .i64 x5, .int .i64 x6, .int .i64 x7]) ∧ rC (readS t.data.toList) = 0) := by
        show _ ∧ _
        rw [HZ.out]
        exact ⟨hm, rfl⟩
      clear hv hm H8 HZ
      go_enter Tryz.func47, Tryz.ntmps47
      go_wp2_with fail
      refine (CC.out _).mono ?_
      rintro e w' ⟨rfl, rfl⟩
      go_wp2_with fail
      refine CP1.out.mono ?_
      rintro e w1 ⟨rfl, b1⟩
      go_wp2_with fail
      go_ret2
      rw [HM.out.1, HM.out.2]
      exact ⟨rfl, b1.alloc b1.size _⟩
  · have HZ : Hid (readS t.data.toList = .bad 2) := readS_no hcl
    rw [suf93, decide_eq_false hcl] at CC
    have CP1 : Hid (∀ l : List UInt8, l.length ≤ 1048576 → Calls Tryz.prog 76 #[.string ⟨l.toArray⟩] w fun e w' => e = .returned (parV (par6 l)) ∧ Below w.heap.size w w') := fun l hl => CP.out ⟨l.toArray⟩ (by show l.toArray.size ≤ _; rw [List.size_toArray]; exact hl)
    have hq : (Lib.trimSuffix t.data.toList [93]).length ≤ 1048576 := by
      unfold Lib.trimSuffix
      rw [suf93, decide_eq_false hcl, if_neg (by decide)]
      have : t.data.toList.length = t.size := by simp
      omega
    have CP2 := CP1.out _ hq
    have H8 : Hid (∀ gs, par6 (Lib.trimSuffix t.data.toList [93]) = some gs → gs.length = 8) := par6_eight _
    generalize (⟨(Lib.trimSuffix t.data.toList [93]).toArray⟩ : ByteArray) = Q at CC CP2
    generalize par6 (Lib.trimSuffix t.data.toList [93]) = R at CP2 H8
    obtain ⟨x0, x1, x2, x3, x4, x5, x6, x7, bb, hv⟩ := parV_eight H8.out
    rw [hv] at CP2
    have CP3 : Hid (Calls Tryz.prog 76 #[.string Q] w fun e w' => e = .returned (.tuple #[.agg #[.int .i64 x0, .int .i64 x1, .int .i64 x2, .int .i64 x3, .int .i64 x4, .int .i64 x5, .int .i64 x6, .int .i64 x7], .bool bb]) ∧ Below w.heap.size w w') := CP2
    clear CP CP1 CP2 hcl hq hv H8
    go_enter Tryz.func47, Tryz.ntmps47
    go_wp2_with fail
    refine (CC.out _).mono ?_
    rintro e w' ⟨rfl, rfl⟩
    go_wp2_with fail
    refine CP3.out.mono ?_
    rintro e w1 ⟨rfl, b1⟩
    go_wp2_with fail
    go_ret2
    rw [HZ.out]
    exact ⟨rfl, b1.alloc b1.size _⟩

set_option maxRecDepth 20000 in
set_option maxHeartbeats 4000000 in
theorem implReadNamed (s : ByteArray) (w : World) (hs : s.size ≤ 1048576) (hT : Lib.Utf8Tabs 2 3 w) :
    Calls Tryz.prog 48 #[.string s] w fun e w' => e = .returned (.tuple #[mV (readN s), .int .i64 (rC (readN s))]) ∧ Below w.heap.size w w' := by
  have CU : Hid (Calls Tryz.prog 78 #[.string s] w fun e w' => e = .returned (.string (unB s)) ∧ Below w.heap.size w w') := implUnpercent s w (by omega)
  have hus := Nat.le_trans (unB_size s) hs
  have CN : Hid (∀ W, Below w.heap.size w W → Calls Tryz.prog 77 #[.string (unB s)] W fun e w' => e = .returned (ansS (nameL (unB s))) ∧ Below W.heap.size W w') := fun W hb => implNameOf (unB s) W hus (tabs_below hT hb)
  have HZ0 : Hid (readN s = match nameL (unB s) with
    | none => .bad 3
    | some n => readM n) := rfl
  have HL : Hid (∀ n, nameL (unB s) = some n → n.length ≤ 253) := fun n hn => (nameL_le hn)
  generalize unB s = u at CU CN HZ0 HL
  clear hT hus
  cases hn : nameL u with
  | none =>
    have HZ : Hid (readN s = .bad 3) := by
      show _ = _
      rw [HZ0.out, hn]
    rw [hn] at CN
    clear hn HZ0 HL
    go_enter Tryz.func48, Tryz.ntmps48
    go_wp2_with fail
    refine CU.out.mono ?_
    rintro e w1 ⟨rfl, b1⟩
    go_wp2_with fail
    refine (CN.out _ b1).mono ?_
    rintro e w2 ⟨rfl, b2⟩
    have B2 := b1.trans (b2.mono b1.size)
    clear b1 b2
    simp only [ansS]
    go_wp2_with fail
    go_ret2
    rw [HZ.out]
    exact ⟨rfl, B2⟩
  | some n =>
    have hl := HL.out n hn
    have HZ1 : Hid (readN s = readM n) := by
      show _ = _
      rw [HZ0.out, hn]
    rw [hn, show ansS (some n) = .tuple #[.string ⟨n.toArray⟩, .bool true] from rfl] at CN
    have hns : (⟨n.toArray⟩ : ByteArray).size ≤ 1048576 := by
      show n.toArray.size ≤ _
      rw [List.size_toArray]
      omega
    have CE : Hid (∀ W, Calls Tryz.prog 79 #[.string ⟨n.toArray⟩] W fun e w' => e = .returned (.bool (endL ⟨n.toArray⟩)) ∧ W = w') := fun W => implEndsInNumber _ W hns
    have CL : Hid (∀ W, Calls Tryz.prog 80 #[.string ⟨n.toArray⟩] W fun e w' => e = .returned (numA (loA ⟨n.toArray⟩)) ∧ Below W.heap.size W w') := fun W => implLooseIp4 _ W hns
    have HM : Hid (readM n = if endL ⟨n.toArray⟩ = true then (match loA ⟨n.toArray⟩ with
      | none => .bad 4
      | some v => .fo v) else .nm n) := rfl
    have HMV : Hid (mV (.nm n) = .iface 68 (.string ⟨n.toArray⟩)) := rfl
    generalize (⟨n.toArray⟩ : ByteArray) = T at CN CE CL HM HMV
    clear hn HZ0 HL hl hns
    cases he : endL T with
    | false =>
      have HZ : Hid (readN s = .nm n) := by
        show _ = _
        rw [HZ1.out, HM.out, he, if_neg (by decide)]
      rw [he] at CE
      clear he HZ1 HM CL
      go_enter Tryz.func48, Tryz.ntmps48
      go_wp2_with fail
      refine CU.out.mono ?_
      rintro e w1 ⟨rfl, b1⟩
      go_wp2_with fail
      refine (CN.out _ b1).mono ?_
      rintro e w2 ⟨rfl, b2⟩
      have B2 := b1.trans (b2.mono b1.size)
      clear b1 b2
      go_wp2_with fail
      refine (CE.out _).mono ?_
      rintro e w3 ⟨rfl, rfl⟩
      go_wp2_with fail
      go_ret2
      rw [HZ.out, HMV.out]
      exact ⟨rfl, B2⟩
    | true =>
      rw [he] at CE
      cases hlo : loA T with
      | none =>
        have HZ : Hid (readN s = .bad 4) := by
          show _ = _
          rw [HZ1.out, HM.out, he, if_pos rfl, hlo]
        rw [hlo] at CL
        clear he hlo HZ1 HM HMV
        go_enter Tryz.func48, Tryz.ntmps48
        go_wp2_with fail
        refine CU.out.mono ?_
        rintro e w1 ⟨rfl, b1⟩
        go_wp2_with fail
        refine (CN.out _ b1).mono ?_
        rintro e w2 ⟨rfl, b2⟩
        have B2 := b1.trans (b2.mono b1.size)
        clear b1 b2
        go_wp2_with fail
        refine (CE.out _).mono ?_
        rintro e w3 ⟨rfl, rfl⟩
        go_wp2_with fail
        refine (CL.out _).mono ?_
        rintro e w4 ⟨rfl, b4⟩
        have B4 := B2.trans (b4.mono B2.size)
        clear b4
        simp only [numA]
        go_wp2_with fail
        go_ret2
        rw [HZ.out]
        exact ⟨rfl, B4⟩
      | some v =>
        have HZ : Hid (readN s = .fo v) := by
          show _ = _
          rw [HZ1.out, HM.out, he, if_pos rfl, hlo]
        rw [hlo] at CL
        clear he hlo HZ1 HM HMV
        go_enter Tryz.func48, Tryz.ntmps48
        go_wp2_with fail
        refine CU.out.mono ?_
        rintro e w1 ⟨rfl, b1⟩
        go_wp2_with fail
        refine (CN.out _ b1).mono ?_
        rintro e w2 ⟨rfl, b2⟩
        have B2 := b1.trans (b2.mono b1.size)
        clear b1 b2
        go_wp2_with fail
        refine (CE.out _).mono ?_
        rintro e w3 ⟨rfl, rfl⟩
        go_wp2_with fail
        refine (CL.out _).mono ?_
        rintro e w4 ⟨rfl, b4⟩
        have B4 := B2.trans (b4.mono B2.size)
        clear b4
        simp only [numA]
        go_wp2_with fail
        go_ret2
        rw [HZ.out]
        exact ⟨rfl, B4⟩

set_option maxRecDepth 20000 in
set_option maxHeartbeats 4000000 in
theorem implReadMachine (s : ByteArray) (w : World) (hs : s.size ≤ 1048576) (hT : Lib.Utf8Tabs 2 3 w) (hP : Pow w) (hD : Bruijn w) (hM : MaxI w) :
    Calls Tryz.prog 27 #[.string s] w fun e w' => e = .returned (.tuple #[mV (readH s), .int .i64 (rC (readH s))]) ∧ Below w.heap.size w w' := by
  by_cases h0 : s.size = 0
  · have HZ : Hid (readH s = .bad 1) := readH_nil h0
    have hem := empty_yes h0
    clear hT hP hD hM h0
    go_enter Tryz.func27, Tryz.ntmps27
    go_wp2_with fail
    go_ret2
    rw [HZ.out]
    exact ⟨rfl, Below.refl _ _⟩
  · have hp : 0 < s.size := by omega
    have hem := empty_no hp
    obtain ⟨d, hd⟩ : ∃ d : Nat, s[0].toNat = d := ⟨_, rfl⟩
    by_cases h9 : d = 91
    · have HZ : Hid (readH s = readS (s.extract 1 s.size).data.toList) := readH_six hp (by rw [hd]; exact h9)
      have CS : Hid (Calls Tryz.prog 47 #[.string s] w fun e w' => e = .returned (.tuple #[mV (readS (s.extract 1 s.size).data.toList), .int .i64 (rC (readS (s.extract 1 s.size).data.toList))]) ∧ Below w.heap.size w w') := implReadSix s w hs hp hP hD hM
      rw [← HZ.out] at CS
      generalize mV (readH s) = V at CS ⊢
      generalize rC (readH s) = C at CS ⊢
      subst h9
      clear hT hP hD hM h0
      go_enter Tryz.func27, Tryz.ntmps27
      go_wp2_with fail
      refine CS.out.mono ?_
      rintro e w1 ⟨rfl, b1⟩
      go_wp2_with fail
      go_ret2
      exact ⟨rfl, b1⟩
    · have HZ : Hid (readH s = readN s) := readH_name hp (by rw [hd]; exact h9)
      have CS : Hid (Calls Tryz.prog 48 #[.string s] w fun e w' => e = .returned (.tuple #[mV (readN s), .int .i64 (rC (readN s))]) ∧ Below w.heap.size w w') := implReadNamed s w hs hT
      rw [← HZ.out] at CS
      have q0 : ((d : Int) == 91) = false := beq_eq_false_iff_ne.2 (by omega)
      generalize mV (readH s) = V at CS ⊢
      generalize rC (readH s) = C at CS ⊢
      clear hT hP hD hM h0 h9
      go_enter Tryz.func27, Tryz.ntmps27
      go_wp2_with fail
      refine CS.out.mono ?_
      rintro e w1 ⟨rfl, b1⟩
      go_wp2_with fail
      go_ret2
      exact ⟨rfl, b1⟩

/-- What is read has eight groups. -/
theorem readH_eight (s : ByteArray) : (rV (readH s)).z.length = 8 := by
  unfold readH
  split
  · rfl
  · split
    · unfold readS
      split
      · cases h : par6 _ with
        | none => rfl
        | some g =>
          show (g.map fun (x : Nat) => (x : Int)).length = 8
          rw [List.length_map]
          exact par6_eight _ g h
      · rfl
    · unfold readN
      split
      · rfl
      · unfold readM
        split
        · split <;> rfl
        · rfl

theorem readH_form (s : ByteArray) : (∃ c, readH s = .bad c) ∨ (∃ l, readH s = .nm l) ∨ (∃ n, readH s = .fo n) ∨ ∃ g, readH s = .si g := by
  unfold readH
  split
  · exact .inl ⟨_, rfl⟩
  · split
    · unfold readS
      split
      · cases par6 _ with
        | none => exact .inl ⟨_, rfl⟩
        | some g => exact .inr (.inr (.inr ⟨g, rfl⟩))
      · exact .inl ⟨_, rfl⟩
    · unfold readN
      split
      · exact .inl ⟨_, rfl⟩
      · unfold readM
        split
        · split
          · exact .inl ⟨_, rfl⟩
          · exact .inr (.inr (.inl ⟨_, rfl⟩))
        · exact .inr (.inl ⟨_, rfl⟩)

theorem outside_val (s : ByteArray) (w : World) : Calls Tryz.prog 26 #[mV (readH s)] w fun e w' => e = .returned (hostVal (rV (readH s))) ∧ Below w.heap.size w w' := by
  have h := readH_eight s
  rcases readH_form s with ⟨c, hr⟩ | ⟨l, hr⟩ | ⟨n, hr⟩ | ⟨g, hr⟩
  · rw [hr]; exact implOutside0 w
  · rw [hr]; exact implOutside1 _ w
  · rw [hr]; exact implOutside2 _ w
  · rw [hr] at h ⊢
    obtain ⟨x0, x1, x2, x3, x4, x5, x6, x7, hx⟩ := list_eight h
    have hx2 : (g.map fun (x : Nat) => (x : Int)) = [x0, x1, x2, x3, x4, x5, x6, x7] := hx
    have e1 : mV (.si g) = .iface 70 (.agg #[.int .i64 x0, .int .i64 x1, .int .i64 x2, .int .i64 x3, .int .i64 x4, .int .i64 x5, .int .i64 x6, .int .i64 x7]) := by
      show Value.iface 70 (.agg ((g.map fun (x : Nat) => (x : Int)).map (Value.int .i64)).toArray) = _
      rw [hx2]
      rfl
    have e2 : hostVal (rV (.si g)) = .agg #[.int .i64 3, .string ⟨#[]⟩, .int .i64 0, .int .i64 x0, .int .i64 x1, .int .i64 x2, .int .i64 x3, .int .i64 x4, .int .i64 x5, .int .i64 x6, .int .i64 x7] := by
      unfold hostVal
      rw [hx]
      rfl
    rw [e1, e2]
    exact implOutside3 x0 x1 x2 x3 x4 x5 x6 x7 w

theorem hostVal_eight (h : HV) (h8 : h.z.length = 8) : ∃ x0 x1 x2 x3 x4 x5 x6 x7 : Int, h.z = [x0, x1, x2, x3, x4, x5, x6, x7] ∧ hostVal h = .agg #[.int .i64 h.k, .string h.s, .int .i64 h.n, .int .i64 x0, .int .i64 x1, .int .i64 x2, .int .i64 x3, .int .i64 x4, .int .i64 x5, .int .i64 x6, .int .i64 x7] := by
  obtain ⟨x0, x1, x2, x3, x4, x5, x6, x7, hx⟩ := list_eight h8
  refine ⟨x0, x1, x2, x3, x4, x5, x6, x7, hx, ?_⟩
  unfold hostVal
  rw [hx]
  rfl

set_option maxRecDepth 20000 in
set_option maxHeartbeats 4000000 in
theorem implParseHost (s : ByteArray) (w : World) (hs : s.size ≤ 1048576) (hT : Lib.Utf8Tabs 2 3 w) (hP : Pow w) (hD : Bruijn w) (hM : MaxI w) :
    Calls Tryz.prog 11 #[.string s] w fun e w' => e = .returned (.tuple #[hostVal (rV (readH s)), .int .i64 (rC (readH s))]) ∧ Below w.heap.size w w' := by
  have CM : Hid (∀ W, Below w.heap.size w W → Calls Tryz.prog 27 #[.string s] W fun e w' => e = .returned (.tuple #[mV (readH s), .int .i64 (rC (readH s))]) ∧ Below W.heap.size W w') := fun W hb => implReadMachine s W hs (tabs_below hT hb) (pow_below hP hb) (bruijn_below hD hb) (max_below hM hb)
  have CO : Hid (∀ W, Calls Tryz.prog 26 #[mV (readH s)] W fun e w' => e = .returned (hostVal (rV (readH s))) ∧ Below W.heap.size W w') := fun W => outside_val s W
  obtain ⟨x0, x1, x2, x3, x4, x5, x6, x7, _, hv⟩ := hostVal_eight _ (readH_eight s)
  rw [hv] at CO ⊢
  generalize mV (readH s) = V at CM CO
  generalize rC (readH s) = C at CM ⊢
  generalize (rV (readH s)).k = k at CO ⊢
  generalize (rV (readH s)).s = t at CO ⊢
  generalize (rV (readH s)).n = n at CO ⊢
  have HA : Hid (∀ o, Below w.heap.size w (w.alloc o)) := fun o => (Below.refl _ w).alloc (Nat.le_refl _) o
  clear hT hP hD hM hv
  go_enter Tryz.func11, Tryz.ntmps11
  go_wp2_with fail
  refine (CM.out _ (HA.out _)).mono ?_
  rintro e w1 ⟨rfl, b1⟩
  have HB1 : Hid (Below (w.alloc (.cells #[.int .i64 0, .string ⟨#[]⟩, .int .i64 0, .int .i64 0, .int .i64 0, .int .i64 0, .int .i64 0, .int .i64 0, .int .i64 0, .int .i64 0, .int .i64 0] 26)).heap.size (w.alloc (.cells #[.int .i64 0, .string ⟨#[]⟩, .int .i64 0, .int .i64 0, .int .i64 0, .int .i64 0, .int .i64 0, .int .i64 0, .int .i64 0, .int .i64 0, .int .i64 0] 26)) w1) := b1
  clear b1
  go_wp2_with fail
  refine (CO.out _).mono ?_
  rintro e w2 ⟨rfl, b2⟩
  have HB2 := HB1.out.trans (b2.mono HB1.out.size)
  clear b2 HB1
  have hc := host_cells w w2 _ _ _ 0 0 0 0 0 0 0 0 _ HB2
  have HR : Hid (RowIs w2 w.heap.size (hRow 0 ⟨#[]⟩ 0 0 0 0 0 0 0 0 0)) := row_of_cells hc
  obtain ⟨c0, c1, c2, c3, c4, c5, c6, c7, c8, c9, c10⟩ := hc
  have fz := host_frozen w w2 _ _ HB2
  have B2 : Hid (Below w.heap.size w w2) := (HA.out _).trans (HB2.mono (by simp))
  clear HB2
  go_wp2_with fail
  refine bodyPost_ret (host_result2 rfl _ _ w.heap.size _ k n t x0 x1 x2 x3 x4 x5 x6 x7 rfl rfl (host_store HR.out k n t x0 x1 x2 x3 x4 x5 x6 x7)) rfl ⟨rfl, below_hstore B2.out (Nat.le_refl _) k n t x0 x1 x2 x3 x4 x5 x6 x7⟩
end Go.Proofs.YtamnhegianpedaaGreatDoor

namespace Go.Proofs.YtamnhegianpedaaGreatDoor
open Go.RowKit

/-- Eight noughts laid in block B. -/
def ZeroCells (W : World) (B : Nat) : Prop :=
  W.cell? ⟨B, 0, none⟩ = some (.int .i64 0) ∧ W.cell? ⟨B, 1, none⟩ = some (.int .i64 0) ∧ W.cell? ⟨B, 2, none⟩ = some (.int .i64 0) ∧ W.cell? ⟨B, 3, none⟩ = some (.int .i64 0) ∧
  W.cell? ⟨B, 4, none⟩ = some (.int .i64 0) ∧ W.cell? ⟨B, 5, none⟩ = some (.int .i64 0) ∧ W.cell? ⟨B, 6, none⟩ = some (.int .i64 0) ∧ W.cell? ⟨B, 7, none⟩ = some (.int .i64 0)
theorem zero_cells (w W : World) (t : TypeId) (hb : Below (w.alloc (.cells #[.int .i64 0, .int .i64 0, .int .i64 0, .int .i64 0, .int .i64 0, .int .i64 0, .int .i64 0, .int .i64 0] t)).heap.size (w.alloc (.cells #[.int .i64 0, .int .i64 0, .int .i64 0, .int .i64 0, .int .i64 0, .int .i64 0, .int .i64 0, .int .i64 0] t)) W) : ZeroCells W w.heap.size := by
  have key : ∀ j v, (#[.int .i64 0, .int .i64 0, .int .i64 0, .int .i64 0, .int .i64 0, .int .i64 0, .int .i64 0, .int .i64 0] : Array Value)[j]? = some v → W.cell? ⟨w.heap.size, j, none⟩ = some v := fun j v h => cell_later hb (by rw [World.cell?_alloc_at _ _ _ _ rfl]; simpa using h)
  exact ⟨key 0 _ rfl, key 1 _ rfl, key 2 _ rfl, key 3 _ rfl, key 4 _ rfl, key 5 _ rfl, key 6 _ rfl, key 7 _ rfl⟩

/-- A host, and eight noughts behind it. -/
def Laid2 (w W : World) (k : Int) (s : ByteArray) (n : Int) (x0 x1 x2 x3 x4 x5 x6 x7 : Int) : Prop := HostCells w W k s n x0 x1 x2 x3 x4 x5 x6 x7 ∧ ZeroCells W (w.heap.size + 1)
theorem laid2 (w W : World) (k : Int) (s : ByteArray) (n : Int) (x0 x1 x2 x3 x4 x5 x6 x7 : Int) (t u : TypeId) (hb : Below ((w.alloc (.cells #[.int .i64 k, .string s, .int .i64 n, .int .i64 x0, .int .i64 x1, .int .i64 x2, .int .i64 x3, .int .i64 x4, .int .i64 x5, .int .i64 x6, .int .i64 x7] t)).alloc (.cells #[.int .i64 0, .int .i64 0, .int .i64 0, .int .i64 0, .int .i64 0, .int .i64 0, .int .i64 0, .int .i64 0] u)).heap.size ((w.alloc (.cells #[.int .i64 k, .string s, .int .i64 n, .int .i64 x0, .int .i64 x1, .int .i64 x2, .int .i64 x3, .int .i64 x4, .int .i64 x5, .int .i64 x6, .int .i64 x7] t)).alloc (.cells #[.int .i64 0, .int .i64 0, .int .i64 0, .int .i64 0, .int .i64 0, .int .i64 0, .int .i64 0, .int .i64 0] u)) W) : Laid2 w W k s n x0 x1 x2 x3 x4 x5 x6 x7 := by
  refine ⟨host_cells w W k s n x0 x1 x2 x3 x4 x5 x6 x7 t (((Below.refl _ _).alloc (Nat.le_refl _) _).trans (hb.mono (by simp))), ?_⟩
  have h := zero_cells _ W u hb
  rwa [show (w.alloc (.cells #[.int .i64 k, .string s, .int .i64 n, .int .i64 x0, .int .i64 x1, .int .i64 x2, .int .i64 x3, .int .i64 x4, .int .i64 x5, .int .i64 x6, .int .i64 x7] t)).heap.size = w.heap.size + 1 by simp] at h


set_option maxRecDepth 20000 in
set_option maxHeartbeats 4000000 in
theorem specHostOk1 (n : Int) (s : ByteArray) (x0 x1 x2 x3 x4 x5 x6 x7 : Int) (w : World) (hs : s.size ≤ 1048576) :
    Calls Tryz.prog 9 #[.agg #[.int .i64 1, .string s, .int .i64 n, .int .i64 x0, .int .i64 x1, .int .i64 x2, .int .i64 x3, .int .i64 x4, .int .i64 x5, .int .i64 x6, .int .i64 x7]] w fun e w' => e = .returned (.bool (hOk ⟨1, s, n, [x0, x1, x2, x3, x4, x5, x6, x7]⟩)) ∧ Below w.heap.size w w' := by
  have HZ0 : Hid (hOk ⟨1, s, n, [x0, x1, x2, x3, x4, x5, x6, x7]⟩ = (decide (nameL s = some s.data.toList) && !endL s && decide (n = 0) && eqB [x0, x1, x2, x3, x4, x5, x6, x7] zeros)) := rfl
  have CN : Hid (∀ W, Calls Tryz.prog 22 #[.string s] W fun e w' => e = .returned (ansS (nameL s)) ∧ Below W.heap.size W w') := fun W => specNameOf s W hs
  have CE : Hid (∀ W, Calls Tryz.prog 23 #[.string s] W fun e w' => e = .returned (.bool (endL s)) ∧ Below W.heap.size W w') := fun W => specEndsInNumber s W hs
  have heq : ∀ W, _ := eqA 9998 x0 x1 x2 x3 x4 x5 x6 x7 0 0 0 0 0 0 0 0
  rw [show [0, 0, 0, 0, 0, 0, 0, 0] = zeros from rfl, show 9998 + 2 = 10000 from rfl] at heq
  obtain ⟨O, hO⟩ : ∃ O, O = (w.alloc (.cells #[.int .i64 1, .string s, .int .i64 n, .int .i64 x0, .int .i64 x1, .int .i64 x2, .int .i64 x3, .int .i64 x4, .int .i64 x5, .int .i64 x6, .int .i64 x7] 26)).alloc (.cells #[.int .i64 0, .int .i64 0, .int .i64 0, .int .i64 0, .int .i64 0, .int .i64 0, .int .i64 0, .int .i64 0] 24) := ⟨_, rfl⟩
  have HL : Hid (∀ W, Below O.heap.size O W → Laid2 w W 1 s n x0 x1 x2 x3 x4 x5 x6 x7) := fun W h => by rw [hO] at h; exact laid2 w W _ _ _ x0 x1 x2 x3 x4 x5 x6 x7 _ _ h
  have HE : Hid (∀ W, Below O.heap.size O W → Below w.heap.size w W) := fun W h => by
    rw [hO] at h
    exact (((Below.refl _ w).alloc (Nat.le_refl _) _).alloc (by simp) _).trans (h.mono (by simp; omega))
  have CN1 : Hid (Calls Tryz.prog 22 #[.string s] O fun e w' => e = .returned (ansS (nameL s)) ∧ Hid (Below O.heap.size O w')) := CN.out O
  have CE1 : Hid (∀ W, Below O.heap.size O W → Calls Tryz.prog 23 #[.string s] W fun e w' => e = .returned (.bool (endL s)) ∧ Laid2 w w' 1 s n x0 x1 x2 x3 x4 x5 x6 x7 ∧ Hid (Below O.heap.size O w')) := fun W hW =>
    (CE.out W).mono fun e w' h => ⟨h.1, HL.out w' (hW.trans (h.2.mono hW.size)), hW.trans (h.2.mono hW.size)⟩
  clear CN CE
  generalize eqB [x0, x1, x2, x3, x4, x5, x6, x7] zeros = q at heq HZ0
  cases hn : nameL s with
  | none =>
    have HZ : Hid (hOk ⟨1, s, n, [x0, x1, x2, x3, x4, x5, x6, x7]⟩ = false) := by
      show _ = _
      rw [HZ0.out, hn, decide_eq_false (by simp)]
      rfl
    rw [hn, show ansS none = .tuple #[.string ⟨#[]⟩, .bool false] from rfl] at CN1
    clear hn HZ0
    go_enter Tryz.func9, Tryz.ntmps9
    go_wp2_with fail
    rw [← hO]
    refine CN1.out.mono ?_
    rintro e w1 ⟨rfl, b1⟩
    obtain ⟨⟨c0, c1, c2, c3, c4, c5, c6, c7, c8, c9, c10⟩, ⟨d0, d1, d2, d3, d4, d5, d6, d7⟩⟩ := HL.out w1 b1.out
    go_wp2_with fail
    go_ret
    exact ⟨by rw [HZ.out]; rfl, HE.out _ b1.out⟩
  | some m =>
    by_cases he : m = s.data.toList
    · rw [hn, show ansS (some m) = .tuple #[.string s, .bool true] by rw [he]; show Value.tuple #[.string ⟨s.data.toList.toArray⟩, .bool true] = _; rw [arr_back]] at CN1
      have HZ1 : Hid (hOk ⟨1, s, n, [x0, x1, x2, x3, x4, x5, x6, x7]⟩ = (!endL s && decide (n = 0) && q)) := by
        show _ = _
        rw [HZ0.out, hn, he, decide_eq_true rfl]
        rfl
      clear hn HZ0 he
      generalize endL s = r at CE1 HZ1
      cases r with
      | true =>
        go_enter Tryz.func9, Tryz.ntmps9
        go_wp2_with fail
        rw [← hO]
        refine CN1.out.mono ?_
        rintro e w1 ⟨rfl, b1⟩
        obtain ⟨⟨c0, c1, c2, c3, c4, c5, c6, c7, c8, c9, c10⟩, ⟨d0, d1, d2, d3, d4, d5, d6, d7⟩⟩ := HL.out w1 b1.out
        go_wp2_with fail
        refine (CE1.out _ b1.out).mono ?_
        rintro e w2 ⟨rfl, ⟨⟨e0, e1, e2, e3, e4, e5, e6, e7, e8, e9, e10⟩, ⟨f0, f1, f2, f3, f4, f5, f6, f7⟩⟩, b2⟩
        go_wp2_with fail
        go_ret
        exact ⟨by rw [HZ1.out]; rfl, HE.out _ b2.out⟩
      | false =>
        by_cases h0 : n = 0
        · subst h0
          go_enter Tryz.func9, Tryz.ntmps9
          go_wp2_with fail
          rw [← hO]
          refine CN1.out.mono ?_
          rintro e w1 ⟨rfl, b1⟩
          obtain ⟨⟨c0, c1, c2, c3, c4, c5, c6, c7, c8, c9, c10⟩, ⟨d0, d1, d2, d3, d4, d5, d6, d7⟩⟩ := HL.out w1 b1.out
          go_wp2_with fail
          refine (CE1.out _ b1.out).mono ?_
          rintro e w2 ⟨rfl, ⟨⟨e0, e1, e2, e3, e4, e5, e6, e7, e8, e9, e10⟩, ⟨f0, f1, f2, f3, f4, f5, f6, f7⟩⟩, b2⟩
          go_wp2_with fail
          go_ret
          exact ⟨by rw [HZ1.out]; rfl, HE.out _ b2.out⟩
        · have HZ : Hid (hOk ⟨1, s, n, [x0, x1, x2, x3, x4, x5, x6, x7]⟩ = false) := by
            show _ = _
            rw [HZ1.out, decide_eq_false h0]
            rfl
          have q0 : (n == 0) = false := beq_eq_false_iff_ne.2 h0
          clear h0 HZ1
          go_enter Tryz.func9, Tryz.ntmps9
          go_wp2_with fail
          rw [← hO]
          refine CN1.out.mono ?_
          rintro e w1 ⟨rfl, b1⟩
          obtain ⟨⟨c0, c1, c2, c3, c4, c5, c6, c7, c8, c9, c10⟩, ⟨d0, d1, d2, d3, d4, d5, d6, d7⟩⟩ := HL.out w1 b1.out
          go_wp2_with fail
          refine (CE1.out _ b1.out).mono ?_
          rintro e w2 ⟨rfl, ⟨⟨e0, e1, e2, e3, e4, e5, e6, e7, e8, e9, e10⟩, ⟨f0, f1, f2, f3, f4, f5, f6, f7⟩⟩, b2⟩
          go_wp2_with fail
          go_ret
          exact ⟨by rw [HZ.out]; rfl, HE.out _ b2.out⟩
    · have HZ : Hid (hOk ⟨1, s, n, [x0, x1, x2, x3, x4, x5, x6, x7]⟩ = false) := by
        show _ = _
        rw [HZ0.out, hn, decide_eq_false (by intro e; exact he (Option.some.inj e))]
        rfl
      have hne : ((⟨m.toArray⟩ : ByteArray).toList == s.toList) = false := str_ne (fun e => he (by rw [← e]))
      rw [hn, show ansS (some m) = .tuple #[.string ⟨m.toArray⟩, .bool true] from rfl] at CN1
      generalize (⟨m.toArray⟩ : ByteArray) = T at CN1 hne
      clear hn HZ0 he
      go_enter Tryz.func9, Tryz.ntmps9
      go_wp2_with fail
      rw [← hO]
      refine CN1.out.mono ?_
      rintro e w1 ⟨rfl, b1⟩
      obtain ⟨⟨c0, c1, c2, c3, c4, c5, c6, c7, c8, c9, c10⟩, ⟨d0, d1, d2, d3, d4, d5, d6, d7⟩⟩ := HL.out w1 b1.out
      go_wp2_with fail
      go_ret
      exact ⟨by rw [HZ.out]; rfl, HE.out _ b1.out⟩

set_option maxRecDepth 20000 in
set_option maxHeartbeats 4000000 in
theorem specHostOk2 (n : Int) (s : ByteArray) (x0 x1 x2 x3 x4 x5 x6 x7 : Int) (w : World) :
    Calls Tryz.prog 9 #[.agg #[.int .i64 2, .string s, .int .i64 n, .int .i64 x0, .int .i64 x1, .int .i64 x2, .int .i64 x3, .int .i64 x4, .int .i64 x5, .int .i64 x6, .int .i64 x7]] w fun e w' => e = .returned (.bool (hOk ⟨2, s, n, [x0, x1, x2, x3, x4, x5, x6, x7]⟩)) ∧ Below w.heap.size w w' := by
  have HZ0 : Hid (hOk ⟨2, s, n, [x0, x1, x2, x3, x4, x5, x6, x7]⟩ = (decide (s.size = 0) && decide (0 ≤ n ∧ n < 4294967296) && eqB [x0, x1, x2, x3, x4, x5, x6, x7] zeros)) := rfl
  have heq : ∀ W, _ := eqA 9998 x0 x1 x2 x3 x4 x5 x6 x7 0 0 0 0 0 0 0 0
  rw [show [0, 0, 0, 0, 0, 0, 0, 0] = zeros from rfl, show 9998 + 2 = 10000 from rfl] at heq
  obtain ⟨O, hO⟩ : ∃ O, O = (w.alloc (.cells #[.int .i64 2, .string s, .int .i64 n, .int .i64 x0, .int .i64 x1, .int .i64 x2, .int .i64 x3, .int .i64 x4, .int .i64 x5, .int .i64 x6, .int .i64 x7] 26)).alloc (.cells #[.int .i64 0, .int .i64 0, .int .i64 0, .int .i64 0, .int .i64 0, .int .i64 0, .int .i64 0, .int .i64 0] 24) := ⟨_, rfl⟩
  have HL : Hid (∀ W, Below O.heap.size O W → Laid2 w W 2 s n x0 x1 x2 x3 x4 x5 x6 x7) := fun W h => by rw [hO] at h; exact laid2 w W _ _ _ x0 x1 x2 x3 x4 x5 x6 x7 _ _ h
  have HE : Hid (∀ W, Below O.heap.size O W → Below w.heap.size w W) := fun W h => by
    rw [hO] at h
    exact (((Below.refl _ w).alloc (Nat.le_refl _) _).alloc (by simp) _).trans (h.mono (by simp; omega))
  generalize eqB [x0, x1, x2, x3, x4, x5, x6, x7] zeros = q at heq HZ0
  by_cases h0 : s.size = 0
  · have hem := empty_yes h0
    by_cases hr : 0 ≤ n ∧ n < 4294967296
    · have HZ : Hid (hOk ⟨2, s, n, [x0, x1, x2, x3, x4, x5, x6, x7]⟩ = q) := by
        show _ = _
        rw [HZ0.out, decide_eq_true h0, decide_eq_true hr]
        rfl
      have CI : Hid (∀ W, Calls Tryz.prog 24 #[.int .i64 n, .int .i64 0, .int .i64 4294967295] W fun e w' => e = .returned (.bool true) ∧ W = w') := fun W => labIn_yes _ _ _ W (by omega) (by omega)
      clear h0 hr HZ0
      go_enter Tryz.func9, Tryz.ntmps9
      go_wp2_with fail
      refine (CI.out _).mono ?_
      rintro e w1 ⟨rfl, rfl⟩
      go_wp2_with fail
      go_ret
      exact ⟨by rw [HZ.out]; rfl, by go_grown⟩
    · have HZ : Hid (hOk ⟨2, s, n, [x0, x1, x2, x3, x4, x5, x6, x7]⟩ = false) := by
        show _ = _
        rw [HZ0.out, decide_eq_true h0, decide_eq_false hr]
        rfl
      have CI : Hid (∀ W, Calls Tryz.prog 24 #[.int .i64 n, .int .i64 0, .int .i64 4294967295] W fun e w' => e = .returned (.bool false) ∧ W = w') := fun W => labIn_no _ _ _ W (by omega)
      clear h0 hr HZ0
      go_enter Tryz.func9, Tryz.ntmps9
      go_wp2_with fail
      refine (CI.out _).mono ?_
      rintro e w1 ⟨rfl, rfl⟩
      go_wp2_with fail
      go_ret
      exact ⟨by rw [HZ.out]; rfl, by go_grown⟩
  · have HZ : Hid (hOk ⟨2, s, n, [x0, x1, x2, x3, x4, x5, x6, x7]⟩ = false) := by
      show _ = _
      rw [HZ0.out, decide_eq_false h0]
      rfl
    have hem := empty_no (by omega : 0 < s.size)
    clear h0 HZ0
    go_enter Tryz.func9, Tryz.ntmps9
    go_wp2_with fail
    go_ret
    exact ⟨by rw [HZ.out]; rfl, by go_grown⟩

theorem ip6_empty (x0 x1 x2 x3 x4 x5 x6 x7 : Int) : (⟨(ip6L [x0, x1, x2, x3, x4, x5, x6, x7]).toArray⟩ : ByteArray).toList.isEmpty = !okG [x0, x1, x2, x3, x4, x5, x6, x7] := by
  cases h : okG [x0, x1, x2, x3, x4, x5, x6, x7] with
  | false =>
    have e : ip6L [x0, x1, x2, x3, x4, x5, x6, x7] = [] := by unfold ip6L; rw [if_neg (by rw [h]; decide)]
    rw [e]
    exact empty_yes rfl
  | true =>
    refine empty_no ?_
    show 0 < (ip6L [x0, x1, x2, x3, x4, x5, x6, x7]).toArray.size
    rw [List.size_toArray]
    unfold ip6L
    rw [if_pos h]
    exact Nat.lt_of_lt_of_le (by decide : 0 < 2) (ip6_len rfl (row_le (row_ok x0 x1 x2 x3 x4 x5 x6 x7)).2).1

set_option maxRecDepth 20000 in
set_option maxHeartbeats 4000000 in
theorem specHostOk3 (n : Int) (s : ByteArray) (x0 x1 x2 x3 x4 x5 x6 x7 : Int) (w : World) :
    Calls Tryz.prog 9 #[.agg #[.int .i64 3, .string s, .int .i64 n, .int .i64 x0, .int .i64 x1, .int .i64 x2, .int .i64 x3, .int .i64 x4, .int .i64 x5, .int .i64 x6, .int .i64 x7]] w fun e w' => e = .returned (.bool (hOk ⟨3, s, n, [x0, x1, x2, x3, x4, x5, x6, x7]⟩)) ∧ Below w.heap.size w w' := by
  have HZ0 : Hid (hOk ⟨3, s, n, [x0, x1, x2, x3, x4, x5, x6, x7]⟩ = (decide (s.size = 0) && decide (n = 0) && okG [x0, x1, x2, x3, x4, x5, x6, x7])) := rfl
  have hie := ip6_empty x0 x1 x2 x3 x4 x5 x6 x7
  have CT : Hid (∀ W, Calls Tryz.prog 25 #[.agg #[.int .i64 x0, .int .i64 x1, .int .i64 x2, .int .i64 x3, .int .i64 x4, .int .i64 x5, .int .i64 x6, .int .i64 x7]] W fun e w' => e = .returned (.string ⟨(ip6L [x0, x1, x2, x3, x4, x5, x6, x7]).toArray⟩) ∧ Below W.heap.size W w') := fun W => specIp6Text x0 x1 x2 x3 x4 x5 x6 x7 W
  have heq : ∀ W, _ := eqA 9998 x0 x1 x2 x3 x4 x5 x6 x7 0 0 0 0 0 0 0 0
  rw [show [0, 0, 0, 0, 0, 0, 0, 0] = zeros from rfl, show 9998 + 2 = 10000 from rfl] at heq
  obtain ⟨O, hO⟩ : ∃ O, O = (w.alloc (.cells #[.int .i64 3, .string s, .int .i64 n, .int .i64 x0, .int .i64 x1, .int .i64 x2, .int .i64 x3, .int .i64 x4, .int .i64 x5, .int .i64 x6, .int .i64 x7] 26)).alloc (.cells #[.int .i64 0, .int .i64 0, .int .i64 0, .int .i64 0, .int .i64 0, .int .i64 0, .int .i64 0, .int .i64 0] 24) := ⟨_, rfl⟩
  have HL : Hid (∀ W, Below O.heap.size O W → Laid2 w W 3 s n x0 x1 x2 x3 x4 x5 x6 x7) := fun W h => by rw [hO] at h; exact laid2 w W _ _ _ x0 x1 x2 x3 x4 x5 x6 x7 _ _ h
  have HE : Hid (∀ W, Below O.heap.size O W → Below w.heap.size w W) := fun W h => by
    rw [hO] at h
    exact (((Below.refl _ w).alloc (Nat.le_refl _) _).alloc (by simp) _).trans (h.mono (by simp; omega))
  generalize (⟨(ip6L [x0, x1, x2, x3, x4, x5, x6, x7]).toArray⟩ : ByteArray) = T at CT hie
  generalize okG [x0, x1, x2, x3, x4, x5, x6, x7] = q at hie HZ0
  by_cases h0 : s.size = 0
  · have hem := empty_yes h0
    by_cases hr : n = 0
    · have HZ : Hid (hOk ⟨3, s, n, [x0, x1, x2, x3, x4, x5, x6, x7]⟩ = q) := by
        show _ = _
        rw [HZ0.out, decide_eq_true h0, decide_eq_true hr]
        rfl
      have CT1 : Hid (Calls Tryz.prog 25 #[.agg #[.int .i64 x0, .int .i64 x1, .int .i64 x2, .int .i64 x3, .int .i64 x4, .int .i64 x5, .int .i64 x6, .int .i64 x7]] O fun e w' => e = .returned (.string T) ∧ Hid (Below O.heap.size O w')) := CT.out O
      clear h0 HZ0
      subst hr
      cases q with
      | true =>
        have hie' : T.toList.isEmpty = false := hie
        clear hie
        go_enter Tryz.func9, Tryz.ntmps9
        go_wp2_with fail
        rw [← hO]
        refine CT1.out.mono ?_
        rintro e w1 ⟨rfl, b1⟩
        go_wp2_with fail
        go_ret
        exact ⟨by rw [HZ.out]; rfl, HE.out _ b1.out⟩
      | false =>
        have hie' : T.toList.isEmpty = true := hie
        clear hie
        go_enter Tryz.func9, Tryz.ntmps9
        go_wp2_with fail
        rw [← hO]
        refine CT1.out.mono ?_
        rintro e w1 ⟨rfl, b1⟩
        go_wp2_with fail
        go_ret
        exact ⟨by rw [HZ.out]; rfl, HE.out _ b1.out⟩
    · have HZ : Hid (hOk ⟨3, s, n, [x0, x1, x2, x3, x4, x5, x6, x7]⟩ = false) := by
        show _ = _
        rw [HZ0.out, decide_eq_true h0, decide_eq_false hr]
        rfl
      have q0 : (n == 0) = false := beq_eq_false_iff_ne.2 hr
      clear h0 hr HZ0 hie
      go_enter Tryz.func9, Tryz.ntmps9
      go_wp2_with fail
      go_ret
      exact ⟨by rw [HZ.out]; rfl, by go_grown⟩
  · have HZ : Hid (hOk ⟨3, s, n, [x0, x1, x2, x3, x4, x5, x6, x7]⟩ = false) := by
      show _ = _
      rw [HZ0.out, decide_eq_false h0]
      rfl
    have hem := empty_no (by omega : 0 < s.size)
    clear h0 HZ0 hie
    go_enter Tryz.func9, Tryz.ntmps9
    go_wp2_with fail
    go_ret
    exact ⟨by rw [HZ.out]; rfl, by go_grown⟩

set_option maxRecDepth 20000 in
set_option maxHeartbeats 4000000 in
theorem specHostOk0 (k n : Int) (s : ByteArray) (x0 x1 x2 x3 x4 x5 x6 x7 : Int) (w : World) (h1 : ¬ k = 1) (h2 : ¬ k = 2) (h3 : ¬ k = 3) :
    Calls Tryz.prog 9 #[.agg #[.int .i64 k, .string s, .int .i64 n, .int .i64 x0, .int .i64 x1, .int .i64 x2, .int .i64 x3, .int .i64 x4, .int .i64 x5, .int .i64 x6, .int .i64 x7]] w fun e w' => e = .returned (.bool (hOk ⟨k, s, n, [x0, x1, x2, x3, x4, x5, x6, x7]⟩)) ∧ Below w.heap.size w w' := by
  have HZ : Hid (hOk ⟨k, s, n, [x0, x1, x2, x3, x4, x5, x6, x7]⟩ = false) := hOk0 k n s _ h1 h2 h3
  have q1 : (k == 1) = false := beq_eq_false_iff_ne.2 h1
  have q2 : (k == 2) = false := beq_eq_false_iff_ne.2 h2
  have q3 : (k == 3) = false := beq_eq_false_iff_ne.2 h3
  clear h1 h2 h3
  go_enter Tryz.func9, Tryz.ntmps9
  go_wp2_with fail
  go_ret
  exact ⟨by rw [HZ.out]; rfl, by go_grown⟩

theorem specHostOk (k n : Int) (s : ByteArray) (x0 x1 x2 x3 x4 x5 x6 x7 : Int) (w : World) (hs : s.size ≤ 1048576) :
    Calls Tryz.prog 9 #[.agg #[.int .i64 k, .string s, .int .i64 n, .int .i64 x0, .int .i64 x1, .int .i64 x2, .int .i64 x3, .int .i64 x4, .int .i64 x5, .int .i64 x6, .int .i64 x7]] w fun e w' => e = .returned (.bool (hOk ⟨k, s, n, [x0, x1, x2, x3, x4, x5, x6, x7]⟩)) ∧ Below w.heap.size w w' := by
  by_cases h1 : k = 1
  · subst h1; exact specHostOk1 n s x0 x1 x2 x3 x4 x5 x6 x7 w hs
  · by_cases h2 : k = 2
    · subst h2; exact specHostOk2 n s x0 x1 x2 x3 x4 x5 x6 x7 w
    · by_cases h3 : k = 3
      · subst h3; exact specHostOk3 n s x0 x1 x2 x3 x4 x5 x6 x7 w
      · exact specHostOk0 k n s x0 x1 x2 x3 x4 x5 x6 x7 w h1 h2 h3
end Go.Proofs.YtamnhegianpedaaGreatDoor

namespace Go.Proofs.YtamnhegianpedaaGreatDoor
open Go.RowKit


set_option maxRecDepth 20000 in
set_option maxHeartbeats 4000000 in
theorem specHostText (k n : Int) (s : ByteArray) (x0 x1 x2 x3 x4 x5 x6 x7 : Int) (w : World) (hs : s.size ≤ 1048576) :
    Calls Tryz.prog 15 #[.agg #[.int .i64 k, .string s, .int .i64 n, .int .i64 x0, .int .i64 x1, .int .i64 x2, .int .i64 x3, .int .i64 x4, .int .i64 x5, .int .i64 x6, .int .i64 x7]] w fun e w' => e = .returned (.string (hTx ⟨k, s, n, [x0, x1, x2, x3, x4, x5, x6, x7]⟩)) ∧ Below w.heap.size w w' := by
  have CO : Hid (∀ W, Calls Tryz.prog 9 #[.agg #[.int .i64 k, .string s, .int .i64 n, .int .i64 x0, .int .i64 x1, .int .i64 x2, .int .i64 x3, .int .i64 x4, .int .i64 x5, .int .i64 x6, .int .i64 x7]] W fun e w' => e = .returned (.bool (hOk ⟨k, s, n, [x0, x1, x2, x3, x4, x5, x6, x7]⟩)) ∧ Below W.heap.size W w') := fun W => specHostOk k n s x0 x1 x2 x3 x4 x5 x6 x7 W hs
  cases hok : hOk ⟨k, s, n, [x0, x1, x2, x3, x4, x5, x6, x7]⟩ with
  | false =>
    have HX : Hid (hTx ⟨k, s, n, [x0, x1, x2, x3, x4, x5, x6, x7]⟩ = ⟨#[]⟩) := hTx_no hok
    rw [hok] at CO
    clear hok
    go_enter Tryz.func15, Tryz.ntmps15
    go_wp2_with fail
    refine (CO.out _).mono ?_
    rintro e w1 ⟨rfl, b1⟩
    have HB1 : Hid (Below (w.alloc (.cells #[.int .i64 k, .string s, .int .i64 n, .int .i64 x0, .int .i64 x1, .int .i64 x2, .int .i64 x3, .int .i64 x4, .int .i64 x5, .int .i64 x6, .int .i64 x7] 26)).heap.size (w.alloc (.cells #[.int .i64 k, .string s, .int .i64 n, .int .i64 x0, .int .i64 x1, .int .i64 x2, .int .i64 x3, .int .i64 x4, .int .i64 x5, .int .i64 x6, .int .i64 x7] 26)) w1) := b1
    obtain ⟨c0, c1, c2, c3, c4, c5, c6, c7, c8, c9, c10⟩ := host_cells w w1 _ _ _ x0 x1 x2 x3 x4 x5 x6 x7 _ b1
    have B1 : Hid (Below w.heap.size w w1) := ((Below.refl _ w).alloc (Nat.le_refl _) _).trans (b1.mono (by simp))
    clear b1 HB1
    go_wp2_with fail
    go_ret
    exact ⟨by rw [HX.out]; rfl, B1.out⟩
  | true =>
    by_cases h1 : k = 1
    · subst h1
      have HX : Hid (hTx ⟨1, s, n, [x0, x1, x2, x3, x4, x5, x6, x7]⟩ = s) := hTx1 hok
      rw [hok] at CO
      clear hok
      go_enter Tryz.func15, Tryz.ntmps15
      go_wp2_with fail
      refine (CO.out _).mono ?_
      rintro e w1 ⟨rfl, b1⟩
      have HB1 : Hid (Below (w.alloc (.cells #[.int .i64 1, .string s, .int .i64 n, .int .i64 x0, .int .i64 x1, .int .i64 x2, .int .i64 x3, .int .i64 x4, .int .i64 x5, .int .i64 x6, .int .i64 x7] 26)).heap.size (w.alloc (.cells #[.int .i64 1, .string s, .int .i64 n, .int .i64 x0, .int .i64 x1, .int .i64 x2, .int .i64 x3, .int .i64 x4, .int .i64 x5, .int .i64 x6, .int .i64 x7] 26)) w1) := b1
      obtain ⟨c0, c1, c2, c3, c4, c5, c6, c7, c8, c9, c10⟩ := host_cells w w1 _ _ _ x0 x1 x2 x3 x4 x5 x6 x7 _ b1
      have B1 : Hid (Below w.heap.size w w1) := ((Below.refl _ w).alloc (Nat.le_refl _) _).trans (b1.mono (by simp))
      clear b1 HB1
      go_wp2_with fail
      go_ret
      exact ⟨by rw [HX.out]; rfl, B1.out⟩
    · by_cases h2 : k = 2
      · subst h2
        have HX : Hid (hTx ⟨2, s, n, [x0, x1, x2, x3, x4, x5, x6, x7]⟩ = ip4T n) := hTx2 hok
        have hr : 0 ≤ n ∧ n < 4294967296 := by
          have h := hok
          rw [hOk2, Bool.and_eq_true] at h
          exact of_decide_eq_true h.1
        have CT : Hid (∀ W, Calls Tryz.prog 32 #[.int .i64 n] W fun e w' => e = .returned (.string (ip4T n)) ∧ Below W.heap.size W w') := fun W => specIp4Text n W hr.1 hr.2
        generalize ip4T n = T at CT HX
        rw [hok] at CO
        clear hok hr h1
        go_enter Tryz.func15, Tryz.ntmps15
        go_wp2_with fail
        refine (CO.out _).mono ?_
        rintro e w1 ⟨rfl, b1⟩
        have HB1 : Hid (Below (w.alloc (.cells #[.int .i64 2, .string s, .int .i64 n, .int .i64 x0, .int .i64 x1, .int .i64 x2, .int .i64 x3, .int .i64 x4, .int .i64 x5, .int .i64 x6, .int .i64 x7] 26)).heap.size (w.alloc (.cells #[.int .i64 2, .string s, .int .i64 n, .int .i64 x0, .int .i64 x1, .int .i64 x2, .int .i64 x3, .int .i64 x4, .int .i64 x5, .int .i64 x6, .int .i64 x7] 26)) w1) := b1
        obtain ⟨c0, c1, c2, c3, c4, c5, c6, c7, c8, c9, c10⟩ := host_cells w w1 _ _ _ x0 x1 x2 x3 x4 x5 x6 x7 _ b1
        have B1 : Hid (Below w.heap.size w w1) := ((Below.refl _ w).alloc (Nat.le_refl _) _).trans (b1.mono (by simp))
        clear b1 HB1
        go_wp2_with fail
        refine (CT.out _).mono ?_
        rintro e w2 ⟨rfl, b2⟩
        have B2 := B1.out.trans (b2.mono B1.out.size)
        clear b2
        go_wp2_with fail
        go_ret
        exact ⟨by rw [HX.out]; rfl, B2⟩
      · by_cases h3 : k = 3
        · subst h3
          have HX : Hid (hTx ⟨3, s, n, [x0, x1, x2, x3, x4, x5, x6, x7]⟩ = (⟨#[91]⟩ : ByteArray) ++ ⟨(ip6L [x0, x1, x2, x3, x4, x5, x6, x7]).toArray⟩ ++ (⟨#[93]⟩ : ByteArray)) := by
            show _ = _
            rw [hTx3 hok, six_text]
          have hr : okG [x0, x1, x2, x3, x4, x5, x6, x7] = true := by
            have h := hok
            rw [hOk3, Bool.and_eq_true] at h
            exact h.1
          have hl := six_len hr
          have CT : Hid (∀ W, Calls Tryz.prog 25 #[.agg #[.int .i64 x0, .int .i64 x1, .int .i64 x2, .int .i64 x3, .int .i64 x4, .int .i64 x5, .int .i64 x6, .int .i64 x7]] W fun e w' => e = .returned (.string ⟨(ip6L [x0, x1, x2, x3, x4, x5, x6, x7]).toArray⟩) ∧ Below W.heap.size W w') := fun W => specIp6Text x0 x1 x2 x3 x4 x5 x6 x7 W
          generalize (⟨(ip6L [x0, x1, x2, x3, x4, x5, x6, x7]).toArray⟩ : ByteArray) = T at CT HX hl
          have e1 : (⟨#[91]⟩ : ByteArray).size = 1 := rfl
          have e2 : (⟨#[93]⟩ : ByteArray).size = 1 := rfl
          rw [hok] at CO
          clear hok hr h1 h2
          go_enter Tryz.func15, Tryz.ntmps15
          go_wp2_with fail
          refine (CO.out _).mono ?_
          rintro e w1 ⟨rfl, b1⟩
          have HB1 : Hid (Below (w.alloc (.cells #[.int .i64 3, .string s, .int .i64 n, .int .i64 x0, .int .i64 x1, .int .i64 x2, .int .i64 x3, .int .i64 x4, .int .i64 x5, .int .i64 x6, .int .i64 x7] 26)).heap.size (w.alloc (.cells #[.int .i64 3, .string s, .int .i64 n, .int .i64 x0, .int .i64 x1, .int .i64 x2, .int .i64 x3, .int .i64 x4, .int .i64 x5, .int .i64 x6, .int .i64 x7] 26)) w1) := b1
          obtain ⟨c0, c1, c2, c3, c4, c5, c6, c7, c8, c9, c10⟩ := host_cells w w1 _ _ _ x0 x1 x2 x3 x4 x5 x6 x7 _ b1
          have B1 : Hid (Below w.heap.size w w1) := ((Below.refl _ w).alloc (Nat.le_refl _) _).trans (b1.mono (by simp))
          clear b1 HB1
          go_wp2_with fail
          refine (CT.out _).mono ?_
          rintro e w2 ⟨rfl, b2⟩
          have B2 := B1.out.trans (b2.mono B1.out.size)
          clear b2
          go_wp2_with fail
          go_ret
          exact ⟨by rw [HX.out]; rfl, B2⟩
        · rw [hOk0 k n s _ h1 h2 h3] at hok
          cases hok
end Go.Proofs.YtamnhegianpedaaGreatDoor

namespace Go.Proofs.YtamnhegianpedaaGreatDoor
open Go.RowKit

/-- A host of noughts in block B. -/
def NoneCells (W : World) (B : Nat) : Prop :=
  W.cell? ⟨B, 0, none⟩ = some (.int .i64 0) ∧ W.cell? ⟨B, 1, none⟩ = some (.string ⟨#[]⟩) ∧ W.cell? ⟨B, 2, none⟩ = some (.int .i64 0) ∧ W.cell? ⟨B, 3, none⟩ = some (.int .i64 0) ∧ W.cell? ⟨B, 4, none⟩ = some (.int .i64 0) ∧
  W.cell? ⟨B, 5, none⟩ = some (.int .i64 0) ∧ W.cell? ⟨B, 6, none⟩ = some (.int .i64 0) ∧ W.cell? ⟨B, 7, none⟩ = some (.int .i64 0) ∧ W.cell? ⟨B, 8, none⟩ = some (.int .i64 0) ∧ W.cell? ⟨B, 9, none⟩ = some (.int .i64 0) ∧ W.cell? ⟨B, 10, none⟩ = some (.int .i64 0)
/-- The result's cell, and 'none' behind it. -/
def Laid3 (w W : World) : Prop := NoneCells W w.heap.size ∧ NoneCells W (w.heap.size + 1) ∧ ∀ j, W.frozen? ⟨w.heap.size, j, none⟩ = false
theorem laid3 (w W : World) (t : TypeId) (hb : Below ((w.alloc (.cells #[.int .i64 0, .string ⟨#[]⟩, .int .i64 0, .int .i64 0, .int .i64 0, .int .i64 0, .int .i64 0, .int .i64 0, .int .i64 0, .int .i64 0, .int .i64 0] t)).alloc (.cells #[.int .i64 0, .string ⟨#[]⟩, .int .i64 0, .int .i64 0, .int .i64 0, .int .i64 0, .int .i64 0, .int .i64 0, .int .i64 0, .int .i64 0, .int .i64 0] t)).heap.size ((w.alloc (.cells #[.int .i64 0, .string ⟨#[]⟩, .int .i64 0, .int .i64 0, .int .i64 0, .int .i64 0, .int .i64 0, .int .i64 0, .int .i64 0, .int .i64 0, .int .i64 0] t)).alloc (.cells #[.int .i64 0, .string ⟨#[]⟩, .int .i64 0, .int .i64 0, .int .i64 0, .int .i64 0, .int .i64 0, .int .i64 0, .int .i64 0, .int .i64 0, .int .i64 0] t)) W) : Laid3 w W := by
  have h1 := ((Below.refl _ (w.alloc (.cells #[.int .i64 0, .string ⟨#[]⟩, .int .i64 0, .int .i64 0, .int .i64 0, .int .i64 0, .int .i64 0, .int .i64 0, .int .i64 0, .int .i64 0, .int .i64 0] t))).alloc (Nat.le_refl _) (.cells #[.int .i64 0, .string ⟨#[]⟩, .int .i64 0, .int .i64 0, .int .i64 0, .int .i64 0, .int .i64 0, .int .i64 0, .int .i64 0, .int .i64 0, .int .i64 0] t)).trans (hb.mono (by simp))
  have h2 := host_cells _ W _ _ _ 0 0 0 0 0 0 0 0 t hb
  unfold HostCells at h2
  simp only [show (w.alloc (.cells #[.int .i64 0, .string ⟨#[]⟩, .int .i64 0, .int .i64 0, .int .i64 0, .int .i64 0, .int .i64 0, .int .i64 0, .int .i64 0, .int .i64 0, .int .i64 0] t)).heap.size = w.heap.size + 1 by simp] at h2
  exact ⟨host_cells w W _ _ _ 0 0 0 0 0 0 0 0 t h1, h2, host_frozen w W _ t h1⟩

theorem row_of_none {W : World} {B : Nat} (h : NoneCells W B) : RowIs W B (hRow 0 ⟨#[]⟩ 0 0 0 0 0 0 0 0 0) := by
  obtain ⟨c0, c1, c2, c3, c4, c5, c6, c7, c8, c9, c10⟩ := h
  intro j v hv
  match j, hv with
  | 0, hv => cases hv; exact c0
  | 1, hv => cases hv; exact c1
  | 2, hv => cases hv; exact c2
  | 3, hv => cases hv; exact c3
  | 4, hv => cases hv; exact c4
  | 5, hv => cases hv; exact c5
  | 6, hv => cases hv; exact c6
  | 7, hv => cases hv; exact c7
  | 8, hv => cases hv; exact c8
  | 9, hv => cases hv; exact c9
  | 10, hv => cases hv; exact c10
  | j + 11, hv => simp [hRow] at hv

theorem last_r {s : ByteArray} (h : 1 < s.size) : (s.extract 1 s.size).data.toList.getLast? = some (s[s.size - 1]'(by omega)) := by
  rw [extract_list, take_all s s.size (Nat.le_refl _), List.getLast?_drop, if_neg (by simp; omega)]
  exact last_at s (by omega)
theorem drop_r {s : ByteArray} (h : 1 < s.size) : (s.extract 1 s.size).data.toList.dropLast = (s.extract 1 (s.size - 1)).data.toList := by
  have hl : s.data.toList.length = s.size := by simp
  rw [extract_list, extract_list, take_all s s.size (Nat.le_refl _), List.dropLast_eq_take, List.length_drop, hl, List.take_drop, show 1 + (s.size - 1 - 1) = s.size - 1 by omega]
theorem nil_r {s : ByteArray} (h : ¬ 1 < s.size) : (s.extract 1 s.size).data.toList.getLast? = none := by
  have e : (s.extract 1 s.size).data.toList = [] := List.eq_nil_of_length_eq_zero (by simp; omega)
  rw [e]
  rfl

theorem RowIs.other {W : World} {B : Nat} {vs : List Value} (h : RowIs W B vs) {C : Nat} (hne : B ≠ C) (j : Nat) (x : Value) : RowIs (W.setCell ⟨C, j, none⟩ x) B vs := by
  intro i v hv
  rw [World.cell?_setCell_other _ _ _ _ (fun h => hne (by injection h with h1 _; exact h1.symm))]
  exact h i v hv
theorem row_arr {W : World} {B : Nat} {vs : List Value} (h : RowIs W B vs) {C : Nat} (hne : B ≠ C) (x0 x1 x2 x3 x4 x5 x6 x7 : Int) : RowIs ((((((((W.setCell ⟨C, 0, none⟩ (.int .i64 x0)).setCell ⟨C, 1, none⟩ (.int .i64 x1)).setCell ⟨C, 2, none⟩ (.int .i64 x2)).setCell ⟨C, 3, none⟩ (.int .i64 x3)).setCell ⟨C, 4, none⟩ (.int .i64 x4)).setCell ⟨C, 5, none⟩ (.int .i64 x5)).setCell ⟨C, 6, none⟩ (.int .i64 x6)).setCell ⟨C, 7, none⟩ (.int .i64 x7)) B vs :=
  (((((((h.other hne 0 _).other hne 1 _).other hne 2 _).other hne 3 _).other hne 4 _).other hne 5 _).other hne 6 _).other hne 7 _


set_option maxRecDepth 20000 in
set_option maxHeartbeats 4000000 in
theorem specParseHost0 (s : ByteArray) (w : World) (h0 : s.size = 0) :
    Calls Tryz.prog 13 #[.string s] w fun e w' => e = .returned (.tuple #[hostVal (rV (readH s)), .int .i64 (rC (readH s))]) ∧ Below w.heap.size w w' := by
  rw [readH_nil h0]
  show Calls _ _ _ _ fun e w' => e = .returned (.tuple #[.agg #[.int .i64 0, .string ⟨#[]⟩, .int .i64 0, .int .i64 0, .int .i64 0, .int .i64 0, .int .i64 0, .int .i64 0, .int .i64 0, .int .i64 0, .int .i64 0], .int .i64 1]) ∧ Below w.heap.size w w'
  have hem := empty_yes h0
  clear h0
  go_enter Tryz.func13, Tryz.ntmps13
  go_wp2_with fail
  go_returns
  exact ⟨rfl, by go_grown⟩

set_option maxRecDepth 20000 in
set_option maxHeartbeats 4000000 in
theorem specParseHostN (s : ByteArray) (w : World) (hs : s.size ≤ 1048576) (hp : 0 < s.size) (h9 : ¬ s[0].toNat = 91) :
    Calls Tryz.prog 13 #[.string s] w fun e w' => e = .returned (.tuple #[hostVal (rV (readH s)), .int .i64 (rC (readH s))]) ∧ Below w.heap.size w w' := by
  rw [readH_name hp h9]
  have hem := empty_no hp
  obtain ⟨d, hd⟩ : ∃ d : Nat, s[0].toNat = d := ⟨_, rfl⟩
  have q0 : ((d : Int) == 91) = false := beq_eq_false_iff_ne.2 (by omega)
  have hus := Nat.le_trans (unB_size s) hs
  obtain ⟨O, hO⟩ : ∃ O, O = (w.alloc (.cells #[.int .i64 0, .string ⟨#[]⟩, .int .i64 0, .int .i64 0, .int .i64 0, .int .i64 0, .int .i64 0, .int .i64 0, .int .i64 0, .int .i64 0, .int .i64 0] 26)).alloc (.cells #[.int .i64 0, .string ⟨#[]⟩, .int .i64 0, .int .i64 0, .int .i64 0, .int .i64 0, .int .i64 0, .int .i64 0, .int .i64 0, .int .i64 0, .int .i64 0] 26) := ⟨_, rfl⟩
  have HL : Hid (∀ W, Below O.heap.size O W → Laid3 w W) := fun W h => by rw [hO] at h; exact laid3 w W _ h
  have HE : Hid (∀ W, Below O.heap.size O W → Below w.heap.size w W) := fun W h => by
    rw [hO] at h
    exact (((Below.refl _ w).alloc (Nat.le_refl _) _).alloc (by simp) _).trans (h.mono (by simp; omega))
  have CU : Hid (Calls Tryz.prog 30 #[.string s] O fun e w' => e = .returned (.string (unB s)) ∧ Hid (Below O.heap.size O w')) := specUnpercent s O (by omega)
  have CN : Hid (∀ W, Below O.heap.size O W → Calls Tryz.prog 22 #[.string (unB s)] W fun e w' => e = .returned (ansS (nameL (unB s))) ∧ Hid (Below O.heap.size O w')) := fun W hb => (specNameOf (unB s) W hus).mono fun e w' h => ⟨h.1, hb.trans (h.2.mono hb.size)⟩
  have HZ0 : Hid (readN s = match nameL (unB s) with
    | none => .bad 3
    | some n => readM n) := rfl
  have HNL : Hid (∀ n, nameL (unB s) = some n → n.length ≤ 253) := fun n hn => (nameL_le hn)
  generalize unB s = u at CU CN HZ0 HNL
  clear hus h9
  cases hn : nameL u with
  | none =>
    have HZ : Hid (readN s = .bad 3) := by
      show _ = _
      rw [HZ0.out, hn]
    rw [HZ.out]
    show Calls _ _ _ _ fun e w' => e = .returned (.tuple #[.agg #[.int .i64 0, .string ⟨#[]⟩, .int .i64 0, .int .i64 0, .int .i64 0, .int .i64 0, .int .i64 0, .int .i64 0, .int .i64 0, .int .i64 0, .int .i64 0], .int .i64 3]) ∧ Below w.heap.size w w'
    rw [hn, show ansS none = .tuple #[.string ⟨#[]⟩, .bool false] from rfl] at CN
    clear hn HZ0 HNL HZ
    go_enter Tryz.func13, Tryz.ntmps13
    go_wp2_with fail
    rw [← hO]
    refine CU.out.mono ?_
    rintro e w1 ⟨rfl, b1⟩
    go_wp2_with fail
    refine (CN.out _ b1.out).mono ?_
    rintro e w2 ⟨rfl, b2⟩
    have hl3 := HL.out w2 b2.out
    have HR : Hid (RowIs w2 w.heap.size (hRow 0 ⟨#[]⟩ 0 0 0 0 0 0 0 0 0)) := row_of_none hl3.1
    have BW : Hid (Below w.heap.size w w2) := HE.out _ b2.out
    obtain ⟨⟨c0, c1, c2, c3, c4, c5, c6, c7, c8, c9, c10⟩, ⟨d0, d1, d2, d3, d4, d5, d6, d7, d8, d9, d10⟩, fz⟩ := hl3
    go_wp2_with fail
    refine bodyPost_ret (host_result2 rfl _ _ w.heap.size _ 0 0 ⟨#[]⟩ 0 0 0 0 0 0 0 0 rfl rfl (host_store HR.out 0 0 ⟨#[]⟩ 0 0 0 0 0 0 0 0)) rfl ⟨rfl, below_hstore BW.out (Nat.le_refl _) 0 0 ⟨#[]⟩ 0 0 0 0 0 0 0 0⟩
  | some n =>
    have hl := HNL.out n hn
    have HZ1 : Hid (readN s = readM n) := by
      show _ = _
      rw [HZ0.out, hn]
    rw [hn, show ansS (some n) = .tuple #[.string ⟨n.toArray⟩, .bool true] from rfl] at CN
    have hns : (⟨n.toArray⟩ : ByteArray).size ≤ 1048576 := by
      show n.toArray.size ≤ _
      rw [List.size_toArray]
      omega
    have CE : Hid (∀ W, Below O.heap.size O W → Calls Tryz.prog 23 #[.string ⟨n.toArray⟩] W fun e w' => e = .returned (.bool (endL ⟨n.toArray⟩)) ∧ Hid (Below O.heap.size O w')) := fun W hb => (specEndsInNumber _ W hns).mono fun e w' h => ⟨h.1, hb.trans (h.2.mono hb.size)⟩
    have CL : Hid (∀ W, Below O.heap.size O W → Calls Tryz.prog 31 #[.string ⟨n.toArray⟩] W fun e w' => e = .returned (numA (loA ⟨n.toArray⟩)) ∧ Hid (Below O.heap.size O w')) := fun W hb => (specLooseIp4 _ W hns).mono fun e w' h => ⟨h.1, hb.trans (h.2.mono hb.size)⟩
    have HM : Hid (readM n = if endL ⟨n.toArray⟩ = true then (match loA ⟨n.toArray⟩ with
      | none => .bad 4
      | some v => .fo v) else .nm n) := rfl
    have HMV : Hid (hostVal (rV (.nm n)) = .agg #[.int .i64 1, .string ⟨n.toArray⟩, .int .i64 0, .int .i64 0, .int .i64 0, .int .i64 0, .int .i64 0, .int .i64 0, .int .i64 0, .int .i64 0, .int .i64 0]) := rfl
    generalize (⟨n.toArray⟩ : ByteArray) = T at CN CE CL HM HMV
    clear hn HZ0 HNL hl hns
    cases he : endL T with
    | false =>
      have HZ : Hid (readN s = .nm n) := by
        show _ = _
        rw [HZ1.out, HM.out, he, if_neg (by decide)]
      rw [HZ.out, HMV.out, show rC (.nm n) = 0 from rfl]
      rw [he] at CE
      clear he HZ1 HM CL HZ HMV
      go_enter Tryz.func13, Tryz.ntmps13
      go_wp2_with fail
      rw [← hO]
      refine CU.out.mono ?_
      rintro e w1 ⟨rfl, b1⟩
      go_wp2_with fail
      refine (CN.out _ b1.out).mono ?_
      rintro e w2 ⟨rfl, b2⟩
      go_wp2_with fail
      refine (CE.out _ b2.out).mono ?_
      rintro e w3 ⟨rfl, b3⟩
      have hl3 := HL.out w3 b3.out
      have HR : Hid (RowIs w3 w.heap.size (hRow 0 ⟨#[]⟩ 0 0 0 0 0 0 0 0 0)) := row_of_none hl3.1
      have BW : Hid (Below w.heap.size w w3) := HE.out _ b3.out
      obtain ⟨⟨c0, c1, c2, c3, c4, c5, c6, c7, c8, c9, c10⟩, ⟨d0, d1, d2, d3, d4, d5, d6, d7, d8, d9, d10⟩, fz⟩ := hl3
      go_wp2_with fail
      refine bodyPost_ret (host_result2 rfl _ _ w.heap.size _ 1 0 T 0 0 0 0 0 0 0 0 rfl rfl (host_store HR.out 1 0 T 0 0 0 0 0 0 0 0)) rfl ⟨rfl, below_hstore BW.out (Nat.le_refl _) 1 0 T 0 0 0 0 0 0 0 0⟩
    | true =>
      rw [he] at CE
      cases hlo : loA T with
      | none =>
        have HZ : Hid (readN s = .bad 4) := by
          show _ = _
          rw [HZ1.out, HM.out, he, if_pos rfl, hlo]
        rw [HZ.out]
        show Calls _ _ _ _ fun e w' => e = .returned (.tuple #[.agg #[.int .i64 0, .string ⟨#[]⟩, .int .i64 0, .int .i64 0, .int .i64 0, .int .i64 0, .int .i64 0, .int .i64 0, .int .i64 0, .int .i64 0, .int .i64 0], .int .i64 4]) ∧ Below w.heap.size w w'
        rw [hlo, show numA none = .tuple #[.int .i64 0, .bool false] from rfl] at CL
        clear he hlo HZ1 HM HMV HZ
        go_enter Tryz.func13, Tryz.ntmps13
        go_wp2_with fail
        rw [← hO]
        refine CU.out.mono ?_
        rintro e w1 ⟨rfl, b1⟩
        go_wp2_with fail
        refine (CN.out _ b1.out).mono ?_
        rintro e w2 ⟨rfl, b2⟩
        go_wp2_with fail
        refine (CE.out _ b2.out).mono ?_
        rintro e w3 ⟨rfl, b3⟩
        go_wp2_with fail
        refine (CL.out _ b3.out).mono ?_
        rintro e w4 ⟨rfl, b4⟩
        have hl3 := HL.out w4 b4.out
        have HR : Hid (RowIs w4 w.heap.size (hRow 0 ⟨#[]⟩ 0 0 0 0 0 0 0 0 0)) := row_of_none hl3.1
        have BW : Hid (Below w.heap.size w w4) := HE.out _ b4.out
        obtain ⟨⟨c0, c1, c2, c3, c4, c5, c6, c7, c8, c9, c10⟩, ⟨d0, d1, d2, d3, d4, d5, d6, d7, d8, d9, d10⟩, fz⟩ := hl3
        go_wp2_with fail
        refine bodyPost_ret (host_result2 rfl _ _ w.heap.size _ 0 0 ⟨#[]⟩ 0 0 0 0 0 0 0 0 rfl rfl (host_store HR.out 0 0 ⟨#[]⟩ 0 0 0 0 0 0 0 0)) rfl ⟨rfl, below_hstore BW.out (Nat.le_refl _) 0 0 ⟨#[]⟩ 0 0 0 0 0 0 0 0⟩
      | some v =>
        have HZ : Hid (readN s = .fo v) := by
          show _ = _
          rw [HZ1.out, HM.out, he, if_pos rfl, hlo]
        rw [HZ.out]
        obtain ⟨y, hy⟩ : ∃ y : Int, (v : Int) = y := ⟨_, rfl⟩
        show Calls _ _ _ _ fun e w' => e = .returned (.tuple #[.agg #[.int .i64 2, .string ⟨#[]⟩, .int .i64 (v : Int), .int .i64 0, .int .i64 0, .int .i64 0, .int .i64 0, .int .i64 0, .int .i64 0, .int .i64 0, .int .i64 0], .int .i64 0]) ∧ Below w.heap.size w w'
        rw [hlo, show numA (some v) = .tuple #[.int .i64 (v : Int), .bool true] from rfl, hy] at CL
        rw [hy]
        clear he hlo HZ1 HM HMV HZ hy
        go_enter Tryz.func13, Tryz.ntmps13
        go_wp2_with fail
        rw [← hO]
        refine CU.out.mono ?_
        rintro e w1 ⟨rfl, b1⟩
        go_wp2_with fail
        refine (CN.out _ b1.out).mono ?_
        rintro e w2 ⟨rfl, b2⟩
        go_wp2_with fail
        refine (CE.out _ b2.out).mono ?_
        rintro e w3 ⟨rfl, b3⟩
        go_wp2_with fail
        refine (CL.out _ b3.out).mono ?_
        rintro e w4 ⟨rfl, b4⟩
        have hl3 := HL.out w4 b4.out
        have HR : Hid (RowIs w4 w.heap.size (hRow 0 ⟨#[]⟩ 0 0 0 0 0 0 0 0 0)) := row_of_none hl3.1
        have BW : Hid (Below w.heap.size w w4) := HE.out _ b4.out
        obtain ⟨⟨c0, c1, c2, c3, c4, c5, c6, c7, c8, c9, c10⟩, ⟨d0, d1, d2, d3, d4, d5, d6, d7, d8, d9, d10⟩, fz⟩ := hl3
        go_wp2_with fail
        refine bodyPost_ret (host_result2 rfl _ _ w.heap.size _ 2 y ⟨#[]⟩ 0 0 0 0 0 0 0 0 rfl rfl (host_store HR.out 2 y ⟨#[]⟩ 0 0 0 0 0 0 0 0)) rfl ⟨rfl, below_hstore BW.out (Nat.le_refl _) 2 y ⟨#[]⟩ 0 0 0 0 0 0 0 0⟩

end Go.Proofs.YtamnhegianpedaaGreatDoor

namespace Go.Proofs.YtamnhegianpedaaGreatDoor
open Go.RowKit

theorem none_of_row {W : World} {B : Nat} (h : RowIs W B (hRow 0 ⟨#[]⟩ 0 0 0 0 0 0 0 0 0)) : NoneCells W B := ⟨h 0 _ rfl, h 1 _ rfl, h 2 _ rfl, h 3 _ rfl, h 4 _ rfl, h 5 _ rfl, h 6 _ rfl, h 7 _ rfl, h 8 _ rfl, h 9 _ rfl, h 10 _ rfl⟩


set_option maxRecDepth 20000 in
set_option maxHeartbeats 4000000 in
theorem specParseHostS (s : ByteArray) (w : World) (hs : s.size ≤ 1048576) (hp : 0 < s.size) (h9 : s[0].toNat = 91) :
    Calls Tryz.prog 13 #[.string s] w fun e w' => e = .returned (.tuple #[hostVal (rV (readH s)), .int .i64 (rC (readH s))]) ∧ Below w.heap.size w w' := by
  rw [readH_six hp h9]
  have hem := empty_no hp
  have hi : ((s.size : Int) - 1) = ((s.size - 1 : Nat) : Int) := by omega
  obtain ⟨c, hc⟩ : ∃ c : Nat, (s[s.size - 1]'(by omega)).toNat = c := ⟨_, rfl⟩
  by_cases hcl : c = 93
  · have h1 : 1 < s.size := by
      rcases Nat.lt_or_ge 1 s.size with h | h
      · exact h
      · exfalso
        have e : s.size = 1 := by omega
        have : (s[s.size - 1]'(by omega)).toNat = s[0].toNat := by congr 2; omega
        omega
    have HZ1 : Hid (readS (s.extract 1 s.size).data.toList = readB (par6 (s.extract 1 (s.size - 1)).data.toList)) := by
      show _ = _
      rw [readS_yes (by rw [last_r h1]; congr 1; exact u8_is (hc.trans hcl)), drop_r h1]
    have hts : (s.extract 1 (s.size - 1)).size ≤ 1048576 := by rw [ByteArray.size_extract]; omega
    obtain ⟨O, hO⟩ : ∃ O, O = (w.alloc (.cells #[.int .i64 0, .string ⟨#[]⟩, .int .i64 0, .int .i64 0, .int .i64 0, .int .i64 0, .int .i64 0, .int .i64 0, .int .i64 0, .int .i64 0, .int .i64 0] 26)).alloc (.cells #[.int .i64 0, .string ⟨#[]⟩, .int .i64 0, .int .i64 0, .int .i64 0, .int .i64 0, .int .i64 0, .int .i64 0, .int .i64 0, .int .i64 0, .int .i64 0] 26) := ⟨_, rfl⟩
    have HL : Hid (∀ W, Below O.heap.size O W → Laid3 w W) := fun W h => by rw [hO] at h; exact laid3 w W _ h
    have HE : Hid (∀ W, Below O.heap.size O W → Below w.heap.size w W) := fun W h => by
      rw [hO] at h
      exact (((Below.refl _ w).alloc (Nat.le_refl _) _).alloc (by simp) _).trans (h.mono (by simp; omega))
    obtain ⟨P, hP⟩ : ∃ P, P = O.alloc (.cells #[.int .i64 0, .int .i64 0, .int .i64 0, .int .i64 0, .int .i64 0, .int .i64 0, .int .i64 0, .int .i64 0] 24) := ⟨_, rfl⟩
    have HPO : Hid (∀ W, Below P.heap.size P W → Below O.heap.size O W) := fun W h => by
      rw [hP] at h
      exact ((Below.refl _ O).alloc (Nat.le_refl _) _).trans (h.mono (by simp))
    have HPZ : Hid (∀ W, Below P.heap.size P W → ArrAt W (w.heap.size + 1 + 1) [0, 0, 0, 0, 0, 0, 0, 0]) := fun W h => by
      rw [hP] at h
      have h2 := (arr_new O).later h
      rwa [show O.heap.size = w.heap.size + 1 + 1 by rw [hO]; simp] at h2
    have CP : Hid (Calls Tryz.prog 29 #[.string (s.extract 1 (s.size - 1))] P fun e w' => e = .returned (parV (par6 (s.extract 1 (s.size - 1)).data.toList)) ∧ Hid (Below P.heap.size P w')) := specParseIp6 _ P hts
    have H8 : Hid (∀ gs, par6 (s.extract 1 (s.size - 1)).data.toList = some gs → gs.length = 8) := par6_eight _
    rw [HZ1.out]
    subst hcl
    have h1i : 1 ≤ (s.size : Int) - 1 := by omega
    have h2i : (s.size : Int) - 1 ≤ (s.size : Int) := by omega
    generalize par6 (s.extract 1 (s.size - 1)).data.toList = R at CP H8
    clear HZ1 hts
    cases R with
    | none =>
      show Calls _ _ _ _ fun e w' => e = .returned (.tuple #[.agg #[.int .i64 0, .string ⟨#[]⟩, .int .i64 0, .int .i64 0, .int .i64 0, .int .i64 0, .int .i64 0, .int .i64 0, .int .i64 0, .int .i64 0, .int .i64 0], .int .i64 2]) ∧ Below w.heap.size w w'
      go_enter Tryz.func13, Tryz.ntmps13
      go_wp2_with fail
      rw [← hO, ← hP]
      refine CP.out.mono ?_
      rintro e w1 ⟨rfl, b1⟩
      rw [show parV none = .tuple #[.agg #[.int .i64 0, .int .i64 0, .int .i64 0, .int .i64 0, .int .i64 0, .int .i64 0, .int .i64 0, .int .i64 0], .bool false] from rfl]
      have AR := HPZ.out _ b1.out
      obtain ⟨w9, h9⟩ : ∃ w9, w9 = ((((((((w1.setCell ⟨w.heap.size + 1 + 1, 0, none⟩ (.int .i64 0)).setCell ⟨w.heap.size + 1 + 1, 1, none⟩ (.int .i64 0)).setCell ⟨w.heap.size + 1 + 1, 2, none⟩ (.int .i64 0)).setCell ⟨w.heap.size + 1 + 1, 3, none⟩ (.int .i64 0)).setCell ⟨w.heap.size + 1 + 1, 4, none⟩ (.int .i64 0)).setCell ⟨w.heap.size + 1 + 1, 5, none⟩ (.int .i64 0)).setCell ⟨w.heap.size + 1 + 1, 6, none⟩ (.int .i64 0)).setCell ⟨w.heap.size + 1 + 1, 7, none⟩ (.int .i64 0)) := ⟨_, rfl⟩
      have H9 : Hid (w9 = _) := h9
      have hl3 := HL.out w1 (HPO.out _ b1.out)
      have HR : Hid (RowIs w9 w.heap.size (hRow 0 ⟨#[]⟩ 0 0 0 0 0 0 0 0 0)) := by rw [h9]; exact row_arr (row_of_none hl3.1) (by omega) 0 0 0 0 0 0 0 0
      have HR1 : RowIs w9 (w.heap.size + 1) (hRow 0 ⟨#[]⟩ 0 0 0 0 0 0 0 0 0) := by rw [h9]; exact row_arr (row_of_none hl3.2.1) (by omega) 0 0 0 0 0 0 0 0
      have BW : Hid (Below w.heap.size w w9) := by rw [h9]; exact below_store (HE.out _ (HPO.out _ b1.out)) (by omega) 0 0 0 0 0 0 0 0
      have AR9 : Hid (ArrAt w9 (w.heap.size + 1 + 1) [0, 0, 0, 0, 0, 0, 0, 0]) := by rw [h9]; exact arr_store AR 0 0 0 0 0 0 0 0
      have fz : ∀ j, w9.frozen? ⟨w.heap.size, j, none⟩ = false := fun j => by rw [h9]; simp only [World.frozen?_setCell]; exact hl3.2.2 j
      obtain ⟨c0, c1, c2, c3, c4, c5, c6, c7, c8, c9, c10⟩ := none_of_row HR.out
      obtain ⟨d0, d1, d2, d3, d4, d5, d6, d7, d8, d9, d10⟩ := none_of_row HR1
      clear hl3 h9 HR1
      have a0 := (AR.2 0 (by decide)).1
      have a1 := (AR.2 1 (by decide)).1
      have a2 := (AR.2 2 (by decide)).1
      have a3 := (AR.2 3 (by decide)).1
      have a4 := (AR.2 4 (by decide)).1
      have a5 := (AR.2 5 (by decide)).1
      have a6 := (AR.2 6 (by decide)).1
      have a7 := (AR.2 7 (by decide)).1
      have g0 := (AR.2 0 (by decide)).2
      have g1 := (AR.2 1 (by decide)).2
      have g2 := (AR.2 2 (by decide)).2
      have g3 := (AR.2 3 (by decide)).2
      have g4 := (AR.2 4 (by decide)).2
      have g5 := (AR.2 5 (by decide)).2
      have g6 := (AR.2 6 (by decide)).2
      have g7 := (AR.2 7 (by decide)).2
      simp only [List.getD_cons_zero, List.getD_cons_succ] at a0 a1 a2 a3 a4 a5 a6 a7
      clear AR
      go_wp2_with (rw [← H9.out])
      refine bodyPost_ret (host_result2 rfl _ _ w.heap.size _ 0 0 ⟨#[]⟩ 0 0 0 0 0 0 0 0 rfl rfl (host_store HR.out 0 0 ⟨#[]⟩ 0 0 0 0 0 0 0 0)) rfl ⟨rfl, below_hstore BW.out (Nat.le_refl _) 0 0 ⟨#[]⟩ 0 0 0 0 0 0 0 0⟩
    | some gs =>
      obtain ⟨x0, x1, x2, x3, x4, x5, x6, x7, hv, _, hx⟩ := parV_si (H8.out gs rfl)
      rw [hv] at CP
      have HV : Hid (hostVal (rV (readB (some gs))) = .agg #[.int .i64 3, .string ⟨#[]⟩, .int .i64 0, .int .i64 x0, .int .i64 x1, .int .i64 x2, .int .i64 x3, .int .i64 x4, .int .i64 x5, .int .i64 x6, .int .i64 x7]) := by
        show hostVal ⟨3, ⟨#[]⟩, 0, gs.map fun (x : Nat) => (x : Int)⟩ = _
        rw [hx]
        rfl
      rw [HV.out, show rC (readB (some gs)) = 0 from rfl]
      clear hv hx H8 HV
      go_enter Tryz.func13, Tryz.ntmps13
      go_wp2_with fail
      rw [← hO, ← hP]
      refine CP.out.mono ?_
      rintro e w1 ⟨rfl, b1⟩
      have AR := HPZ.out _ b1.out
      obtain ⟨w9, h9⟩ : ∃ w9, w9 = ((((((((w1.setCell ⟨w.heap.size + 1 + 1, 0, none⟩ (.int .i64 x0)).setCell ⟨w.heap.size + 1 + 1, 1, none⟩ (.int .i64 x1)).setCell ⟨w.heap.size + 1 + 1, 2, none⟩ (.int .i64 x2)).setCell ⟨w.heap.size + 1 + 1, 3, none⟩ (.int .i64 x3)).setCell ⟨w.heap.size + 1 + 1, 4, none⟩ (.int .i64 x4)).setCell ⟨w.heap.size + 1 + 1, 5, none⟩ (.int .i64 x5)).setCell ⟨w.heap.size + 1 + 1, 6, none⟩ (.int .i64 x6)).setCell ⟨w.heap.size + 1 + 1, 7, none⟩ (.int .i64 x7)) := ⟨_, rfl⟩
      have H9 : Hid (w9 = _) := h9
      have hl3 := HL.out w1 (HPO.out _ b1.out)
      have HR : Hid (RowIs w9 w.heap.size (hRow 0 ⟨#[]⟩ 0 0 0 0 0 0 0 0 0)) := by rw [h9]; exact row_arr (row_of_none hl3.1) (by omega) x0 x1 x2 x3 x4 x5 x6 x7
      have HR1 : RowIs w9 (w.heap.size + 1) (hRow 0 ⟨#[]⟩ 0 0 0 0 0 0 0 0 0) := by rw [h9]; exact row_arr (row_of_none hl3.2.1) (by omega) x0 x1 x2 x3 x4 x5 x6 x7
      have BW : Hid (Below w.heap.size w w9) := by rw [h9]; exact below_store (HE.out _ (HPO.out _ b1.out)) (by omega) x0 x1 x2 x3 x4 x5 x6 x7
      have AR9 : Hid (ArrAt w9 (w.heap.size + 1 + 1) [x0, x1, x2, x3, x4, x5, x6, x7]) := by rw [h9]; exact arr_store AR x0 x1 x2 x3 x4 x5 x6 x7
      have fz : ∀ j, w9.frozen? ⟨w.heap.size, j, none⟩ = false := fun j => by rw [h9]; simp only [World.frozen?_setCell]; exact hl3.2.2 j
      obtain ⟨c0, c1, c2, c3, c4, c5, c6, c7, c8, c9, c10⟩ := none_of_row HR.out
      obtain ⟨d0, d1, d2, d3, d4, d5, d6, d7, d8, d9, d10⟩ := none_of_row HR1
      clear hl3 h9 HR1
      have a0 := (AR.2 0 (by decide)).1
      have a1 := (AR.2 1 (by decide)).1
      have a2 := (AR.2 2 (by decide)).1
      have a3 := (AR.2 3 (by decide)).1
      have a4 := (AR.2 4 (by decide)).1
      have a5 := (AR.2 5 (by decide)).1
      have a6 := (AR.2 6 (by decide)).1
      have a7 := (AR.2 7 (by decide)).1
      have g0 := (AR.2 0 (by decide)).2
      have g1 := (AR.2 1 (by decide)).2
      have g2 := (AR.2 2 (by decide)).2
      have g3 := (AR.2 3 (by decide)).2
      have g4 := (AR.2 4 (by decide)).2
      have g5 := (AR.2 5 (by decide)).2
      have g6 := (AR.2 6 (by decide)).2
      have g7 := (AR.2 7 (by decide)).2
      simp only [List.getD_cons_zero, List.getD_cons_succ] at a0 a1 a2 a3 a4 a5 a6 a7
      clear AR
      have AR := AR9.out
      have b0 := (AR.2 0 (by decide)).1
      have b1 := (AR.2 1 (by decide)).1
      have b2 := (AR.2 2 (by decide)).1
      have b3 := (AR.2 3 (by decide)).1
      have b4 := (AR.2 4 (by decide)).1
      have b5 := (AR.2 5 (by decide)).1
      have b6 := (AR.2 6 (by decide)).1
      have b7 := (AR.2 7 (by decide)).1
      simp only [List.getD_cons_zero, List.getD_cons_succ] at b0 b1 b2 b3 b4 b5 b6 b7
      clear AR
      go_wp2_with (rw [← H9.out])
      refine bodyPost_ret (host_result2 rfl _ _ w.heap.size _ 3 0 ⟨#[]⟩ x0 x1 x2 x3 x4 x5 x6 x7 rfl rfl (host_store HR.out 3 0 ⟨#[]⟩ x0 x1 x2 x3 x4 x5 x6 x7)) rfl ⟨rfl, below_hstore BW.out (Nat.le_refl _) 3 0 ⟨#[]⟩ x0 x1 x2 x3 x4 x5 x6 x7⟩
  · have HZ1 : Hid (readS (s.extract 1 s.size).data.toList = .bad 2) := by
      by_cases h1 : 1 < s.size
      · refine readS_no ?_
        rw [last_r h1]
        intro e
        have e2 := Option.some.inj e
        apply hcl
        rw [← hc, e2]
        rfl
      · refine readS_no ?_
        rw [nil_r h1]
        simp
    have q0 : ((c : Int) == 93) = false := beq_eq_false_iff_ne.2 (by omega)
    rw [HZ1.out]
    show Calls _ _ _ _ fun e w' => e = .returned (.tuple #[.agg #[.int .i64 0, .string ⟨#[]⟩, .int .i64 0, .int .i64 0, .int .i64 0, .int .i64 0, .int .i64 0, .int .i64 0, .int .i64 0, .int .i64 0, .int .i64 0], .int .i64 2]) ∧ Below w.heap.size w w'
    clear HZ1 hcl
    go_enter Tryz.func13, Tryz.ntmps13
    go_wp2_with fail
    go_returns
    exact ⟨rfl, by go_grown⟩

theorem specParseHost (s : ByteArray) (w : World) (hs : s.size ≤ 1048576) :
    Calls Tryz.prog 13 #[.string s] w fun e w' => e = .returned (.tuple #[hostVal (rV (readH s)), .int .i64 (rC (readH s))]) ∧ Below w.heap.size w w' := by
  by_cases h0 : s.size = 0
  · exact specParseHost0 s w h0
  · have hp : 0 < s.size := by omega
    by_cases h9 : s[0].toNat = 91
    · exact specParseHostS s w hs hp h9
    · exact specParseHostN s w hs hp h9
end Go.Proofs.YtamnhegianpedaaGreatDoor

namespace Go.Proofs.YtamnhegianpedaaGreatDoor
open Go.RowKit

theorem host_later {w W : World} {k n : Int} {s : ByteArray} {x0 x1 x2 x3 x4 x5 x6 x7 : Int} (h : HostCells w W k s n x0 x1 x2 x3 x4 x5 x6 x7) (o : Obj) : HostCells w (W.alloc o) k s n x0 x1 x2 x3 x4 x5 x6 x7 := by
  have hb : Below W.heap.size W (W.alloc o) := (Below.refl _ _).alloc (Nat.le_refl _) o
  obtain ⟨c0, c1, c2, c3, c4, c5, c6, c7, c8, c9, c10⟩ := h
  exact ⟨cell_later hb c0, cell_later hb c1, cell_later hb c2, cell_later hb c3, cell_later hb c4, cell_later hb c5, cell_later hb c6, cell_later hb c7, cell_later hb c8, cell_later hb c9, cell_later hb c10⟩

set_option maxRecDepth 20000 in
set_option maxHeartbeats 2000000 in
theorem eqHostSelf (k n : Int) (s : ByteArray) (x0 x1 x2 x3 x4 x5 x6 x7 : Int) (w : World) :
    Calls Tryz.prog 17 #[.agg #[.int .i64 k, .string s, .int .i64 n, .int .i64 x0, .int .i64 x1, .int .i64 x2, .int .i64 x3, .int .i64 x4, .int .i64 x5, .int .i64 x6, .int .i64 x7], .agg #[.int .i64 k, .string s, .int .i64 n, .int .i64 x0, .int .i64 x1, .int .i64 x2, .int .i64 x3, .int .i64 x4, .int .i64 x5, .int .i64 x6, .int .i64 x7]] w fun e w' => e = .returned (.bool true) ∧ Below w.heap.size w w' := by
  have CE : Hid (∀ W, Calls Tryz.prog 34 #[.agg #[.int .i64 x0, .int .i64 x1, .int .i64 x2, .int .i64 x3, .int .i64 x4, .int .i64 x5, .int .i64 x6, .int .i64 x7], .agg #[.int .i64 x0, .int .i64 x1, .int .i64 x2, .int .i64 x3, .int .i64 x4, .int .i64 x5, .int .i64 x6, .int .i64 x7]] W fun e w' => e = .returned (.bool true) ∧ Below W.heap.size W w') := fun W => eqIntA8 x0 x1 x2 x3 x4 x5 x6 x7 W
  have HB : Hid (∀ o p, Below w.heap.size w ((w.alloc o).alloc p)) := fun o p => ((Below.refl _ w).alloc (Nat.le_refl _) o).alloc (by simp) p
  go_enter Tryz.func17, Tryz.ntmps17
  go_wp2_with fail
  refine (CE.out _).mono ?_
  rintro e w1 ⟨rfl, b1⟩
  have B1 := (HB.out _ _).trans (b1.mono (by simp; omega))
  clear b1
  go_wp2_with fail
  go_ret
  exact ⟨rfl, B1⟩
end Go.Proofs.YtamnhegianpedaaGreatDoor

namespace Go.Proofs.YtamnhegianpedaaGreatDoor
open Go.ChangeShapes Go.WideShapes Go.ChangeAt Go.RowKit Go.Lib

def laidHost : List (String × DataW Unit) := [("math/bits.deBruijn32tab", Rows.laid_math_bits_deBruijn32tab), ("math/bits.deBruijn64tab", Rows.laid_math_bits_deBruijn64tab), ("internal/strconv.uint64pow10", Rows.laid_internal_strconv_uint64pow10), ("unicode/utf8.acceptRanges", Rows.laid_unicode_utf8_acceptRanges), ("unicode/utf8.first", Rows.laid_unicode_utf8_first)]

theorem host_pow {W : World} (hL : laidMet Tryz.prog laidHost W) : Pow W := by
  unfold laidHost at hL
  rw [pow_data] at hL
  obtain ⟨g', t', cs, fuel, p, hg, hty, hvar, hd⟩ := Lib.laidMet.reads hL (.tail _ (.tail _ (.head _)))
  obtain rfl := Option.some.inj ((show Tryz.prog.globalNamed "internal/strconv.uint64pow10" = some 1 by kernel_rfl).symm.trans hg)
  obtain rfl := Option.some.inj ((show (Tryz.prog.globals[1]?).map (·.type) = some 135 by kernel_rfl).symm.trans hty)
  show Lib.TabIs _ _ _ _ _
  unfold Lib.TabIs
  rw [hvar, ← Lib.cells_of_tab (P := Tryz.prog) (t := 135) (e := 109) (n := 20) (k := .u64) (by kernel_rfl) (by kernel_rfl) (by kernel_rfl) (by kernel_rfl) hd]

theorem host_bru {W : World} (hL : laidMet Tryz.prog laidHost W) : Bruijn W := by
  unfold laidHost at hL
  rw [bru_data] at hL
  obtain ⟨g', t', cs, fuel, p, hg, hty, hvar, hd⟩ := Lib.laidMet.reads hL (.tail _ (.head _))
  have hgg : Tryz.prog.globalNamed "math/bits.deBruijn64tab" = some 5 := by kernel_rfl
  obtain rfl := Option.some.inj (hgg.symm.trans hg)
  obtain rfl := Option.some.inj ((show (Tryz.prog.globals[5]?).map (·.type) = some 159 by kernel_rfl).symm.trans hty)
  have hT : Lib.TabIs Tryz.prog W "math/bits.deBruijn64tab" .u8 bruTab := by
    unfold Lib.TabIs
    rw [hvar, ← Lib.cells_of_tab (P := Tryz.prog) (t := 159) (e := 5) (n := 64) (k := .u8) (by kernel_rfl) (by kernel_rfl) (by kernel_rfl) (by kernel_rfl) hd]
  have h := hT.cell hgg 15 (by decide)
  exact h

theorem host_tabs {W : World} (hL : laidMet Tryz.prog laidHost W) : Lib.Utf8Tabs 2 3 W := by
  unfold laidHost at hL
  rw [acc_eq, first_eq] at hL
  exact utf8Tabs_of_readsT (U8Types.of196 Tryz.lays196) ⟨by kernel_rfl, by kernel_rfl, by kernel_rfl, by kernel_rfl, by kernel_rfl, by kernel_rfl, by kernel_rfl⟩ (Lib.laidMet.reads hL (.tail _ (.tail _ (.tail _ (.tail _ (.head _)))))) (Lib.laidMet.reads hL (.tail _ (.tail _ (.tail _ (.head _)))))

/-- The heap of the witness: the five tables hold what their initialisers lay. -/
def hostHeap (h : Array Obj) : Array Obj := laidHeap (powHeap h)

theorem host_met (os : Os) (args : Array Value) : laidMet Tryz.prog laidHost (({ World.holding Tryz.prog os ⟨#[], #[], []⟩ with heap := hostHeap (World.holding Tryz.prog os ⟨#[], #[], []⟩).heap } : World).forCall (fun _ _ => 0) ⟨#[], args, []⟩).memory :=
  (LaidIn.of_run (l := laidHost) [4, 5, 1, 3, 2] 8 (by kernel_rfl) (by kernel_rfl) (by kernel_rfl) (by kernel_rfl)).met
end Go.Proofs.YtamnhegianpedaaGreatDoor
