/- Plain laws, of no program: bytes as cells, a text out of a row that the call owns. -/
import Derived.WalkKit
import Derived.WalkLawsBesides
import Derived.WalkSpells
import Derived.Laws.IdiomStrings
namespace Go.Proofs.YtcjblhiihgdljaaGreat
open Go.RowKit

def bcells (l : List UInt8) : List Value := l.map fun b => Value.int .u8 (b.toNat : Int)

theorem bcells_snoc (l : List UInt8) (c : UInt8) : bcells (l ++ [c]) = bcells l ++ [Value.int .u8 (c.toNat : Int)] := by simp [bcells]

theorem bcells_append (l m : List UInt8) : bcells (l ++ m) = bcells l ++ bcells m := by simp [bcells]

theorem bcells_length (l : List UInt8) : (bcells l).length = l.length := by simp [bcells]

theorem bcells_oneCell (l : List UInt8) : ∀ u ∈ bcells l, u.oneCell' = true := by
  intro u hu
  obtain ⟨_, _, rfl⟩ := List.mem_map.1 hu
  rfl

theorem run_string_own {P : Program} (w : World) (src dst e : TypeId) (hs : P.underlying src = some (.slice e)) (he : P.underlying e = some (.int .u8)) (hd : P.underlying dst = some .string)
    {base : Nat} {v : Value} {n : Nat} {l : List UInt8} (hown : w.ownsRow base e 1 v n (bcells l)) :
    (convert src dst v).run P w = .ok (.string ⟨l.toArray⟩) w := by
  have hn : l.length = n := by have := hown.1; simpa [bcells_length] using this
  rcases hown.2 with ⟨rfl, h0⟩ | ⟨g, cap, cur, rfl, hb, hg, hnc, hcm, hcs, htake⟩
  · rw [h0] at hn
    have : l = [] := List.eq_nil_of_length_eq_zero hn
    subst this
    rw [run_convert_bytes_string w src dst e _ _ _ hs he hd]
    simp [Conv.bytesToString]
    rfl
  · subst hn
    refine run_convert_bytes_back w src dst e ⟨g, 0, none⟩ cap l hs he hd fun j hj => ?_
    exact hown.cells (g := g) rfl j _ (by simp [bcells, hj])

/-- The bytes l lie at the head of block B, and none of them is frozen. -/
def bytesAt (w : World) (B : Nat) (l : List UInt8) : Prop :=
  ∀ j (hj : j < l.length), w.cell? ⟨B, j, none⟩ = some (.int .u8 (l[j].toNat : Int)) ∧ w.frozen? ⟨B, j, none⟩ = false

theorem bytesAt.drew {w : World} {B : Nat} {l : List UInt8} (h : bytesAt w B l) : bytesAt w.drew B l := h

theorem bytesAt_made (w : World) (s : ByteArray) (cap : Nat) (e : TypeId) :
    bytesAt (w.alloc (.cells (bytesRow s cap) e ((bytesRow s cap).size, (bytesRow s cap).size + 1))) w.heap.size s.data.toList := by
  intro j hj
  have hj' : j < s.data.size := by simpa using hj
  constructor
  · rw [World.cell?_alloc_mark]
    unfold bytesRow
    rw [Array.getElem?_append_left (by simpa using hj')]
    rw [Array.getElem?_map, Array.getElem?_eq_getElem hj']
    simp
  · have hb : (w.alloc (.cells (bytesRow s cap) e ((bytesRow s cap).size, (bytesRow s cap).size + 1))).heap[w.heap.size]? = some (.cells (bytesRow s cap) e ((bytesRow s cap).size, (bytesRow s cap).size + 1)) := heap_alloc_new w _
    have hsz : j < (bytesRow s cap).size := by
      have h0 : s.size = s.data.size := rfl
      unfold bytesRow
      simp only [Array.size_append, Array.size_map, Array.size_replicate]
      omega
    simp only [World.frozen?, hb]
    simp
    omega

theorem bytesAt.set {w : World} {B : Nat} {l : List UInt8} (h : bytesAt w B l) (k : Nat) (hk : k < l.length) (c : UInt8) {x : Int} (hx : x = (c.toNat : Int)) :
    bytesAt (w.setCell ⟨B, k, none⟩ (.int .u8 x)) B (l.set k c) := by
  subst hx
  intro j hj
  have hj' : j < l.length := by simpa using hj
  refine ⟨?_, by rw [World.frozen?_setCell]; exact (h j hj').2⟩
  by_cases e : k = j
  · subst e
    rw [World.cell?_setCell_same' _ _ _ (by rw [(h k hk).1]; rfl)]
    simp
  · rw [World.cell?_setCell_other _ _ _ _ (fun h => e (by injection h))]
    rw [List.getElem_set_ne e]
    exact (h j hj').1

theorem run_string_at {P : Program} (w : World) (src dst e : TypeId) (hs : P.underlying src = some (.slice e)) (he : P.underlying e = some (.int .u8)) (hd : P.underlying dst = some .string)
    {B n cap : Nat} {l : List UInt8} (hn : l.length = n) (h : bytesAt w B l) :
    (convert src dst (.slice (some ⟨B, 0, none⟩) n cap)).run P w = .ok (.string ⟨l.toArray⟩) w := by
  subst hn
  refine run_convert_bytes_back w src dst e ⟨B, 0, none⟩ cap l hs he hd fun j hj => ?_
  have e : (⟨B, 0, none⟩ : Addr).add j = ⟨B, j, none⟩ := by rw [Addr.add_lit]; simp
  rw [e]
  exact (h j hj).1

/-- 'append' of the elements of a literal (which lie in a new block of their own) to a row that the call owns: no block but the row's own turns. -/
theorem wpList_append_newG {P : Program} (wr : World) {ops : Array Oper} {rest : List Oper} {o : Oper} {a : Act} {Q : Exit → Act → World → Prop}
    (hg : o.guard = none) (s x : Operand) (t : TypeId) (hop : o.op = .call { callee := .builtin .append, args := #[s, x], argTypes := #[t, t] })
    (B : Nat) (e : TypeId) (z : Value) (bytes : Nat) (ht : P.underlying t = some (.slice e)) (hinfo : (P.info? e).map (fun i => (i.zero, i.size, i.bytes)) = some (some z, 1, bytes)) (hz : z.cells.size = 1)
    (v : Value) (n : Nat) (xs : List Value) (hs : a.eval s = v) (hown : wr.ownsRow B e 1 v n xs)
    (cs : Array Value) (m : Nat) (hm : cs.size = m) (hx : a.eval x = .slice (some ⟨wr.heap.size, 0, none⟩) m m) (h1 : ∀ u ∈ cs.toList, u.oneCell' = true)
    (hroom : (n + m) * bytes ≤ 140737488355328) (hroom' : n + m ≤ maxLen) (hB : B ≤ wr.heap.size)
    (hK : ∀ v' w1, w1.ownsRow B e 1 v' (n + m) (xs ++ cs.toList) → Below B wr w1 → (∀ k, k < wr.heap.size → some k ≠ v.ownBlock → w1.heap[k]? = wr.heap[k]?) → wpList P ops Q rest (a.put o.dst v') w1) :
    wpList P ops Q (o :: rest) a (wr.alloc (.cells cs e)) := by
  obtain ⟨i0, hi, hz0, hz1, hz2⟩ := info_parts hinfo
  refine wpList_append_own (wr.alloc (.cells cs e)) hg s x t hop B e i0 z 1 bytes ht hi hz0 hz1 hz2 hz (by decide) v n xs hs (hown.alloc _) ⟨wr.heap.size, 0, none⟩ m m cs.toList hx (by simp [hm]) ?_ h1 hroom' hroom (by simp; omega) ?_
  · intro j u hj
    rw [Addr.add_lit, Nat.zero_add]
    rw [World.cell?_alloc_at _ _ _ _ rfl]
    simpa using hj
  · intro v' w1 h1 h2 _
    exact hK v' w1 h1 (((Below.refl B wr).alloc hB _).grown h2 (by simp; omega) (fun k hk => (hown.lt k hk).1))
      (fun k hk hne => (h2.block k (by simp; omega) hne).trans (Below.heap_alloc wr _ k hk))

/-- 'append' of the elements of a literal (which lie in a new block of their own) to a row that the call owns. -/
theorem wpList_append_new {P : Program} (wr : World) {ops : Array Oper} {rest : List Oper} {o : Oper} {a : Act} {Q : Exit → Act → World → Prop}
    (hg : o.guard = none) (s x : Operand) (t : TypeId) (hop : o.op = .call { callee := .builtin .append, args := #[s, x], argTypes := #[t, t] })
    (B : Nat) (e : TypeId) (z : Value) (bytes : Nat) (ht : P.underlying t = some (.slice e)) (hinfo : (P.info? e).map (fun i => (i.zero, i.size, i.bytes)) = some (some z, 1, bytes)) (hz : z.cells.size = 1)
    (v : Value) (n : Nat) (xs : List Value) (hs : a.eval s = v) (hown : wr.ownsRow B e 1 v n xs)
    (cs : Array Value) (m : Nat) (hm : cs.size = m) (hx : a.eval x = .slice (some ⟨wr.heap.size, 0, none⟩) m m) (h1 : ∀ u ∈ cs.toList, u.oneCell' = true)
    (hroom : (n + m) * bytes ≤ 140737488355328) (hroom' : n + m ≤ maxLen) (hB : B ≤ wr.heap.size)
    (hK : ∀ v' w1, w1.ownsRow B e 1 v' (n + m) (xs ++ cs.toList) → Below B wr w1 → wpList P ops Q rest (a.put o.dst v') w1) :
    wpList P ops Q (o :: rest) a (wr.alloc (.cells cs e)) :=
  wpList_append_newG wr hg s x t hop B e z bytes ht hinfo hz v n xs hs hown cs m hm hx h1 hroom hroom' hB (fun v' w1 a b _ => hK v' w1 a b)

/-- What is owned stays owned where every block that was there stays. -/
theorem own_below {w w' : World} {B : Nat} {e : TypeId} {size : Nat} {v : Value} {n : Nat} {xs : List Value} (h : w.ownsRow B e size v n xs) (hb : Below w.heap.size w w') : w'.ownsRow B e size v n xs :=
  h.kept (row := none) ⟨hb.os, hb.tape, hb.output, hb.size, fun k hk _ => hb.block k hk⟩ (by cases hv : v.ownBlock <;> simp)

theorem grow_below {w w1 w2 : World} {row : Option Nat} (h : w.grownBy w1 row) (hb : Below w1.heap.size w1 w2) : w.grownBy w2 row :=
  ⟨hb.os.trans h.os, hb.tape.trans h.tape, hb.output.trans h.output, Nat.le_trans h.size hb.size, fun k hk hne => (hb.block k (Nat.lt_of_lt_of_le hk h.size)).trans (h.block k hk hne)⟩

theorem grow_trans {w w1 w2 : World} {row : Option Nat} (h : w.grownBy w1 row) (hb : w1.grownBy w2 row) : w.grownBy w2 row :=
  ⟨hb.os.trans h.os, hb.tape.trans h.tape, hb.output.trans h.output, Nat.le_trans h.size hb.size, fun k hk hne => (hb.block k (Nat.lt_of_lt_of_le hk h.size) hne).trans (h.block k hk hne)⟩

/-- A slice that is owned, by its shape. -/
theorem own_shape {w : World} {B : Nat} {e : TypeId} {v : Value} {n : Nat} {xs : List Value} (h : w.ownsRow B e 1 v n xs) :
    (n = 0 ∧ xs = [] ∧ ∃ ao cap, v = .slice ao 0 cap) ∨ (0 < n ∧ ∃ g cap, v = .slice (some ⟨g, 0, none⟩) n cap) := by
  have hl := h.1
  rcases h.2 with ⟨rfl, rfl⟩ | ⟨g, cap, cur, rfl, _⟩
  · exact .inl ⟨rfl, List.eq_nil_of_length_eq_zero (by simpa using hl), none, 0, rfl⟩
  · by_cases h0 : n = 0
    · subst h0
      exact .inl ⟨rfl, List.eq_nil_of_length_eq_zero (by simpa using hl), _, cap, rfl⟩
    · exact .inr ⟨by omega, g, cap, rfl⟩

def scells (l : List ByteArray) : List Value := l.map Value.string

theorem scells_snoc (l : List ByteArray) (s : ByteArray) : scells (l ++ [s]) = scells l ++ [Value.string s] := by simp [scells]

theorem scells_length (l : List ByteArray) : (scells l).length = l.length := by simp [scells]

theorem own_some {w : World} {B : Nat} {e : TypeId} {g n cap : Nat} {xs : List Value} (h : w.ownsRow B e 1 (.slice (some ⟨g, 0, none⟩) n cap) n xs) (k : Nat) (hk : k < n) :
    ∃ u, w.cell? ⟨g, k, none⟩ = some u := by
  have hl : xs.length = n := by simpa using h.1
  rw [h.cellAt k (by omega)]
  exact ⟨xs[k], by simp [show k < xs.length by omega]⟩

theorem scell_at {w : World} {B : Nat} {e : TypeId} {g n cap : Nat} {fs : List ByteArray} (h : w.ownsRow B e 1 (.slice (some ⟨g, 0, none⟩) n cap) n (scells fs)) (k : Nat) (hk : k < n) :
    w.cell? ⟨g, k, none⟩ = some (.string (fs.getD k ByteArray.empty)) := by
  have hl : fs.length = n := by have := h.1; simpa [scells] using this
  rw [h.cellAt k (by omega)]
  simp [scells, List.getD, show k < fs.length by omega]

def icells (l : List Int) : List Value := l.map (Value.int .i64)

theorem icells_length (l : List Int) : (icells l).length = l.length := by simp [icells]

theorem icells_snoc (l : List Int) (x : Int) : icells (l ++ [x]) = icells l ++ [Value.int .i64 x] := by simp [icells]

theorem icell_at {w : World} {B : Nat} {e : TypeId} {g n cap : Nat} {zs : List Int} (h : w.ownsRow B e 1 (.slice (some ⟨g, 0, none⟩) n cap) n (icells zs)) (k : Nat) (hk : k < n) :
    w.cell? ⟨g, k, none⟩ = some (.int .i64 (zs.getD k 0)) := by
  have hl : zs.length = n := by have := h.1; simpa [icells] using this
  rw [h.cellAt k (by omega)]
  simp [icells, List.getD, show k < zs.length by omega]

theorem ztake_snoc (l : List Int) (k : Nat) (h : k < l.length) : l.take (k + 1) = l.take k ++ [l.getD k 0] := by
  rw [List.take_succ_eq_append_getElem h]
  simp [List.getD, h]

theorem run_digit {P : Program} (w : World) (src dst e : TypeId) (hs : P.underlying src = some (.slice e)) (he : P.underlying e = some (.int .u8)) (hd : P.underlying dst = some .string) (c : Nat) (hc : c < 256) (x : Int) (hx : x = (c : Int)) :
    (convert src dst (.slice (some ⟨w.heap.size, 0, none⟩) 1 1)).run P (w.alloc (.cells #[.int .u8 x] e)) = .ok (.string ⟨#[UInt8.ofNat c]⟩) (w.alloc (.cells #[.int .u8 x] e)) := by
  subst hx
  have h := run_convert_bytes_back (P := P) (w.alloc (.cells #[.int .u8 (c : Int)] e)) src dst e ⟨w.heap.size, 0, none⟩ 1 [UInt8.ofNat c] hs he hd (fun j hj => by
    have : j = 0 := by simpa using hj
    subst this
    rw [Addr.add_lit, World.cell?_alloc_at _ _ _ _ rfl]
    simp
    omega)
  simpa using h

theorem bytes_cons (d : UInt8) (l : List UInt8) : ((⟨#[d]⟩ : ByteArray) ++ (⟨l.toArray⟩ : ByteArray)) = ⟨(d :: l).toArray⟩ := by
  apply ByteArray.ext
  rw [ByteArray.data_append]
  simp

theorem ret_bool {a b : Bool} (h : a = b) : Ending.returned (.bool a) = .returned (.bool b) := by rw [h]
theorem ret_int {k : IntKind} {a b : Int} (h : a = b) : Ending.returned (.int k a) = .returned (.int k b) := by rw [h]
theorem ret_str {a b : List UInt8} (h : a = b) : Ending.returned (.string ⟨a.toArray⟩) = .returned (.string ⟨b.toArray⟩) := by rw [h]

theorem take_snoc (s : ByteArray) (k : Nat) (h : k < s.size) : s.data.toList.take (k + 1) = s.data.toList.take k ++ [s[k]] := by
  rw [List.take_succ_eq_append_getElem (by simpa using h)]; rfl

theorem take_all (s : ByteArray) (k : Nat) (h : s.size ≤ k) : s.data.toList.take k = s.data.toList := List.take_of_length_le (by simpa using h)

end Go.Proofs.YtcjblhiihgdljaaGreat
