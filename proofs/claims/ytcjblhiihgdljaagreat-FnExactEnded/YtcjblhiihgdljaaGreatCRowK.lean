/- A row of cells, wherever it lies, and append of one behind a row that a call owns. -/
import Derived.Test.YtcjblhiihgdljaaGreatRows
import Derived.Deep.DeepCutAuto
import Derived.Handy
import Derived.Laws.OwnMore
import Derived.Maps.AppendAt
namespace Go.Proofs.YtcjblhiihgdljaaGreat
open Go.RowKit
set_option linter.unusedVariables false

/-- A row of n elements of z cells each, wherever it lies. -/
def CRow (w : World) (q : Value) (n z : Nat) (vs : List Value) : Prop := (vs.length = n * z ∧ ∀ u ∈ vs, u.oneCell' = true) ∧ ((n = 0 ∧ ∃ ao cap, q = .slice ao 0 cap) ∨ ∃ g off c, q = .slice (some ⟨g, off, none⟩) n c ∧ g < w.heap.size ∧ ∀ j u, vs[j]? = some u → w.cell? ⟨g, off + j, none⟩ = some u)
theorem CRow.below {w w' : World} {q : Value} {n z : Nat} {vs : List Value} (h : CRow w q n z vs) (hb : Below w.heap.size w w') : CRow w' q n z vs := by
  refine ⟨h.1, ?_⟩
  rcases h.2 with h | ⟨g, off, c, h1, h2, h3⟩
  · exact .inl h
  · exact .inr ⟨g, off, c, h1, Nat.lt_of_lt_of_le h2 hb.size, fun j u hj => (hb.cell (p := ⟨g, off + j, none⟩) h2).trans (h3 j u hj)⟩
theorem CRow.slice {w : World} {q : Value} {n z : Nat} {vs : List Value} (h : CRow w q n z vs) : ∃ ao cap, q = .slice ao n cap := by
  rcases h.2 with ⟨rfl, ao, cap, rfl⟩ | ⟨g, off, c, h1, _⟩
  · exact ⟨_, _, rfl⟩
  · exact ⟨_, _, h1⟩
theorem run_append_noneC {P : Program} (w : World) (base : Nat) (t ty e : TypeId) (i : TypeInfo) (size : Nat) (ht : P.underlying t = some (.slice e)) (hi : P.info? e = some i)
    (v : Value) (n c : Nat) (xs : List Value) (hown : w.ownsRow base e size v n xs) :
    (Builtin.append_ #[t, t] ty #[v, .slice none 0 c]).run P w = .ok v w := by
  rcases hown.2 with ⟨rfl, rfl⟩ | ⟨g, cap, cur, rfl, _, _, hnc, _⟩
  · simp [Builtin.append_, run_underlying ht, sizeOf, typeInfo, hi, Builtin.lenOf, Builtin.firstCells]
  · simp [Builtin.append_, run_underlying ht, sizeOf, typeInfo, hi, Builtin.lenOf, Builtin.firstCells, hnc, storeCells]
/-- 'append(out, more...)': a row, wherever it lies, behind a row that the call owns. -/
theorem wpList_append_crow {P : Program} {w : World} {ops : Array Oper} {rest : List Oper} {o : Oper} {a : Act} {Q : Exit → Act → World → Prop}
    (hgd : o.guard = none) (s x : Operand) (t : TypeId) (hop : o.op = .call { callee := .builtin .append, args := #[s, x], argTypes := #[t, t] })
    (B : Nat) (e : TypeId) (z : Value) (size bytes : Nat) (ht : P.underlying t = some (.slice e)) (hinfo : (P.info? e).map (fun i => (i.zero, i.size, i.bytes)) = some (some z, size, bytes)) (hz : z.cells.size = size) (hsz : 0 < size)
    (v : Value) (n : Nat) (xs : List Value) (hs : a.eval s = v) (hown : w.ownsRow B e size v n xs) (q : Value) (m : Nat) (vs : List Value) (hx : a.eval x = q) (hq : CRow w q m size vs)
    (hroom : (n + m) * bytes ≤ 140737488355328) (hroom' : n + m ≤ maxLen) (hB : B ≤ w.heap.size)
    (hK : ∀ v' w1, w1.ownsRow B e size v' (n + m) (xs ++ vs) → w.grownBy w1 v.ownBlock → (v'.ownBlock = v.ownBlock ∨ v'.ownBlock = some w.heap.size) → wpList P ops Q rest (a.put o.dst v') w1) :
    wpList P ops Q (o :: rest) a w := by
  obtain ⟨i0, hi, hz0, hz1, hz2⟩ := info_parts hinfo
  have main : ∀ ad c, q = .slice (some ad) m c → (∀ j u, vs[j]? = some u → w.cell? (ad.add j) = some u) → wpList P ops Q (o :: rest) a w := fun ad c hqe hc => by
    refine wpList_append_own_at w hgd s x t hop B e i0 z size bytes ht hi hz0 hz1 hz2 hz hsz v n xs hs hown ad m c vs (hx.trans hqe) hq.1.1 hc hq.1.2 hroom' hroom hB ?_
    intro v' w1 g1 g2 _ g4
    exact hK v' w1 g1 g2 g4
  rcases hq.2 with ⟨h0, ao, cap, hqe⟩ | ⟨g, off, c, hqe, hg, hc⟩
  · subst h0
    have hv0 : vs = [] := List.eq_nil_of_length_eq_zero (by rw [hq.1.1, Nat.zero_mul])
    subst hv0
    cases ao with
    | none =>
      refine wpList_plain hgd fun K hKK => ?_
      have hrun := run_append_noneC (P := P) w B t o.type e i0 size ht hi v n cap xs hown
      unfold Oper.wp
      have hx2 : a.eval x = .slice none 0 cap := hx.trans hqe
      simp [execOp, hop, resolve, invoke, builtin, hs, hx2, hrun, Result.andThen]
      exact hKK _ _ (hK v w (by rw [List.append_nil]; exact hown) ⟨rfl, rfl, rfl, Nat.le_refl _, fun _ _ _ => rfl⟩ (.inl rfl))
    | some ad => exact main ad cap hqe fun j u hj => by simp at hj
  · exact main _ c hqe fun j u hj => by rw [Addr.add_lit]; exact hc j u hj
theorem grown_row {w : World} {base cap z : Nat} {e : TypeId} {cs : Array Value} (hb : base ≤ w.heap.size) (hc : cap ≤ maxLen) (hs : cs.size = cap * z) : (w.alloc (.cells cs e)).ownsRow base e z (.slice (some ⟨w.heap.size, 0, none⟩) 0 cap) 0 [] :=
  ⟨by simp, .inr ⟨w.heap.size, cap, cs, rfl, hb, heap_alloc_new w _, Nat.zero_le _, hc, hs, by simp⟩⟩
theorem wp_append_crow {P : Program} {w : World} {o : Oper} {a : Act} {K : Act → World → Prop} {Q : Exit → Act → World → Prop}
    (s x : Operand) (t : TypeId) (hop : o.op = .call { callee := .builtin .append, args := #[s, x], argTypes := #[t, t] })
    (B : Nat) (e : TypeId) (z : Value) (size bytes : Nat) (ht : P.underlying t = some (.slice e)) (hinfo : (P.info? e).map (fun i => (i.zero, i.size, i.bytes)) = some (some z, size, bytes)) (hz : z.cells.size = size) (hsz : 0 < size)
    (v : Value) (n : Nat) (xs : List Value) (hs : a.eval s = v) (hown : w.ownsRow B e size v n xs) (q : Value) (m : Nat) (vs : List Value) (hx : a.eval x = q) (hq : CRow w q m size vs)
    (hroom : (n + m) * bytes ≤ 140737488355328) (hroom' : n + m ≤ maxLen) (hB : B ≤ w.heap.size)
    (hK : ∀ v' w1, w1.ownsRow B e size v' (n + m) (xs ++ vs) → w.grownBy w1 v.ownBlock → (v'.ownBlock = v.ownBlock ∨ v'.ownBlock = some w.heap.size) → K (a.put o.dst v') w1) :
    Oper.wp P o a w K Q := by
  obtain ⟨i0, hi, hz0, hz1, hz2⟩ := info_parts hinfo
  have main : ∀ ad c, q = .slice (some ad) m c → (∀ j u, vs[j]? = some u → w.cell? (ad.add j) = some u) → Oper.wp P o a w K Q := fun ad c hqe hc => by
    obtain ⟨v', w', hr, h2, h3, h4, h5⟩ := run_append_own_at (P := P) w B t o.type e i0 z size bytes ht hi hz0 hz1 hz2 hz hsz v n xs hown ad m c vs hq.1.1 hc hq.1.2 hroom' hroom hB
    unfold Oper.wp execOp
    simp only [hop, resolve, invoke, builtin, Sem.run_bind, Sem.run_pure, Result.andThen_ok, List.map_toArray, List.map_cons, List.map_nil, hs, hx.trans hqe, hr]
    exact hK v' w' h2 h3 h5
  rcases hq.2 with ⟨h0, ao, cap, hqe⟩ | ⟨g, off, c, hqe, hg, hc⟩
  · subst h0
    have hv0 : vs = [] := List.eq_nil_of_length_eq_zero (by rw [hq.1.1, Nat.zero_mul])
    subst hv0
    cases ao with
    | none =>
      have hrun := run_append_noneC (P := P) w B t o.type e i0 size ht hi v n cap xs hown
      have hx2 : a.eval x = .slice none 0 cap := hx.trans hqe
      unfold Oper.wp
      simp [execOp, hop, resolve, invoke, builtin, hs, hx2, hrun, Result.andThen]
      exact hK v w (by rw [List.append_nil]; exact hown) ⟨rfl, rfl, rfl, Nat.le_refl _, fun _ _ _ => rfl⟩ (.inl rfl)
    | some ad => exact main ad cap hqe fun j u hj => by simp at hj
  · exact main _ c hqe fun j u hj => by rw [Addr.add_lit]; exact hc j u hj
end Go.Proofs.YtcjblhiihgdljaaGreat
