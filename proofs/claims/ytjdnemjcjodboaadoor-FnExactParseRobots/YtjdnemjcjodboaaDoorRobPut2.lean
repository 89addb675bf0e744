/- What the last part's row of names, or of lines, is behind one more. -/
import Derived.Test.YtjdnemjcjodboaaDoorRows
import Derived.Test.YtjdnemjcjodboaaDoorRobPut
import Derived.Test.YtjdnemjcjodboaaDoorBlockAt
import Derived.Maps.AppendAt
namespace Go.Proofs.YtjdnemjcjodboaaDoor
open Go.RowKit
set_option linter.unusedVariables false

theorem grow_to {w1 w3 w9 : World} {r : Option Nat} (h : w1.grownBy w3 r) (hz : w3.heap.size ≤ w9.heap.size) (ho : w9.os = w3.os ∧ w9.tape = w3.tape ∧ w9.output = w3.output) (hb : ∀ b, b < w1.heap.size → w9.heap[b]? = w3.heap[b]?) : w1.grownBy w9 r :=
  ⟨ho.1.trans h.os, ho.2.1.trans h.tape, ho.2.2.trans h.output, Nat.le_trans h.size hz, fun k hk hne => (hb k hk).trans (h.block k hk hne)⟩
/-- 'append' to a row that the call owns, as one step of a region that draws, and where the new row lies. -/
theorem wp_append_at {P : Program} (w : World) {o : Oper} {a : Act} {K : Act → World → Prop} {Q : Exit → Act → World → Prop} (s x : Operand) (t : TypeId)
    (hop : o.op = .call { callee := .builtin .append, args := #[s, x], argTypes := #[t, t] })
    (B : Nat) (e : TypeId) (z : Value) (size bytes : Nat) (ht : P.underlying t = some (.slice e)) (hinfo : (P.info? e).map (fun i => (i.zero, i.size, i.bytes)) = some (some z, size, bytes)) (hz : z.cells.size = size) (hsz : 0 < size)
    (v : Value) (n : Nat) (xs : List Value) (hs : a.eval s = v) (hown : w.ownsRow B e size v n xs)
    (ad : Addr) (m c : Nat) (news : List Value) (hx : a.eval x = .slice (some ad) m c) (hl : news.length = m * size) (hnews : ∀ j u, news[j]? = some u → w.cell? (ad.add j) = some u) (h1 : ∀ u ∈ news, u.oneCell' = true)
    (h63 : n + m ≤ maxLen) (hbytes : (n + m) * bytes ≤ 140737488355328) (hbase : B ≤ w.heap.size)
    (h : ∀ v' w', w'.ownsRow B e size v' (n + m) (xs ++ news) → w.grownBy w' v.ownBlock → (v'.ownBlock = v.ownBlock ∨ v'.ownBlock = some w.heap.size) → K (a.put o.dst v') w') : o.wp P a w K Q := by
  obtain ⟨i0, hi, hz0, hz1, hz2⟩ := info_parts hinfo
  obtain ⟨v', w', hr, h2, h3, h4, h5⟩ := run_append_own_at (P := P) w B t o.type e i0 z size bytes ht hi hz0 hz1 hz2 hz hsz v n xs hown ad m c news hl hnews h1 h63 hbytes hbase
  unfold Oper.wp execOp
  simp only [hop, resolve, invoke, builtin, Sem.run_bind, Sem.run_pure, Result.andThen_ok, List.map_toArray, List.map_cons, List.map_nil, hs, hx, hr]
  exact h v' w' h2 h3 h5
section
variable {w1 w3 WA w9 : World} {B3 gv cv m : Nat} {L : List PT} {vs : List Value} {p q : Value}
theorem put_facts (hB3 : B3 < w1.heap.size) (h1 : w3.ownsRow w1.heap.size 33 2 (.slice (some ⟨gv, 0, none⟩) (m + 1) cv) (m + 1) vs) (A3 : BAt w3 B3 [.slice (some ⟨gv, 0, none⟩) (m + 1) cv]) (G3 : w1.grownBy w3 (some B3)) (hb : Below w3.heap.size w3 WA)
    (x : Value) (hxg : ∀ b, x.ownBlock = some b → w1.heap.size ≤ b ∧ b ≠ gv) (g9 : WA.grownBy w9 x.ownBlock) (j : Nat) (x' : Value) :
    w9.ownsRow w1.heap.size 33 2 (.slice (some ⟨gv, 0, none⟩) (m + 1) cv) (m + 1) vs ∧ BAt w9 B3 [.slice (some ⟨gv, 0, none⟩) (m + 1) cv] ∧ BAt (w9.setCell ⟨gv, j, none⟩ x') B3 [.slice (some ⟨gv, 0, none⟩) (m + 1) cv] ∧ w1.grownBy (w9.setCell ⟨gv, j, none⟩ x') (some B3) := by
  have hg := h1.lt gv rfl
  have o9 := own_at (own_below h1 hb) (w' := w9) fun b e => g9.block b ((own_below h1 hb).lt b e).2 fun e2 => (hxg b e2.symm).2 (by injection e with e; exact e.symm)
  have a9 : BAt w9 B3 [.slice (some ⟨gv, 0, none⟩) (m + 1) cv] := (A3.below hb).same g9.size (g9.block B3 (A3.below hb).2.2 fun e => by have := (hxg B3 e.symm).1; omega)
  refine ⟨o9, a9, a9.other (by omega) _ _, ?_⟩
  refine grow_to G3 (Nat.le_trans hb.size (by have := g9.size; simpa using this)) ⟨?_, ?_, ?_⟩ fun b hbl => ?_
  · exact (show (w9.setCell ⟨gv, j, none⟩ x').os = w9.os from rfl).trans (g9.os.trans hb.os)
  · exact (show (w9.setCell ⟨gv, j, none⟩ x').tape = w9.tape from rfl).trans (g9.tape.trans hb.tape)
  · exact (show (w9.setCell ⟨gv, j, none⟩ x').output = w9.output from rfl).trans (g9.output.trans hb.output)
  · have hlt : b < w3.heap.size := Nat.lt_of_lt_of_le hbl G3.size
    rw [Below.heap_setCell _ _ _ _ (show b ≠ gv by omega)]
    exact (g9.block b (Nat.lt_of_lt_of_le hlt hb.size) fun e => by have := (hxg b e.symm).1; omega).trans (hb.block b hlt)
theorem rob_agent {p' : Value} {AV : ByteArray} (hB3 : B3 < w1.heap.size) (hm : L.length = m + 1) (h1 : w3.ownsRow w1.heap.size 33 2 (.slice (some ⟨gv, 0, none⟩) (m + 1) cv) (m + 1) vs) (h2 : Inner w3 w1.heap.size w3.heap.size (.slice (some ⟨gv, 0, none⟩) (m + 1) cv) vs L (m + 1))
    (hp : vs[m * 2]? = some p) (hq : vs[m * 2 + 1]? = some q) (A3 : BAt w3 B3 [.slice (some ⟨gv, 0, none⟩) (m + 1) cv]) (G3 : w1.grownBy w3 (some B3)) (hb : Below w3.heap.size w3 WA)
    (o9 : w9.ownsRow w1.heap.size 9 1 p' ((lastG L).ag.length + 1) (scells ((lastG L).ag ++ [AV]))) (g9 : WA.grownBy w9 p.ownBlock) (hat : p'.ownBlock = p.ownBlock ∨ p'.ownBlock = some WA.heap.size) :
    RobOwn (w9.setCell ⟨gv, m * 2, none⟩ p') w1.heap.size (w9.setCell ⟨gv, m * 2, none⟩ p').heap.size (.slice (some ⟨gv, 0, none⟩) (m + 1) cv) (setAg L AV) ∧ BAt (w9.setCell ⟨gv, m * 2, none⟩ p') B3 [.slice (some ⟨gv, 0, none⟩) (m + 1) cv] ∧ w1.grownBy (w9.setCell ⟨gv, m * 2, none⟩ p') (some B3) ∧
      w9.frozen? ⟨gv, m * 2, none⟩ = false ∧ w9.cell? ⟨gv, m * 2, none⟩ = some p ∧ BAt w9 B3 [.slice (some ⟨gv, 0, none⟩) (m + 1) cv] := by
  obtain ⟨P1, P2, P3⟩ := h2.2.1 _ p (by omega) hp
  obtain ⟨Q1, Q2, _⟩ := h2.2.1 _ q (by omega) hq
  have apq : apt p q := P3 _ q (by omega) hq (by omega)
  have pge := h2.ge (by omega) hp
  obtain ⟨f1, f2, f3, f4⟩ := put_facts hB3 h1 A3 G3 hb p (fun b e => ⟨pge b e, fun eg => P1 b e (by rw [eg]; rfl)⟩) g9 (m * 2) p'
  have hvl : vs.length = (m + 1) * 2 := h1.1
  refine ⟨?_, f3, f4, f1.frozenAt _, by rw [f1.cellAt (m * 2) (by omega)]; exact hp, f2⟩
  obtain ⟨p0, q0, a1, a2, a3, a4⟩ := h2.1 m (by omega)
  rw [hp] at a1; injection a1 with a1; subst a1
  rw [hq] at a2; injection a2 with a2; subst a2
  have hlast : L.getD m pt0 = lastG L := by unfold lastG; rw [hm, Nat.add_sub_cancel]
  have hat2 : (setAg L AV).getD m pt0 = ⟨(lastG L).ag ++ [AV], (lastG L).ln⟩ := by
    unfold setAg
    rw [hm, Nat.add_sub_cancel, getD_set_p (by omega), if_pos rfl]
  have oq9 := own_at (own_below a4 hb) (w' := w9) fun b e => g9.block b ((own_below a4 hb).lt b e).2 fun e2 => apq b e2.symm e
  rw [show m + 1 = L.length from hm.symm] at h1 h2 f1 ⊢
  refine RobOwn.put (w := w3) (w1 := w9) (i := m) (by omega) h1 h2 hp hq (fun b hb1 hb2 n1 n2 => ?_) (Nat.le_trans hb.size g9.size) (p' := p') (q' := q) ?_ ?_ ?_ (.inl rfl) ?_ (by unfold setAg; rw [List.length_set]) (fun j hj hne => ?_) (f1.stored (m * 2) p').1 (fun b hne => ?_) (by simp) (fun c h1 h2 => List.getElem?_set_ne (Ne.symm h1)) ?_ ?_
  · exact (g9.block b (Nat.lt_of_lt_of_le hb2 hb.size) n1).trans (hb.block b hb2)
  · rw [hat2]; show World.ownsRow _ _ _ _ _ ((lastG L).ag ++ [AV]).length _; rw [List.length_append]; exact o9
  · rw [hat2]; rw [hlast] at oq9; exact oq9
  · rcases hat with h | h
    · exact .inl h
    · exact .inr fun b e => by rw [h] at e; injection e with e; have := hb.size; omega
  · intro b e1 e2
    rcases hat with h | h
    · rw [h] at e1; exact apq b e1 e2
    · rw [h] at e1; injection e1 with e1; have := Q2 b e2; have := hb.size; omega
  · unfold setAg
    rw [hm, Nat.add_sub_cancel, getD_set_p (by omega), if_neg hne]
  · exact Below.heap_setCell _ _ _ _ hne
  · exact List.getElem?_set_self (by omega)
  · rw [List.getElem?_set_ne (by omega)]; exact hq
theorem rob_line {q' : Value} {X : LV} (hB3 : B3 < w1.heap.size) (hm : L.length = m + 1) (h1 : w3.ownsRow w1.heap.size 33 2 (.slice (some ⟨gv, 0, none⟩) (m + 1) cv) (m + 1) vs) (h2 : Inner w3 w1.heap.size w3.heap.size (.slice (some ⟨gv, 0, none⟩) (m + 1) cv) vs L (m + 1))
    (hp : vs[m * 2]? = some p) (hq : vs[m * 2 + 1]? = some q) (A3 : BAt w3 B3 [.slice (some ⟨gv, 0, none⟩) (m + 1) cv]) (G3 : w1.grownBy w3 (some B3)) (hb : Below w3.heap.size w3 WA)
    (o9 : w9.ownsRow w1.heap.size 35 2 q' ((lastG L).ln.length + 1) (lcells ((lastG L).ln ++ [X]))) (g9 : WA.grownBy w9 q.ownBlock) (hat : q'.ownBlock = q.ownBlock ∨ q'.ownBlock = some WA.heap.size) :
    RobOwn (w9.setCell ⟨gv, m * 2 + 1, none⟩ q') w1.heap.size (w9.setCell ⟨gv, m * 2 + 1, none⟩ q').heap.size (.slice (some ⟨gv, 0, none⟩) (m + 1) cv) (setLn L X) ∧ BAt (w9.setCell ⟨gv, m * 2 + 1, none⟩ q') B3 [.slice (some ⟨gv, 0, none⟩) (m + 1) cv] ∧ w1.grownBy (w9.setCell ⟨gv, m * 2 + 1, none⟩ q') (some B3) ∧
      w9.frozen? ⟨gv, m * 2 + 1, none⟩ = false ∧ w9.cell? ⟨gv, m * 2 + 1, none⟩ = some q ∧ BAt w9 B3 [.slice (some ⟨gv, 0, none⟩) (m + 1) cv] := by
  obtain ⟨P1, P2, P3⟩ := h2.2.1 _ p (by omega) hp
  obtain ⟨Q1, Q2, _⟩ := h2.2.1 _ q (by omega) hq
  have apq : apt p q := P3 _ q (by omega) hq (by omega)
  have qge := h2.ge (by omega) hq
  obtain ⟨f1, f2, f3, f4⟩ := put_facts hB3 h1 A3 G3 hb q (fun b e => ⟨qge b e, fun eg => Q1 b e (by rw [eg]; rfl)⟩) g9 (m * 2 + 1) q'
  have hvl : vs.length = (m + 1) * 2 := h1.1
  refine ⟨?_, f3, f4, f1.frozenAt _, by rw [f1.cellAt (m * 2 + 1) (by omega)]; exact hq, f2⟩
  obtain ⟨p0, q0, a1, a2, a3, a4⟩ := h2.1 m (by omega)
  rw [hp] at a1; injection a1 with a1; subst a1
  rw [hq] at a2; injection a2 with a2; subst a2
  have hlast : L.getD m pt0 = lastG L := by unfold lastG; rw [hm, Nat.add_sub_cancel]
  have hat2 : (setLn L X).getD m pt0 = ⟨(lastG L).ag, (lastG L).ln ++ [X]⟩ := by
    unfold setLn
    rw [hm, Nat.add_sub_cancel, getD_set_p (by omega), if_pos rfl]
  have op9 := own_at (own_below a3 hb) (w' := w9) fun b e => g9.block b ((own_below a3 hb).lt b e).2 fun e2 => apq b e e2.symm
  rw [show m + 1 = L.length from hm.symm] at h1 h2 f1 ⊢
  refine RobOwn.put (w := w3) (w1 := w9) (i := m) (by omega) h1 h2 hp hq (fun b hb1 hb2 n1 n2 => ?_) (Nat.le_trans hb.size g9.size) (p' := p) (q' := q') ?_ ?_ (.inl rfl) ?_ ?_ (by unfold setLn; rw [List.length_set]) (fun j hj hne => ?_) (f1.stored (m * 2 + 1) q').1 (fun b hne => ?_) (by simp) (fun c h1 h2 => List.getElem?_set_ne (Ne.symm h2)) ?_ ?_
  · exact (g9.block b (Nat.lt_of_lt_of_le hb2 hb.size) n2).trans (hb.block b hb2)
  · rw [hat2]; rw [hlast] at op9; exact op9
  · rw [hat2]; show World.ownsRow _ _ _ _ _ ((lastG L).ln ++ [X]).length _; rw [List.length_append]; exact o9
  · rcases hat with h | h
    · exact .inl h
    · exact .inr fun b e => by rw [h] at e; injection e with e; have := hb.size; omega
  · intro b e1 e2
    rcases hat with h | h
    · rw [h] at e2; exact apq b e1 e2
    · rw [h] at e2; injection e2 with e2; have := P2 b e1; have := hb.size; omega
  · unfold setLn
    rw [hm, Nat.add_sub_cancel, getD_set_p (by omega), if_neg hne]
  · exact Below.heap_setCell _ _ _ _ hne
  · rw [List.getElem?_set_ne (by omega)]; exact hp
  · exact List.getElem?_set_self (by omega)
/-- The last of some parts. -/
theorem RobOwn.last {w : World} {base top : Nat} {v : Value} {l : List PT} {m : Nat} (h : RobOwn w base top v l) (hm : l.length = m + 1) : ∃ g cap vs p q, v = .slice (some ⟨g, 0, none⟩) (m + 1) cap ∧ w.ownsRow base 33 2 (.slice (some ⟨g, 0, none⟩) (m + 1) cap) (m + 1) vs ∧ Inner w base top (.slice (some ⟨g, 0, none⟩) (m + 1) cap) vs l (m + 1) ∧
    vs[m * 2]? = some p ∧ vs[m * 2 + 1]? = some q ∧ w.cell? ⟨g, m * 2, none⟩ = some p ∧ w.cell? ⟨g, m * 2 + 1, none⟩ = some q ∧ w.ownsRow base 9 1 p (lastG l).ag.length (scells (lastG l).ag) ∧ w.ownsRow base 35 2 q (lastG l).ln.length (lcells (lastG l).ln) := by
  obtain ⟨vs, h1, h2⟩ := h
  rw [hm] at h1 h2
  rcases h1.2 with ⟨_, h3⟩ | ⟨g, cap, cur, rfl, _⟩
  · omega
  · obtain ⟨p, q, a1, a2, a3, a4⟩ := h2.1 m (by omega)
    have hlast : l.getD m pt0 = lastG l := by unfold lastG; rw [hm, Nat.add_sub_cancel]
    rw [hlast] at a3 a4
    exact ⟨g, cap, vs, p, q, rfl, h1, h2, a1, a2, by rw [h1.cellAt (m * 2) (by omega)]; exact a1, by rw [h1.cellAt (m * 2 + 1) (by omega)]; exact a2, a3, a4⟩
end
end Go.Proofs.YtjdnemjcjodboaaDoor
