/- RobPut, BlockAt, RobPut2. -/
import Derived.Test.YtjdnemjcjodboaaDoorRq04
import Derived.Maps.AppendAt
namespace Go.Proofs.YtjdnemjcjodboaaDoor
open Go.RowKit
set_option linter.unusedVariables false
theorem pget_lt {l : List PT} {r : PT} {i : Nat} (h : i < l.length) : (l ++ [r]).getD i pt0 = l.getD i pt0 := by
 rw [List.getD_eq_getElem?_getD, List.getD_eq_getElem?_getD, List.getElem?_append_left h]
theorem pget_eq {l : List PT} {r : PT} : (l ++ [r]).getD l.length pt0 = r := by
 rw [List.getD_eq_getElem?_getD, List.getElem?_append_right (Nat.le_refl _)]; simp
theorem RobOwn.snoc {w W w1 : World} {base : Nat} {v v' p q : Value} {l : List PT} {x : PT} {vs : List Value} (h1 : w.ownsRow base 33 2 v l.length vs) (h2 : Inner w base w.heap.size v vs l l.length)
  (hb : ∀ b, b < w.heap.size → W.heap[b]? = w.heap[b]?) (hz : w.heap.size ≤ W.heap.size) (hbase : base ≤ w.heap.size) (hp : W.ownsRow w.heap.size 9 1 p x.ag.length (scells x.ag)) (hq : W.ownsRow w.heap.size 35 2 q x.ln.length (lcells x.ln)) (hpq : apt p q)
  (ho : w1.ownsRow base 33 2 v' (l.length + 1) (vs ++ [p, q])) (hg : W.grownBy w1 v.ownBlock) (hat : v'.ownBlock = v.ownBlock ∨ ∀ b, v'.ownBlock = some b → W.heap.size ≤ b) : RobOwn w1 base w1.heap.size v' (l ++ [x]) := by
 have hvl : vs.length = l.length * 2 := h1.1
 have vlt : ∀ b, v.ownBlock = some b → b < w.heap.size := fun b e => (h1.lt b e).2
 have far : ∀ y : Value, (∀ b, y.ownBlock = some b → w.heap.size ≤ b ∧ b < W.heap.size) → apt y v' := fun y hy b e1 e2 => by
  have := hy b e1
  rcases hat with e | e
  ·rw [e] at e2; have := vlt b e2; omega
  have := e b e2; omega
 have keep : ∀ {e : TypeId} {size n : Nat} {y : Value} {ys : List Value}, W.ownsRow w.heap.size e size y n ys → w1.ownsRow base e size y n ys := fun h => by
  have h' := own_at h (w' := w1) fun b e => hg.block b (h.lt b e).2 fun e2 => by have := vlt b e2.symm; have := (h.lt b e).1; omega
  exact ⟨h'.1, h'.2.imp id fun ⟨g, cap, cur, k1, k2, k3⟩ => ⟨g, cap, cur, k1, Nat.le_trans hbase k2, k3⟩⟩
 refine ⟨vs ++ [p, q], by rw [List.length_append]; exact ho, ?_⟩
 rw [List.length_append]
 refine h2.more (p := p) (q := q) (fun b hb1 hb2 hb3 => ?_) (fun a ha => List.getElem?_append_left (by omega)) (fun i hi => pget_lt hi) ?_ (Nat.le_trans hz hg.size) ?_ ?_ ?_ ?_ (fun b e => ?_) (fun b e => ?_) hpq (far p fun b e => hp.lt b e) (far q fun b e => hq.lt b e)
 ·exact (hg.block b (by omega) hb3).trans (hb b hb2)
 ·rcases hat with e | e
  ·exact .inl e
  exact .inr fun b hb => ⟨Nat.le_trans hz (e b hb), (ho.lt b hb).2⟩
 ·rw [List.getElem?_append_right (by omega), hvl, Nat.sub_self]; rfl
 ·rw [List.getElem?_append_right (by omega), hvl, show l.length * 2 + 1 - l.length * 2 = 1 by omega]; rfl
 ·rw [pget_eq]; exact keep hp
 ·rw [pget_eq]; exact keep hq
 ·exact ⟨(hp.lt b e).1, Nat.lt_of_lt_of_le (hp.lt b e).2 hg.size⟩
 exact ⟨(hq.lt b e).1, Nat.lt_of_lt_of_le (hq.lt b e).2 hg.size⟩
theorem RobOwn.put {w w1 w3 : World} {base g cap i : Nat} {l l' : List PT} {vs vs' : List Value} {p q p' q' : Value} (hi : i < l.length) (h1 : w.ownsRow base 33 2 (.slice (some ⟨g, 0, none⟩) l.length cap) l.length vs) (h2 : Inner w base w.heap.size (.slice (some ⟨g, 0, none⟩) l.length cap) vs l l.length)
  (hp : vs[i * 2]? = some p) (hq : vs[i * 2 + 1]? = some q) (hs : ∀ b, base ≤ b → b < w.heap.size → some b ≠ p.ownBlock → some b ≠ q.ownBlock → w1.heap[b]? = w.heap[b]?) (hz : w.heap.size ≤ w1.heap.size)
  (hpo : w1.ownsRow base 9 1 p' (l'.getD i pt0).ag.length (scells (l'.getD i pt0).ag)) (hqo : w1.ownsRow base 35 2 q' (l'.getD i pt0).ln.length (lcells (l'.getD i pt0).ln))
  (hpb : p'.ownBlock = p.ownBlock ∨ ∀ b, p'.ownBlock = some b → w.heap.size ≤ b) (hqb : q'.ownBlock = q.ownBlock ∨ ∀ b, q'.ownBlock = some b → w.heap.size ≤ b) (hpq : apt p' q')
  (hlen : l'.length = l.length) (hl : ∀ j, j < l.length → j ≠ i → l'.getD j pt0 = l.getD j pt0)
  (ho : w3.ownsRow base 33 2 (.slice (some ⟨g, 0, none⟩) l.length cap) l.length vs') (h3 : ∀ b, b ≠ g → w3.heap[b]? = w1.heap[b]?) (hz3 : w1.heap.size ≤ w3.heap.size)
  (hvs : ∀ c, c ≠ i * 2 → c ≠ i * 2 + 1 → vs'[c]? = vs[c]?) (hp' : vs'[i * 2]? = some p') (hq' : vs'[i * 2 + 1]? = some q') : RobOwn w3 base w3.heap.size (.slice (some ⟨g, 0, none⟩) l.length cap) l' := by
 have hg : g < w.heap.size := (h1.lt g rfl).2
 obtain ⟨P1, P2, _⟩ := h2.2.1 _ p (by omega) hp
 obtain ⟨Q1, Q2, _⟩ := h2.2.1 _ q (by omega) hq
 have ne : ∀ {x x' : Value}, apt x (.slice (some ⟨g, 0, none⟩) l.length cap) → (x'.ownBlock = x.ownBlock ∨ ∀ b, x'.ownBlock = some b → w.heap.size ≤ b) → ∀ b, x'.ownBlock = some b → b ≠ g := fun ha hx b e eg => by
  rcases hx with h | h
  ·exact ha b (by rw [← h]; exact e) (by rw [eg]; rfl)
  have := h b e; omega
 refine ⟨vs', by rw [hlen]; exact ho, ?_⟩
 rw [hlen]
 refine h2.at (p' := p') (q' := q') hi hp hq (fun b hb1 hb2 n1 n2 n3 => ?_) hvs hp' hq' (own_at hpo fun b e => h3 b (ne P1 hpb b e)) (own_at hqo fun b e => h3 b (ne Q1 hqb b e)) ?_ ?_ hpq hl (Nat.le_trans hz hz3)
 ·exact (h3 b fun e => n1 (by rw [e]; rfl)).trans (hs b hb1 hb2 n2 n3)
 ·rcases hpb with e | e
  ·exact .inl e
  exact .inr fun b hb => ⟨e b hb, Nat.lt_of_lt_of_le (hpo.lt b hb).2 hz3⟩
 rcases hqb with e | e
 ·exact .inl e
 exact .inr fun b hb => ⟨e b hb, Nat.lt_of_lt_of_le (hqo.lt b hb).2 hz3⟩
def newP (ps : List PT) : Bool := match ps.getLast? with
 | none => true
 | some p => !p.ln.isEmpty
def openP (ps : List PT) : List PT := if newP ps = true then ps ++ [pt0] else ps
def lastG (ps : List PT) : PT := ps.getD (ps.length - 1) pt0
def setAg (ps : List PT) (a : ByteArray) : List PT := ps.set (ps.length - 1) ⟨(lastG ps).ag ++ [a], (lastG ps).ln⟩
def setLn (ps : List PT) (x : LV) : List PT := ps.set (ps.length - 1) ⟨(lastG ps).ag, (lastG ps).ln ++ [x]⟩
theorem last_getD {ps : List PT} {p : PT} (h : ps.getLast? = some p) : lastG ps = p ∧ 0 < ps.length := by
 have hps := ps_last h
 have hl : 0 < ps.length := by rw [hps]; simp
 refine ⟨?_, hl⟩
 unfold lastG
 rw [List.getLast?_eq_getElem?] at h
 rw [List.getD_eq_getElem?_getD, h]
 rfl
theorem set_last {ps : List PT} (h : 0 < ps.length) (x : PT) : ps.set (ps.length - 1) x = ps.dropLast ++ [x] := by
 cases hp : ps.getLast? with
 | none => rw [List.getLast?_eq_none_iff.1 hp] at h; simp at h
 | some p =>
  have e := ps_last hp
  have hd : ps.dropLast.length = ps.length - 1 := by simp
  conv => lhs; rw [e]
  rw [List.length_append, List.length_singleton, Nat.add_sub_cancel, List.set_append_right _ _ (Nat.le_refl _), Nat.sub_self]
  rfl
theorem addAg_eq (ps : List PT) (a : List UInt8) : addAg ps a = setAg (openP ps) ⟨a.toArray⟩ := by
 cases hp : ps.getLast? with
 | none =>
  have := List.getLast?_eq_none_iff.1 hp
  subst this
  rfl
 | some p =>
  obtain ⟨h1, h2⟩ := last_getD hp
  have hn : newP ps = !p.ln.isEmpty := by unfold newP; rw [hp]
  cases hl : p.ln.isEmpty with
  | true =>
   have ho : openP ps = ps := by unfold openP; rw [hn, hl]; rfl
   have he : addAg ps a = ps.dropLast ++ [⟨p.ag ++ [⟨a.toArray⟩], p.ln⟩] := by unfold addAg; rw [hp]; show (if p.ln.isEmpty = true then _ else _) = _; rw [if_pos hl]
   rw [he, ho]
   unfold setAg
   rw [set_last h2, h1]
  | false =>
   have ho : openP ps = ps ++ [pt0] := by unfold openP; rw [hn, hl]; rfl
   have he : addAg ps a = ps ++ [⟨[⟨a.toArray⟩], []⟩] := by unfold addAg; rw [hp]; show (if p.ln.isEmpty = true then _ else _) = _; rw [if_neg (by rw [hl]; decide)]
   rw [he, ho]
   unfold setAg
   have h3 : lastG (ps ++ [pt0]) = pt0 := (last_getD (by simp)).1
   rw [set_last (by simp), h3]
   simp [pt0]
theorem addLn_eq (ps : List PT) (b : Bool) (v : List UInt8) : addLn ps b v = if ps.length = 0 ∨ v.isEmpty = true then ps else setLn ps ⟨b, ⟨(patL v).toArray⟩⟩ := by
 unfold addLn
 cases hp : ps.getLast? with
 | none =>
  have := List.getLast?_eq_none_iff.1 hp
  subst this
  simp
 | some p =>
  obtain ⟨h1, h2⟩ := last_getD hp
  by_cases hv : v.isEmpty = true
  ·simp [hv]
  have : ¬ (ps.length = 0 ∨ v.isEmpty = true) := by rintro (h | h); omega; exact hv h
  rw [if_neg this]
  simp only [hv]
  unfold setLn
  rw [set_last h2, h1]
  rfl
def Few (k : Nat) (ps : List PT) : Prop := ps.length ≤ k ∧ ∀ i, i < ps.length → (ps.getD i pt0).ag.length ≤ k ∧ (ps.getD i pt0).ln.length ≤ k
theorem Few.mono {k m : Nat} {ps : List PT} (h : Few k ps) (hk : k ≤ m) : Few m ps := ⟨Nat.le_trans h.1 hk, fun i hi => ⟨Nat.le_trans (h.2 i hi).1 hk, Nat.le_trans (h.2 i hi).2 hk⟩⟩
theorem Few.open {k : Nat} {ps : List PT} (h : Few k ps) : Few (k + 1) (openP ps) := by
 unfold openP
 split
 ·refine ⟨by rw [List.length_append]; have := h.1; simp; omega, fun i hi => ?_⟩
  by_cases hl : i < ps.length
  ·rw [List.getD_eq_getElem?_getD, List.getElem?_append_left hl, ← List.getD_eq_getElem?_getD]
   have := h.2 i hl
   omega
  rw [List.length_append] at hi
  simp at hi
  rw [List.getD_eq_getElem?_getD, List.getElem?_append_right (by omega), show i - ps.length = 0 by omega]
  simp [pt0]
 exact h.mono (by omega)
theorem getD_set_p {ps : List PT} {j i : Nat} {x : PT} (hj : j < ps.length) : (ps.set j x).getD i pt0 = if i = j then x else ps.getD i pt0 := by
 rw [List.getD_eq_getElem?_getD, List.getElem?_set]
 by_cases h : j = i
 ·subst h; simp [hj]
 rw [if_neg h, if_neg (Ne.symm h), List.getD_eq_getElem?_getD]
theorem lastG_few {k : Nat} {ps : List PT} (h : Few k ps) : (lastG ps).ag.length ≤ k ∧ (lastG ps).ln.length ≤ k := by
 by_cases h0 : ps.length = 0
 ·have : ps = [] := List.eq_nil_of_length_eq_zero h0
  subst this
  exact ⟨Nat.zero_le _, Nat.zero_le _⟩
 exact h.2 _ (by omega)
theorem newP_few {k : Nat} {ps : List PT} (h : Few k ps) (hn : newP ps = true) : (lastG (openP ps)).ag.length ≤ 0 := by
 unfold openP
 rw [if_pos hn, (last_getD (by simp) : lastG (ps ++ [pt0]) = pt0 ∧ _).1]
 simp [pt0]
theorem Few.setAg {k : Nat} {ps : List PT} {a : ByteArray} (h : Few k ps) (h0 : 0 < ps.length) (ha : (lastG ps).ag.length + 1 ≤ k) : Few k (setAg ps a) := by
 refine ⟨by unfold Go.Proofs.YtjdnemjcjodboaaDoor.setAg; rw [List.length_set]; exact h.1, fun i hi => ?_⟩
 unfold Go.Proofs.YtjdnemjcjodboaaDoor.setAg at hi ⊢
 rw [List.length_set] at hi
 rw [getD_set_p (by omega)]
 split
 ·exact ⟨by rw [List.length_append]; exact ha, (lastG_few h).2⟩
 exact h.2 i hi
theorem Few.setLn {k : Nat} {ps : List PT} {x : LV} (h : Few k ps) (h0 : 0 < ps.length) (ha : (lastG ps).ln.length + 1 ≤ k) : Few k (setLn ps x) := by
 refine ⟨by unfold Go.Proofs.YtjdnemjcjodboaaDoor.setLn; rw [List.length_set]; exact h.1, fun i hi => ?_⟩
 unfold Go.Proofs.YtjdnemjcjodboaaDoor.setLn at hi ⊢
 rw [List.length_set] at hi
 rw [getD_set_p (by omega)]
 split
 ·exact ⟨(lastG_few h).1, by rw [List.length_append]; exact ha⟩
 exact h.2 i hi
theorem openP_pos (ps : List PT) : 0 < (openP ps).length := by
 unfold openP
 by_cases h : newP ps = true
 ·rw [if_pos h]; simp
 rw [if_neg h]
 cases hp : ps.getLast? with
 | none => exact absurd (by unfold newP; rw [hp]) h
 | some p => exact (last_getD hp).2
theorem openP_last {k : Nat} {ps : List PT} (h : Few k ps) : (lastG (openP ps)).ag.length ≤ k := by
 by_cases hn : newP ps = true
 ·have := newP_few h hn; omega
 unfold openP; rw [if_neg hn]; exact (lastG_few h).1
def stepV (ps : List PT) (x : ByteArray) : List PT := stepP ps x.data.toList
theorem Few.step {k : Nat} {ps : List PT} (h : Few k ps) (x : ByteArray) : Few (k + 1) (stepV ps x) := by
 have h1 := h.mono (Nat.le_succ k)
 have ln : ∀ b v, Few (k + 1) (addLn ps b v) := fun b v => by
  rw [addLn_eq]
  by_cases hc : ps.length = 0 ∨ v.isEmpty = true
  ·rw [if_pos hc]; exact h1
  rw [if_neg hc]
  exact h1.setLn (by have : ¬ ps.length = 0 := fun e => hc (.inl e); omega) (by have := (lastG_few h).2; omega)
 unfold stepV stepP
 split
 ·exact h1
 split
 ·rw [addAg_eq]
  exact h.open.setAg (openP_pos ps) (by have := openP_last h; omega)
 split
 ·exact ln _ _
 split
 ·exact ln _ _
 exact h1
end Go.Proofs.YtjdnemjcjodboaaDoor
namespace Go.Proofs.YtjdnemjcjodboaaDoor
open Go.RowKit
def BAt (W : World) (B : Nat) (vs : List Value) : Prop := (∀ j v, vs[j]? = some v → W.cell? ⟨B, j, none⟩ = some v) ∧ (∀ j, W.frozen? ⟨B, j, none⟩ = false) ∧ B < W.heap.size
theorem BAt.new (w : World) (vs : Array Value) (t : TypeId) : BAt (w.alloc (.cells vs t)) w.heap.size vs.toList := by
 refine ⟨fun j v h => ?_, fun j => frozen_of_row _ _ j _ t (heap_alloc_new w _), by simp⟩
 rw [World.cell?_alloc_at _ _ _ _ rfl]
 simpa using h
theorem BAt.same {W W' : World} {B : Nat} {vs : List Value} (h : BAt W B vs) (hz : W.heap.size ≤ W'.heap.size) (hs : W'.heap[B]? = W.heap[B]?) : BAt W' B vs :=
 ⟨fun j v hv => (World.cell?_of_block (w := W) (a := ⟨B, j, none⟩) hs).trans (h.1 j v hv), fun j => (World.frozen?_of_block (w := W) (a := ⟨B, j, none⟩) hs).trans (h.2.1 j), Nat.lt_of_lt_of_le h.2.2 hz⟩
theorem BAt.below {W W' : World} {B : Nat} {vs : List Value} (h : BAt W B vs) (hb : Below W.heap.size W W') : BAt W' B vs := h.same hb.size (hb.block B h.2.2)
theorem BAt.alloc {W : World} {B : Nat} {vs : List Value} (h : BAt W B vs) (o : Obj) : BAt (W.alloc o) B vs := h.below ((Below.refl _ _).alloc (Nat.le_refl _) o)
theorem BAt.grown {W W' : World} {B C : Nat} {vs : List Value} (h : BAt W B vs) (hg : W.grownBy W' (some C)) (hne : B ≠ C) : BAt W' B vs := h.same hg.size (hg.block B h.2.2 (fun e => hne (by injection e)))
theorem frozen_put (W : World) (B C j i : Nat) (v : Value) (h : W.frozen? ⟨B, i, none⟩ = false) : (W.setCell ⟨C, j, none⟩ v).frozen? ⟨B, i, none⟩ = false := by
 simpa [go_sem] using h
theorem BAt.set {W : World} {B : Nat} {vs : List Value} (h : BAt W B vs) (j : Nat) (hj : j < vs.length) (x : Value) : BAt (W.setCell ⟨B, j, none⟩ x) B (vs.set j x) := by
 refine ⟨fun i v hv => ?_, fun i => frozen_put W B B j i x (h.2.1 i), by have := h.2.2; simpa using this⟩
 by_cases e : j = i
 ·subst e
  rw [World.cell?_setCell_same' _ _ _ (by rw [h.1 j _ (List.getElem?_eq_getElem hj)]; rfl)]
  rw [List.getElem?_set_self hj] at hv
  exact hv
 rw [World.cell?_setCell_other _ _ _ _ (fun h => e (by injection h)), h.1 i v]
 rwa [List.getElem?_set_ne e] at hv
theorem BAt.other {W : World} {B C : Nat} {vs : List Value} (h : BAt W B vs) (hne : B ≠ C) (j : Nat) (x : Value) : BAt (W.setCell ⟨C, j, none⟩ x) B vs := by
 refine ⟨fun i v hv => ?_, fun i => frozen_put W B C j i x (h.2.1 i), by have := h.2.2; simpa using this⟩
 rw [World.cell?_setCell_other _ _ _ _ (fun h => hne (by injection h with h1 _; exact h1.symm))]
 exact h.1 i v hv
theorem put_grown (W : World) (C j : Nat) (x : Value) : W.grownBy (W.setCell ⟨C, j, none⟩ x) (some C) :=
 have b := (Below.refl C W).setCell (p := ⟨C, j, none⟩) (Nat.le_refl _) x
 ⟨b.os, b.tape, b.output, b.size, fun k hk hne => heap_setCell_other W ⟨C, j, none⟩ k x (fun e => hne (by rw [e]))⟩
end Go.Proofs.YtjdnemjcjodboaaDoor
namespace Go.Proofs.YtjdnemjcjodboaaDoor
open Go.RowKit
set_option linter.unusedVariables false
theorem grow_to {w1 w3 w9 : World} {r : Option Nat} (h : w1.grownBy w3 r) (hz : w3.heap.size ≤ w9.heap.size) (ho : w9.os = w3.os ∧ w9.tape = w3.tape ∧ w9.output = w3.output) (hb : ∀ b, b < w1.heap.size → w9.heap[b]? = w3.heap[b]?) : w1.grownBy w9 r :=
 ⟨ho.1.trans h.os, ho.2.1.trans h.tape, ho.2.2.trans h.output, Nat.le_trans h.size hz, fun k hk hne => (hb k hk).trans (h.block k hk hne)⟩
theorem wp_append_at {P : Program} (w : World) {o : Oper} {a : Act} {K : Act → World → Prop} {Q : Exit → Act → World → Prop} (s x : Operand) (t : TypeId)
  (hop : o.op = .call { callee := .builtin .append, args := #[s, x], argTypes := #[t, t] })
  (B : Nat) (e : TypeId) (z : Value) (size bytes : Nat) (ht : P.underlying t = some (.slice e)) (hinfo : (P.info? e).map (fun i => (i.zero, i.size, i.bytes)) = some (some z, size, bytes)) (hz : z.cells.size = size) (hsz : 0 < size)
  (v : Value) (n : Nat) (xs : List Value) (hs : a.eval s = v) (hown : w.ownsRow B e size v n xs)
  (ad : Addr) (m c : Nat) (news : List Value) (hx : a.eval x = .slice (some ad) m c) (hl : news.length = m * size) (hnews : ∀ j u, news[j]? = some u → w.cell? (ad.add j) = some u) (h1 : ∀ u ∈ news, u.oneCell' = true)
  (h63 : n + m ≤ maxLen) (hbytes : (n + m) * bytes ≤ 140737488355328) (hbase : B ≤ w.heap.size)
  (h : ∀ v' w', w'.ownsRow B e size v' (n + m) (xs ++ news) → w.grownBy w' v.ownBlock → (v'.ownBlock = v.ownBlock ∨ v'.ownBlock = some w.heap.size) → K (a.put o.dst v') w') : o.wp P a w K Q := by
 obtain ⟨i0, hi, hz0, hz1, hz2⟩ := info_parts hinfo
 obtain ⟨v', w', hr, h2, h3, h4, h5⟩ := run_append_own_at (P := P) w B t o.type e i0 z size bytes ht hi hz0 hz1 hz2 hz hsz v n xs hown ad m c news hl hnews h1 h63 hbytes hbase
 unfold Oper.wp execOp
 simp only [hop, resolve, invoke, builtin, Sem.run_bind, Sem.run_pure, Result.andThen_ok, List.map_toArray, List.map_cons, List.map_nil, hs, hx, hr]
 exact h v' w' h2 h3 h5
section
variable {w1 w3 WA w9 : World} {B3 gv cv m : Nat} {L : List PT} {vs : List Value} {p q : Value}
theorem put_facts (hB3 : B3 < w1.heap.size) (h1 : w3.ownsRow w1.heap.size 33 2 (.slice (some ⟨gv, 0, none⟩) (m + 1) cv) (m + 1) vs) (A3 : BAt w3 B3 [.slice (some ⟨gv, 0, none⟩) (m + 1) cv]) (G3 : w1.grownBy w3 (some B3)) (hb : Below w3.heap.size w3 WA)
  (x : Value) (hxg : ∀ b, x.ownBlock = some b → w1.heap.size ≤ b ∧ b ≠ gv) (g9 : WA.grownBy w9 x.ownBlock) (j : Nat) (x' : Value) :
  w9.ownsRow w1.heap.size 33 2 (.slice (some ⟨gv, 0, none⟩) (m + 1) cv) (m + 1) vs ∧ BAt w9 B3 [.slice (some ⟨gv, 0, none⟩) (m + 1) cv] ∧ BAt (w9.setCell ⟨gv, j, none⟩ x') B3 [.slice (some ⟨gv, 0, none⟩) (m + 1) cv] ∧ w1.grownBy (w9.setCell ⟨gv, j, none⟩ x') (some B3) := by
 have hg := h1.lt gv rfl
 have o9 := own_at (own_below h1 hb) (w' := w9) fun b e => g9.block b ((own_below h1 hb).lt b e).2 fun e2 => (hxg b e2.symm).2 (by injection e with e; exact e.symm)
 have a9 : BAt w9 B3 [.slice (some ⟨gv, 0, none⟩) (m + 1) cv] := (A3.below hb).same g9.size (g9.block B3 (A3.below hb).2.2 fun e => by have := (hxg B3 e.symm).1; omega)
 refine ⟨o9, a9, a9.other (by omega) _ _, ?_⟩
 refine grow_to G3 (Nat.le_trans hb.size (by have := g9.size; simpa using this)) ⟨?_, ?_, ?_⟩ fun b hbl => ?_
 ·exact (show (w9.setCell ⟨gv, j, none⟩ x').os = w9.os from rfl).trans (g9.os.trans hb.os)
 ·exact (show (w9.setCell ⟨gv, j, none⟩ x').tape = w9.tape from rfl).trans (g9.tape.trans hb.tape)
 ·exact (show (w9.setCell ⟨gv, j, none⟩ x').output = w9.output from rfl).trans (g9.output.trans hb.output)
 have hlt : b < w3.heap.size := Nat.lt_of_lt_of_le hbl G3.size
 rw [Below.heap_setCell _ _ _ _ (show b ≠ gv by omega)]
 exact (g9.block b (Nat.lt_of_lt_of_le hlt hb.size) fun e => by have := (hxg b e.symm).1; omega).trans (hb.block b hlt)
theorem rob_agent {p' : Value} {AV : ByteArray} (hB3 : B3 < w1.heap.size) (hm : L.length = m + 1) (h1 : w3.ownsRow w1.heap.size 33 2 (.slice (some ⟨gv, 0, none⟩) (m + 1) cv) (m + 1) vs) (h2 : Inner w3 w1.heap.size w3.heap.size (.slice (some ⟨gv, 0, none⟩) (m + 1) cv) vs L (m + 1))
  (hp : vs[m * 2]? = some p) (hq : vs[m * 2 + 1]? = some q) (A3 : BAt w3 B3 [.slice (some ⟨gv, 0, none⟩) (m + 1) cv]) (G3 : w1.grownBy w3 (some B3)) (hb : Below w3.heap.size w3 WA)
  (o9 : w9.ownsRow w1.heap.size 9 1 p' ((lastG L).ag.length + 1) (scells ((lastG L).ag ++ [AV]))) (g9 : WA.grownBy w9 p.ownBlock) (hat : p'.ownBlock = p.ownBlock ∨ p'.ownBlock = some WA.heap.size) :
  RobOwn (w9.setCell ⟨gv, m * 2, none⟩ p') w1.heap.size (w9.setCell ⟨gv, m * 2, none⟩ p').heap.size (.slice (some ⟨gv, 0, none⟩) (m + 1) cv) (setAg L AV) ∧ BAt (w9.setCell ⟨gv, m * 2, none⟩ p') B3 [.slice (some ⟨gv, 0, none⟩) (m + 1) cv] ∧ w1.grownBy (w9.setCell ⟨gv, m * 2, none⟩ p') (some B3) ∧
   w9.frozen? ⟨gv, m * 2, none⟩ = false ∧ w9.cell? ⟨gv, m * 2, none⟩ = some p ∧ BAt w9 B3 [.slice (some ⟨gv, 0, none⟩) (m + 1) cv] := by
 obtain ⟨P1, P2, P3⟩ := h2.2.1 _ p (by omega) hp
 obtain ⟨Q1, Q2, _⟩ := h2.2.1 _ q (by omega) hq
 have apq : apt p q := P3 _ q (by omega) hq (by omega)
 have pge := h2.ge (by omega) hp
 obtain ⟨f1, f2, f3, f4⟩ := put_facts hB3 h1 A3 G3 hb p (fun b e => ⟨pge b e, fun eg => P1 b e (by rw [eg]; rfl)⟩) g9 (m * 2) p'
 have hvl : vs.length = (m + 1) * 2 := h1.1
 refine ⟨?_, f3, f4, f1.frozenAt _, by rw [f1.cellAt (m * 2) (by omega)]; exact hp, f2⟩
 obtain ⟨p0, q0, a1, a2, a3, a4⟩ := h2.1 m (by omega)
 rw [hp] at a1; injection a1 with a1; subst a1
 rw [hq] at a2; injection a2 with a2; subst a2
 have hlast : L.getD m pt0 = lastG L := by unfold lastG; rw [hm, Nat.add_sub_cancel]
 have hat2 : (setAg L AV).getD m pt0 = ⟨(lastG L).ag ++ [AV], (lastG L).ln⟩ := by
  unfold setAg
  rw [hm, Nat.add_sub_cancel, getD_set_p (by omega), if_pos rfl]
 have oq9 := own_at (own_below a4 hb) (w' := w9) fun b e => g9.block b ((own_below a4 hb).lt b e).2 fun e2 => apq b e2.symm e
 rw [show m + 1 = L.length from hm.symm] at h1 h2 f1 ⊢
 refine RobOwn.put (w := w3) (w1 := w9) (i := m) (by omega) h1 h2 hp hq (fun b hb1 hb2 n1 n2 => ?_) (Nat.le_trans hb.size g9.size) (p' := p') (q' := q) ?_ ?_ ?_ (.inl rfl) ?_ (by unfold setAg; rw [List.length_set]) (fun j hj hne => ?_) (f1.stored (m * 2) p').1 (fun b hne => ?_) (by simp) (fun c h1 h2 => List.getElem?_set_ne (Ne.symm h1)) ?_ ?_
 ·exact (g9.block b (Nat.lt_of_lt_of_le hb2 hb.size) n1).trans (hb.block b hb2)
 ·rw [hat2]; show World.ownsRow _ _ _ _ _ ((lastG L).ag ++ [AV]).length _; rw [List.length_append]; exact o9
 ·rw [hat2]; rw [hlast] at oq9; exact oq9
 ·rcases hat with h | h
  ·exact .inl h
  exact .inr fun b e => by rw [h] at e; injection e with e; have := hb.size; omega
 ·intro b e1 e2
  rcases hat with h | h
  ·rw [h] at e1; exact apq b e1 e2
  rw [h] at e1; injection e1 with e1; have := Q2 b e2; have := hb.size; omega
 ·unfold setAg
  rw [hm, Nat.add_sub_cancel, getD_set_p (by omega), if_neg hne]
 ·exact Below.heap_setCell _ _ _ _ hne
 ·exact List.getElem?_set_self (by omega)
 rw [List.getElem?_set_ne (by omega)]; exact hq
theorem rob_line {q' : Value} {X : LV} (hB3 : B3 < w1.heap.size) (hm : L.length = m + 1) (h1 : w3.ownsRow w1.heap.size 33 2 (.slice (some ⟨gv, 0, none⟩) (m + 1) cv) (m + 1) vs) (h2 : Inner w3 w1.heap.size w3.heap.size (.slice (some ⟨gv, 0, none⟩) (m + 1) cv) vs L (m + 1))
  (hp : vs[m * 2]? = some p) (hq : vs[m * 2 + 1]? = some q) (A3 : BAt w3 B3 [.slice (some ⟨gv, 0, none⟩) (m + 1) cv]) (G3 : w1.grownBy w3 (some B3)) (hb : Below w3.heap.size w3 WA)
  (o9 : w9.ownsRow w1.heap.size 35 2 q' ((lastG L).ln.length + 1) (lcells ((lastG L).ln ++ [X]))) (g9 : WA.grownBy w9 q.ownBlock) (hat : q'.ownBlock = q.ownBlock ∨ q'.ownBlock = some WA.heap.size) :
  RobOwn (w9.setCell ⟨gv, m * 2 + 1, none⟩ q') w1.heap.size (w9.setCell ⟨gv, m * 2 + 1, none⟩ q').heap.size (.slice (some ⟨gv, 0, none⟩) (m + 1) cv) (setLn L X) ∧ BAt (w9.setCell ⟨gv, m * 2 + 1, none⟩ q') B3 [.slice (some ⟨gv, 0, none⟩) (m + 1) cv] ∧ w1.grownBy (w9.setCell ⟨gv, m * 2 + 1, none⟩ q') (some B3) ∧
   w9.frozen? ⟨gv, m * 2 + 1, none⟩ = false ∧ w9.cell? ⟨gv, m * 2 + 1, none⟩ = some q ∧ BAt w9 B3 [.slice (some ⟨gv, 0, none⟩) (m + 1) cv] := by
 obtain ⟨P1, P2, P3⟩ := h2.2.1 _ p (by omega) hp
 obtain ⟨Q1, Q2, _⟩ := h2.2.1 _ q (by omega) hq
 have apq : apt p q := P3 _ q (by omega) hq (by omega)
 have qge := h2.ge (by omega) hq
 obtain ⟨f1, f2, f3, f4⟩ := put_facts hB3 h1 A3 G3 hb q (fun b e => ⟨qge b e, fun eg => Q1 b e (by rw [eg]; rfl)⟩) g9 (m * 2 + 1) q'
 have hvl : vs.length = (m + 1) * 2 := h1.1
 refine ⟨?_, f3, f4, f1.frozenAt _, by rw [f1.cellAt (m * 2 + 1) (by omega)]; exact hq, f2⟩
 obtain ⟨p0, q0, a1, a2, a3, a4⟩ := h2.1 m (by omega)
 rw [hp] at a1; injection a1 with a1; subst a1
 rw [hq] at a2; injection a2 with a2; subst a2
 have hlast : L.getD m pt0 = lastG L := by unfold lastG; rw [hm, Nat.add_sub_cancel]
 have hat2 : (setLn L X).getD m pt0 = ⟨(lastG L).ag, (lastG L).ln ++ [X]⟩ := by
  unfold setLn
  rw [hm, Nat.add_sub_cancel, getD_set_p (by omega), if_pos rfl]
 have op9 := own_at (own_below a3 hb) (w' := w9) fun b e => g9.block b ((own_below a3 hb).lt b e).2 fun e2 => apq b e e2.symm
 rw [show m + 1 = L.length from hm.symm] at h1 h2 f1 ⊢
 refine RobOwn.put (w := w3) (w1 := w9) (i := m) (by omega) h1 h2 hp hq (fun b hb1 hb2 n1 n2 => ?_) (Nat.le_trans hb.size g9.size) (p' := p) (q' := q') ?_ ?_ (.inl rfl) ?_ ?_ (by unfold setLn; rw [List.length_set]) (fun j hj hne => ?_) (f1.stored (m * 2 + 1) q').1 (fun b hne => ?_) (by simp) (fun c h1 h2 => List.getElem?_set_ne (Ne.symm h2)) ?_ ?_
 ·exact (g9.block b (Nat.lt_of_lt_of_le hb2 hb.size) n2).trans (hb.block b hb2)
 ·rw [hat2]; rw [hlast] at op9; exact op9
 ·rw [hat2]; show World.ownsRow _ _ _ _ _ ((lastG L).ln ++ [X]).length _; rw [List.length_append]; exact o9
 ·rcases hat with h | h
  ·exact .inl h
  exact .inr fun b e => by rw [h] at e; injection e with e; have := hb.size; omega
 ·intro b e1 e2
  rcases hat with h | h
  ·rw [h] at e2; exact apq b e1 e2
  rw [h] at e2; injection e2 with e2; have := P2 b e1; have := hb.size; omega
 ·unfold setLn
  rw [hm, Nat.add_sub_cancel, getD_set_p (by omega), if_neg hne]
 ·exact Below.heap_setCell _ _ _ _ hne
 ·rw [List.getElem?_set_ne (by omega)]; exact hp
 exact List.getElem?_set_self (by omega)
theorem RobOwn.last {w : World} {base top : Nat} {v : Value} {l : List PT} {m : Nat} (h : RobOwn w base top v l) (hm : l.length = m + 1) : ∃ g cap vs p q, v = .slice (some ⟨g, 0, none⟩) (m + 1) cap ∧ w.ownsRow base 33 2 (.slice (some ⟨g, 0, none⟩) (m + 1) cap) (m + 1) vs ∧ Inner w base top (.slice (some ⟨g, 0, none⟩) (m + 1) cap) vs l (m + 1) ∧
  vs[m * 2]? = some p ∧ vs[m * 2 + 1]? = some q ∧ w.cell? ⟨g, m * 2, none⟩ = some p ∧ w.cell? ⟨g, m * 2 + 1, none⟩ = some q ∧ w.ownsRow base 9 1 p (lastG l).ag.length (scells (lastG l).ag) ∧ w.ownsRow base 35 2 q (lastG l).ln.length (lcells (lastG l).ln) := by
 obtain ⟨vs, h1, h2⟩ := h
 rw [hm] at h1 h2
 rcases h1.2 with ⟨_, h3⟩ | ⟨g, cap, cur, rfl, _⟩
 ·omega
 obtain ⟨p, q, a1, a2, a3, a4⟩ := h2.1 m (by omega)
 have hlast : l.getD m pt0 = lastG l := by unfold lastG; rw [hm, Nat.add_sub_cancel]
 rw [hlast] at a3 a4
 exact ⟨g, cap, vs, p, q, rfl, h1, h2, a1, a2, by rw [h1.cellAt (m * 2) (by omega)]; exact a1, by rw [h1.cellAt (m * 2 + 1) (by omega)]; exact a2, a3, a4⟩
end
end Go.Proofs.YtjdnemjcjodboaaDoor
