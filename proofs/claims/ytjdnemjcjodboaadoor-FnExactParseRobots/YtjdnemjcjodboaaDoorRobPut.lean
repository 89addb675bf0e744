/- Parts that a call owns: one more, or another one in the last one's place; what a line does, by places. -/
import Derived.Test.YtjdnemjcjodboaaDoorRows
import Derived.Test.YtjdnemjcjodboaaDoorRobOwn
import Derived.Test.YtjdnemjcjodboaaDoorRobBack
namespace Go.Proofs.YtjdnemjcjodboaaDoor
open Go.RowKit
set_option linter.unusedVariables false

theorem pget_lt {l : List PT} {r : PT} {i : Nat} (h : i < l.length) : (l ++ [r]).getD i pt0 = l.getD i pt0 := by
  rw [List.getD_eq_getElem?_getD, List.getD_eq_getElem?_getD, List.getElem?_append_left h]
theorem pget_eq {l : List PT} {r : PT} : (l ++ [r]).getD l.length pt0 = r := by
  rw [List.getD_eq_getElem?_getD, List.getElem?_append_right (Nat.le_refl _)]; simp
theorem RobOwn.snoc {w W w1 : World} {base : Nat} {v v' p q : Value} {l : List PT} {x : PT} {vs : List Value} (h1 : w.ownsRow base 33 2 v l.length vs) (h2 : Inner w base w.heap.size v vs l l.length)
    (hb : ∀ b, b < w.heap.size → W.heap[b]? = w.heap[b]?) (hz : w.heap.size ≤ W.heap.size) (hbase : base ≤ w.heap.size) (hp : W.ownsRow w.heap.size 9 1 p x.ag.length (scells x.ag)) (hq : W.ownsRow w.heap.size 35 2 q x.ln.length (lcells x.ln)) (hpq : apt p q)
    (ho : w1.ownsRow base 33 2 v' (l.length + 1) (vs ++ [p, q])) (hg : W.grownBy w1 v.ownBlock) (hat : v'.ownBlock = v.ownBlock ∨ ∀ b, v'.ownBlock = some b → W.heap.size ≤ b) : RobOwn w1 base w1.heap.size v' (l ++ [x]) := by
  have hvl : vs.length = l.length * 2 := h1.1
  have vlt : ∀ b, v.ownBlock = some b → b < w.heap.size := fun b e => (h1.lt b e).2
  have far : ∀ y : Value, (∀ b, y.ownBlock = some b → w.heap.size ≤ b ∧ b < W.heap.size) → apt y v' := fun y hy b e1 e2 => by
    have := hy b e1
    rcases hat with e | e
    · rw [e] at e2; have := vlt b e2; omega
    · have := e b e2; omega
  have keep : ∀ {e : TypeId} {size n : Nat} {y : Value} {ys : List Value}, W.ownsRow w.heap.size e size y n ys → w1.ownsRow base e size y n ys := fun h => by
    have h' := own_at h (w' := w1) fun b e => hg.block b (h.lt b e).2 fun e2 => by have := vlt b e2.symm; have := (h.lt b e).1; omega
    exact ⟨h'.1, h'.2.imp id fun ⟨g, cap, cur, k1, k2, k3⟩ => ⟨g, cap, cur, k1, Nat.le_trans hbase k2, k3⟩⟩
  refine ⟨vs ++ [p, q], by rw [List.length_append]; exact ho, ?_⟩
  rw [List.length_append]
  refine h2.more (p := p) (q := q) (fun b hb1 hb2 hb3 => ?_) (fun a ha => List.getElem?_append_left (by omega)) (fun i hi => pget_lt hi) ?_ (Nat.le_trans hz hg.size) ?_ ?_ ?_ ?_ (fun b e => ?_) (fun b e => ?_) hpq (far p fun b e => hp.lt b e) (far q fun b e => hq.lt b e)
  · exact (hg.block b (by omega) hb3).trans (hb b hb2)
  · rcases hat with e | e
    · exact .inl e
    · exact .inr fun b hb => ⟨Nat.le_trans hz (e b hb), (ho.lt b hb).2⟩
  · rw [List.getElem?_append_right (by omega), hvl, Nat.sub_self]; rfl
  · rw [List.getElem?_append_right (by omega), hvl, show l.length * 2 + 1 - l.length * 2 = 1 by omega]; rfl
  · rw [pget_eq]; exact keep hp
  · rw [pget_eq]; exact keep hq
  · exact ⟨(hp.lt b e).1, Nat.lt_of_lt_of_le (hp.lt b e).2 hg.size⟩
  · exact ⟨(hq.lt b e).1, Nat.lt_of_lt_of_le (hq.lt b e).2 hg.size⟩
theorem RobOwn.put {w w1 w3 : World} {base g cap i : Nat} {l l' : List PT} {vs vs' : List Value} {p q p' q' : Value} (hi : i < l.length) (h1 : w.ownsRow base 33 2 (.slice (some ⟨g, 0, none⟩) l.length cap) l.length vs) (h2 : Inner w base w.heap.size (.slice (some ⟨g, 0, none⟩) l.length cap) vs l l.length)
    (hp : vs[i * 2]? = some p) (hq : vs[i * 2 + 1]? = some q) (hs : ∀ b, base ≤ b → b < w.heap.size → some b ≠ p.ownBlock → some b ≠ q.ownBlock → w1.heap[b]? = w.heap[b]?) (hz : w.heap.size ≤ w1.heap.size)
    (hpo : w1.ownsRow base 9 1 p' (l'.getD i pt0).ag.length (scells (l'.getD i pt0).ag)) (hqo : w1.ownsRow base 35 2 q' (l'.getD i pt0).ln.length (lcells (l'.getD i pt0).ln))
    (hpb : p'.ownBlock = p.ownBlock ∨ ∀ b, p'.ownBlock = some b → w.heap.size ≤ b) (hqb : q'.ownBlock = q.ownBlock ∨ ∀ b, q'.ownBlock = some b → w.heap.size ≤ b) (hpq : apt p' q')
    (hlen : l'.length = l.length) (hl : ∀ j, j < l.length → j ≠ i → l'.getD j pt0 = l.getD j pt0)
    (ho : w3.ownsRow base 33 2 (.slice (some ⟨g, 0, none⟩) l.length cap) l.length vs') (h3 : ∀ b, b ≠ g → w3.heap[b]? = w1.heap[b]?) (hz3 : w1.heap.size ≤ w3.heap.size)
    (hvs : ∀ c, c ≠ i * 2 → c ≠ i * 2 + 1 → vs'[c]? = vs[c]?) (hp' : vs'[i * 2]? = some p') (hq' : vs'[i * 2 + 1]? = some q') : RobOwn w3 base w3.heap.size (.slice (some ⟨g, 0, none⟩) l.length cap) l' := by
  have hg : g < w.heap.size := (h1.lt g rfl).2
  obtain ⟨P1, P2, _⟩ := h2.2.1 _ p (by omega) hp
  obtain ⟨Q1, Q2, _⟩ := h2.2.1 _ q (by omega) hq
  have ne : ∀ {x x' : Value}, apt x (.slice (some ⟨g, 0, none⟩) l.length cap) → (x'.ownBlock = x.ownBlock ∨ ∀ b, x'.ownBlock = some b → w.heap.size ≤ b) → ∀ b, x'.ownBlock = some b → b ≠ g := fun ha hx b e eg => by
    rcases hx with h | h
    · exact ha b (by rw [← h]; exact e) (by rw [eg]; rfl)
    · have := h b e; omega
  refine ⟨vs', by rw [hlen]; exact ho, ?_⟩
  rw [hlen]
  refine h2.at (p' := p') (q' := q') hi hp hq (fun b hb1 hb2 n1 n2 n3 => ?_) hvs hp' hq' (own_at hpo fun b e => h3 b (ne P1 hpb b e)) (own_at hqo fun b e => h3 b (ne Q1 hqb b e)) ?_ ?_ hpq hl (Nat.le_trans hz hz3)
  · exact (h3 b fun e => n1 (by rw [e]; rfl)).trans (hs b hb1 hb2 n2 n3)
  · rcases hpb with e | e
    · exact .inl e
    · exact .inr fun b hb => ⟨e b hb, Nat.lt_of_lt_of_le (hpo.lt b hb).2 hz3⟩
  · rcases hqb with e | e
    · exact .inl e
    · exact .inr fun b hb => ⟨e b hb, Nat.lt_of_lt_of_le (hqo.lt b hb).2 hz3⟩
/-- Whether a name begins a part. -/
def newP (ps : List PT) : Bool := match ps.getLast? with
  | none => true
  | some p => !p.ln.isEmpty
def openP (ps : List PT) : List PT := if newP ps = true then ps ++ [pt0] else ps
def lastG (ps : List PT) : PT := ps.getD (ps.length - 1) pt0
def setAg (ps : List PT) (a : ByteArray) : List PT := ps.set (ps.length - 1) ⟨(lastG ps).ag ++ [a], (lastG ps).ln⟩
def setLn (ps : List PT) (x : LV) : List PT := ps.set (ps.length - 1) ⟨(lastG ps).ag, (lastG ps).ln ++ [x]⟩
theorem last_getD {ps : List PT} {p : PT} (h : ps.getLast? = some p) : lastG ps = p ∧ 0 < ps.length := by
  have hps := ps_last h
  have hl : 0 < ps.length := by rw [hps]; simp
  refine ⟨?_, hl⟩
  unfold lastG
  rw [List.getLast?_eq_getElem?] at h
  rw [List.getD_eq_getElem?_getD, h]
  rfl
theorem set_last {ps : List PT} (h : 0 < ps.length) (x : PT) : ps.set (ps.length - 1) x = ps.dropLast ++ [x] := by
  cases hp : ps.getLast? with
  | none => rw [List.getLast?_eq_none_iff.1 hp] at h; simp at h
  | some p =>
    have e := ps_last hp
    have hd : ps.dropLast.length = ps.length - 1 := by simp
    conv => lhs; rw [e]
    rw [List.length_append, List.length_singleton, Nat.add_sub_cancel, List.set_append_right _ _ (Nat.le_refl _), Nat.sub_self]
    rfl
theorem addAg_eq (ps : List PT) (a : List UInt8) : addAg ps a = setAg (openP ps) ⟨a.toArray⟩ := by
  cases hp : ps.getLast? with
  | none =>
    have := List.getLast?_eq_none_iff.1 hp
    subst this
    rfl
  | some p =>
    obtain ⟨h1, h2⟩ := last_getD hp
    have hn : newP ps = !p.ln.isEmpty := by unfold newP; rw [hp]
    cases hl : p.ln.isEmpty with
    | true =>
      have ho : openP ps = ps := by unfold openP; rw [hn, hl]; rfl
      have he : addAg ps a = ps.dropLast ++ [⟨p.ag ++ [⟨a.toArray⟩], p.ln⟩] := by unfold addAg; rw [hp]; show (if p.ln.isEmpty = true then _ else _) = _; rw [if_pos hl]
      rw [he, ho]
      unfold setAg
      rw [set_last h2, h1]
    | false =>
      have ho : openP ps = ps ++ [pt0] := by unfold openP; rw [hn, hl]; rfl
      have he : addAg ps a = ps ++ [⟨[⟨a.toArray⟩], []⟩] := by unfold addAg; rw [hp]; show (if p.ln.isEmpty = true then _ else _) = _; rw [if_neg (by rw [hl]; decide)]
      rw [he, ho]
      unfold setAg
      have h3 : lastG (ps ++ [pt0]) = pt0 := (last_getD (by simp)).1
      rw [set_last (by simp), h3]
      simp [pt0]
theorem addLn_eq (ps : List PT) (b : Bool) (v : List UInt8) : addLn ps b v = if ps.length = 0 ∨ v.isEmpty = true then ps else setLn ps ⟨b, ⟨(patL v).toArray⟩⟩ := by
  unfold addLn
  cases hp : ps.getLast? with
  | none =>
    have := List.getLast?_eq_none_iff.1 hp
    subst this
    simp
  | some p =>
    obtain ⟨h1, h2⟩ := last_getD hp
    by_cases hv : v.isEmpty = true
    · simp [hv]
    · have : ¬ (ps.length = 0 ∨ v.isEmpty = true) := by rintro (h | h); omega; exact hv h
      rw [if_neg this]
      simp only [hv]
      unfold setLn
      rw [set_last h2, h1]
      rfl
/-- No more parts, names or lines than were read. -/
def Few (k : Nat) (ps : List PT) : Prop := ps.length ≤ k ∧ ∀ i, i < ps.length → (ps.getD i pt0).ag.length ≤ k ∧ (ps.getD i pt0).ln.length ≤ k
theorem Few.mono {k m : Nat} {ps : List PT} (h : Few k ps) (hk : k ≤ m) : Few m ps := ⟨Nat.le_trans h.1 hk, fun i hi => ⟨Nat.le_trans (h.2 i hi).1 hk, Nat.le_trans (h.2 i hi).2 hk⟩⟩
theorem Few.open {k : Nat} {ps : List PT} (h : Few k ps) : Few (k + 1) (openP ps) := by
  unfold openP
  split
  · refine ⟨by rw [List.length_append]; have := h.1; simp; omega, fun i hi => ?_⟩
    by_cases hl : i < ps.length
    · rw [List.getD_eq_getElem?_getD, List.getElem?_append_left hl, ← List.getD_eq_getElem?_getD]
      have := h.2 i hl
      omega
    · rw [List.length_append] at hi
      simp at hi
      rw [List.getD_eq_getElem?_getD, List.getElem?_append_right (by omega), show i - ps.length = 0 by omega]
      simp [pt0]
  · exact h.mono (by omega)
theorem getD_set_p {ps : List PT} {j i : Nat} {x : PT} (hj : j < ps.length) : (ps.set j x).getD i pt0 = if i = j then x else ps.getD i pt0 := by
  rw [List.getD_eq_getElem?_getD, List.getElem?_set]
  by_cases h : j = i
  · subst h; simp [hj]
  · rw [if_neg h, if_neg (Ne.symm h), List.getD_eq_getElem?_getD]
theorem lastG_few {k : Nat} {ps : List PT} (h : Few k ps) : (lastG ps).ag.length ≤ k ∧ (lastG ps).ln.length ≤ k := by
  by_cases h0 : ps.length = 0
  · have : ps = [] := List.eq_nil_of_length_eq_zero h0
    subst this
    exact ⟨Nat.zero_le _, Nat.zero_le _⟩
  · exact h.2 _ (by omega)
theorem newP_few {k : Nat} {ps : List PT} (h : Few k ps) (hn : newP ps = true) : (lastG (openP ps)).ag.length ≤ 0 := by
  unfold openP
  rw [if_pos hn, (last_getD (by simp) : lastG (ps ++ [pt0]) = pt0 ∧ _).1]
  simp [pt0]
theorem Few.setAg {k : Nat} {ps : List PT} {a : ByteArray} (h : Few k ps) (h0 : 0 < ps.length) (ha : (lastG ps).ag.length + 1 ≤ k) : Few k (setAg ps a) := by
  refine ⟨by unfold Go.Proofs.YtjdnemjcjodboaaDoor.setAg; rw [List.length_set]; exact h.1, fun i hi => ?_⟩
  unfold Go.Proofs.YtjdnemjcjodboaaDoor.setAg at hi ⊢
  rw [List.length_set] at hi
  rw [getD_set_p (by omega)]
  split
  · exact ⟨by rw [List.length_append]; exact ha, (lastG_few h).2⟩
  · exact h.2 i hi
theorem Few.setLn {k : Nat} {ps : List PT} {x : LV} (h : Few k ps) (h0 : 0 < ps.length) (ha : (lastG ps).ln.length + 1 ≤ k) : Few k (setLn ps x) := by
  refine ⟨by unfold Go.Proofs.YtjdnemjcjodboaaDoor.setLn; rw [List.length_set]; exact h.1, fun i hi => ?_⟩
  unfold Go.Proofs.YtjdnemjcjodboaaDoor.setLn at hi ⊢
  rw [List.length_set] at hi
  rw [getD_set_p (by omega)]
  split
  · exact ⟨(lastG_few h).1, by rw [List.length_append]; exact ha⟩
  · exact h.2 i hi
theorem openP_pos (ps : List PT) : 0 < (openP ps).length := by
  unfold openP
  by_cases h : newP ps = true
  · rw [if_pos h]; simp
  · rw [if_neg h]
    cases hp : ps.getLast? with
    | none => exact absurd (by unfold newP; rw [hp]) h
    | some p => exact (last_getD hp).2
theorem openP_last {k : Nat} {ps : List PT} (h : Few k ps) : (lastG (openP ps)).ag.length ≤ k := by
  by_cases hn : newP ps = true
  · have := newP_few h hn; omega
  · unfold openP; rw [if_neg hn]; exact (lastG_few h).1
def stepV (ps : List PT) (x : ByteArray) : List PT := stepP ps x.data.toList
theorem Few.step {k : Nat} {ps : List PT} (h : Few k ps) (x : ByteArray) : Few (k + 1) (stepV ps x) := by
  have h1 := h.mono (Nat.le_succ k)
  have ln : ∀ b v, Few (k + 1) (addLn ps b v) := fun b v => by
    rw [addLn_eq]
    by_cases hc : ps.length = 0 ∨ v.isEmpty = true
    · rw [if_pos hc]; exact h1
    · rw [if_neg hc]
      exact h1.setLn (by have : ¬ ps.length = 0 := fun e => hc (.inl e); omega) (by have := (lastG_few h).2; omega)
  unfold stepV stepP
  split
  · exact h1
  · split
    · rw [addAg_eq]
      exact h.open.setAg (openP_pos ps) (by have := openP_last h; omega)
    · split
      · exact ln _ _
      · split
        · exact ln _ _
        · exact h1
end Go.Proofs.YtjdnemjcjodboaaDoor
