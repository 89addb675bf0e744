/- RobOwn, RobBack. -/
import Derived.Test.YtjdnemjcjodboaaDoorRp03
namespace Go.Proofs.YtjdnemjcjodboaaDoor
open Go.RowKit
set_option linter.unusedVariables false
def lcells (l : List LV) : List Value := l.flatMap fun x => [.bool x.al, .string x.pa]
theorem lcells_length : ∀ l : List LV, (lcells l).length = l.length * 2
 | [] => rfl
 | x :: l => by
  have := lcells_length l
  unfold lcells at this ⊢
  rw [List.flatMap_cons, List.length_append, this]
  simp only [List.length_cons, List.length_nil]
  omega
theorem lcells_append (l m : List LV) : lcells (l ++ m) = lcells l ++ lcells m := by unfold lcells; rw [List.flatMap_append]
theorem lcells_cons (x : LV) (l : List LV) : lcells (x :: l) = .bool x.al :: .string x.pa :: lcells l := rfl
theorem lcells_at : ∀ (l : List LV) (i : Nat), i < l.length → (lcells l)[i * 2]? = some (.bool (l.getD i lv0).al) ∧ (lcells l)[i * 2 + 1]? = some (.string (l.getD i lv0).pa)
 | [], i, h => absurd h (Nat.not_lt_zero _)
 | x :: l, 0, _ => ⟨rfl, rfl⟩
 | x :: l, i + 1, h => by
  have := lcells_at l i (by simpa using h)
  rw [lcells_cons, show (i + 1) * 2 = i * 2 + 1 + 1 by omega]
  exact this
theorem lcells_set (l : List LV) (i : Nat) (h : i < l.length) (x : LV) : ((lcells l).set (i * 2) (.bool x.al)).set (i * 2 + 1) (.string x.pa) = lcells (l.set i x) := by
 refine List.ext_getElem? fun j => ?_
 have hl := lcells_length l
 by_cases hj : j < l.length * 2
 ·obtain ⟨m, hm⟩ : ∃ m, m = j / 2 := ⟨_, rfl⟩
  have hml : m < l.length := by omega
  have e0 := lcells_at l m hml
  have e1 := lcells_at (l.set i x) m (by rw [List.length_set]; exact hml)
  have hg : (l.set i x).getD m lv0 = if i = m then x else l.getD m lv0 := by
   rw [List.getD_eq_getElem?_getD, List.getD_eq_getElem?_getD, List.getElem?_set]
   split
   ·rename_i he; subst he; simp
   rfl
  rw [hg] at e1
  by_cases hmod : j % 2 = 0
  ·obtain rfl : j = m * 2 := by omega
   rw [e1.1, List.getElem?_set_ne (by omega)]
   by_cases him : i = m
   ·subst him; rw [List.getElem?_set_self (by omega), if_pos rfl]
   rw [List.getElem?_set_ne (by omega), e0.1, if_neg him]
  obtain rfl : j = m * 2 + 1 := by omega
  rw [e1.2]
  by_cases him : i = m
  ·subst him; rw [List.getElem?_set_self (by rw [List.length_set]; omega), if_pos rfl]
  rw [List.getElem?_set_ne (by omega), List.getElem?_set_ne (by omega), e0.2, if_neg him]
 rw [List.getElem?_eq_none (by rw [List.length_set, List.length_set]; omega), List.getElem?_eq_none (by rw [lcells_length, List.length_set]; omega)]
theorem LineRow.of_own' {w : World} {base : Nat} {e : TypeId} {v : Value} {l : List LV} (h : w.ownsRow base e 2 v l.length (lcells l)) : LineRow w v l := LineRow.of_own h fun i hi => lcells_at l i hi
def apt (p q : Value) : Prop := ∀ b, p.ownBlock = some b → q.ownBlock ≠ some b
theorem apt.symm {p q : Value} (h : apt p q) : apt q p := fun b e1 e2 => h b e2 e1
theorem own_at {w w' : World} {base : Nat} {e : TypeId} {size n : Nat} {v : Value} {xs : List Value} (h : w.ownsRow base e size v n xs) (hs : ∀ b, v.ownBlock = some b → w'.heap[b]? = w.heap[b]?) : w'.ownsRow base e size v n xs := by
 refine ⟨h.1, ?_⟩
 rcases h.2 with hn | ⟨g, cap, cur, rfl, hb, hgg, rest⟩
 ·exact .inl hn
 exact .inr ⟨g, cap, cur, rfl, hb, (hs g rfl).trans hgg, rest⟩
structure Only (base top : Nat) (w w' : World) : Prop where
 os : w'.os = w.os
 tape : w'.tape = w.tape
 output : w'.output = w.output
 size : w.heap.size ≤ w'.heap.size
 block : ∀ k, k < w.heap.size → (k < base ∨ top ≤ k) → w'.heap[k]? = w.heap[k]?
theorem Only.refl (base top : Nat) (w : World) : Only base top w w := ⟨rfl, rfl, rfl, Nat.le_refl _, fun _ _ _ => rfl⟩
theorem Only.trans {base top : Nat} {a b c : World} (h : Only base top a b) (k : Only base top b c) : Only base top a c :=
 ⟨k.os.trans h.os, k.tape.trans h.tape, k.output.trans h.output, Nat.le_trans h.size k.size, fun i hi hx => (k.block i (Nat.lt_of_lt_of_le hi h.size) hx).trans (h.block i hi hx)⟩
theorem Only.below {base top : Nat} {w w' : World} (h : Only base top w w') (hb : base ≤ w.heap.size) : Below base w w' := ⟨h.os, h.tape, h.output, h.size, fun k hk => h.block k (by omega) (.inl hk)⟩
theorem Only.of_below {base top : Nat} {w w' : World} (h : Below w.heap.size w w') : Only base top w w' := ⟨h.os, h.tape, h.output, h.size, fun k hk _ => h.block k hk⟩
theorem Only.of_grown {base top : Nat} {w w' : World} {r : Option Nat} (h : w.grownBy w' r) (hr : ∀ b, r = some b → base ≤ b ∧ b < top) : Only base top w w' :=
 ⟨h.os, h.tape, h.output, h.size, fun k hk hx => h.block k hk fun e => by have := hr k e.symm; omega⟩
def Inner (w : World) (base top : Nat) (v : Value) (vs : List Value) (l : List PT) (k : Nat) : Prop :=
 (∀ i, i < k → ∃ p q, vs[i * 2]? = some p ∧ vs[i * 2 + 1]? = some q ∧ w.ownsRow base 9 1 p (l.getD i pt0).ag.length (scells (l.getD i pt0).ag) ∧ w.ownsRow base 35 2 q (l.getD i pt0).ln.length (lcells (l.getD i pt0).ln)) ∧
 (∀ a x, a < k * 2 → vs[a]? = some x → apt x v ∧ (∀ b, x.ownBlock = some b → b < top) ∧ ∀ c y, c < k * 2 → vs[c]? = some y → a ≠ c → apt x y) ∧ (∀ b, v.ownBlock = some b → b < top)
theorem Inner.ge {w : World} {base top : Nat} {v : Value} {vs : List Value} {l : List PT} {k : Nat} (h : Inner w base top v vs l k) {a : Nat} {x : Value} (ha : a < k * 2) (hx : vs[a]? = some x) : ∀ b, x.ownBlock = some b → base ≤ b := by
 obtain ⟨p, q, h1, h2, h3, h4⟩ := h.1 (a / 2) (by omega)
 intro b hb
 by_cases hm : a % 2 = 0
 ·rw [show a / 2 * 2 = a by omega, hx] at h1
  injection h1 with h1
  subst h1
  exact (h3.lt b hb).1
 rw [show a / 2 * 2 + 1 = a by omega, hx] at h2
 injection h2 with h2
 subst h2
 exact (h4.lt b hb).1
theorem Inner.same {w w' : World} {base top top' : Nat} {v : Value} {vs : List Value} {l : List PT} {k : Nat} (h : Inner w base top v vs l k) (ht : top ≤ top') (hs : ∀ b, base ≤ b → b < top → some b ≠ v.ownBlock → w'.heap[b]? = w.heap[b]?) : Inner w' base top' v vs l k := by
 refine ⟨fun i hi => ?_, fun a x ha hx => ?_, fun b hb => Nat.lt_of_lt_of_le (h.2.2 b hb) ht⟩
 ·obtain ⟨p, q, h1, h2, h3, h4⟩ := h.1 i hi
  obtain ⟨a1, a2, _⟩ := h.2.1 _ p (by omega) h1
  obtain ⟨b1, b2, _⟩ := h.2.1 _ q (by omega) h2
  exact ⟨p, q, h1, h2, own_at h3 fun b hb => hs b (h3.lt b hb).1 (a2 b hb) fun e => a1 b hb e.symm, own_at h4 fun b hb => hs b (h4.lt b hb).1 (b2 b hb) fun e => b1 b hb e.symm⟩
 obtain ⟨a1, a2, a3⟩ := h.2.1 a x ha hx
 exact ⟨a1, fun b hb => Nat.lt_of_lt_of_le (a2 b hb) ht, a3⟩
theorem Inner.more {w w' : World} {base top top' : Nat} {v v' p q : Value} {vs vs' : List Value} {l l' : List PT} {k : Nat} (h : Inner w base top v vs l k)
  (hs : ∀ b, base ≤ b → b < top → some b ≠ v.ownBlock → w'.heap[b]? = w.heap[b]?) (hvs : ∀ a, a < k * 2 → vs'[a]? = vs[a]?) (hl : ∀ i, i < k → l'.getD i pt0 = l.getD i pt0)
  (hv : v'.ownBlock = v.ownBlock ∨ ∀ b, v'.ownBlock = some b → top ≤ b ∧ b < top') (ht : top ≤ top') (hp : vs'[k * 2]? = some p) (hq : vs'[k * 2 + 1]? = some q)
  (hpo : w'.ownsRow base 9 1 p (l'.getD k pt0).ag.length (scells (l'.getD k pt0).ag)) (hqo : w'.ownsRow base 35 2 q (l'.getD k pt0).ln.length (lcells (l'.getD k pt0).ln))
  (hpb : ∀ b, p.ownBlock = some b → top ≤ b ∧ b < top') (hqb : ∀ b, q.ownBlock = some b → top ≤ b ∧ b < top') (hpq : apt p q) (hpv : apt p v') (hqv : apt q v') : Inner w' base top' v' vs' l' (k + 1) := by
 have hv2 : ∀ b, v'.ownBlock = some b → v.ownBlock = some b ∨ top ≤ b := fun b hb => by
  rcases hv with e | e
  ·exact .inl (by rw [← e]; exact hb)
  exact .inr (e b hb).1
 have key : ∀ a x, a < (k + 1) * 2 → vs'[a]? = some x → (a < k * 2 ∧ vs[a]? = some x) ∨ (a = k * 2 ∧ x = p) ∨ (a = k * 2 + 1 ∧ x = q) := fun a x ha hx => by
  by_cases h1 : a < k * 2
  ·exact .inl ⟨h1, by rw [← hvs a h1]; exact hx⟩
  by_cases h2 : a = k * 2
  ·subst h2; rw [hp] at hx; injection hx with hx; exact .inr (.inl ⟨rfl, hx.symm⟩)
  obtain rfl : a = k * 2 + 1 := by omega
  rw [hq] at hx; injection hx with hx; exact .inr (.inr ⟨rfl, hx.symm⟩)
 refine ⟨fun i hi => ?_, fun a x ha hx => ?_, fun b hb => ?_⟩
 ·by_cases hik : i < k
  ·obtain ⟨p0, q0, h1, h2, h3, h4⟩ := h.1 i hik
   obtain ⟨a1, a2, _⟩ := h.2.1 _ p0 (by omega) h1
   obtain ⟨b1, b2, _⟩ := h.2.1 _ q0 (by omega) h2
   rw [hl i hik]
   exact ⟨p0, q0, by rw [hvs _ (by omega)]; exact h1, by rw [hvs _ (by omega)]; exact h2, own_at h3 fun b hb => hs b (h3.lt b hb).1 (a2 b hb) fun e => a1 b hb e.symm, own_at h4 fun b hb => hs b (h4.lt b hb).1 (b2 b hb) fun e => b1 b hb e.symm⟩
  obtain rfl : i = k := by omega
  exact ⟨p, q, hp, hq, hpo, hqo⟩
 ·rcases key a x ha hx with ⟨ha1, hx1⟩ | ⟨rfl, rfl⟩ | ⟨rfl, rfl⟩
  ·obtain ⟨a1, a2, a3⟩ := h.2.1 a x ha1 hx1
   refine ⟨fun b hb hb2 => ?_, fun b hb => Nat.lt_of_lt_of_le (a2 b hb) ht, fun c y hc hy hne => ?_⟩
   ·rcases hv2 b hb2 with e | e
    ·exact a1 b hb e
    have := a2 b hb; omega
   rcases key c y hc hy with ⟨hc1, hy1⟩ | ⟨rfl, rfl⟩ | ⟨rfl, rfl⟩
   ·exact a3 c y hc1 hy1 hne
   ·intro b e1 e2; have := a2 b e1; have := hpb b e2; omega
   intro b e1 e2; have := a2 b e1; have := hqb b e2; omega
  ·refine ⟨hpv, fun b hb => (hpb b hb).2, fun c y hc hy hne => ?_⟩
   rcases key c y hc hy with ⟨hc1, hy1⟩ | ⟨rfl, rfl⟩ | ⟨rfl, rfl⟩
   ·intro b e1 e2; have := (h.2.1 c y hc1 hy1).2.1 b e2; have := hpb b e1; omega
   ·exact absurd rfl hne
   exact hpq
  refine ⟨hqv, fun b hb => (hqb b hb).2, fun c y hc hy hne => ?_⟩
  rcases key c y hc hy with ⟨hc1, hy1⟩ | ⟨rfl, rfl⟩ | ⟨rfl, rfl⟩
  ·intro b e1 e2; have := (h.2.1 c y hc1 hy1).2.1 b e2; have := hqb b e1; omega
  ·exact hpq.symm
  exact absurd rfl hne
 rcases hv with e | e
 ·exact Nat.lt_of_lt_of_le (h.2.2 b (by rw [← e]; exact hb)) ht
 exact (e b hb).2
theorem Inner.at {w w' : World} {base top top' : Nat} {v p q p' q' : Value} {vs vs' : List Value} {l l' : List PT} {k i : Nat} (h : Inner w base top v vs l k) (hi : i < k) (hp : vs[i * 2]? = some p) (hq : vs[i * 2 + 1]? = some q)
  (hs : ∀ b, base ≤ b → b < top → some b ≠ v.ownBlock → some b ≠ p.ownBlock → some b ≠ q.ownBlock → w'.heap[b]? = w.heap[b]?) (hvs : ∀ c, c ≠ i * 2 → c ≠ i * 2 + 1 → vs'[c]? = vs[c]?) (hp' : vs'[i * 2]? = some p') (hq' : vs'[i * 2 + 1]? = some q')
  (hpo : w'.ownsRow base 9 1 p' (l'.getD i pt0).ag.length (scells (l'.getD i pt0).ag)) (hqo : w'.ownsRow base 35 2 q' (l'.getD i pt0).ln.length (lcells (l'.getD i pt0).ln))
  (hpb : p'.ownBlock = p.ownBlock ∨ ∀ b, p'.ownBlock = some b → top ≤ b ∧ b < top') (hqb : q'.ownBlock = q.ownBlock ∨ ∀ b, q'.ownBlock = some b → top ≤ b ∧ b < top') (hpq : apt p' q')
  (hl : ∀ j, j < k → j ≠ i → l'.getD j pt0 = l.getD j pt0) (ht : top ≤ top') : Inner w' base top' v vs' l' k := by
 obtain ⟨P1, P2, P3⟩ := h.2.1 _ p (by omega) hp
 obtain ⟨Q1, Q2, Q3⟩ := h.2.1 _ q (by omega) hq
 have old : ∀ {x x' : Value}, (∀ b, x.ownBlock = some b → b < top) → (x'.ownBlock = x.ownBlock ∨ ∀ b, x'.ownBlock = some b → top ≤ b ∧ b < top') → ∀ b, x'.ownBlock = some b → x.ownBlock = some b ∨ top ≤ b := fun _ hx b hb => by
  rcases hx with e | e
  ·exact .inl (by rw [← e]; exact hb)
  exact .inr (e b hb).1
 have lim : ∀ {x x' : Value}, (∀ b, x.ownBlock = some b → b < top) → (x'.ownBlock = x.ownBlock ∨ ∀ b, x'.ownBlock = some b → top ≤ b ∧ b < top') → ∀ b, x'.ownBlock = some b → b < top' := fun h0 hx b hb => by
  rcases hx with e | e
  ·exact Nat.lt_of_lt_of_le (h0 b (by rw [← e]; exact hb)) ht
  exact (e b hb).2
 have key : ∀ a x, a < k * 2 → vs'[a]? = some x → (a ≠ i * 2 ∧ a ≠ i * 2 + 1 ∧ vs[a]? = some x) ∨ (a = i * 2 ∧ x = p') ∨ (a = i * 2 + 1 ∧ x = q') := fun a x ha hx => by
  by_cases h1 : a = i * 2
  ·subst h1; rw [hp'] at hx; injection hx with hx; exact .inr (.inl ⟨rfl, hx.symm⟩)
  by_cases h2 : a = i * 2 + 1
  ·subst h2; rw [hq'] at hx; injection hx with hx; exact .inr (.inr ⟨rfl, hx.symm⟩)
  exact .inl ⟨h1, h2, by rw [← hvs a h1 h2]; exact hx⟩
 have far : ∀ {x x' y : Value}, apt x y → (∀ b, x.ownBlock = some b → b < top) → (∀ b, y.ownBlock = some b → b < top) → (x'.ownBlock = x.ownBlock ∨ ∀ b, x'.ownBlock = some b → top ≤ b ∧ b < top') → apt x' y := fun ha hx hy hx' b e1 e2 => by
  rcases old hx hx' b e1 with e | e
  ·exact ha b e e2
  have := hy b e2; omega
 refine ⟨fun j hj => ?_, fun a x ha hx => ?_, fun b hb => Nat.lt_of_lt_of_le (h.2.2 b hb) ht⟩
 ·by_cases hji : j = i
  ·subst hji; exact ⟨p', q', hp', hq', hpo, hqo⟩
  obtain ⟨p0, q0, h1, h2, h3, h4⟩ := h.1 j hj
  obtain ⟨a1, a2, a3⟩ := h.2.1 _ p0 (by omega) h1
  obtain ⟨b1, b2, b3⟩ := h.2.1 _ q0 (by omega) h2
  rw [hl j hj hji]
  refine ⟨p0, q0, by rw [hvs _ (by omega) (by omega)]; exact h1, by rw [hvs _ (by omega) (by omega)]; exact h2, own_at h3 fun b hb => hs b (h3.lt b hb).1 (a2 b hb) (fun e => a1 b hb e.symm) (fun e => a3 _ p (by omega) hp (by omega) b hb e.symm) (fun e => a3 _ q (by omega) hq (by omega) b hb e.symm), own_at h4 fun b hb => hs b (h4.lt b hb).1 (b2 b hb) (fun e => b1 b hb e.symm) (fun e => b3 _ p (by omega) hp (by omega) b hb e.symm) (fun e => b3 _ q (by omega) hq (by omega) b hb e.symm)⟩
 rcases key a x ha hx with ⟨n1, n2, hx1⟩ | ⟨rfl, rfl⟩ | ⟨rfl, rfl⟩
 ·obtain ⟨a1, a2, a3⟩ := h.2.1 a x ha hx1
  refine ⟨a1, fun b hb => Nat.lt_of_lt_of_le (a2 b hb) ht, fun c y hc hy hne => ?_⟩
  rcases key c y hc hy with ⟨_, _, hy1⟩ | ⟨rfl, rfl⟩ | ⟨rfl, rfl⟩
  ·exact a3 c y hc hy1 hne
  ·exact (far (a3 _ p (by omega) hp n1).symm P2 a2 hpb).symm
  exact (far (a3 _ q (by omega) hq n2).symm Q2 a2 hqb).symm
 ·refine ⟨far P1 P2 h.2.2 hpb, lim P2 hpb, fun c y hc hy hne => ?_⟩
  rcases key c y hc hy with ⟨m1, m2, hy1⟩ | ⟨rfl, rfl⟩ | ⟨rfl, rfl⟩
  ·obtain ⟨_, b2, b3⟩ := h.2.1 c y hc hy1
   exact far (b3 _ p (by omega) hp m1).symm P2 b2 hpb
  ·exact absurd rfl hne
  exact hpq
 refine ⟨far Q1 Q2 h.2.2 hqb, lim Q2 hqb, fun c y hc hy hne => ?_⟩
 rcases key c y hc hy with ⟨m1, m2, hy1⟩ | ⟨rfl, rfl⟩ | ⟨rfl, rfl⟩
 ·obtain ⟨_, b2, b3⟩ := h.2.1 c y hc hy1
  exact far (b3 _ q (by omega) hq m2).symm Q2 b2 hqb
 ·exact hpq.symm
 exact absurd rfl hne
def RobOwn (w : World) (base top : Nat) (v : Value) (l : List PT) : Prop := ∃ vs, w.ownsRow base 33 2 v l.length vs ∧ Inner w base top v vs l l.length
theorem RobOwn.same {w w' : World} {base top : Nat} {v : Value} {l : List PT} (h : RobOwn w base top v l) (hs : ∀ b, base ≤ b → b < top → w'.heap[b]? = w.heap[b]?) : RobOwn w' base top v l := by
 obtain ⟨vs, h1, h2⟩ := h
 exact ⟨vs, own_at h1 fun b hb => hs b (h1.lt b hb).1 (h2.2.2 b hb), h2.same (Nat.le_refl _) fun b hb hbt _ => hs b hb hbt⟩
theorem RobOwn.below {w w' : World} {base top : Nat} {v : Value} {l : List PT} (h : RobOwn w base top v l) (ht : top ≤ w.heap.size) (hb : Below w.heap.size w w') : RobOwn w' base top v l := h.same fun b _ hbt => hb.block b (by omega)
theorem RobOwn.row {w : World} {base top : Nat} {v : Value} {l : List PT} (h : RobOwn w base top v l) : PartRow w v l := by
 obtain ⟨vs, h1, h2⟩ := h
 by_cases h0 : l.length = 0
 ·have hl : l = [] := List.eq_nil_of_length_eq_zero h0
  rw [h0] at h1
  rcases h1.2 with ⟨rfl, _⟩ | ⟨g, cap, cur, rfl, _⟩
  ·exact .inl ⟨hl, _, _, rfl⟩
  exact .inl ⟨hl, _, _, rfl⟩
 rcases h1.2 with ⟨_, h3⟩ | ⟨g, cap, cur, rfl, _⟩
 ·exact absurd h3 h0
 refine .inr ⟨by omega, g, 0, cap - l.length, by rw [Nat.add_sub_cancel' (own_room h1)], (h1.lt g rfl).2, fun i hi => ?_⟩
 obtain ⟨p, q, a1, a2, a3, a4⟩ := h2.1 i hi
 refine ⟨p, q, ?_, StrRow.of_own a3, ?_, LineRow.of_own' a4⟩
 ·rw [Nat.zero_add, h1.cellAt (i * 2) (by omega)]; exact a1
 rw [Nat.zero_add, h1.cellAt (i * 2 + 1) (by omega)]; exact a2
theorem RobOwn.wide {w : World} {base top top' : Nat} {v : Value} {l : List PT} (h : RobOwn w base top v l) (ht : top ≤ top') : RobOwn w base top' v l := by
 obtain ⟨vs, h1, h2⟩ := h
 exact ⟨vs, h1, h2.same ht fun _ _ _ _ => rfl⟩
theorem RobOwn.down {w : World} {base base' top : Nat} {v : Value} {l : List PT} (h : RobOwn w base top v l) (hb : base' ≤ base) : RobOwn w base' top v l := by
 have wide : ∀ {e : TypeId} {size n : Nat} {x : Value} {ys : List Value}, w.ownsRow base e size x n ys → w.ownsRow base' e size x n ys := fun h => ⟨h.1, h.2.imp id fun ⟨g, cap, cur, h1, h2, h3⟩ => ⟨g, cap, cur, h1, Nat.le_trans hb h2, h3⟩⟩
 obtain ⟨vs, h1, h2, h3⟩ := h
 exact ⟨vs, wide h1, fun i hi => by
  obtain ⟨p, q, a1, a2, a3, a4⟩ := h2 i hi
  exact ⟨p, q, a1, a2, wide a3, wide a4⟩, h3⟩
theorem RobOwn.nil (w : World) (base top : Nat) : RobOwn w base top (.slice none 0 0) [] :=
 ⟨[], World.ownsRow_nil w base _ 2, fun i hi => absurd hi (Nat.not_lt_zero _), fun a x ha => absurd ha (by simp), fun b hb => by cases hb⟩
end Go.Proofs.YtjdnemjcjodboaaDoor
namespace Go.Proofs.YtjdnemjcjodboaaDoor
open Go.RowKit
theorem ps_last {ps : List PT} {p : PT} (h : ps.getLast? = some p) : ps = ps.dropLast ++ [p] := by
 have hne : ps ≠ [] := by intro e; rw [e] at h; cases h
 rw [List.getLast?_eq_some_getLast hne] at h
 injection h with h
 rw [← h]
 exact (List.dropLast_concat_getLast hne).symm
end Go.Proofs.YtjdnemjcjodboaaDoor
