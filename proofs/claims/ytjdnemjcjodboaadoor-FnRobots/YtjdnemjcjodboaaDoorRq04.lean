/- RobOwn, RobBack. -/
import Derived.Test.YtjdnemjcjodboaaDoorRq03
namespace Go.Proofs.YtjdnemjcjodboaaDoor
open Go.RowKit
set_option linter.unusedVariables false
def lcells (l : List LV) : List Value := l.flatMap fun x => [.bool x.al, .string x.pa]
theorem lcells_append (l m : List LV) : lcells (l ++ m) = lcells l ++ lcells m := by unfold lcells; rw [List.flatMap_append]
theorem lcells_cons (x : LV) (l : List LV) : lcells (x :: l) = .bool x.al :: .string x.pa :: lcells l := rfl
theorem lcells_at : ∀ (l : List LV) (i : Nat), i < l.length → (lcells l)[i * 2]? = some (.bool (l.getD i lv0).al) ∧ (lcells l)[i * 2 + 1]? = some (.string (l.getD i lv0).pa)
 | [], i, h => absurd h (Nat.not_lt_zero _)
 | x :: l, 0, _ => ⟨rfl, rfl⟩
 | x :: l, i + 1, h => by
  have := lcells_at l i (by simpa using h)
  rw [lcells_cons, show (i + 1) * 2 = i * 2 + 1 + 1 by omega]
  exact this
theorem LineRow.of_own' {w : World} {base : Nat} {e : TypeId} {v : Value} {l : List LV} (h : w.ownsRow base e 2 v l.length (lcells l)) : LineRow w v l := LineRow.of_own h fun i hi => lcells_at l i hi
def apt (p q : Value) : Prop := ∀ b, p.ownBlock = some b → q.ownBlock ≠ some b
theorem apt.symm {p q : Value} (h : apt p q) : apt q p := fun b e1 e2 => h b e2 e1
theorem own_at {w w' : World} {base : Nat} {e : TypeId} {size n : Nat} {v : Value} {xs : List Value} (h : w.ownsRow base e size v n xs) (hs : ∀ b, v.ownBlock = some b → w'.heap[b]? = w.heap[b]?) : w'.ownsRow base e size v n xs := by
 refine ⟨h.1, ?_⟩
 rcases h.2 with hn | ⟨g, cap, cur, rfl, hb, hgg, rest⟩
 ·exact .inl hn
 exact .inr ⟨g, cap, cur, rfl, hb, (hs g rfl).trans hgg, rest⟩
structure Only (base top : Nat) (w w' : World) : Prop where
 os : w'.os = w.os
 tape : w'.tape = w.tape
 output : w'.output = w.output
 size : w.heap.size ≤ w'.heap.size
 block : ∀ k, k < w.heap.size → (k < base ∨ top ≤ k) → w'.heap[k]? = w.heap[k]?
theorem Only.refl (base top : Nat) (w : World) : Only base top w w := ⟨rfl, rfl, rfl, Nat.le_refl _, fun _ _ _ => rfl⟩
theorem Only.trans {base top : Nat} {a b c : World} (h : Only base top a b) (k : Only base top b c) : Only base top a c :=
 ⟨k.os.trans h.os, k.tape.trans h.tape, k.output.trans h.output, Nat.le_trans h.size k.size, fun i hi hx => (k.block i (Nat.lt_of_lt_of_le hi h.size) hx).trans (h.block i hi hx)⟩
theorem Only.below {base top : Nat} {w w' : World} (h : Only base top w w') (hb : base ≤ w.heap.size) : Below base w w' := ⟨h.os, h.tape, h.output, h.size, fun k hk => h.block k (by omega) (.inl hk)⟩
def Inner (w : World) (base top : Nat) (v : Value) (vs : List Value) (l : List PT) (k : Nat) : Prop :=
 (∀ i, i < k → ∃ p q, vs[i * 2]? = some p ∧ vs[i * 2 + 1]? = some q ∧ w.ownsRow base 9 1 p (l.getD i pt0).ag.length (scells (l.getD i pt0).ag) ∧ w.ownsRow base 35 2 q (l.getD i pt0).ln.length (lcells (l.getD i pt0).ln)) ∧
 (∀ a x, a < k * 2 → vs[a]? = some x → apt x v ∧ (∀ b, x.ownBlock = some b → b < top) ∧ ∀ c y, c < k * 2 → vs[c]? = some y → a ≠ c → apt x y) ∧ (∀ b, v.ownBlock = some b → b < top)
theorem Inner.ge {w : World} {base top : Nat} {v : Value} {vs : List Value} {l : List PT} {k : Nat} (h : Inner w base top v vs l k) {a : Nat} {x : Value} (ha : a < k * 2) (hx : vs[a]? = some x) : ∀ b, x.ownBlock = some b → base ≤ b := by
 obtain ⟨p, q, h1, h2, h3, h4⟩ := h.1 (a / 2) (by omega)
 intro b hb
 by_cases hm : a % 2 = 0
 ·rw [show a / 2 * 2 = a by omega, hx] at h1
  injection h1 with h1
  subst h1
  exact (h3.lt b hb).1
 rw [show a / 2 * 2 + 1 = a by omega, hx] at h2
 injection h2 with h2
 subst h2
 exact (h4.lt b hb).1
theorem Inner.same {w w' : World} {base top top' : Nat} {v : Value} {vs : List Value} {l : List PT} {k : Nat} (h : Inner w base top v vs l k) (ht : top ≤ top') (hs : ∀ b, base ≤ b → b < top → some b ≠ v.ownBlock → w'.heap[b]? = w.heap[b]?) : Inner w' base top' v vs l k := by
 refine ⟨fun i hi => ?_, fun a x ha hx => ?_, fun b hb => Nat.lt_of_lt_of_le (h.2.2 b hb) ht⟩
 ·obtain ⟨p, q, h1, h2, h3, h4⟩ := h.1 i hi
  obtain ⟨a1, a2, _⟩ := h.2.1 _ p (by omega) h1
  obtain ⟨b1, b2, _⟩ := h.2.1 _ q (by omega) h2
  exact ⟨p, q, h1, h2, own_at h3 fun b hb => hs b (h3.lt b hb).1 (a2 b hb) fun e => a1 b hb e.symm, own_at h4 fun b hb => hs b (h4.lt b hb).1 (b2 b hb) fun e => b1 b hb e.symm⟩
 obtain ⟨a1, a2, a3⟩ := h.2.1 a x ha hx
 exact ⟨a1, fun b hb => Nat.lt_of_lt_of_le (a2 b hb) ht, a3⟩
theorem Inner.more {w w' : World} {base top top' : Nat} {v v' p q : Value} {vs vs' : List Value} {l l' : List PT} {k : Nat} (h : Inner w base top v vs l k)
  (hs : ∀ b, base ≤ b → b < top → some b ≠ v.ownBlock → w'.heap[b]? = w.heap[b]?) (hvs : ∀ a, a < k * 2 → vs'[a]? = vs[a]?) (hl : ∀ i, i < k → l'.getD i pt0 = l.getD i pt0)
  (hv : v'.ownBlock = v.ownBlock ∨ ∀ b, v'.ownBlock = some b → top ≤ b ∧ b < top') (ht : top ≤ top') (hp : vs'[k * 2]? = some p) (hq : vs'[k * 2 + 1]? = some q)
  (hpo : w'.ownsRow base 9 1 p (l'.getD k pt0).ag.length (scells (l'.getD k pt0).ag)) (hqo : w'.ownsRow base 35 2 q (l'.getD k pt0).ln.length (lcells (l'.getD k pt0).ln))
  (hpb : ∀ b, p.ownBlock = some b → top ≤ b ∧ b < top') (hqb : ∀ b, q.ownBlock = some b → top ≤ b ∧ b < top') (hpq : apt p q) (hpv : apt p v') (hqv : apt q v') : Inner w' base top' v' vs' l' (k + 1) := by
 have hv2 : ∀ b, v'.ownBlock = some b → v.ownBlock = some b ∨ top ≤ b := fun b hb => by
  rcases hv with e | e
  ·exact .inl (by rw [← e]; exact hb)
  exact .inr (e b hb).1
 have key : ∀ a x, a < (k + 1) * 2 → vs'[a]? = some x → (a < k * 2 ∧ vs[a]? = some x) ∨ (a = k * 2 ∧ x = p) ∨ (a = k * 2 + 1 ∧ x = q) := fun a x ha hx => by
  by_cases h1 : a < k * 2
  ·exact .inl ⟨h1, by rw [← hvs a h1]; exact hx⟩
  by_cases h2 : a = k * 2
  ·subst h2; rw [hp] at hx; injection hx with hx; exact .inr (.inl ⟨rfl, hx.symm⟩)
  obtain rfl : a = k * 2 + 1 := by omega
  rw [hq] at hx; injection hx with hx; exact .inr (.inr ⟨rfl, hx.symm⟩)
 refine ⟨fun i hi => ?_, fun a x ha hx => ?_, fun b hb => ?_⟩
 ·by_cases hik : i < k
  ·obtain ⟨p0, q0, h1, h2, h3, h4⟩ := h.1 i hik
   obtain ⟨a1, a2, _⟩ := h.2.1 _ p0 (by omega) h1
   obtain ⟨b1, b2, _⟩ := h.2.1 _ q0 (by omega) h2
   rw [hl i hik]
   exact ⟨p0, q0, by rw [hvs _ (by omega)]; exact h1, by rw [hvs _ (by omega)]; exact h2, own_at h3 fun b hb => hs b (h3.lt b hb).1 (a2 b hb) fun e => a1 b hb e.symm, own_at h4 fun b hb => hs b (h4.lt b hb).1 (b2 b hb) fun e => b1 b hb e.symm⟩
  obtain rfl : i = k := by omega
  exact ⟨p, q, hp, hq, hpo, hqo⟩
 ·rcases key a x ha hx with ⟨ha1, hx1⟩ | ⟨rfl, rfl⟩ | ⟨rfl, rfl⟩
  ·obtain ⟨a1, a2, a3⟩ := h.2.1 a x ha1 hx1
   refine ⟨fun b hb hb2 => ?_, fun b hb => Nat.lt_of_lt_of_le (a2 b hb) ht, fun c y hc hy hne => ?_⟩
   ·rcases hv2 b hb2 with e | e
    ·exact a1 b hb e
    have := a2 b hb; omega
   rcases key c y hc hy with ⟨hc1, hy1⟩ | ⟨rfl, rfl⟩ | ⟨rfl, rfl⟩
   ·exact a3 c y hc1 hy1 hne
   ·intro b e1 e2; have := a2 b e1; have := hpb b e2; omega
   intro b e1 e2; have := a2 b e1; have := hqb b e2; omega
  ·refine ⟨hpv, fun b hb => (hpb b hb).2, fun c y hc hy hne => ?_⟩
   rcases key c y hc hy with ⟨hc1, hy1⟩ | ⟨rfl, rfl⟩ | ⟨rfl, rfl⟩
   ·intro b e1 e2; have := (h.2.1 c y hc1 hy1).2.1 b e2; have := hpb b e1; omega
   ·exact absurd rfl hne
   exact hpq
  refine ⟨hqv, fun b hb => (hqb b hb).2, fun c y hc hy hne => ?_⟩
  rcases key c y hc hy with ⟨hc1, hy1⟩ | ⟨rfl, rfl⟩ | ⟨rfl, rfl⟩
  ·intro b e1 e2; have := (h.2.1 c y hc1 hy1).2.1 b e2; have := hqb b e1; omega
  ·exact hpq.symm
  exact absurd rfl hne
 rcases hv with e | e
 ·exact Nat.lt_of_lt_of_le (h.2.2 b (by rw [← e]; exact hb)) ht
 exact (e b hb).2
theorem Inner.at {w w' : World} {base top top' : Nat} {v p q p' q' : Value} {vs vs' : List Value} {l l' : List PT} {k i : Nat} (h : Inner w base top v vs l k) (hi : i < k) (hp : vs[i * 2]? = some p) (hq : vs[i * 2 + 1]? = some q)
  (hs : ∀ b, base ≤ b → b < top → some b ≠ v.ownBlock → some b ≠ p.ownBlock → some b ≠ q.ownBlock → w'.heap[b]? = w.heap[b]?) (hvs : ∀ c, c ≠ i * 2 → c ≠ i * 2 + 1 → vs'[c]? = vs[c]?) (hp' : vs'[i * 2]? = some p') (hq' : vs'[i * 2 + 1]? = some q')
  (hpo : w'.ownsRow base 9 1 p' (l'.getD i pt0).ag.length (scells (l'.getD i pt0).ag)) (hqo : w'.ownsRow base 35 2 q' (l'.getD i pt0).ln.length (lcells (l'.getD i pt0).ln))
  (hpb : p'.ownBlock = p.ownBlock ∨ ∀ b, p'.ownBlock = some b → top ≤ b ∧ b < top') (hqb : q'.ownBlock = q.ownBlock ∨ ∀ b, q'.ownBlock = some b → top ≤ b ∧ b < top') (hpq : apt p' q')
  (hl : ∀ j, j < k → j ≠ i → l'.getD j pt0 = l.getD j pt0) (ht : top ≤ top') : Inner w' base top' v vs' l' k := by
 obtain ⟨P1, P2, P3⟩ := h.2.1 _ p (by omega) hp
 obtain ⟨Q1, Q2, Q3⟩ := h.2.1 _ q (by omega) hq
 have old : ∀ {x x' : Value}, (∀ b, x.ownBlock = some b → b < top) → (x'.ownBlock = x.ownBlock ∨ ∀ b, x'.ownBlock = some b → top ≤ b ∧ b < top') → ∀ b, x'.ownBlock = some b → x.ownBlock = some b ∨ top ≤ b := fun _ hx b hb => by
  rcases hx with e | e
  ·exact .inl (by rw [← e]; exact hb)
  exact .inr (e b hb).1
 have lim : ∀ {x x' : Value}, (∀ b, x.ownBlock = some b → b < top) → (x'.ownBlock = x.ownBlock ∨ ∀ b, x'.ownBlock = some b → top ≤ b ∧ b < top') → ∀ b, x'.ownBlock = some b → b < top' := fun h0 hx b hb => by
  rcases hx with e | e
  ·exact Nat.lt_of_lt_of_le (h0 b (by rw [← e]; exact hb)) ht
  exact (e b hb).2
 have key : ∀ a x, a < k * 2 → vs'[a]? = some x → (a ≠ i * 2 ∧ a ≠ i * 2 + 1 ∧ vs[a]? = some x) ∨ (a = i * 2 ∧ x = p') ∨ (a = i * 2 + 1 ∧ x = q') := fun a x ha hx => by
  by_cases h1 : a = i * 2
  ·subst h1; rw [hp'] at hx; injection hx with hx; exact .inr (.inl ⟨rfl, hx.symm⟩)
  by_cases h2 : a = i * 2 + 1
  ·subst h2; rw [hq'] at hx; injection hx with hx; exact .inr (.inr ⟨rfl, hx.symm⟩)
  exact .inl ⟨h1, h2, by rw [← hvs a h1 h2]; exact hx⟩
 have far : ∀ {x x' y : Value}, apt x y → (∀ b, x.ownBlock = some b → b < top) → (∀ b, y.ownBlock = some b → b < top) → (x'.ownBlock = x.ownBlock ∨ ∀ b, x'.ownBlock = some b → top ≤ b ∧ b < top') → apt x' y := fun ha hx hy hx' b e1 e2 => by
  rcases old hx hx' b e1 with e | e
  ·exact ha b e e2
  have := hy b e2; omega
 refine ⟨fun j hj => ?_, fun a x ha hx => ?_, fun b hb => Nat.lt_of_lt_of_le (h.2.2 b hb) ht⟩
 ·by_cases hji : j = i
  ·subst hji; exact ⟨p', q', hp', hq', hpo, hqo⟩
  obtain ⟨p0, q0, h1, h2, h3, h4⟩ := h.1 j hj
  obtain ⟨a1, a2, a3⟩ := h.2.1 _ p0 (by omega) h1
  obtain ⟨b1, b2, b3⟩ := h.2.1 _ q0 (by omega) h2
  rw [hl j hj hji]
  refine ⟨p0, q0, by rw [hvs _ (by omega) (by omega)]; exact h1, by rw [hvs _ (by omega) (by omega)]; exact h2, own_at h3 fun b hb => hs b (h3.lt b hb).1 (a2 b hb) (fun e => a1 b hb e.symm) (fun e => a3 _ p (by omega) hp (by omega) b hb e.symm) (fun e => a3 _ q (by omega) hq (by omega) b hb e.symm), own_at h4 fun b hb => hs b (h4.lt b hb).1 (b2 b hb) (fun e => b1 b hb e.symm) (fun e => b3 _ p (by omega) hp (by omega) b hb e.symm) (fun e => b3 _ q (by omega) hq (by omega) b hb e.symm)⟩
 rcases key a x ha hx with ⟨n1, n2, hx1⟩ | ⟨rfl, rfl⟩ | ⟨rfl, rfl⟩
 ·obtain ⟨a1, a2, a3⟩ := h.2.1 a x ha hx1
  refine ⟨a1, fun b hb => Nat.lt_of_lt_of_le (a2 b hb) ht, fun c y hc hy hne => ?_⟩
  rcases key c y hc hy with ⟨_, _, hy1⟩ | ⟨rfl, rfl⟩ | ⟨rfl, rfl⟩
  ·exact a3 c y hc hy1 hne
  ·exact (far (a3 _ p (by omega) hp n1).symm P2 a2 hpb).symm
  exact (far (a3 _ q (by omega) hq n2).symm Q2 a2 hqb).symm
 ·refine ⟨far P1 P2 h.2.2 hpb, lim P2 hpb, fun c y hc hy hne => ?_⟩
  rcases key c y hc hy with ⟨m1, m2, hy1⟩ | ⟨rfl, rfl⟩ | ⟨rfl, rfl⟩
  ·obtain ⟨_, b2, b3⟩ := h.2.1 c y hc hy1
   exact far (b3 _ p (by omega) hp m1).symm P2 b2 hpb
  ·exact absurd rfl hne
  exact hpq
 refine ⟨far Q1 Q2 h.2.2 hqb, lim Q2 hqb, fun c y hc hy hne => ?_⟩
 rcases key c y hc hy with ⟨m1, m2, hy1⟩ | ⟨rfl, rfl⟩ | ⟨rfl, rfl⟩
 ·obtain ⟨_, b2, b3⟩ := h.2.1 c y hc hy1
  exact far (b3 _ q (by omega) hq m2).symm Q2 b2 hqb
 ·exact hpq.symm
 exact absurd rfl hne
def RobOwn (w : World) (base top : Nat) (v : Value) (l : List PT) : Prop := ∃ vs, w.ownsRow base 33 2 v l.length vs ∧ Inner w base top v vs l l.length
theorem RobOwn.same {w w' : World} {base top : Nat} {v : Value} {l : List PT} (h : RobOwn w base top v l) (hs : ∀ b, base ≤ b → b < top → w'.heap[b]? = w.heap[b]?) : RobOwn w' base top v l := by
 obtain ⟨vs, h1, h2⟩ := h
 exact ⟨vs, own_at h1 fun b hb => hs b (h1.lt b hb).1 (h2.2.2 b hb), h2.same (Nat.le_refl _) fun b hb hbt _ => hs b hb hbt⟩
theorem RobOwn.below {w w' : World} {base top : Nat} {v : Value} {l : List PT} (h : RobOwn w base top v l) (ht : top ≤ w.heap.size) (hb : Below w.heap.size w w') : RobOwn w' base top v l := h.same fun b _ hbt => hb.block b (by omega)
theorem RobOwn.row {w : World} {base top : Nat} {v : Value} {l : List PT} (h : RobOwn w base top v l) : PartRow w v l := by
 obtain ⟨vs, h1, h2⟩ := h
 by_cases h0 : l.length = 0
 ·have hl : l = [] := List.eq_nil_of_length_eq_zero h0
  rw [h0] at h1
  rcases h1.2 with ⟨rfl, _⟩ | ⟨g, cap, cur, rfl, _⟩
  ·exact .inl ⟨hl, _, _, rfl⟩
  exact .inl ⟨hl, _, _, rfl⟩
 rcases h1.2 with ⟨_, h3⟩ | ⟨g, cap, cur, rfl, _⟩
 ·exact absurd h3 h0
 refine .inr ⟨by omega, g, 0, cap - l.length, by rw [Nat.add_sub_cancel' (own_room h1)], (h1.lt g rfl).2, fun i hi => ?_⟩
 obtain ⟨p, q, a1, a2, a3, a4⟩ := h2.1 i hi
 refine ⟨p, q, ?_, StrRow.of_own a3, ?_, LineRow.of_own' a4⟩
 ·rw [Nat.zero_add, h1.cellAt (i * 2) (by omega)]; exact a1
 rw [Nat.zero_add, h1.cellAt (i * 2 + 1) (by omega)]; exact a2
theorem RobOwn.wide {w : World} {base top top' : Nat} {v : Value} {l : List PT} (h : RobOwn w base top v l) (ht : top ≤ top') : RobOwn w base top' v l := by
 obtain ⟨vs, h1, h2⟩ := h
 exact ⟨vs, h1, h2.same ht fun _ _ _ _ => rfl⟩
theorem RobOwn.down {w : World} {base base' top : Nat} {v : Value} {l : List PT} (h : RobOwn w base top v l) (hb : base' ≤ base) : RobOwn w base' top v l := by
 have wide : ∀ {e : TypeId} {size n : Nat} {x : Value} {ys : List Value}, w.ownsRow base e size x n ys → w.ownsRow base' e size x n ys := fun h => ⟨h.1, h.2.imp id fun ⟨g, cap, cur, h1, h2, h3⟩ => ⟨g, cap, cur, h1, Nat.le_trans hb h2, h3⟩⟩
 obtain ⟨vs, h1, h2, h3⟩ := h
 exact ⟨vs, wide h1, fun i hi => by
  obtain ⟨p, q, a1, a2, a3, a4⟩ := h2 i hi
  exact ⟨p, q, a1, a2, wide a3, wide a4⟩, h3⟩
theorem RobOwn.nil (w : World) (base top : Nat) : RobOwn w base top (.slice none 0 0) [] :=
 ⟨[], World.ownsRow_nil w base _ 2, fun i hi => absurd hi (Nat.not_lt_zero _), fun a x ha => absurd ha (by simp), fun b hb => by cases hb⟩
theorem robOk_nil : robOk [] := by
 constructor
 ·intro p hp; cases hp
 intro p hp; cases hp
theorem ps_last {ps : List PT} {p : PT} (h : ps.getLast? = some p) : ps = ps.dropLast ++ [p] := by
 have hne : ps ≠ [] := by intro e; rw [e] at h; cases h
 rw [List.getLast?_eq_some_getLast hne] at h
 injection h with h
 rw [← h]
 exact (List.dropLast_concat_getLast hne).symm
theorem robOk_step {ps : List PT} (h : robOk ps) (l : List UInt8) : robOk (stepP ps l) := by
 have hag : ∀ a : List UInt8, agOk ⟨(agL a).toArray⟩ := fun a => ⟨(ag_ag a).1, (ag_ag a).2⟩
 unfold stepP
 split
 ·exact h
 split
 ·unfold addAg
  cases hl : ps.getLast? with
  | none =>
   refine ⟨fun p hp => ?_, fun p hp => by cases hp⟩
   rw [List.mem_singleton.1 hp]
   exact ⟨by simp, fun a ha => by rw [List.mem_singleton.1 ha]; exact hag _, fun x hx => by cases hx⟩
  | some q =>
   have e := ps_last hl
   have hq := h.1 q (by rw [e]; simp)
   by_cases hln : q.ln.isEmpty = true
   ·show robOk (if q.ln.isEmpty = true then _ else _)
    rw [if_pos hln]
    refine ⟨fun p hp => ?_, fun p hp => ?_⟩
    ·rcases List.mem_append.1 hp with hp | hp
     ·exact h.1 p ((List.dropLast_sublist ps).subset hp)
     rw [List.mem_singleton.1 hp]
     refine ⟨by simp, fun a ha => ?_, hq.2.2⟩
     rcases List.mem_append.1 ha with ha | ha
     ·exact hq.2.1 a ha
     rw [List.mem_singleton.1 ha]; exact hag _
    rw [List.dropLast_concat] at hp
    exact h.2 p hp
   show robOk (if q.ln.isEmpty = true then _ else _)
   rw [if_neg hln]
   refine ⟨fun p hp => ?_, fun p hp => ?_⟩
   ·rcases List.mem_append.1 hp with hp | hp
    ·exact h.1 p hp
    rw [List.mem_singleton.1 hp]
    exact ⟨by simp, fun a ha => by rw [List.mem_singleton.1 ha]; exact hag _, fun x hx => by cases hx⟩
   rw [List.dropLast_concat] at hp
   rw [e] at hp
   rcases List.mem_append.1 hp with hp | hp
   ·exact h.2 p hp
   rw [List.mem_singleton.1 hp]
   intro e2
   rw [e2] at hln
   exact hln rfl
 have hadd : ∀ b v, robOk (addLn ps b v) := fun b v => by
  unfold addLn
  cases hl : ps.getLast? with
  | none => exact h
  | some q =>
   have e := ps_last hl
   have hq := h.1 q (by rw [e]; simp)
   by_cases hv : v.isEmpty = true
   ·show robOk (if v.isEmpty = true then _ else _)
    rw [if_pos hv]; exact h
   show robOk (if v.isEmpty = true then _ else _)
   rw [if_neg hv]
   have hvn : v ≠ [] := fun e => hv (by rw [e]; rfl)
   refine ⟨fun p hp => ?_, fun p hp => ?_⟩
   ·rcases List.mem_append.1 hp with hp | hp
    ·exact h.1 p ((List.dropLast_sublist ps).subset hp)
    rw [List.mem_singleton.1 hp]
    refine ⟨hq.1, hq.2.1, fun x hx => ?_⟩
    rcases List.mem_append.1 hx with hx | hx
    ·exact hq.2.2 x hx
    rw [List.mem_singleton.1 hx]
    exact ⟨pat_pos hvn, pat_pat _, pat_chars _⟩
   rw [List.dropLast_concat] at hp
   exact h.2 p hp
 split
 ·exact hadd _ _
 split
 ·exact hadd _ _
 exact h
theorem robOk_fold : ∀ (ls : List (List UInt8)) {ps : List PT}, robOk ps → robOk (ls.foldl stepP ps)
 | [], _, h => h
 | l :: ls, _, h => robOk_fold ls (robOk_step h l)
theorem rob_ok (l : List UInt8) : robOk (robL l) := robOk_fold _ robOk_nil
theorem spl_rows : ∀ {ls : List (List UInt8)}, (∀ x ∈ ls, ∀ c ∈ x, c ≠ 10) → spl 10 (ls.flatMap fun x => x ++ [10]) = ls ++ [[]]
 | [], _ => rfl
 | x :: ls, h => by
  rw [List.flatMap_cons, List.append_assoc, List.singleton_append, spl_app, spl_rows fun y hy => h y (List.mem_cons_of_mem _ hy), spl_none 10 fun c hc e => h x (by simp) c hc e]
  rfl
theorem noCr_same {l : List UInt8} (h : ∀ c ∈ l, c ≠ 13) : noCr l = l := by
 unfold noCr
 conv => rhs; rw [← List.map_id l]
 refine List.map_congr_left fun c hc => ?_
 rw [if_neg (h c hc)]
 rfl
theorem line_read {k v : List UInt8} (hk : ∀ c ∈ k, c ≠ 35 ∧ c ≠ 58) (hkt : lowerL (Lib.trimS k blanks4) = k) (hv : ∀ c ∈ v, c ≠ 35) (hvt : Lib.trimS (32 :: v) blanks4 = v) :
  hasK (k ++ [58, 32] ++ v) = true ∧ keyL (k ++ [58, 32] ++ v) = k ∧ valL (k ++ [58, 32] ++ v) = v := by
 have h35 : headC 35 (k ++ [58, 32] ++ v) = k ++ [58, 32] ++ v := takeWhile_all fun c hc => by
  unfold notB
  rcases List.mem_append.1 hc with hc | hc
  ·rcases List.mem_append.1 hc with hc | hc
   ·simpa using (hk c hc).1
   simp at hc
   rcases hc with rfl | rfl <;> rfl
  simpa using hv c hc
 have hh : ∀ k r : List UInt8, (∀ c ∈ k, c ≠ 58) → headC 58 (k ++ 58 :: r) = k ∧ restC 58 (k ++ 58 :: r) = 58 :: r := by
  intro k r
  induction k with
  | nil => intro _; exact ⟨rfl, rfl⟩
  | cons a k ih =>
   intro h
   have ha : notB 58 a = true := by unfold notB; simpa using h a (by simp)
   obtain ⟨i1, i2⟩ := ih fun c hc => h c (by simp [hc])
   unfold headC at i1
   unfold restC at i2
   unfold headC restC
   rw [List.cons_append, List.takeWhile_cons, List.dropWhile_cons, if_pos ha, if_pos ha, i1, i2]
   exact ⟨rfl, rfl⟩
 obtain ⟨h1, h2⟩ := hh k (32 :: v) fun c hc => (hk c hc).2
 have e : k ++ [58, 32] ++ v = k ++ 58 :: 32 :: v := by simp
 rw [e] at h35
 unfold hasK keyL valL
 rw [e, h35, h1, h2]
 exact ⟨rfl, hkt, hvt⟩
theorem trim_lead {v : List UInt8} (h : ∀ c ∈ v, c ≠ 32 ∧ c ≠ 9 ∧ c ≠ 10 ∧ c ≠ 13) : Lib.trimS (32 :: v) blanks4 = v := by
 have hc : ∀ c ∈ v, blanks4.contains c = false := fun c hc => by
  obtain ⟨h1, h2, h3, h4⟩ := h c hc
  simp [blanks4, h1, h2, h3, h4]
 cases v with
 | nil => decide +kernel
 | cons x xs =>
  unfold Lib.trimS
  have e1 : Lib.trimRightS (32 :: x :: xs) blanks4 = 32 :: x :: xs := by
   have := Lib.trimRightS_take (32 :: x :: xs) blanks4 (32 :: x :: xs).length (Nat.le_refl _) (fun j y hj hy => by rw [List.getElem?_eq_none (by omega)] at hy; cases hy) (fun y h0 hy => by
    rw [show (32 :: x :: xs).length - 1 = xs.length + 1 by simp, List.getElem?_cons_succ] at hy
    exact hc y (List.mem_of_getElem? hy))
   rwa [List.take_length] at this
  rw [e1]
  have := Lib.trimLeftS_drop (32 :: x :: xs) blanks4 1 (by simp) (fun j y hj hy => by
   obtain rfl : j = 0 := by omega
   injection hy with hy
   rw [← hy]
   rfl) (fun y hy => by
   rw [List.getElem?_cons_succ] at hy
   exact hc y (List.mem_of_getElem? hy))
  rwa [List.drop_succ_cons, List.drop_zero] at this
theorem ag_line {a : ByteArray} (h : agOk a) : hasK (agT a) = true ∧ keyL (agT a) = keyU ∧ valL (agT a) = a.data.toList := by
 have hch : ∀ c ∈ a.data.toList, c.toNat ≠ 10 ∧ c.toNat ≠ 13 ∧ c.toNat ≠ 32 ∧ c.toNat ≠ 9 ∧ c.toNat ≠ 35 ∧ c.toNat ≠ 58 := fun c hc => by
  refine ag_chars c.toNat c.toNat_lt ?_
  rcases h.2 c hc with rfl | h
  ·exact .inr rfl
  exact .inl (by simpa using h)
 refine line_read (by decide) (by decide +kernel) (fun c hc e => (hch c hc).2.2.2.2.1 (by rw [e]; rfl)) (trim_lead fun c hc => ?_)
 have := hch c hc
 exact ⟨fun e => this.2.2.1 (by rw [e]; rfl), fun e => this.2.2.2.1 (by rw [e]; rfl), fun e => this.1 (by rw [e]; rfl), fun e => this.2.1 (by rw [e]; rfl)⟩
theorem ln_line {x : LV} (h : lnOk x) : hasK (lnT x) = true ∧ keyL (lnT x) = (if x.al = true then keyA else keyD) ∧ valL (lnT x) = x.pa.data.toList := by
 have hch : ∀ c ∈ x.pa.data.toList, c.toNat ≠ 10 ∧ c.toNat ≠ 13 ∧ c.toNat ≠ 32 ∧ c.toNat ≠ 9 ∧ c.toNat ≠ 35 := fun c hc => pa_chars c.toNat c.toNat_lt (by simpa using h.2.2 c hc)
 unfold lnT
 cases x.al with
 | true =>
  refine line_read (by decide) (by decide +kernel) (fun c hc e => (hch c hc).2.2.2.2 (by rw [e]; rfl)) (trim_lead fun c hc => ?_)
  have := hch c hc
  exact ⟨fun e => this.2.2.1 (by rw [e]; rfl), fun e => this.2.2.2.1 (by rw [e]; rfl), fun e => this.1 (by rw [e]; rfl), fun e => this.2.1 (by rw [e]; rfl)⟩
 | false =>
  refine line_read (by decide) (by decide +kernel) (fun c hc e => (hch c hc).2.2.2.2 (by rw [e]; rfl)) (trim_lead fun c hc => ?_)
  have := hch c hc
  exact ⟨fun e => this.2.2.1 (by rw [e]; rfl), fun e => this.2.2.2.1 (by rw [e]; rfl), fun e => this.1 (by rw [e]; rfl), fun e => this.2.1 (by rw [e]; rfl)⟩
theorem step_ag {ps : List PT} {a : ByteArray} (h : agOk a) : stepP ps (agT a) = addAg ps a.data.toList := by
 obtain ⟨h1, h2, h3⟩ := ag_line h
 unfold stepP
 rw [if_neg (by rw [h1]; decide), if_pos h2, h3, h.1]
theorem step_ln {ps : List PT} {x : LV} (h : lnOk x) : stepP ps (lnT x) = addLn ps x.al x.pa.data.toList := by
 obtain ⟨h1, h2, h3⟩ := ln_line h
 unfold stepP
 rw [if_neg (by rw [h1]; decide), h2, h3]
 cases x.al with
 | true => rw [if_pos rfl, if_neg (by decide), if_pos rfl]
 | false => rw [if_neg (show ¬ (false = true) by decide), if_neg (by decide), if_neg (by decide), if_pos rfl]
theorem arr_id (a : ByteArray) : (⟨a.data.toList.toArray⟩ : ByteArray) = a := ba_eq.2 (by simp)
theorem fold_ags : ∀ (az : List ByteArray) (qs : List PT) (bs : List ByteArray), (∀ a ∈ az, agOk a) → (az.map agT).foldl stepP (qs ++ [⟨bs, []⟩]) = qs ++ [⟨bs ++ az, []⟩]
 | [], qs, bs, _ => by simp
 | a :: az, qs, bs, h => by
  rw [List.map_cons, List.foldl_cons, step_ag (h a (by simp))]
  have e : addAg (qs ++ [⟨bs, []⟩]) a.data.toList = qs ++ [⟨bs ++ [a], []⟩] := by
   unfold addAg
   rw [List.getLast?_concat]
   show (if ([] : List LV).isEmpty = true then _ else _) = _
   rw [if_pos (show ([] : List LV).isEmpty = true from rfl), List.dropLast_concat, arr_id]
  rw [e, fold_ags az qs (bs ++ [a]) fun x hx => h x (by simp [hx])]
  simp
theorem fold_lns : ∀ (xs : List LV) (qs : List PT) (bs : List ByteArray) (ys : List LV), (∀ x ∈ xs, lnOk x) → (xs.map lnT).foldl stepP (qs ++ [⟨bs, ys⟩]) = qs ++ [⟨bs, ys ++ xs⟩]
 | [], qs, bs, ys, _ => by simp
 | x :: xs, qs, bs, ys, h => by
  have hx := h x (by simp)
  rw [List.map_cons, List.foldl_cons, step_ln hx]
  have e : addLn (qs ++ [⟨bs, ys⟩]) x.al x.pa.data.toList = qs ++ [⟨bs, ys ++ [x]⟩] := by
   unfold addLn
   rw [List.getLast?_concat]
   show (if x.pa.data.toList.isEmpty = true then _ else _) = _
   have hne : ¬ x.pa.data.toList.isEmpty = true := fun e => by
    have := hx.1
    rw [List.isEmpty_iff.1 e] at this
    simp at this
   rw [if_neg hne, List.dropLast_concat, hx.2.1, arr_id]
  rw [e, fold_lns xs qs bs (ys ++ [x]) fun y hy => h y (by simp [hy])]
  simp
theorem fold_part {p : PT} {qs : List PT} (h : ptOk p) (hq : ∀ q, qs.getLast? = some q → q.ln ≠ []) : (linesP p).foldl stepP qs = qs ++ [p] := by
 obtain ⟨h1, h2, h3⟩ := h
 obtain ⟨ag, ln⟩ := p
 cases ag with
 | nil => exact absurd rfl h1
 | cons a az =>
  unfold linesP
  rw [List.foldl_append]
  show (ln.map lnT).foldl stepP (((a :: az).map agT).foldl stepP qs) = _
  rw [List.map_cons, List.foldl_cons, step_ag (h2 a (by simp))]
  have e : addAg qs a.data.toList = qs ++ [⟨[a], []⟩] := by
   unfold addAg
   cases hl : qs.getLast? with
   | none =>
    have : qs = [] := by
     cases qs with
     | nil => rfl
     | cons q qs => rw [List.getLast?_cons] at hl; cases hl
    rw [this, arr_id]
    rfl
   | some q =>
    show (if q.ln.isEmpty = true then _ else _) = _
    rw [if_neg (fun e => hq q hl (List.isEmpty_iff.1 e)), arr_id]
  rw [e, fold_ags az qs [a] fun x hx => h2 x (by simp [hx]), fold_lns ln qs _ [] h3]
  simp
theorem fold_parts : ∀ (ps qs : List PT), (∀ p ∈ ps, ptOk p) → (∀ p ∈ ps.dropLast, p.ln ≠ []) → (∀ q, qs.getLast? = some q → ps ≠ [] → q.ln ≠ []) → (ps.flatMap linesP).foldl stepP qs = qs ++ ps
 | [], qs, _, _, _ => by simp
 | p :: ps, qs, h, hd, hq => by
  rw [List.flatMap_cons, List.foldl_append, fold_part (h p (by simp)) (fun q hl => hq q hl (by simp))]
  rw [fold_parts ps (qs ++ [p]) (fun x hx => h x (by simp [hx])) (fun x hx => hd x ?_) (fun q hl hne => ?_)]
  ·simp
  ·cases ps with
   | nil => cases hx
   | cons y ys => exact List.mem_cons_of_mem _ hx
  rw [List.getLast?_concat] at hl
  injection hl with hl
  subst hl
  cases ps with
  | nil => exact absurd rfl hne
  | cons y ys => exact hd p (by simp)
theorem rob_back {ps : List PT} (h : robOk ps) (hl : (robT ps).length ≤ 20000) : robL (robT ps) = ps := by
 have hch : ∀ x ∈ ps.flatMap linesP, ∀ c ∈ x, c ≠ 10 ∧ c ≠ 13 := fun x hx c hc => by
  obtain ⟨p, hp, hx⟩ := List.mem_flatMap.1 hx
  obtain ⟨_, h2, h3⟩ := h.1 p hp
  have hU : ∀ c ∈ keyU ++ [58, 32], c ≠ 10 ∧ c ≠ 13 := by decide
  have hA : ∀ c ∈ keyA ++ [58, 32], c ≠ 10 ∧ c ≠ 13 := by decide
  have hD : ∀ c ∈ keyD ++ [58, 32], c ≠ 10 ∧ c ≠ 13 := by decide
  unfold linesP at hx
  rcases List.mem_append.1 hx with hx | hx
  ·obtain ⟨a, ha, rfl⟩ := List.mem_map.1 hx
   rcases List.mem_append.1 hc with hc | hc
   ·exact hU c hc
   have := ag_chars c.toNat c.toNat_lt (by
    rcases (h2 a ha).2 c hc with rfl | h
    ·exact .inr rfl
    exact .inl (by simpa using h))
   exact ⟨fun e => this.1 (by rw [e]; rfl), fun e => this.2.1 (by rw [e]; rfl)⟩
  obtain ⟨y, hy, rfl⟩ := List.mem_map.1 hx
  rcases List.mem_append.1 hc with hc | hc
  ·cases hal : y.al with
   | true => rw [hal] at hc; exact hA c hc
   | false => rw [hal] at hc; exact hD c hc
  have := pa_chars c.toNat c.toNat_lt (by simpa using (h3 y hy).2.2 c hc)
  exact ⟨fun e => this.1 (by rw [e]; rfl), fun e => this.2.1 (by rw [e]; rfl)⟩
 unfold robL
 rw [List.take_of_length_le hl, noCr_same, robT, spl_rows fun x hx c hc => (hch x hx c hc).1, List.foldl_append, fold_parts ps [] h.1 h.2 (fun q hl => by cases hl)]
 ·rfl
 intro c hc
 unfold robT at hc
 obtain ⟨x, hx, hc⟩ := List.mem_flatMap.1 hc
 rcases List.mem_append.1 hc with hc | hc
 ·exact (hch x hx c hc).2
 rw [List.mem_singleton.1 hc]; decide
end Go.Proofs.YtjdnemjcjodboaaDoor
