/- Rows of marks that a call owns, each in a block of its own. -/
import Derived.Test.YtdnlaijpgjpplaaRows
import Derived.Test.YtdnlaijpgjpplaaMrkSz
namespace Go.Proofs.Ytdnlaijpgjpplaa
open Go.RowKit
set_option linter.unusedVariables false

/-- Two values that lead to no block in common. -/
def apt (p q : Value) : Prop := ∀ b, p.ownBlock = some b → q.ownBlock ≠ some b
theorem apt.symm {p q : Value} (h : apt p q) : apt q p := fun b e1 e2 => h b e2 e1
/-- What is owned stays owned while its own block stays. -/
theorem own_at {w w' : World} {base : Nat} {e : TypeId} {size n : Nat} {v : Value} {xs : List Value} (h : w.ownsRow base e size v n xs) (hs : ∀ b, v.ownBlock = some b → w'.heap[b]? = w.heap[b]?) : w'.ownsRow base e size v n xs := by
  refine ⟨h.1, ?_⟩
  rcases h.2 with hn | ⟨g, cap, cur, rfl, hb, hgg, rest⟩
  · exact .inl hn
  · exact .inr ⟨g, cap, cur, rfl, hb, (hs g rfl).trans hgg, rest⟩
/-- Nothing but blocks from base up to top has turned, of those that were. -/
structure Only (base top : Nat) (w w' : World) : Prop where
  os : w'.os = w.os
  tape : w'.tape = w.tape
  output : w'.output = w.output
  size : w.heap.size ≤ w'.heap.size
  block : ∀ k, k < w.heap.size → (k < base ∨ top ≤ k) → w'.heap[k]? = w.heap[k]?
theorem Only.refl (base top : Nat) (w : World) : Only base top w w := ⟨rfl, rfl, rfl, Nat.le_refl _, fun _ _ _ => rfl⟩
theorem Only.trans {base top : Nat} {a b c : World} (h : Only base top a b) (k : Only base top b c) : Only base top a c :=
  ⟨k.os.trans h.os, k.tape.trans h.tape, k.output.trans h.output, Nat.le_trans h.size k.size, fun i hi hx => (k.block i (Nat.lt_of_lt_of_le hi h.size) hx).trans (h.block i hi hx)⟩
theorem Only.below {base top : Nat} {w w' : World} (h : Only base top w w') (hb : base ≤ w.heap.size) : Below base w w' := ⟨h.os, h.tape, h.output, h.size, fun k hk => h.block k (by omega) (.inl hk)⟩
theorem Only.of_below {base top : Nat} {w w' : World} (h : Below w.heap.size w w') : Only base top w w' := ⟨h.os, h.tape, h.output, h.size, fun k hk _ => h.block k hk⟩
theorem Only.of_grown {base top : Nat} {w w' : World} {r : Option Nat} (h : w.grownBy w' r) (hr : ∀ b, r = some b → base ≤ b ∧ b < top) : Only base top w w' :=
  ⟨h.os, h.tape, h.output, h.size, fun k hk hx => h.block k hk fun e => by have := hr k e.symm; omega⟩
theorem own_wide1 {w : World} {base base' : Nat} {e : TypeId} {size n : Nat} {v : Value} {xs : List Value} (h : w.ownsRow base e size v n xs) (hb : base' ≤ base) : w.ownsRow base' e size v n xs := by
  refine ⟨h.1, ?_⟩
  rcases h.2 with hn | ⟨g, cap, cur, h1, h2, rest⟩
  · exact .inl hn
  · exact .inr ⟨g, cap, cur, h1, Nat.le_trans hb h2, rest⟩
/-- k rows whose values are vs: each owned, each in a block of its own, none that of v. -/
def InR (w : World) (base top : Nat) (v : Value) (vs : List Value) (ll : List (List EV)) (k : Nat) : Prop :=
  (∀ i, i < k → ∃ x, vs[i]? = some x ∧ w.ownsRow base 35 2 x (ll.getD i []).length (ecells (ll.getD i []))) ∧
  (∀ a x, a < k → vs[a]? = some x → apt x v ∧ (∀ b, x.ownBlock = some b → b < top) ∧ ∀ c y, c < k → vs[c]? = some y → a ≠ c → apt x y) ∧ (∀ b, v.ownBlock = some b → b < top)
theorem InR.ge {w : World} {base top : Nat} {v : Value} {vs : List Value} {l : List (List EV)} {k : Nat} (h : InR w base top v vs l k) {a : Nat} {x : Value} (ha : a < k) (hx : vs[a]? = some x) : ∀ b, x.ownBlock = some b → base ≤ b := by
  obtain ⟨p, h1, h2⟩ := h.1 a ha
  intro b hb
  rw [hx] at h1
  injection h1 with h1
  subst h1
  exact (h2.lt b hb).1
theorem InR.same {w w' : World} {base top top' : Nat} {v : Value} {vs : List Value} {l : List (List EV)} {k : Nat} (h : InR w base top v vs l k) (ht : top ≤ top') (hs : ∀ b, base ≤ b → b < top → some b ≠ v.ownBlock → w'.heap[b]? = w.heap[b]?) : InR w' base top' v vs l k := by
  refine ⟨fun i hi => ?_, fun a x ha hx => ?_, fun b hb => Nat.lt_of_lt_of_le (h.2.2 b hb) ht⟩
  · obtain ⟨p, h1, h2⟩ := h.1 i hi
    obtain ⟨a1, a2, _⟩ := h.2.1 _ p hi h1
    exact ⟨p, h1, own_at h2 fun b hb => hs b (h2.lt b hb).1 (a2 b hb) fun e => a1 b hb e.symm⟩
  · obtain ⟨a1, a2, a3⟩ := h.2.1 a x ha hx
    exact ⟨a1, fun b hb => Nat.lt_of_lt_of_le (a2 b hb) ht, a3⟩
/-- One row more, above all that was there. -/
theorem InR.more {w w' : World} {base top top' : Nat} {v v' p : Value} {vs vs' : List Value} {l l' : List (List EV)} {k : Nat} (h : InR w base top v vs l k)
    (hs : ∀ b, base ≤ b → b < top → some b ≠ v.ownBlock → w'.heap[b]? = w.heap[b]?) (hvs : ∀ a, a < k → vs'[a]? = vs[a]?) (hl : ∀ i, i < k → l'.getD i [] = l.getD i [])
    (hv : v'.ownBlock = v.ownBlock ∨ ∀ b, v'.ownBlock = some b → top ≤ b ∧ b < top') (ht : top ≤ top') (hp : vs'[k]? = some p)
    (hpo : w'.ownsRow base 35 2 p (l'.getD k []).length (ecells (l'.getD k [])))
    (hpb : ∀ b, p.ownBlock = some b → top ≤ b ∧ b < top') (hpv : apt p v') : InR w' base top' v' vs' l' (k + 1) := by
  have hv2 : ∀ b, v'.ownBlock = some b → v.ownBlock = some b ∨ top ≤ b := fun b hb => by
    rcases hv with e | e
    · exact .inl (by rw [← e]; exact hb)
    · exact .inr (e b hb).1
  have key : ∀ a x, a < k + 1 → vs'[a]? = some x → (a < k ∧ vs[a]? = some x) ∨ (a = k ∧ x = p) := fun a x ha hx => by
    by_cases h1 : a < k
    · exact .inl ⟨h1, by rw [← hvs a h1]; exact hx⟩
    · obtain rfl : a = k := by omega
      rw [hp] at hx; injection hx with hx; exact .inr ⟨rfl, hx.symm⟩
  refine ⟨fun i hi => ?_, fun a x ha hx => ?_, fun b hb => ?_⟩
  · by_cases hik : i < k
    · obtain ⟨p0, h1, h3⟩ := h.1 i hik
      obtain ⟨a1, a2, _⟩ := h.2.1 _ p0 hik h1
      rw [hl i hik]
      exact ⟨p0, by rw [hvs _ hik]; exact h1, own_at h3 fun b hb => hs b (h3.lt b hb).1 (a2 b hb) fun e => a1 b hb e.symm⟩
    · obtain rfl : i = k := by omega
      exact ⟨p, hp, hpo⟩
  · rcases key a x ha hx with ⟨ha1, hx1⟩ | ⟨rfl, rfl⟩
    · obtain ⟨a1, a2, a3⟩ := h.2.1 a x ha1 hx1
      refine ⟨fun b hb hb2 => ?_, fun b hb => Nat.lt_of_lt_of_le (a2 b hb) ht, fun c y hc hy hne => ?_⟩
      · rcases hv2 b hb2 with e | e
        · exact a1 b hb e
        · have := a2 b hb; omega
      · rcases key c y hc hy with ⟨hc1, hy1⟩ | ⟨rfl, rfl⟩
        · exact a3 c y hc1 hy1 hne
        · intro b e1 e2; have := a2 b e1; have := hpb b e2; omega
    · refine ⟨hpv, fun b hb => (hpb b hb).2, fun c y hc hy hne => ?_⟩
      rcases key c y hc hy with ⟨hc1, hy1⟩ | ⟨rfl, rfl⟩
      · intro b e1 e2; have := (h.2.1 c y hc1 hy1).2.1 b e2; have := hpb b e1; omega
      · exact absurd rfl hne
  · rcases hv with e | e
    · exact Nat.lt_of_lt_of_le (h.2.2 b (by rw [← e]; exact hb)) ht
    · exact (e b hb).2
/-- One row more, ahead of the others, apart from them all. -/
theorem InR.cons {w : World} {base top : Nat} {v p : Value} {vs : List Value} {l : List (List EV)} {m : List EV} {k : Nat} (h : InR w base top v vs l k) (hpo : w.ownsRow base 35 2 p m.length (ecells m))
    (hpt : ∀ b, p.ownBlock = some b → b < top) (hpv : apt p v) (hpx : ∀ a x, a < k → vs[a]? = some x → apt p x) : InR w base top v (p :: vs) (m :: l) (k + 1) := by
  refine ⟨fun i hi => ?_, fun a x ha hx => ?_, h.2.2⟩
  · cases i with
    | zero => exact ⟨p, rfl, hpo⟩
    | succ i => exact h.1 i (by omega)
  · cases a with
    | zero =>
      obtain rfl : p = x := by simpa using hx
      refine ⟨hpv, hpt, fun c y hc hy hne => ?_⟩
      cases c with
      | zero => exact absurd rfl hne
      | succ c => exact hpx c y (by omega) (by simpa using hy)
    | succ a =>
      have hx' : vs[a]? = some x := by simpa using hx
      obtain ⟨a1, a2, a3⟩ := h.2.1 a x (by omega) hx'
      refine ⟨a1, a2, fun c y hc hy hne => ?_⟩
      cases c with
      | zero =>
        obtain rfl : p = y := by simpa using hy
        exact (hpx a x (by omega) hx').symm
      | succ c => exact a3 c y (by omega) (by simpa using hy) (by omega)
theorem InR.tail {w : World} {base top : Nat} {v p : Value} {vs : List Value} {l : List (List EV)} {m : List EV} {k : Nat} (h : InR w base top v (p :: vs) (m :: l) (k + 1)) : InR w base top v vs l k := by
  refine ⟨fun i hi => h.1 (i + 1) (by omega), fun a x ha hx => ?_, h.2.2⟩
  obtain ⟨a1, a2, a3⟩ := h.2.1 (a + 1) x (by omega) (by simpa using hx)
  exact ⟨a1, a2, fun c y hc hy hne => a3 (c + 1) y (by omega) (by simpa using hy) (by omega)⟩
/-- One row is turned in its place. -/
theorem InR.at {w w' : World} {base top : Nat} {v p : Value} {vs : List Value} {l l' : List (List EV)} {k i : Nat} (h : InR w base top v vs l k) (hi : i < k) (hp : vs[i]? = some p)
    (hs : ∀ b, base ≤ b → b < top → some b ≠ v.ownBlock → some b ≠ p.ownBlock → w'.heap[b]? = w.heap[b]?) (hpo : w'.ownsRow base 35 2 p (l'.getD i []).length (ecells (l'.getD i [])))
    (hl : ∀ j, j < k → j ≠ i → l'.getD j [] = l.getD j []) : InR w' base top v vs l' k := by
  refine ⟨fun j hj => ?_, fun a x ha hx => h.2.1 a x ha hx, h.2.2⟩
  by_cases hji : j = i
  · subst hji; exact ⟨p, hp, hpo⟩
  · obtain ⟨p0, h1, h3⟩ := h.1 j hj
    obtain ⟨a1, a2, a3⟩ := h.2.1 _ p0 hj h1
    rw [hl j hj hji]
    exact ⟨p0, h1, own_at h3 fun b hb => hs b (h3.lt b hb).1 (a2 b hb) (fun e => a1 b hb e.symm) (fun e => a3 _ p hi hp hji b hb e.symm)⟩
/-- Rows of marks in a row, all of them owned. -/
def RunOwn (w : World) (base top : Nat) (v : Value) (ll : List (List EV)) : Prop := ∃ vs, w.ownsRow base 24 1 v ll.length vs ∧ InR w base top v vs ll ll.length
/-- What was seen, owned. -/
def SnOwn (w : World) (base top : Nat) (vm vr : Value) (m : List EV) (ll : List (List EV)) : Prop := ∃ vs, w.ownsRow base 24 1 vr ll.length vs ∧ InR w base top vr (vm :: vs) (m :: ll) (ll.length + 1)
theorem RunRow.of_own {w : World} {base top : Nat} {v : Value} {ll : List (List EV)} {vs : List Value} (h1 : w.ownsRow base 24 1 v ll.length vs) (h2 : InR w base top v vs ll ll.length) : RunRow w v ll := by
  by_cases h0 : ll.length = 0
  · have hl : ll = [] := List.eq_nil_of_length_eq_zero h0
    rw [h0] at h1
    rcases h1.2 with ⟨rfl, _⟩ | ⟨g, cap, cur, rfl, _⟩
    · exact .inl ⟨hl, _, _, rfl⟩
    · exact .inl ⟨hl, _, _, rfl⟩
  · rcases h1.2 with ⟨_, h3⟩ | ⟨g, cap, cur, rfl, _⟩
    · exact absurd h3 h0
    · refine .inr ⟨by omega, g, 0, cap - ll.length, by rw [Nat.add_sub_cancel' (own_room h1)], (h1.lt g rfl).2, fun i hi => ?_⟩
      obtain ⟨x, a1, a2⟩ := h2.1 i hi
      exact ⟨x, by rw [Nat.zero_add, h1.cellAt i (by omega)]; exact a1, EntRow.of_own' a2⟩
theorem RunOwn.row {w : World} {base top : Nat} {v : Value} {ll : List (List EV)} (h : RunOwn w base top v ll) : RunRow w v ll := by
  obtain ⟨vs, h1, h2⟩ := h
  exact RunRow.of_own h1 h2
theorem SnOwn.mem {w : World} {base top : Nat} {vm vr : Value} {m : List EV} {ll : List (List EV)} (h : SnOwn w base top vm vr m ll) : w.ownsRow base 35 2 vm m.length (ecells m) := by
  obtain ⟨vs, h1, h2⟩ := h
  obtain ⟨x, a1, a2⟩ := h2.1 0 (by omega)
  obtain rfl : vm = x := by simpa using a1
  exact a2
theorem SnOwn.runs {w : World} {base top : Nat} {vm vr : Value} {m : List EV} {ll : List (List EV)} (h : SnOwn w base top vm vr m ll) : RunOwn w base top vr ll := by
  obtain ⟨vs, h1, h2⟩ := h
  exact ⟨vs, h1, h2.tail⟩
theorem SnOwn.same {w w' : World} {base top : Nat} {vm vr : Value} {m : List EV} {ll : List (List EV)} (h : SnOwn w base top vm vr m ll) (hs : ∀ b, base ≤ b → b < top → w'.heap[b]? = w.heap[b]?) : SnOwn w' base top vm vr m ll := by
  obtain ⟨vs, h1, h2⟩ := h
  exact ⟨vs, own_at h1 fun b hb => hs b (h1.lt b hb).1 (h2.2.2 b hb), h2.same (Nat.le_refl _) fun b h3 h4 _ => hs b h3 h4⟩
theorem SnOwn.below {w w' : World} {base top : Nat} {vm vr : Value} {m : List EV} {ll : List (List EV)} (h : SnOwn w base top vm vr m ll) (ht : top ≤ w.heap.size) (hb : Below w.heap.size w w') : SnOwn w' base top vm vr m ll := h.same fun b _ h2 => hb.block b (by omega)
theorem InR.wide {w : World} {base base' top : Nat} {v : Value} {vs : List Value} {l : List (List EV)} {k : Nat} (h : InR w base top v vs l k) (hb : base' ≤ base) : InR w base' top v vs l k := by
  refine ⟨fun i hi => ?_, h.2.1, h.2.2⟩
  obtain ⟨x, h1, h2⟩ := h.1 i hi
  exact ⟨x, h1, own_wide1 h2 hb⟩
theorem SnOwn.wide {w : World} {base base' top : Nat} {vm vr : Value} {m : List EV} {ll : List (List EV)} (h : SnOwn w base top vm vr m ll) (hb : base' ≤ base) : SnOwn w base' top vm vr m ll := by
  obtain ⟨vs, h1, h2⟩ := h
  exact ⟨vs, own_wide1 h1 hb, h2.wide hb⟩
theorem RunOwn.below {w w' : World} {base top : Nat} {v : Value} {ll : List (List EV)} (h : RunOwn w base top v ll) (ht : top ≤ w.heap.size) (hb : Below w.heap.size w w') : RunOwn w' base top v ll := by
  obtain ⟨vs, h1, h2⟩ := h
  exact ⟨vs, own_at h1 fun b hb2 => hb.block b (by have := h2.2.2 b hb2; omega), h2.same (Nat.le_refl _) fun b _ h4 _ => hb.block b (by omega)⟩
theorem RunOwn.wide {w : World} {base base' top : Nat} {v : Value} {ll : List (List EV)} (h : RunOwn w base top v ll) (hb : base' ≤ base) : RunOwn w base' top v ll := by
  obtain ⟨vs, h1, h2⟩ := h
  exact ⟨vs, own_wide1 h1 hb, h2.wide hb⟩
/-- Both together: marks and rows in blocks apart. -/
theorem SnOwn.mk {w : World} {base top lo top1 : Nat} {vm vr : Value} {m : List EV} {ll : List (List EV)} (hm : w.ownsRow base 35 2 vm m.length (ecells m)) (hr : RunOwn w lo top1 vr ll) (hb : base ≤ lo) (ht : top1 ≤ top) (hmt : ∀ b, vm.ownBlock = some b → b < top) (hx : ∀ b, vm.ownBlock = some b → b < lo ∨ top1 ≤ b) : SnOwn w base top vm vr m ll := by
  obtain ⟨vs, h1, h2⟩ := hr
  refine ⟨vs, own_wide1 h1 hb, InR.cons ((h2.wide hb).same ht fun _ _ _ _ => rfl) hm hmt (fun b e1 e2 => ?_) (fun a x ha hx' b e1 e2 => ?_)⟩
  · have := hx b e1; have := (h1.lt b e2).1; have := h2.2.2 b e2; omega
  · have := hx b e1; have := h2.ge ha hx' b e2; have := (h2.2.1 a x ha hx').2.1 b e2; omega
end Go.Proofs.Ytdnlaijpgjpplaa
