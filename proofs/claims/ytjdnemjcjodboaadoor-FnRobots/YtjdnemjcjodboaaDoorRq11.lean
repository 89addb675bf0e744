/- RobLineI, RobLineI2. -/
import Derived.Test.YtjdnemjcjodboaaDoorRq10
import Derived.Deep.CutBlock
set_option maxHeartbeats 8000000
set_option maxRecDepth 100000
namespace Go.Proofs.YtjdnemjcjodboaaDoor
open Go.RowKit
set_option linter.unusedVariables false
theorem Tryd.infoPt3 : (Tryd.prog.info? 33).map (fun i => (i.zero, i.size, i.bytes)) = some (some (.agg #[.slice none 0 0, .slice none 0 0]), 2, 48) := by kernel_rfl
theorem rob_put2 {w w6 : World} {base gv cv m : Nat} {L L' : List PT} {vs : List Value} {p q p' q' : Value} (hm : L.length = m + 1) (h1 : w.ownsRow base 33 2 (.slice (some ⟨gv, 0, none⟩) (m + 1) cv) (m + 1) vs) (h2 : Inner w base w.heap.size (.slice (some ⟨gv, 0, none⟩) (m + 1) cv) vs L (m + 1))
  (hp : vs[m * 2]? = some p) (hq : vs[m * 2 + 1]? = some q) (hs : ∀ b, base ≤ b → b < w.heap.size → some b ≠ p.ownBlock → some b ≠ q.ownBlock → w6.heap[b]? = w.heap[b]?) (hz : w.heap.size ≤ w6.heap.size)
  (hpo : w6.ownsRow base 9 1 p' (L'.getD m pt0).ag.length (scells (L'.getD m pt0).ag)) (hqo : w6.ownsRow base 35 2 q' (L'.getD m pt0).ln.length (lcells (L'.getD m pt0).ln))
  (hpb : p'.ownBlock = p.ownBlock ∨ ∀ b, p'.ownBlock = some b → w.heap.size ≤ b) (hqb : q'.ownBlock = q.ownBlock ∨ ∀ b, q'.ownBlock = some b → w.heap.size ≤ b) (hpq : apt p' q')
  (hlen : L'.length = L.length) (hl : ∀ j, j < L.length → j ≠ m → L'.getD j pt0 = L.getD j pt0) :
  RobOwn ((w6.setCell ⟨gv, m * 2, none⟩ p').setCell ⟨gv, m * 2 + 1, none⟩ q') base ((w6.setCell ⟨gv, m * 2, none⟩ p').setCell ⟨gv, m * 2 + 1, none⟩ q').heap.size (.slice (some ⟨gv, 0, none⟩) (m + 1) cv) L' ∧
   w6.cell? ⟨gv, m * 2, none⟩ = some p ∧ w6.cell? ⟨gv, m * 2 + 1, none⟩ = some q ∧ (∀ j, w6.frozen? ⟨gv, j, none⟩ = false) ∧ base ≤ gv ∧ ((w6.setCell ⟨gv, m * 2, none⟩ p').setCell ⟨gv, m * 2 + 1, none⟩ q').ownsRow base 33 2 (.slice (some ⟨gv, 0, none⟩) (m + 1) cv) (m + 1) ((vs.set (m * 2) p').set (m * 2 + 1) q') := by
 obtain ⟨P1, _, _⟩ := h2.2.1 _ p (by omega) hp
 obtain ⟨Q1, _, _⟩ := h2.2.1 _ q (by omega) hq
 have hg := h1.lt gv rfl
 have hvl : vs.length = (m + 1) * 2 := h1.1
 have f1 := own_at h1 (w' := w6) fun b e => by
  have e' : gv = b := by injection e
  subst e'
  exact hs gv hg.1 hg.2 (fun e2 => P1 gv e2.symm rfl) (fun e2 => Q1 gv e2.symm rfl)
 refine ⟨?_, by rw [f1.cellAt (m * 2) (by omega)]; exact hp, by rw [f1.cellAt (m * 2 + 1) (by omega)]; exact hq, fun j => f1.frozenAt j, hg.1, ((f1.stored (m * 2) p').1.stored (m * 2 + 1) q').1⟩
 obtain ⟨S1, _⟩ := f1.stored (m * 2) p'
 obtain ⟨S2, _⟩ := S1.stored (m * 2 + 1) q'
 rw [show m + 1 = L.length from hm.symm] at h1 h2 S2 ⊢
 refine RobOwn.put (w := w) (w1 := w6) (i := m) (by omega) h1 h2 hp hq hs hz hpo hqo hpb hqb hpq hlen hl S2 (fun b hne => ?_) (by simp) (fun c h1 h2 => ?_) ?_ ?_
 ·rw [Below.heap_setCell _ _ _ _ hne, Below.heap_setCell _ _ _ _ hne]
 ·rw [List.getElem?_set_ne (Ne.symm h2), List.getElem?_set_ne (Ne.symm h1)]
 ·rw [List.getElem?_set_ne (by omega), List.getElem?_set_self (by omega)]
 rw [List.getElem?_set_self (by rw [List.length_set]; omega)]
theorem own_uniq {w : World} {b b' : Nat} {e e' : TypeId} {size n : Nat} {v : Value} {xs ys : List Value} (h : w.ownsRow b e size v n xs) (h' : w.ownsRow b' e' size v n ys) : xs = ys := by
 rcases h.2 with ⟨rfl, rfl⟩ | ⟨g, cap, cur, rfl, _, h1, _, _, _, h2⟩
 ·rw [List.eq_nil_of_length_eq_zero (by have := h.1; omega : xs.length = 0), List.eq_nil_of_length_eq_zero (by have := h'.1; omega : ys.length = 0)]
 rcases h'.2 with ⟨k, _⟩ | ⟨g', cap', cur', k, _, k1, _, _, _, k2⟩
 ·cases k
 simp only [Value.slice.injEq, Option.some.injEq, Addr.mk.injEq, and_true, true_and] at k
 obtain ⟨rfl, _⟩ := k
 rw [h1] at k1
 injection k1 with k1
 injection k1 with k1
 rw [← h2, ← k2, k1]
def OffG (w : World) (v : Value) (n g : Nat) : Prop := v.ownBlock ≠ some g ∧ ∀ base vs, w.ownsRow base 33 2 v n vs → ∀ x ∈ vs, x.ownBlock ≠ some g
theorem OffG.of {w : World} {base n g : Nat} {v : Value} {vs : List Value} (h : w.ownsRow base 33 2 v n vs) (hv : v.ownBlock ≠ some g) (hx : ∀ x ∈ vs, x.ownBlock ≠ some g) : OffG w v n g := ⟨hv, fun base' vs' h' => by rw [own_uniq h' h]; exact hx⟩
theorem OffG.below {w w' : World} {base top g : Nat} {v : Value} {l : List PT} (h : OffG w v l.length g) (hr : RobOwn w base top v l) (hb : Below w.heap.size w w') : OffG w' v l.length g := by
 obtain ⟨vs, h1, _⟩ := hr
 exact OffG.of (own_below h1 hb) h.1 (h.2 base vs h1)
theorem mem_set2 {vs : List Value} {i j : Nat} {a b x : Value} (h : x ∈ (vs.set i a).set j b) : x ∈ vs ∨ x = a ∨ x = b := by
 rcases List.mem_or_eq_of_mem_set h with h | h
 ·rcases List.mem_or_eq_of_mem_set h with h | h
  ·exact .inl h
  exact .inr (.inl h)
 exact .inr (.inr h)
theorem wpList_append_ruleN {P : Program} (wr : World) (N : Nat) (hN : wr.heap.size = N) {ops : Array Oper} {rest : List Oper} {o : Oper} {a : Act} {Q : Exit → Act → World → Prop}
  (hg : o.guard = none) (s x : Operand) (t : TypeId) (hop : o.op = .call { callee := .builtin .append, args := #[s, x], argTypes := #[t, t] })
  (B : Nat) (e : TypeId) (z : Value) (bytes : Nat) (ht : P.underlying t = some (.slice e)) (hinfo : (P.info? e).map (fun i => (i.zero, i.size, i.bytes)) = some (some z, 2, bytes)) (hz : z.cells.size = 2)
  (v : Value) (n : Nat) (xs : List Value) (hs : a.eval s = v) (hown : wr.ownsRow B e 2 v n xs)
  (p q : Value) (hx : a.eval x = .slice (some ⟨N, 0, none⟩) 1 1) (h1 : p.oneCell' = true) (h2 : q.oneCell' = true)
  (hroom : (n + 1) * bytes ≤ 140737488355328) (hroom' : n + 1 ≤ maxLen) (hB : B ≤ wr.heap.size)
  (hK : ∀ v' w1, w1.ownsRow B e 2 v' (n + 1) (xs ++ [p, q]) → wr.grownBy w1 v.ownBlock → (v'.ownBlock = v.ownBlock ∨ v'.ownBlock = some (wr.heap.size + 1)) → wpList P ops Q rest (a.put o.dst v') w1) :
  wpList P ops Q (o :: rest) a (wr.alloc (.cells #[p, q] e)) := by
 subst hN
 exact wpList_append_rule wr hg s x t hop B e z bytes ht hinfo hz v n xs hs hown p q hx h1 h2 hroom hroom' hB hK
theorem implWithLineA (acc : List PT) (v : Value) (KV VV AV : ByteArray) (base g : Nat) (w : World) (hgw : g < w.heap.size) (hoff : OffG w v acc.length g) (hk : (KV.toList == [117, 115, 101, 114, 45, 97, 103, 101, 110, 116]) = true) (hn : acc.length ≤ 1048576) (han : (lastG (openP acc)).ag.length ≤ 1048576) (hb : base ≤ w.heap.size)
  (CA : Hid (∀ W, Calls Tryd.prog 11 #[.string VV] W fun e w' => e = .returned (.string AV) ∧ Below W.heap.size W w')) (h : RobOwn w base w.heap.size v acc) :
  Calls Tryd.prog 19 #[v, .string KV, .string VV] w fun e w' => ∃ v', e = .returned v' ∧ RobOwn w' base w'.heap.size v' (setAg (openP acc) AV) ∧ Below base w w' ∧ OffG w' v' (setAg (openP acc) AV).length g ∧ w'.heap[g]? = w.heap[g]? := by
 have CT : Hid (CS 45 #[v] w (.bool (!newP acc))) := implTakes acc v base w.heap.size w hn h
 obtain ⟨ao, c, hv⟩ := h.row.slice
 obtain ⟨n, hnn⟩ : ∃ n, acc.length = n := ⟨_, rfl⟩
 have HNN : Hid (acc.length = n) := hnn
 rw [hnn] at hv hn hoff
 subst hv
 have HOFF : Hid (OffG w (.slice ao n c) n g) := hoff
 clear hoff
 clear hnn
 have HRO : Hid (RobOwn w base w.heap.size (.slice ao n c) acc) := h
 clear h
 have hni : (n : Int) ≤ 1048576 := by omega
 go_enter Tryd.func19, Tryd.ntmps19
 go_upto_block 2 with fail
 go_cut [0] (fun v wx => ∃ (m gv cv : Nat), v = .slice (some ⟨gv, 0, none⟩) (m + 1) cv ∧ Hid (RobOwn wx base wx.heap.size (.slice (some ⟨gv, 0, none⟩) (m + 1) cv) (openP acc)) ∧ Hid ((openP acc).length = m + 1) ∧ Below base w wx ∧ m ≤ 1048576 ∧ Hid (OffG wx (.slice (some ⟨gv, 0, none⟩) (m + 1) cv) (m + 1) g) ∧ Hid (wx.heap[g]? = w.heap[g]?))
 case first =>
  cases hnp : newP acc with
  | false =>
   rw [hnp] at CT
   have HSAME : Hid (openP acc = acc) := by show _ = _; unfold openP; rw [hnp]; rfl
   have hpos : 0 < acc.length := by have := openP_pos acc; rwa [HSAME.out] at this
   obtain ⟨m, hm⟩ : ∃ m, n = m + 1 := ⟨n - 1, by have := HNN.out; omega⟩
   obtain ⟨gv, cv, vs, p, q, hv, _⟩ := HRO.out.last (HNN.out.trans hm)
   simp only [Value.slice.injEq] at hv
   obtain ⟨rfl, hnm2, rfl⟩ := hv
   clear hnm2
   have HR2 : Hid (RobOwn w base w.heap.size (.slice (some ⟨gv, 0, none⟩) (m + 1) c) (openP acc)) := by rw [HSAME.out, ← hm]; exact HRO
   have HLM : Hid ((openP acc).length = m + 1) := by rw [HSAME.out]; exact HNN.out.trans hm
   have HMM : Hid (n = m + 1) := hm
   clear hnp hpos hm
   go_wp2_with fail
   refine CT.out.mono ?_
   rintro e w' ⟨rfl, rfl⟩
   go_wp2_with fail
   go_meet
   case rel => exact ⟨m, gv, c, by rw [← HMM.out], HR2, HLM, Below.refl _ _, by have := HMM.out; omega, by rw [← HMM.out]; exact HOFF, rfl⟩
  | true =>
   have HNEW : Hid (openP acc = acc ++ [pt0]) := by show _ = _; unfold openP; rw [hnp]; rfl
   obtain ⟨vs0, k1, k2⟩ := HRO.out
   have K1 : Hid (w.ownsRow base 33 2 (.slice ao n c) acc.length vs0) := k1
   have K2 : Hid (Inner w base w.heap.size (.slice ao n c) vs0 acc acc.length) := k2
   obtain ⟨W0, hW0⟩ : ∃ W0, W0 = (w.alloc (.cells #[] 9)).alloc (.cells #[] 35) := ⟨_, rfl⟩
   have bW : Below w.heap.size w W0 := by rw [hW0]; exact ((Below.refl _ _).alloc (Nat.le_refl _) _).alloc (by simp) _
   have K3 : Hid (W0.ownsRow base 33 2 (.slice ao n c) n vs0) := by have := own_below k1 bW; rw [HNN.out] at this; exact this
   have P0 : Hid (W0.ownsRow w.heap.size 9 1 (.slice (some ⟨w.heap.size, 0, none⟩) 0 0) 0 []) := by
    rw [hW0]
    exact (World.ownsRow_made (e := 9) (size := 1) (base := w.heap.size) w #[] 0 (Nat.le_refl _) (by decide) rfl).alloc _
   have Q0 : Hid (W0.ownsRow w.heap.size 35 2 (.slice (some ⟨w.heap.size + 1, 0, none⟩) 0 0) 0 []) := by
    have := World.ownsRow_made (e := 35) (size := 2) (base := w.heap.size) (w.alloc (.cells #[] 9)) #[] 0 (by simp) (by decide) rfl
    rw [World.size_alloc, ← hW0] at this
    exact this
   have AP0 : Hid (apt (.slice (some ⟨w.heap.size, 0, none⟩) 0 0) (.slice (some ⟨w.heap.size + 1, 0, none⟩) 0 0)) := fun b e1 e2 => by
    injection e1 with e1
    injection e2 with e2
    have h1 : w.heap.size = b := e1
    have h2 : w.heap.size + 1 = b := e2
    omega
   have hzW : W0.heap.size = w.heap.size + 1 + 1 := by rw [hW0]; simp
   have hBW : base ≤ W0.heap.size := by omega
   rw [hnp] at CT
   clear k1 k2 hnp
   subst hW0
   go_wp2_with fail
   refine CT.out.mono ?_
   rintro e w' ⟨rfl, rfl⟩
   clear CT
   go_upto_region 6 with fail
   go_wp2_with (at_builtin; refine wpList_append_ruleN _ (w.heap.size + 1 + 1) hzW rfl _ _ 24 rfl base 33 (.agg #[.slice none 0 0, .slice none 0 0]) 48 Tryd.underlying24 Tryd.infoPt3 rfl (.slice ao n c) n vs0 rfl K3.out (.slice (some ⟨w.heap.size, 0, none⟩) 0 0) (.slice (some ⟨w.heap.size + 1, 0, none⟩) 0 0) rfl rfl rfl (by omega) (by unfold maxLen; omega) hBW ?_)
   intro v5 w5 o5 g5 hat5
   have RO5 := RobOwn.snoc (x := pt0) K1.out K2.out (fun b hb => bW.block b hb) bW.size hb P0.out Q0.out AP0.out (by rw [HNN.out]; exact o5) g5 (hat5.imp id fun h b e => by rw [h] at e; injection e with e; omega)
   have B5 : Below base w w5 := (bW.mono hb).grown g5 hBW fun b e => (K3.out.lt b e).1
   have HG5 : Hid (w5.heap[g]? = w.heap[g]?) := (g5.block g (Nat.lt_of_lt_of_le hgw bW.size) fun e => HOFF.out.1 e.symm).trans (bW.block g hgw)
   have HOF5 : Hid (OffG w5 v5 (n + 1) g) := OffG.of o5 (by
    rcases hat5 with h | h
    ·rw [h]; exact HOFF.out.1
    ·rw [h]; intro e; injection e with e; omega) (fun x hx => by
    rcases List.mem_append.1 hx with h | h
    ·exact HOFF.out.2 base vs0 (by have := K1.out; rw [HNN.out] at this; exact this) x h
    simp at h
    rcases h with rfl | rfl
    ·intro e; injection e with e; have e2 : w.heap.size = g := e; omega
    intro e; injection e with e; have e2 : w.heap.size + 1 = g := e; omega)
   obtain ⟨gv, cv, rfl⟩ : ∃ gv cv, v5 = .slice (some ⟨gv, 0, none⟩) (n + 1) cv := by
    rcases o5.2 with ⟨_, h⟩ | ⟨gv, cv, cur, h, _⟩
    ·omega
    exact ⟨gv, cv, h⟩
   have HR2 : Hid (RobOwn w5 base w5.heap.size (.slice (some ⟨gv, 0, none⟩) (n + 1) cv) (openP acc)) := by rw [HNEW.out]; exact RO5
   have HLM : Hid ((openP acc).length = n + 1) := by show _ = _; rw [HNEW.out, List.length_append, HNN.out]; rfl
   clear RO5 o5 g5 hat5 K1 K2 K3 P0 Q0 AP0 HNEW bW
   go_wp2_with fail
   go_meet
   case rel => exact ⟨n, gv, cv, rfl, HR2, HLM, B5, by omega, HOF5, HG5⟩
 obtain ⟨m, gv, cv, rfl, HR2, HLM, B5, hm1, HOF5, HG5⟩ := hcut
 clear HRO HNN hn hni CT
 obtain ⟨L, hL⟩ : ∃ L, openP acc = L := ⟨_, rfl⟩
 have HLE : Hid (openP acc = L) := hL
 rw [hL] at HR2 HLM han
 clear hL
 obtain ⟨gy, cy, vs, p, q, hv, h1, h2, hp, hq, cp, cq, op, oq⟩ := HR2.out.last HLM.out
 simp only [Value.slice.injEq, Option.some.injEq, Addr.mk.injEq, and_true, true_and] at hv
 obtain ⟨rfl, rfl⟩ := hv
 obtain ⟨qx, qk, hqq⟩ := (LineRow.of_own' oq).slice
 subst hqq
 have hmi : (m : Int) ≤ 1048576 := by omega
 have hwm : IntKind.i64.wrap (m : Int) = (m : Int) := by rw [IntKind.wrap_i64]; omega
 have CW : Hid (Calls Tryd.prog 46 #[.agg #[p, .slice qx (lastG L).ln.length qk], .string KV, .string VV] wc fun e w' => ∃ p', e = .returned (.agg #[p', .slice qx (lastG L).ln.length qk]) ∧ w'.ownsRow base 9 1 p' ((lastG L).ag.length + 1) (scells ((lastG L).ag ++ [AV])) ∧ wc.grownBy w' p.ownBlock ∧ (p'.ownBlock = p.ownBlock ∨ ∀ b, p'.ownBlock = some b → wc.heap.size ≤ b)) := implWithAgent (lastG L).ag p qx _ qk KV VV AV base wc hk han (Nat.le_trans hb B5.size) CA op
 obtain ⟨P1, P2, P3⟩ := h2.2.1 _ p (by omega) hp
 obtain ⟨Q1, Q2, _⟩ := h2.2.1 _ _ (by omega) hq
 have apq : apt p (.slice qx (lastG L).ln.length qk) := P3 _ _ (by omega) hq (by omega)
 have HFIN : Hid (∀ p' w6, w6.ownsRow base 9 1 p' ((lastG L).ag.length + 1) (scells ((lastG L).ag ++ [AV])) → wc.grownBy w6 p.ownBlock → (p'.ownBlock = p.ownBlock ∨ ∀ b, p'.ownBlock = some b → wc.heap.size ≤ b) → RobOwn ((w6.setCell ⟨gv, m * 2, none⟩ p').setCell ⟨gv, m * 2 + 1, none⟩ (.slice qx (lastG L).ln.length qk)) base ((w6.setCell ⟨gv, m * 2, none⟩ p').setCell ⟨gv, m * 2 + 1, none⟩ (.slice qx (lastG L).ln.length qk)).heap.size (.slice (some ⟨gv, 0, none⟩) (m + 1) cv) (setAg L AV) ∧ w6.cell? ⟨gv, m * 2, none⟩ = some p ∧ w6.cell? ⟨gv, m * 2 + 1, none⟩ = some (.slice qx (lastG L).ln.length qk) ∧ (∀ j, w6.frozen? ⟨gv, j, none⟩ = false) ∧ base ≤ gv ∧ ((w6.setCell ⟨gv, m * 2, none⟩ p').setCell ⟨gv, m * 2 + 1, none⟩ (.slice qx (lastG L).ln.length qk)).ownsRow base 33 2 (.slice (some ⟨gv, 0, none⟩) (m + 1) cv) (m + 1) ((vs.set (m * 2) p').set (m * 2 + 1) (.slice qx (lastG L).ln.length qk))) := fun p' w6 o6 g6 hat => by
  have hat2 : (setAg L AV).getD m pt0 = ⟨(lastG L).ag ++ [AV], (lastG L).ln⟩ := by
   unfold setAg
   rw [HLM.out, Nat.add_sub_cancel, getD_set_p (by rw [HLM.out]; omega), if_pos rfl]
  refine rob_put2 (p' := p') (q' := .slice qx (lastG L).ln.length qk) HLM.out h1 h2 hp hq (fun b hb1 hb2 n1 n2 => g6.block b hb2 n1) g6.size ?_ ?_ hat (.inl rfl) ?_ (by unfold setAg; rw [List.length_set]) (fun j hj hne => ?_)
  ·rw [hat2]; show World.ownsRow _ _ _ _ _ ((lastG L).ag ++ [AV]).length _; rw [List.length_append]; exact o6
  ·rw [hat2]; exact own_at oq fun b e => g6.block b (oq.lt b e).2 fun e2 => apq b e2.symm e
  ·intro b e1 e2
   rcases hat with h | h
   ·rw [h] at e1; exact apq b e1 e2
   have := h b e1; have := Q2 b e2; omega
  unfold setAg
  rw [HLM.out, Nat.add_sub_cancel, getD_set_p (by rw [HLM.out]; omega), if_neg hne]
 have HPG : Hid (∀ b, p.ownBlock = some b → base ≤ b) := fun b e => (op.lt b e).1
 have HXG : Hid (∀ x ∈ vs, x.ownBlock ≠ some g) := HOF5.out.2 base vs h1
 have HPX : Hid (p.ownBlock ≠ some g) := HXG.out p (List.mem_of_getElem? hp)
 have HQX : Hid ((Value.slice qx (lastG L).ln.length qk).ownBlock ≠ some g) := HXG.out _ (List.mem_of_getElem? hq)
 have HGV : Hid (gv ≠ g) := fun e => HOF5.out.1 (by rw [e]; rfl)
 have hgwc : g < wc.heap.size := Nat.lt_of_lt_of_le hgw B5.size
 clear h1 h2 hp hq op oq P1 P2 P3 Q1 Q2 apq HR2
 generalize (lastG L).ln.length = ql at *
 go_wp2_with fail
 refine CW.out.mono ?_
 rintro e w6 ⟨p', rfl, o6, g6, hat6⟩
 obtain ⟨R1, c1, c2, f6, hgb, S7⟩ := HFIN.out p' w6 o6 g6 hat6
 have HG7 : Hid (((w6.setCell ⟨gv, m * 2, none⟩ p').setCell ⟨gv, m * 2 + 1, none⟩ (.slice qx ql qk)).heap[g]? = w.heap[g]?) := by
  show _ = _
  rw [Below.heap_setCell _ _ _ _ (show g ≠ gv from fun e => HGV.out e.symm), Below.heap_setCell _ _ _ _ (show g ≠ gv from fun e => HGV.out e.symm)]
  exact (g6.block g hgwc fun e => HPX.out e.symm).trans HG5.out
 have HOF7 : Hid (OffG ((w6.setCell ⟨gv, m * 2, none⟩ p').setCell ⟨gv, m * 2 + 1, none⟩ (.slice qx ql qk)) (.slice (some ⟨gv, 0, none⟩) (m + 1) cv) (m + 1) g) := OffG.of S7 HOF5.out.1 fun x hx => by
  rcases mem_set2 hx with h | h | h
  ·exact HXG.out x h
  ·rw [h]
   rcases hat6 with k | k
   ·rw [k]; exact HPX.out
   intro e; have := k g e; omega
  rw [h]; exact HQX.out
 clear S7
 have HR1 : Hid (RobOwn ((w6.setCell ⟨gv, m * 2, none⟩ p').setCell ⟨gv, m * 2 + 1, none⟩ (.slice qx ql qk)) base ((w6.setCell ⟨gv, m * 2, none⟩ p').setCell ⟨gv, m * 2 + 1, none⟩ (.slice qx ql qk)).heap.size (.slice (some ⟨gv, 0, none⟩) (m + 1) cv) (setAg L AV)) := R1
 have B6 := B5.grown g6 (Nat.le_trans hb B5.size) fun b e => HPG.out b e
 have B7 := (B6.setCell (p := ⟨gv, m * 2, none⟩) hgb p').setCell (p := ⟨gv, m * 2 + 1, none⟩) hgb (.slice qx ql qk)
 obtain ⟨po, pn, pk, hpo⟩ : ∃ po pn pk, p' = Value.slice po pn pk := by
  obtain ⟨po, pk, h⟩ := (StrRow.of_own o6).slice
  exact ⟨po, _, pk, h⟩
 subst hpo
 clear R1 o6 g6 hat6 B6 CW HFIN
 go_wp2_with fail
 go_ret
 exact ⟨.slice (some ⟨gv, 0, none⟩) (m + 1) cv, rfl, by rw [HLE.out]; exact HR1.out, B7, by rw [HLE.out, show (setAg L AV).length = m + 1 by unfold setAg; rw [List.length_set]; exact HLM.out]; exact HOF7.out, HG7.out⟩
theorem implWithLineL (acc : List PT) (v : Value) (KV VV PV : ByteArray) (b : Bool) (base g : Nat) (w : World) (hgw : g < w.heap.size) (hoff : OffG w v acc.length g) (hk : (KV.toList == [117, 115, 101, 114, 45, 97, 103, 101, 110, 116]) = false) (hkb : (KV.toList == [97, 108, 108, 111, 119]) = b) (hkd : b = false → (KV.toList == [100, 105, 115, 97, 108, 108, 111, 119]) = true)
  (hn : acc.length ≤ 1048576) (hln : (lastG acc).ln.length ≤ 1048576) (hb : base ≤ w.heap.size)
  (CP : Hid (∀ W, Below w.heap.size w W → Calls Tryd.prog 10 #[.string VV] W fun e w' => e = .returned (.string PV) ∧ Below W.heap.size W w')) (h : RobOwn w base w.heap.size v acc) :
  Calls Tryd.prog 19 #[v, .string KV, .string VV] w fun e w' => ∃ v', e = .returned v' ∧ RobOwn w' base w'.heap.size v' (if acc.length = 0 ∨ VV.size = 0 then acc else setLn acc ⟨b, PV⟩) ∧ Below base w w' ∧ OffG w' v' (if acc.length = 0 ∨ VV.size = 0 then acc else setLn acc ⟨b, PV⟩).length g ∧ w'.heap[g]? = w.heap[g]? := by
 obtain ⟨ao, c, hv⟩ := h.row.slice
 obtain ⟨n, hnn⟩ : ∃ n, acc.length = n := ⟨_, rfl⟩
 have HNN : Hid (acc.length = n) := hnn
 rw [hnn] at hv hn hoff ⊢
 subst hv
 clear hnn
 have HOFF : Hid (OffG w (.slice ao n c) n g) := hoff
 clear hoff
 have HRO : Hid (RobOwn w base w.heap.size (.slice ao n c) acc) := h
 have HKD : Hid (b = false → (KV.toList == [100, 105, 115, 97, 108, 108, 111, 119]) = true) := hkd
 clear h hkd
 have hni : (n : Int) ≤ 1048576 := by omega
 by_cases h0 : n = 0
 ·subst h0
  rw [if_pos (.inl rfl)]
  go_enter Tryd.func19, Tryd.ntmps19
  go_upto_block 2 with fail
  go_cut [0] (fun v0 wx => v0 = .slice ao 0 c ∧ wx = w)
  case first =>
   cases b with
   | true =>
    go_wp2_with fail
    go_meet
    case rel => exact ⟨rfl, rfl⟩
   | false =>
    have hkd := HKD.out rfl
    go_wp2_with fail
    go_meet
    case rel => exact ⟨rfl, rfl⟩
  obtain ⟨rfl, hcw⟩ := hcut
  subst hcw
  clear HKD
  go_wp2_with fail
  go_ret
  exact ⟨.slice ao 0 c, rfl, HRO.out, Below.refl _ _, by rw [HNN.out]; exact HOFF.out, rfl⟩
 obtain ⟨m, hm⟩ : ∃ m, n = m + 1 := ⟨n - 1, by omega⟩
 subst hm
 obtain ⟨gv, cy, vs, p, q, hv, h1, h2, hp, hq, cp, cq, op, oq⟩ := HRO.out.last HNN.out
 simp only [Value.slice.injEq] at hv
 obtain ⟨rfl, hnm2, rfl⟩ := hv
 clear hnm2 h0
 obtain ⟨qx, qk, hqq⟩ := (LineRow.of_own' oq).slice
 obtain ⟨px, pk, hpp⟩ := (StrRow.of_own op).slice
 subst hqq hpp
 have hmi : (m : Int) ≤ 1048576 := by omega
 have hwm : IntKind.i64.wrap (m : Int) = (m : Int) := by rw [IntKind.wrap_i64]; omega
 obtain ⟨P1, P2, P3⟩ := h2.2.1 _ _ (by omega) hp
 obtain ⟨Q1, Q2, _⟩ := h2.2.1 _ _ (by omega) hq
 have apq : apt (.slice px (lastG acc).ag.length pk) (.slice qx (lastG acc).ln.length qk) := P3 _ _ (by omega) hq (by omega)
 have hlast : acc.getD m pt0 = lastG acc := by unfold lastG; rw [HNN.out, Nat.add_sub_cancel]
 have HXG : Hid (∀ x ∈ vs, x.ownBlock ≠ some g) := HOFF.out.2 base vs h1
 have HPX : Hid ((Value.slice px (lastG acc).ag.length pk).ownBlock ≠ some g) := HXG.out _ (List.mem_of_getElem? hp)
 have HQX : Hid ((Value.slice qx (lastG acc).ln.length qk).ownBlock ≠ some g) := HXG.out _ (List.mem_of_getElem? hq)
 have HGV : Hid (gv ≠ g) := fun e => HOFF.out.1 (by rw [e]; rfl)
 have HLS : Hid ((setLn acc ⟨b, PV⟩).length = m + 1) := by show _ = _; unfold setLn; rw [List.length_set]; exact HNN.out
 by_cases hv0 : VV.size = 0
 ·rw [if_pos (.inr hv0)]
  have CW : Hid (CB 46 #[.agg #[.slice px (lastG acc).ag.length pk, .slice qx (lastG acc).ln.length qk], .string KV, .string VV] w (.agg #[.slice px (lastG acc).ag.length pk, .slice qx (lastG acc).ln.length qk])) := implWithNone px qx _ pk _ qk KV VV w hk hv0
  have HFIN : Hid (∀ w6 : World, Below w.heap.size w w6 → RobOwn ((w6.setCell ⟨gv, m * 2, none⟩ (.slice px (lastG acc).ag.length pk)).setCell ⟨gv, m * 2 + 1, none⟩ (.slice qx (lastG acc).ln.length qk)) base ((w6.setCell ⟨gv, m * 2, none⟩ (.slice px (lastG acc).ag.length pk)).setCell ⟨gv, m * 2 + 1, none⟩ (.slice qx (lastG acc).ln.length qk)).heap.size (.slice (some ⟨gv, 0, none⟩) (m + 1) c) acc ∧ w6.cell? ⟨gv, m * 2, none⟩ = some (.slice px (lastG acc).ag.length pk) ∧ w6.cell? ⟨gv, m * 2 + 1, none⟩ = some (.slice qx (lastG acc).ln.length qk) ∧ (∀ j, w6.frozen? ⟨gv, j, none⟩ = false) ∧ base ≤ gv ∧ ((w6.setCell ⟨gv, m * 2, none⟩ (.slice px (lastG acc).ag.length pk)).setCell ⟨gv, m * 2 + 1, none⟩ (.slice qx (lastG acc).ln.length qk)).ownsRow base 33 2 (.slice (some ⟨gv, 0, none⟩) (m + 1) c) (m + 1) ((vs.set (m * 2) (.slice px (lastG acc).ag.length pk)).set (m * 2 + 1) (.slice qx (lastG acc).ln.length qk))) := fun w6 b6 => by
   refine rob_put2 (p' := .slice px (lastG acc).ag.length pk) (q' := .slice qx (lastG acc).ln.length qk) HNN.out h1 h2 hp hq (fun b hb1 hb2 n1 n2 => b6.block b hb2) b6.size ?_ ?_ (.inl rfl) (.inl rfl) apq rfl (fun j hj hne => rfl)
   ·rw [hlast]; exact own_below op b6
   rw [hlast]; exact own_below oq b6
  clear h1 h2 hp hq op oq P1 P2 P3 Q1 Q2 apq hlast HRO hv0
  generalize (lastG acc).ln.length = ql at *
  generalize (lastG acc).ag.length = pl at *
  go_enter Tryd.func19, Tryd.ntmps19
  go_upto_block 2 with fail
  go_cut [0] (fun v0 wx => v0 = .slice (some ⟨gv, 0, none⟩) (m + 1) c ∧ wx = w)
  case first =>
   cases b with
   | true =>
    go_wp2_with fail
    go_meet
    case rel => exact ⟨rfl, rfl⟩
   | false =>
    have hkd := HKD.out rfl
    go_wp2_with fail
    go_meet
    case rel => exact ⟨rfl, rfl⟩
  obtain ⟨rfl, hcw⟩ := hcut
  subst hcw
  clear HKD
  go_wp2_with fail
  refine CW.out.mono ?_
  rintro e w6 ⟨rfl, b6⟩
  obtain ⟨R1, c1, c2, f6, hgb, S7⟩ := HFIN.out w6 b6
  have HG7 : Hid (((w6.setCell ⟨gv, m * 2, none⟩ (.slice px pl pk)).setCell ⟨gv, m * 2 + 1, none⟩ (.slice qx ql qk)).heap[g]? = wc.heap[g]?) := by
   show _ = _
   rw [Below.heap_setCell _ _ _ _ (show g ≠ gv from fun e => HGV.out e.symm), Below.heap_setCell _ _ _ _ (show g ≠ gv from fun e => HGV.out e.symm)]
   exact b6.block g hgw
  have HOF7 : Hid (OffG ((w6.setCell ⟨gv, m * 2, none⟩ (.slice px pl pk)).setCell ⟨gv, m * 2 + 1, none⟩ (.slice qx ql qk)) (.slice (some ⟨gv, 0, none⟩) (m + 1) c) (m + 1) g) := OffG.of S7 HOFF.out.1 fun x hx => by
   rcases mem_set2 hx with h | h | h
   ·exact HXG.out x h
   ·rw [h]; exact HPX.out
   rw [h]; exact HQX.out
  clear S7
  have HR1 : Hid (RobOwn ((w6.setCell ⟨gv, m * 2, none⟩ (.slice px pl pk)).setCell ⟨gv, m * 2 + 1, none⟩ (.slice qx ql qk)) base ((w6.setCell ⟨gv, m * 2, none⟩ (.slice px pl pk)).setCell ⟨gv, m * 2 + 1, none⟩ (.slice qx ql qk)).heap.size (.slice (some ⟨gv, 0, none⟩) (m + 1) c) acc) := R1
  have B7 := ((b6.mono hb).setCell (p := ⟨gv, m * 2, none⟩) hgb (.slice px pl pk)).setCell (p := ⟨gv, m * 2 + 1, none⟩) hgb (.slice qx ql qk)
  clear R1 CW HFIN b6
  go_wp2_with fail
  go_ret
  exact ⟨.slice (some ⟨gv, 0, none⟩) (m + 1) c, rfl, HR1.out, B7, by rw [HNN.out]; exact HOF7.out, HG7.out⟩
 rw [if_neg (by rintro (h | h); omega; exact hv0 h)]
 have CW : Hid (Calls Tryd.prog 46 #[.agg #[.slice px (lastG acc).ag.length pk, .slice qx (lastG acc).ln.length qk], .string KV, .string VV] w fun e w' => ∃ q', e = .returned (.agg #[.slice px (lastG acc).ag.length pk, q']) ∧ w'.ownsRow base 35 2 q' ((lastG acc).ln.length + 1) (lcells ((lastG acc).ln ++ [⟨b, PV⟩])) ∧ w.grownBy w' (Value.slice qx (lastG acc).ln.length qk).ownBlock ∧ (q'.ownBlock = (Value.slice qx (lastG acc).ln.length qk).ownBlock ∨ ∀ b, q'.ownBlock = some b → w.heap.size ≤ b)) := implWithLn (lastG acc).ln _ px _ pk KV VV PV b base w hk hkb (by omega) hln hb CP oq
 have HFIN : Hid (∀ (q' : Value) (w6 : World), w6.ownsRow base 35 2 q' ((lastG acc).ln.length + 1) (lcells ((lastG acc).ln ++ [⟨b, PV⟩])) → w.grownBy w6 (Value.slice qx (lastG acc).ln.length qk).ownBlock → (q'.ownBlock = (Value.slice qx (lastG acc).ln.length qk).ownBlock ∨ ∀ b, q'.ownBlock = some b → w.heap.size ≤ b) → RobOwn ((w6.setCell ⟨gv, m * 2, none⟩ (.slice px (lastG acc).ag.length pk)).setCell ⟨gv, m * 2 + 1, none⟩ q') base ((w6.setCell ⟨gv, m * 2, none⟩ (.slice px (lastG acc).ag.length pk)).setCell ⟨gv, m * 2 + 1, none⟩ q').heap.size (.slice (some ⟨gv, 0, none⟩) (m + 1) c) (setLn acc ⟨b, PV⟩) ∧ w6.cell? ⟨gv, m * 2, none⟩ = some (.slice px (lastG acc).ag.length pk) ∧ w6.cell? ⟨gv, m * 2 + 1, none⟩ = some (.slice qx (lastG acc).ln.length qk) ∧ (∀ j, w6.frozen? ⟨gv, j, none⟩ = false) ∧ base ≤ gv ∧ ((w6.setCell ⟨gv, m * 2, none⟩ (.slice px (lastG acc).ag.length pk)).setCell ⟨gv, m * 2 + 1, none⟩ q').ownsRow base 33 2 (.slice (some ⟨gv, 0, none⟩) (m + 1) c) (m + 1) ((vs.set (m * 2) (.slice px (lastG acc).ag.length pk)).set (m * 2 + 1) q')) := fun q' w6 o6 g6 hat => by
  have hat2 : (setLn acc ⟨b, PV⟩).getD m pt0 = ⟨(lastG acc).ag, (lastG acc).ln ++ [⟨b, PV⟩]⟩ := by
   unfold setLn
   rw [HNN.out, Nat.add_sub_cancel, getD_set_p (by rw [HNN.out]; omega), if_pos rfl]
  refine rob_put2 (p' := .slice px (lastG acc).ag.length pk) (q' := q') HNN.out h1 h2 hp hq (fun b hb1 hb2 n1 n2 => g6.block b hb2 n2) g6.size ?_ ?_ (.inl rfl) hat ?_ (by unfold setLn; rw [List.length_set]) (fun j hj hne => ?_)
  ·rw [hat2]; exact own_at op fun b e => g6.block b (op.lt b e).2 fun e2 => apq b e e2.symm
  ·rw [hat2]; show World.ownsRow _ _ _ _ _ ((lastG acc).ln ++ [(⟨b, PV⟩ : LV)]).length _; rw [List.length_append]; exact o6
  ·intro b e1 e2
   rcases hat with h | h
   ·rw [h] at e2; exact apq b e1 e2
   have := h b e2; have := P2 b e1; omega
  unfold setLn
  rw [HNN.out, Nat.add_sub_cancel, getD_set_p (by rw [HNN.out]; omega), if_neg hne]
 have HPG : Hid (∀ b, (Value.slice qx (lastG acc).ln.length qk).ownBlock = some b → base ≤ b) := fun b e => (oq.lt b e).1
 clear h1 h2 hp hq op oq P1 P2 P3 Q1 Q2 apq hlast HRO hv0
 have HLL : Hid (∀ (q' : Value) (w6 : World), w6.ownsRow base 35 2 q' ((lastG acc).ln.length + 1) (lcells ((lastG acc).ln ++ [⟨b, PV⟩])) → ∃ po pn pk, q' = Value.slice po pn pk) := fun q' w6 o => by
  rcases o.2 with ⟨h, _⟩ | ⟨g9', cap9, cur9, h, _⟩
  ·exact ⟨_, _, _, h⟩
  exact ⟨_, _, _, h⟩
 generalize (lastG acc).ag.length = pl at *
 generalize hql : (lastG acc).ln.length = ql at *
 clear hql
 go_enter Tryd.func19, Tryd.ntmps19
 go_upto_block 2 with fail
 go_cut [0] (fun v0 wx => v0 = .slice (some ⟨gv, 0, none⟩) (m + 1) c ∧ wx = w)
 case first =>
  cases b with
  | true =>
   go_wp2_with fail
   go_meet
   case rel => exact ⟨rfl, rfl⟩
  | false =>
   have hkd := HKD.out rfl
   go_wp2_with fail
   go_meet
   case rel => exact ⟨rfl, rfl⟩
 obtain ⟨rfl, hcw⟩ := hcut
 subst hcw
 clear HKD
 go_wp2_with fail
 refine CW.out.mono ?_
 rintro e w6 ⟨q', rfl, o6, g6, hat6⟩
 obtain ⟨R1, c1, c2, f6, hgb, S7⟩ := HFIN.out q' w6 o6 g6 hat6
 have HG7 : Hid (((w6.setCell ⟨gv, m * 2, none⟩ (.slice px pl pk)).setCell ⟨gv, m * 2 + 1, none⟩ q').heap[g]? = wc.heap[g]?) := by
  show _ = _
  rw [Below.heap_setCell _ _ _ _ (show g ≠ gv from fun e => HGV.out e.symm), Below.heap_setCell _ _ _ _ (show g ≠ gv from fun e => HGV.out e.symm)]
  exact g6.block g hgw fun e => HQX.out e.symm
 have HOF7 : Hid (OffG ((w6.setCell ⟨gv, m * 2, none⟩ (.slice px pl pk)).setCell ⟨gv, m * 2 + 1, none⟩ q') (.slice (some ⟨gv, 0, none⟩) (m + 1) c) (m + 1) g) := OffG.of S7 HOFF.out.1 fun x hx => by
  rcases mem_set2 hx with h | h | h
  ·exact HXG.out x h
  ·rw [h]; exact HPX.out
  rw [h]
  rcases hat6 with k | k
  ·rw [k]; exact HQX.out
  intro e; have := k g e; omega
 clear S7
 have HR1 : Hid (RobOwn ((w6.setCell ⟨gv, m * 2, none⟩ (.slice px pl pk)).setCell ⟨gv, m * 2 + 1, none⟩ q') base ((w6.setCell ⟨gv, m * 2, none⟩ (.slice px pl pk)).setCell ⟨gv, m * 2 + 1, none⟩ q').heap.size (.slice (some ⟨gv, 0, none⟩) (m + 1) c) (setLn acc ⟨b, PV⟩)) := R1
 have B6 := (Below.refl base wc).grown g6 hb fun b e => HPG.out b e
 have B7 := (B6.setCell (p := ⟨gv, m * 2, none⟩) hgb (.slice px pl pk)).setCell (p := ⟨gv, m * 2 + 1, none⟩) hgb q'
 obtain ⟨po, pn, pk2, hpo⟩ := HLL.out q' w6 o6
 subst hpo
 clear R1 o6 g6 hat6 B6 CW HFIN HLL
 go_wp2_with fail
 go_ret
 exact ⟨.slice (some ⟨gv, 0, none⟩) (m + 1) c, rfl, HR1.out, B7, by rw [HLS.out]; exact HOF7.out, HG7.out⟩
theorem implWithLineO (v : Value) (KV VV : ByteArray) (w : World) (hk : (KV.toList == [117, 115, 101, 114, 45, 97, 103, 101, 110, 116]) = false) (hka : (KV.toList == [97, 108, 108, 111, 119]) = false) (hkd : (KV.toList == [100, 105, 115, 97, 108, 108, 111, 119]) = false) :
  Calls Tryd.prog 19 #[v, .string KV, .string VV] w fun e w' => e = .returned v ∧ w = w' := by
 go_enter Tryd.func19, Tryd.ntmps19
 go_wp2_with fail
 go_ret
 exact ⟨rfl, rfl⟩
end Go.Proofs.YtjdnemjcjodboaaDoor
