/- RobWithI2. -/
import Derived.Test.YtjdnemjcjodboaaDoorRp09
set_option maxHeartbeats 8000000
namespace Go.Proofs.YtjdnemjcjodboaaDoor
open Go.RowKit
set_option linter.unusedVariables false
theorem part_res1 {fn : Func} {q : Tmp} (h : fn.results = #[.cell q 33]) (tmps : Array Value) (W : World) (B : Nat) (a b : Value)
  (hp : tmps[q]?.getD undef = .pointer (some ⟨B, 0, none⟩)) (ha : BAt W B [a, b]) : (results fn tmps).run Tryd.prog W = .ok (.agg #[a, b]) W := by
 have c0 := ha.1 0 _ rfl
 have c1 := ha.1 1 _ rfl
 simp [results, h, hp, asAddr, go_sem, c0, c1, Addr.add_lit]
theorem implWithAgent (ag : List ByteArray) (p : Value) (qx : Option Addr) (qn qk : Nat) (KV VV AV : ByteArray) (base : Nat) (w : World) (hk : (KV.toList == [117, 115, 101, 114, 45, 97, 103, 101, 110, 116]) = true) (hn : ag.length ≤ 1048576) (hb : base ≤ w.heap.size)
  (CA : Hid (∀ W, Calls Tryd.prog 11 #[.string VV] W fun e w' => e = .returned (.string AV) ∧ Below W.heap.size W w')) (op : w.ownsRow base 9 1 p ag.length (scells ag)) :
  Calls Tryd.prog 46 #[.agg #[p, .slice qx qn qk], .string KV, .string VV] w fun e w' => ∃ p', e = .returned (.agg #[p', .slice qx qn qk]) ∧ w'.ownsRow base 9 1 p' (ag.length + 1) (scells (ag ++ [AV])) ∧ w.grownBy w' p.ownBlock ∧ (p'.ownBlock = p.ownBlock ∨ ∀ b, p'.ownBlock = some b → w.heap.size ≤ b) := by
 obtain ⟨O, hO⟩ : ∃ O, O = (w.alloc (.cells #[p, .slice qx qn qk] 33)).alloc (.cells #[.slice none 0 0, .slice none 0 0] 33) := ⟨_, rfl⟩
 have bO : Below w.heap.size w O := by rw [hO]; exact ((Below.refl _ _).alloc (Nat.le_refl _) _).alloc (by simp) _
 have hzO : O.heap.size = w.heap.size + 2 := by rw [hO]; simp
 have A1 : Hid (BAt O w.heap.size [p, .slice qx qn qk]) := by rw [hO]; exact (BAt.new w #[p, .slice qx qn qk] _).alloc _
 have A2 : Hid (BAt O (w.heap.size + 1) [.slice none 0 0, .slice none 0 0]) := by
  rw [hO]
  have := BAt.new (w.alloc (.cells #[p, .slice qx qn qk] 33)) #[.slice none 0 0, .slice none 0 0] 33
  rw [World.size_alloc] at this
  exact this
 have OP : Hid (O.ownsRow base 9 1 p ag.length (scells ag)) := own_below op bO
 have HPL : Hid (∀ b, p.ownBlock = some b → b < w.heap.size) := fun b e => (op.lt b e).2
 have HBO : Hid (base ≤ O.heap.size) := by show _ ≤ _; omega
 have hX : w.heap.size < O.heap.size := by omega
 clear op
 go_enter Tryd.func46, Tryd.ntmps46
 go_upto_region 2 with fail
 rw [← hO]
 clear hO
 have cp0 := A1.out.1 0 _ rfl
 refine wp_region_held_drew (S := fun _ => True) (by kernel_rfl) trivial (fun h0 => ?_)
 refine wpAnyH_take (i := 0) (v := ?_) rfl (by kernel_rfl) (by kernel_rfl) (by kernel_rfl) (fun _ _ _ h => h) (Or.inl ⟨by rfl, fun W hW => ?_⟩) trivial ?_
 rotate_left
 ·clear hW
  go_simp
  try with_reducible rfl
 simp only [Act.put, List.getElem_toArray, List.getElem_cons_zero, List.setIfInBounds_toArray, List.set_cons_zero, List.set_cons_succ]
 refine wpAnyH_take (i := 2) (v := ?_) rfl (by kernel_rfl) (by kernel_rfl) (by kernel_rfl) (fun _ _ _ h => h) (Or.inl ⟨by rfl, fun W hW => ?_⟩) trivial ?_
 rotate_left
 ·clear hW
  go_simp
  try with_reducible rfl
 simp only [Act.put, List.getElem_toArray, List.getElem_cons_zero, List.getElem_cons_succ, List.setIfInBounds_toArray, List.set_cons_zero, List.set_cons_succ]
 refine wpAnyH_ready (rs := [1, 3]) (by kernel_rfl) (by simp) (AllReadyH.cons rfl (fun K hK => ?_) (AllReadyH.cons rfl (fun K hK => ?_) AllReadyH.nil))
 ·go_simp
  refine hK.out _ _ trivial (fun h0' => ?_)
  clear hK K h0'
  refine wpAnyH_ready (rs := [3]) (by kernel_rfl) (by simp) (AllReadyH.cons rfl (fun K hK => ?_) AllReadyH.nil)
  go_simp
  go_wp2_with (go_at_call 11; refine (CA.out _).mono ?_; rintro e wq ⟨rfl, hbq⟩)
  have bq3 : Below O.heap.size O wq := (Below.refl O.heap.size O).drew.trans hbq
  have cpq := (bq3.cell (p := ⟨w.heap.size, 0, none⟩) hX).trans cp0
  refine hK.out _ _ trivial (fun h1 => ?_)
  clear hK K h1 hbq
  refine wpAnyH_ready (rs := [4]) (by kernel_rfl) (by simp) (AllReadyH.cons rfl (fun K hK => ?_) AllReadyH.nil)
  go_simp
  have bWA : Below O.heap.size O (wq.alloc (.cells #[.string AV] 9)) := bq3.alloc bq3.size _
  have cpa := (bWA.cell (p := ⟨w.heap.size, 0, none⟩) hX).trans cp0
  refine hK.out _ _ trivial (fun h1 => ?_)
  clear hK K h1
  refine wpAnyH_ready (rs := [5]) (by kernel_rfl) (by simp) (AllReadyH.cons rfl (fun K hK => ?_) AllReadyH.nil)
  rw [if_pos (by rfl)]
  refine wp_append_at (wq.alloc (.cells #[.string AV] 9)) (.tmp 11) (.tmp 14) 30 rfl base 9 (.string ⟨#[]⟩) 1 16 Tryd.underlying30 Tryd.infoStr rfl (by decide) p ag.length (scells ag) rfl (own_below OP.out bWA) ⟨wq.heap.size, 0, none⟩ 1 1 [.string AV] rfl rfl (cell_one_new wq (.string AV) 9) (str_one AV) (by unfold maxLen; omega) (by omega) (Nat.le_trans HBO.out bWA.size) ?_
  intro p' w9 o9 g9 hat9
  rw [← scells_snoc] at o9
  obtain ⟨po, pn, pk, hpo⟩ : ∃ po pn pk, p' = Value.slice po pn pk := by
   obtain ⟨po, pk, h⟩ := (StrRow.of_own o9).slice
   exact ⟨po, _, pk, h⟩
  subst hpo
  have D1 : BAt w9 w.heap.size [p, .slice qx qn qk] := (A1.out.below bWA).same g9.size (g9.block _ (A1.out.below bWA).2.2 fun e => by have := HPL.out _ e.symm; omega)
  have D2 : BAt w9 (w.heap.size + 1) [.slice none 0 0, .slice none 0 0] := (A2.out.below bWA).same g9.size (g9.block _ (A2.out.below bWA).2.2 fun e => by have := HPL.out _ e.symm; omega)
  have e0 := D1.1 0 _ rfl
  have f0 := D1.2.1
  refine hK.out _ _ trivial (fun h5 => ?_)
  clear hK K h5
  refine wpAnyH_take (i := 6) (v := ?_) rfl (by kernel_rfl) (by kernel_rfl) (by kernel_rfl) (fun _ _ _ h => h) (Or.inl ⟨by rfl, fun W hW => ?_⟩) trivial ?_
  rotate_left
  ·clear hW
   go_simp
   try with_reducible rfl
  simp only [Act.put, List.getElem_toArray, List.getElem_cons_zero, List.getElem_cons_succ, List.setIfInBounds_toArray, List.set_cons_zero, List.set_cons_succ]
  refine wpAnyH_ready (rs := [7]) (by kernel_rfl) (by simp) (AllReadyH.cons rfl (fun K hK => ?_) AllReadyH.nil)
  go_simp
  refine hK.out _ _ trivial (fun h6 => ?_)
  clear hK K h6
  refine wpAnyH_done (by kernel_rfl) ?_ _
  have E1 := D1.set 0 (by simp) (.slice po pn pk)
  have E2 := D2.other (C := w.heap.size) (by omega) 0 (.slice po pn pk)
  have HO9 : Hid (w9.ownsRow base 9 1 (.slice po pn pk) (ag.length + 1) (scells (ag ++ [AV]))) := o9
  have HG9 : Hid (w.grownBy w9 p.ownBlock) := ⟨(g9.os.trans bWA.os).trans bO.os, (g9.tape.trans bWA.tape).trans bO.tape, (g9.output.trans bWA.output).trans bO.output, Nat.le_trans bO.size (Nat.le_trans bWA.size g9.size), fun b hb hne => (g9.block b (Nat.lt_of_lt_of_le hb (Nat.le_trans bO.size bWA.size)) hne).trans ((bWA.block b (Nat.lt_of_lt_of_le hb bO.size)).trans (bO.block b hb))⟩
  have HAT : Hid ((Value.slice po pn pk).ownBlock = p.ownBlock ∨ ∀ b, (Value.slice po pn pk).ownBlock = some b → w.heap.size + 2 ≤ b) := hat9.imp id fun h b e => by rw [h] at e; injection e with e; have := bWA.size; omega
  clear o9 g9 hat9 D1 D2 e0 f0
  have x0 := E1.1 0 _ rfl
  have x1 := E1.1 1 _ rfl
  have y0 := E2.1 0 _ rfl
  have y1 := E2.1 1 _ rfl
  have yf := E2.2.1
  go_wp2_with fail
  refine bodyPost_ret (part_res1 rfl _ _ (w.heap.size + 1) (.slice po pn pk) (.slice qx qn qk) rfl ((E2.set 0 (by simp) _).set 1 (by simp) _)) rfl ⟨_, rfl, ?_, ?_, ?_⟩
  ·refine own_at HO9.out fun b e => ?_
   have hlt : b ≠ w.heap.size ∧ b ≠ w.heap.size + 1 := by
    rcases HAT.out with h | h
    ·rw [h] at e; have := HPL.out b e; omega
    have := h b e; omega
   rw [Below.heap_setCell _ _ _ _ hlt.2, Below.heap_setCell _ _ _ _ hlt.2, Below.heap_setCell _ _ _ _ hlt.1]
  ·refine ⟨HG9.out.os, HG9.out.tape, HG9.out.output, ?_, fun b hb hne => ?_⟩
   ·have := HG9.out.size; simpa using this
   rw [Below.heap_setCell _ _ _ _ (show b ≠ w.heap.size + 1 by omega), Below.heap_setCell _ _ _ _ (show b ≠ w.heap.size + 1 by omega), Below.heap_setCell _ _ _ _ (show b ≠ w.heap.size by omega)]
   exact HG9.out.block b hb hne
  exact HAT.out.imp id fun h b e => by have := h b e; omega
 go_simp
 go_wp2_with (go_at_call 11; refine (CA.out _).mono ?_; rintro e wq ⟨rfl, hbq⟩)
 have bq3 : Below O.heap.size O wq := (Below.refl O.heap.size O).drew.trans hbq
 have cpq := (bq3.cell (p := ⟨w.heap.size, 0, none⟩) hX).trans cp0
 refine hK.out _ _ trivial (fun h1 => ?_)
 clear hK K h1 hbq
 refine wpAnyH_ready (rs := [1, 4]) (by kernel_rfl) (by simp) (AllReadyH.cons rfl (fun K hK => ?_) (AllReadyH.cons rfl (fun K hK => ?_) AllReadyH.nil))
 ·go_simp
  refine hK.out _ _ trivial (fun h2 => ?_)
  clear hK K h2
  refine wpAnyH_ready (rs := [4]) (by kernel_rfl) (by simp) (AllReadyH.cons rfl (fun K hK => ?_) AllReadyH.nil)
  go_simp
  have bWA : Below O.heap.size O (wq.alloc (.cells #[.string AV] 9)) := bq3.alloc bq3.size _
  have cpa := (bWA.cell (p := ⟨w.heap.size, 0, none⟩) hX).trans cp0
  refine hK.out _ _ trivial (fun h1 => ?_)
  clear hK K h1
  refine wpAnyH_ready (rs := [5]) (by kernel_rfl) (by simp) (AllReadyH.cons rfl (fun K hK => ?_) AllReadyH.nil)
  rw [if_pos (by rfl)]
  refine wp_append_at (wq.alloc (.cells #[.string AV] 9)) (.tmp 11) (.tmp 14) 30 rfl base 9 (.string ⟨#[]⟩) 1 16 Tryd.underlying30 Tryd.infoStr rfl (by decide) p ag.length (scells ag) rfl (own_below OP.out bWA) ⟨wq.heap.size, 0, none⟩ 1 1 [.string AV] rfl rfl (cell_one_new wq (.string AV) 9) (str_one AV) (by unfold maxLen; omega) (by omega) (Nat.le_trans HBO.out bWA.size) ?_
  intro p' w9 o9 g9 hat9
  rw [← scells_snoc] at o9
  obtain ⟨po, pn, pk, hpo⟩ : ∃ po pn pk, p' = Value.slice po pn pk := by
   obtain ⟨po, pk, h⟩ := (StrRow.of_own o9).slice
   exact ⟨po, _, pk, h⟩
  subst hpo
  have D1 : BAt w9 w.heap.size [p, .slice qx qn qk] := (A1.out.below bWA).same g9.size (g9.block _ (A1.out.below bWA).2.2 fun e => by have := HPL.out _ e.symm; omega)
  have D2 : BAt w9 (w.heap.size + 1) [.slice none 0 0, .slice none 0 0] := (A2.out.below bWA).same g9.size (g9.block _ (A2.out.below bWA).2.2 fun e => by have := HPL.out _ e.symm; omega)
  have e0 := D1.1 0 _ rfl
  have f0 := D1.2.1
  refine hK.out _ _ trivial (fun h5 => ?_)
  clear hK K h5
  refine wpAnyH_take (i := 6) (v := ?_) rfl (by kernel_rfl) (by kernel_rfl) (by kernel_rfl) (fun _ _ _ h => h) (Or.inl ⟨by rfl, fun W hW => ?_⟩) trivial ?_
  rotate_left
  ·clear hW
   go_simp
   try with_reducible rfl
  simp only [Act.put, List.getElem_toArray, List.getElem_cons_zero, List.getElem_cons_succ, List.setIfInBounds_toArray, List.set_cons_zero, List.set_cons_succ]
  refine wpAnyH_ready (rs := [7]) (by kernel_rfl) (by simp) (AllReadyH.cons rfl (fun K hK => ?_) AllReadyH.nil)
  go_simp
  refine hK.out _ _ trivial (fun h6 => ?_)
  clear hK K h6
  refine wpAnyH_done (by kernel_rfl) ?_ _
  have E1 := D1.set 0 (by simp) (.slice po pn pk)
  have E2 := D2.other (C := w.heap.size) (by omega) 0 (.slice po pn pk)
  have HO9 : Hid (w9.ownsRow base 9 1 (.slice po pn pk) (ag.length + 1) (scells (ag ++ [AV]))) := o9
  have HG9 : Hid (w.grownBy w9 p.ownBlock) := ⟨(g9.os.trans bWA.os).trans bO.os, (g9.tape.trans bWA.tape).trans bO.tape, (g9.output.trans bWA.output).trans bO.output, Nat.le_trans bO.size (Nat.le_trans bWA.size g9.size), fun b hb hne => (g9.block b (Nat.lt_of_lt_of_le hb (Nat.le_trans bO.size bWA.size)) hne).trans ((bWA.block b (Nat.lt_of_lt_of_le hb bO.size)).trans (bO.block b hb))⟩
  have HAT : Hid ((Value.slice po pn pk).ownBlock = p.ownBlock ∨ ∀ b, (Value.slice po pn pk).ownBlock = some b → w.heap.size + 2 ≤ b) := hat9.imp id fun h b e => by rw [h] at e; injection e with e; have := bWA.size; omega
  clear o9 g9 hat9 D1 D2 e0 f0
  have x0 := E1.1 0 _ rfl
  have x1 := E1.1 1 _ rfl
  have y0 := E2.1 0 _ rfl
  have y1 := E2.1 1 _ rfl
  have yf := E2.2.1
  go_wp2_with fail
  refine bodyPost_ret (part_res1 rfl _ _ (w.heap.size + 1) (.slice po pn pk) (.slice qx qn qk) rfl ((E2.set 0 (by simp) _).set 1 (by simp) _)) rfl ⟨_, rfl, ?_, ?_, ?_⟩
  ·refine own_at HO9.out fun b e => ?_
   have hlt : b ≠ w.heap.size ∧ b ≠ w.heap.size + 1 := by
    rcases HAT.out with h | h
    ·rw [h] at e; have := HPL.out b e; omega
    have := h b e; omega
   rw [Below.heap_setCell _ _ _ _ hlt.2, Below.heap_setCell _ _ _ _ hlt.2, Below.heap_setCell _ _ _ _ hlt.1]
  ·refine ⟨HG9.out.os, HG9.out.tape, HG9.out.output, ?_, fun b hb hne => ?_⟩
   ·have := HG9.out.size; simpa using this
   rw [Below.heap_setCell _ _ _ _ (show b ≠ w.heap.size + 1 by omega), Below.heap_setCell _ _ _ _ (show b ≠ w.heap.size + 1 by omega), Below.heap_setCell _ _ _ _ (show b ≠ w.heap.size by omega)]
   exact HG9.out.block b hb hne
  exact HAT.out.imp id fun h b e => by have := h b e; omega
 go_simp
 have bWA : Below O.heap.size O (wq.alloc (.cells #[.string AV] 9)) := bq3.alloc bq3.size _
 have cpa := (bWA.cell (p := ⟨w.heap.size, 0, none⟩) hX).trans cp0
 refine hK.out _ _ trivial (fun h1 => ?_)
 clear hK K h1
 refine wpAnyH_ready (rs := [1]) (by kernel_rfl) (by simp) (AllReadyH.cons rfl (fun K hK => ?_) AllReadyH.nil)
 go_simp
 refine hK.out _ _ trivial (fun h2 => ?_)
 clear hK K h2
 refine wpAnyH_ready (rs := [5]) (by kernel_rfl) (by simp) (AllReadyH.cons rfl (fun K hK => ?_) AllReadyH.nil)
 rw [if_pos (by rfl)]
 refine wp_append_at (wq.alloc (.cells #[.string AV] 9)) (.tmp 11) (.tmp 14) 30 rfl base 9 (.string ⟨#[]⟩) 1 16 Tryd.underlying30 Tryd.infoStr rfl (by decide) p ag.length (scells ag) rfl (own_below OP.out bWA) ⟨wq.heap.size, 0, none⟩ 1 1 [.string AV] rfl rfl (cell_one_new wq (.string AV) 9) (str_one AV) (by unfold maxLen; omega) (by omega) (Nat.le_trans HBO.out bWA.size) ?_
 intro p' w9 o9 g9 hat9
 rw [← scells_snoc] at o9
 obtain ⟨po, pn, pk, hpo⟩ : ∃ po pn pk, p' = Value.slice po pn pk := by
  obtain ⟨po, pk, h⟩ := (StrRow.of_own o9).slice
  exact ⟨po, _, pk, h⟩
 subst hpo
 have D1 : BAt w9 w.heap.size [p, .slice qx qn qk] := (A1.out.below bWA).same g9.size (g9.block _ (A1.out.below bWA).2.2 fun e => by have := HPL.out _ e.symm; omega)
 have D2 : BAt w9 (w.heap.size + 1) [.slice none 0 0, .slice none 0 0] := (A2.out.below bWA).same g9.size (g9.block _ (A2.out.below bWA).2.2 fun e => by have := HPL.out _ e.symm; omega)
 have e0 := D1.1 0 _ rfl
 have f0 := D1.2.1
 refine hK.out _ _ trivial (fun h5 => ?_)
 clear hK K h5
 refine wpAnyH_take (i := 6) (v := ?_) rfl (by kernel_rfl) (by kernel_rfl) (by kernel_rfl) (fun _ _ _ h => h) (Or.inl ⟨by rfl, fun W hW => ?_⟩) trivial ?_
 rotate_left
 ·clear hW
  go_simp
  try with_reducible rfl
 simp only [Act.put, List.getElem_toArray, List.getElem_cons_zero, List.getElem_cons_succ, List.setIfInBounds_toArray, List.set_cons_zero, List.set_cons_succ]
 refine wpAnyH_ready (rs := [7]) (by kernel_rfl) (by simp) (AllReadyH.cons rfl (fun K hK => ?_) AllReadyH.nil)
 go_simp
 refine hK.out _ _ trivial (fun h6 => ?_)
 clear hK K h6
 refine wpAnyH_done (by kernel_rfl) ?_ _
 have E1 := D1.set 0 (by simp) (.slice po pn pk)
 have E2 := D2.other (C := w.heap.size) (by omega) 0 (.slice po pn pk)
 have HO9 : Hid (w9.ownsRow base 9 1 (.slice po pn pk) (ag.length + 1) (scells (ag ++ [AV]))) := o9
 have HG9 : Hid (w.grownBy w9 p.ownBlock) := ⟨(g9.os.trans bWA.os).trans bO.os, (g9.tape.trans bWA.tape).trans bO.tape, (g9.output.trans bWA.output).trans bO.output, Nat.le_trans bO.size (Nat.le_trans bWA.size g9.size), fun b hb hne => (g9.block b (Nat.lt_of_lt_of_le hb (Nat.le_trans bO.size bWA.size)) hne).trans ((bWA.block b (Nat.lt_of_lt_of_le hb bO.size)).trans (bO.block b hb))⟩
 have HAT : Hid ((Value.slice po pn pk).ownBlock = p.ownBlock ∨ ∀ b, (Value.slice po pn pk).ownBlock = some b → w.heap.size + 2 ≤ b) := hat9.imp id fun h b e => by rw [h] at e; injection e with e; have := bWA.size; omega
 clear o9 g9 hat9 D1 D2 e0 f0
 have x0 := E1.1 0 _ rfl
 have x1 := E1.1 1 _ rfl
 have y0 := E2.1 0 _ rfl
 have y1 := E2.1 1 _ rfl
 have yf := E2.2.1
 go_wp2_with fail
 refine bodyPost_ret (part_res1 rfl _ _ (w.heap.size + 1) (.slice po pn pk) (.slice qx qn qk) rfl ((E2.set 0 (by simp) _).set 1 (by simp) _)) rfl ⟨_, rfl, ?_, ?_, ?_⟩
 ·refine own_at HO9.out fun b e => ?_
  have hlt : b ≠ w.heap.size ∧ b ≠ w.heap.size + 1 := by
   rcases HAT.out with h | h
   ·rw [h] at e; have := HPL.out b e; omega
   have := h b e; omega
  rw [Below.heap_setCell _ _ _ _ hlt.2, Below.heap_setCell _ _ _ _ hlt.2, Below.heap_setCell _ _ _ _ hlt.1]
 ·refine ⟨HG9.out.os, HG9.out.tape, HG9.out.output, ?_, fun b hb hne => ?_⟩
  ·have := HG9.out.size; simpa using this
  rw [Below.heap_setCell _ _ _ _ (show b ≠ w.heap.size + 1 by omega), Below.heap_setCell _ _ _ _ (show b ≠ w.heap.size + 1 by omega), Below.heap_setCell _ _ _ _ (show b ≠ w.heap.size by omega)]
  exact HG9.out.block b hb hne
 exact HAT.out.imp id fun h b e => by have := h b e; omega
end Go.Proofs.YtjdnemjcjodboaaDoor
