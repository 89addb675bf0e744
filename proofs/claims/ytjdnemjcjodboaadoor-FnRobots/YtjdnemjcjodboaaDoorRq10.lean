/- RobWithI3, ParseAdd. -/
import Derived.Test.YtjdnemjcjodboaaDoorRq09
set_option maxHeartbeats 8000000
namespace Go.Proofs.YtjdnemjcjodboaaDoor
open Go.RowKit
set_option linter.unusedVariables false
theorem implWithLn (ln : List LV) (q : Value) (px : Option Addr) (pn' pk' : Nat) (KV VV PV : ByteArray) (b : Bool) (base : Nat) (w : World) (hk : (KV.toList == [117, 115, 101, 114, 45, 97, 103, 101, 110, 116]) = false) (hkb : (KV.toList == [97, 108, 108, 111, 119]) = b) (hv : 0 < VV.size) (hn : ln.length ≤ 1048576) (hb : base ≤ w.heap.size)
  (CP : Hid (∀ W, Below w.heap.size w W → Calls Tryd.prog 10 #[.string VV] W fun e w' => e = .returned (.string PV) ∧ Below W.heap.size W w')) (oq : w.ownsRow base 35 2 q ln.length (lcells ln)) :
  Calls Tryd.prog 46 #[.agg #[.slice px pn' pk', q], .string KV, .string VV] w fun e w' => ∃ q', e = .returned (.agg #[.slice px pn' pk', q']) ∧ w'.ownsRow base 35 2 q' (ln.length + 1) (lcells (ln ++ [⟨b, PV⟩])) ∧ w.grownBy w' q.ownBlock ∧ (q'.ownBlock = q.ownBlock ∨ ∀ b, q'.ownBlock = some b → w.heap.size ≤ b) := by
 obtain ⟨O, hO⟩ : ∃ O, O = (w.alloc (.cells #[.slice px pn' pk', q] 33)).alloc (.cells #[.slice none 0 0, .slice none 0 0] 33) := ⟨_, rfl⟩
 have bO : Below w.heap.size w O := by rw [hO]; exact ((Below.refl _ _).alloc (Nat.le_refl _) _).alloc (by simp) _
 have hzO : O.heap.size = w.heap.size + 2 := by rw [hO]; simp
 have A1 : Hid (BAt O w.heap.size [.slice px pn' pk', q]) := by rw [hO]; exact (BAt.new w #[.slice px pn' pk', q] _).alloc _
 have A2 : Hid (BAt O (w.heap.size + 1) [.slice none 0 0, .slice none 0 0]) := by
  rw [hO]
  have := BAt.new (w.alloc (.cells #[.slice px pn' pk', q] 33)) #[.slice none 0 0, .slice none 0 0] 33
  rw [World.size_alloc] at this
  exact this
 have OQ : Hid (O.ownsRow base 35 2 q ln.length (lcells ln)) := own_below oq bO
 have HPL : Hid (∀ b, q.ownBlock = some b → b < w.heap.size) := fun b e => (oq.lt b e).2
 have HBO : Hid (base ≤ O.heap.size) := by show _ ≤ _; omega
 have hX : w.heap.size < O.heap.size := by omega
 have BM0 : Below w.heap.size w O.drew := bO.drew
 have he := empty_no hv
 clear oq
 go_enter Tryd.func46, Tryd.ntmps46
 go_upto_region 4 with fail
 rw [← hO]
 clear hO
 have cq0 := A1.out.1 1 _ rfl
 refine wp_region_held_drew (S := fun _ => True) (by kernel_rfl) trivial (fun h0 => ?_)
 refine wpAnyH_take (i := 0) (v := ?_) rfl (by kernel_rfl) (by kernel_rfl) (by kernel_rfl) (fun _ _ _ h => h) (Or.inl ⟨by rfl, fun W hW => ?_⟩) trivial ?_
 rotate_left
 ·clear hW
  go_simp
  try with_reducible rfl
 simp only [Act.put, List.getElem_toArray, List.getElem_cons_zero, List.setIfInBounds_toArray, List.set_cons_zero, List.set_cons_succ]
 refine wpAnyH_take (i := 2) (v := ?_) rfl (by kernel_rfl) (by kernel_rfl) (by kernel_rfl) (fun _ _ _ h => h) (Or.inl ⟨by rfl, fun W hW => ?_⟩) trivial ?_
 rotate_left
 ·clear hW
  go_simp
  try with_reducible rfl
 simp only [Act.put, List.getElem_toArray, List.getElem_cons_zero, List.getElem_cons_succ, List.setIfInBounds_toArray, List.set_cons_zero, List.set_cons_succ]
 refine wpAnyH_take (i := 3) (v := .bool b) rfl (by kernel_rfl) (by kernel_rfl) (by kernel_rfl) (fun _ _ _ h => h) (Or.inl ⟨by rfl, fun W hW => ?_⟩) trivial ?_
 ·clear hW
  go_simp
 simp only [Act.put, List.getElem_toArray, List.getElem_cons_zero, List.getElem_cons_succ, List.setIfInBounds_toArray, List.set_cons_zero, List.set_cons_succ]
 refine wpAnyH_take (i := 4) (v := ?_) rfl (by kernel_rfl) (by kernel_rfl) (by kernel_rfl) (fun _ _ _ h => h) (Or.inl ⟨by rfl, fun W hW => ?_⟩) trivial ?_
 rotate_left
 ·clear hW
  go_simp
  try with_reducible rfl
 simp only [Act.put, List.getElem_toArray, List.getElem_cons_zero, List.getElem_cons_succ, List.setIfInBounds_toArray, List.set_cons_zero, List.set_cons_succ]
 refine wpAnyH_ready (rs := [1, 5]) (by kernel_rfl) (by simp) (AllReadyH.cons rfl (fun K hK => ?_) (AllReadyH.cons rfl (fun K hK => ?_) AllReadyH.nil))
 ·go_simp
  refine hK.out _ _ trivial (fun h0' => ?_)
  clear hK K h0'
  refine wpAnyH_ready (rs := [5]) (by kernel_rfl) (by simp) (AllReadyH.cons rfl (fun K hK => ?_) AllReadyH.nil)
  go_simp
  go_wp2_with (go_at_call 10; refine (CP.out _ BM0).mono ?_; rintro e wq ⟨rfl, hbq⟩)
  have bq3 : Below O.heap.size O wq := (Below.refl O.heap.size O).drew.trans hbq
  have cqq := (bq3.cell (p := ⟨w.heap.size, 1, none⟩) hX).trans cq0
  refine hK.out _ _ trivial (fun h1 => ?_)
  clear hK K h1 hbq
  refine wpAnyH_take (i := 6) (v := .agg #[.bool b, .string PV]) rfl (by kernel_rfl) (by kernel_rfl) (by kernel_rfl) (fun _ _ _ h => h) (Or.inl ⟨by rfl, fun W hW => ?_⟩) trivial ?_
  ·clear hW
   go_simp
  simp only [Act.put, List.getElem_toArray, List.getElem_cons_zero, List.getElem_cons_succ, List.setIfInBounds_toArray, List.set_cons_zero, List.set_cons_succ]
  refine wpAnyH_ready (rs := [7]) (by kernel_rfl) (by simp) (AllReadyH.cons rfl (fun K hK => ?_) AllReadyH.nil)
  go_simp
  have bWA : Below O.heap.size O (wq.alloc (.cells #[.bool b, .string PV] 35)) := bq3.alloc bq3.size _
  have cqa := (bWA.cell (p := ⟨w.heap.size, 1, none⟩) hX).trans cq0
  refine hK.out _ _ trivial (fun h1 => ?_)
  clear hK K h1
  refine wpAnyH_ready (rs := [8]) (by kernel_rfl) (by simp) (AllReadyH.cons rfl (fun K hK => ?_) AllReadyH.nil)
  rw [if_pos (by rfl)]
  refine wp_append_at (wq.alloc (.cells #[.bool b, .string PV] 35)) (.tmp 21) (.tmp 27) 31 rfl base 35 (.agg #[.bool false, .string ⟨#[]⟩]) 2 24 Tryd.underlying31 Tryd.infoL3 rfl (by decide) q ln.length (lcells ln) rfl (own_below OQ.out bWA) ⟨wq.heap.size, 0, none⟩ 1 1 [.bool b, .string PV] rfl rfl (fun jj u hj => by
   rw [Addr.add_lit, Nat.zero_add]
   exact (BAt.new wq #[.bool b, .string PV] 35).1 jj u hj) (by intro u hu; simp at hu; rcases hu with rfl | rfl <;> rfl) (by unfold maxLen; omega) (by omega) (Nat.le_trans HBO.out bWA.size) ?_
  intro q' w9 o9 g9 hat9
  have o9' : w9.ownsRow base 35 2 q' (ln.length + 1) (lcells (ln ++ [⟨b, PV⟩])) := by rw [lcells_append]; exact o9
  obtain ⟨po, pn, pk, hpo⟩ : ∃ po pn pk, q' = Value.slice po pn pk := by
   rcases o9.2 with ⟨h, _⟩ | ⟨g9', cap9, cur9, h, _⟩
   ·exact ⟨_, _, _, h⟩
   exact ⟨_, _, _, h⟩
  subst hpo
  have D1 : BAt w9 w.heap.size [.slice px pn' pk', q] := (A1.out.below bWA).same g9.size (g9.block _ (A1.out.below bWA).2.2 fun e => by have := HPL.out _ e.symm; omega)
  have D2 : BAt w9 (w.heap.size + 1) [.slice none 0 0, .slice none 0 0] := (A2.out.below bWA).same g9.size (g9.block _ (A2.out.below bWA).2.2 fun e => by have := HPL.out _ e.symm; omega)
  have e0 := D1.1 1 _ rfl
  have f0 := D1.2.1
  refine hK.out _ _ trivial (fun h5 => ?_)
  clear hK K h5
  refine wpAnyH_take (i := 9) (v := ?_) rfl (by kernel_rfl) (by kernel_rfl) (by kernel_rfl) (fun _ _ _ h => h) (Or.inl ⟨by rfl, fun W hW => ?_⟩) trivial ?_
  rotate_left
  ·clear hW
   go_simp
   try with_reducible rfl
  simp only [Act.put, List.getElem_toArray, List.getElem_cons_zero, List.getElem_cons_succ, List.setIfInBounds_toArray, List.set_cons_zero, List.set_cons_succ]
  refine wpAnyH_ready (rs := [10]) (by kernel_rfl) (by simp) (AllReadyH.cons rfl (fun K hK => ?_) AllReadyH.nil)
  go_simp
  refine hK.out _ _ trivial (fun h6 => ?_)
  clear hK K h6
  refine wpAnyH_done (by kernel_rfl) ?_ _
  have E1 := D1.set 1 (by simp) (.slice po pn pk)
  have E2 := D2.other (C := w.heap.size) (by omega) 1 (.slice po pn pk)
  have HO9 : Hid (w9.ownsRow base 35 2 (.slice po pn pk) (ln.length + 1) (lcells (ln ++ [⟨b, PV⟩]))) := o9'
  have HG9 : Hid (w.grownBy w9 q.ownBlock) := ⟨(g9.os.trans bWA.os).trans bO.os, (g9.tape.trans bWA.tape).trans bO.tape, (g9.output.trans bWA.output).trans bO.output, Nat.le_trans bO.size (Nat.le_trans bWA.size g9.size), fun b hb hne => (g9.block b (Nat.lt_of_lt_of_le hb (Nat.le_trans bO.size bWA.size)) hne).trans ((bWA.block b (Nat.lt_of_lt_of_le hb bO.size)).trans (bO.block b hb))⟩
  have HAT : Hid ((Value.slice po pn pk).ownBlock = q.ownBlock ∨ ∀ b, (Value.slice po pn pk).ownBlock = some b → w.heap.size + 2 ≤ b) := hat9.imp id fun h b e => by rw [h] at e; injection e with e; have := bWA.size; omega
  clear o9 o9' g9 hat9 D1 D2 e0 f0
  have x0 := E1.1 0 _ rfl
  have x1 := E1.1 1 _ rfl
  have y0 := E2.1 0 _ rfl
  have y1 := E2.1 1 _ rfl
  have yf := E2.2.1
  go_wp2_with fail
  refine bodyPost_ret (part_res1 rfl _ _ (w.heap.size + 1) (.slice px pn' pk') (.slice po pn pk) rfl ((E2.set 0 (by simp) _).set 1 (by simp) _)) rfl ⟨_, rfl, ?_, ?_, ?_⟩
  ·refine own_at HO9.out fun b e => ?_
   have hlt : b ≠ w.heap.size ∧ b ≠ w.heap.size + 1 := by
    rcases HAT.out with h | h
    ·rw [h] at e; have := HPL.out b e; omega
    have := h b e; omega
   rw [Below.heap_setCell _ _ _ _ hlt.2, Below.heap_setCell _ _ _ _ hlt.2, Below.heap_setCell _ _ _ _ hlt.1]
  ·refine ⟨HG9.out.os, HG9.out.tape, HG9.out.output, ?_, fun b hb hne => ?_⟩
   ·have := HG9.out.size; simpa using this
   rw [Below.heap_setCell _ _ _ _ (show b ≠ w.heap.size + 1 by omega), Below.heap_setCell _ _ _ _ (show b ≠ w.heap.size + 1 by omega), Below.heap_setCell _ _ _ _ (show b ≠ w.heap.size by omega)]
   exact HG9.out.block b hb hne
  exact HAT.out.imp id fun h b e => by have := h b e; omega
 go_simp
 go_wp2_with (go_at_call 10; refine (CP.out _ BM0).mono ?_; rintro e wq ⟨rfl, hbq⟩)
 have bq3 : Below O.heap.size O wq := (Below.refl O.heap.size O).drew.trans hbq
 have cqq := (bq3.cell (p := ⟨w.heap.size, 1, none⟩) hX).trans cq0
 refine hK.out _ _ trivial (fun h1 => ?_)
 clear hK K h1 hbq
 refine wpAnyH_take (i := 6) (v := .agg #[.bool b, .string PV]) rfl (by kernel_rfl) (by kernel_rfl) (by kernel_rfl) (fun _ _ _ h => h) (Or.inl ⟨by rfl, fun W hW => ?_⟩) trivial ?_
 ·clear hW
  go_simp
 simp only [Act.put, List.getElem_toArray, List.getElem_cons_zero, List.getElem_cons_succ, List.setIfInBounds_toArray, List.set_cons_zero, List.set_cons_succ]
 refine wpAnyH_ready (rs := [1, 7]) (by kernel_rfl) (by simp) (AllReadyH.cons rfl (fun K hK => ?_) (AllReadyH.cons rfl (fun K hK => ?_) AllReadyH.nil))
 ·go_simp
  refine hK.out _ _ trivial (fun h2 => ?_)
  clear hK K h2
  refine wpAnyH_ready (rs := [7]) (by kernel_rfl) (by simp) (AllReadyH.cons rfl (fun K hK => ?_) AllReadyH.nil)
  go_simp
  have bWA : Below O.heap.size O (wq.alloc (.cells #[.bool b, .string PV] 35)) := bq3.alloc bq3.size _
  have cqa := (bWA.cell (p := ⟨w.heap.size, 1, none⟩) hX).trans cq0
  refine hK.out _ _ trivial (fun h1 => ?_)
  clear hK K h1
  refine wpAnyH_ready (rs := [8]) (by kernel_rfl) (by simp) (AllReadyH.cons rfl (fun K hK => ?_) AllReadyH.nil)
  rw [if_pos (by rfl)]
  refine wp_append_at (wq.alloc (.cells #[.bool b, .string PV] 35)) (.tmp 21) (.tmp 27) 31 rfl base 35 (.agg #[.bool false, .string ⟨#[]⟩]) 2 24 Tryd.underlying31 Tryd.infoL3 rfl (by decide) q ln.length (lcells ln) rfl (own_below OQ.out bWA) ⟨wq.heap.size, 0, none⟩ 1 1 [.bool b, .string PV] rfl rfl (fun jj u hj => by
   rw [Addr.add_lit, Nat.zero_add]
   exact (BAt.new wq #[.bool b, .string PV] 35).1 jj u hj) (by intro u hu; simp at hu; rcases hu with rfl | rfl <;> rfl) (by unfold maxLen; omega) (by omega) (Nat.le_trans HBO.out bWA.size) ?_
  intro q' w9 o9 g9 hat9
  have o9' : w9.ownsRow base 35 2 q' (ln.length + 1) (lcells (ln ++ [⟨b, PV⟩])) := by rw [lcells_append]; exact o9
  obtain ⟨po, pn, pk, hpo⟩ : ∃ po pn pk, q' = Value.slice po pn pk := by
   rcases o9.2 with ⟨h, _⟩ | ⟨g9', cap9, cur9, h, _⟩
   ·exact ⟨_, _, _, h⟩
   exact ⟨_, _, _, h⟩
  subst hpo
  have D1 : BAt w9 w.heap.size [.slice px pn' pk', q] := (A1.out.below bWA).same g9.size (g9.block _ (A1.out.below bWA).2.2 fun e => by have := HPL.out _ e.symm; omega)
  have D2 : BAt w9 (w.heap.size + 1) [.slice none 0 0, .slice none 0 0] := (A2.out.below bWA).same g9.size (g9.block _ (A2.out.below bWA).2.2 fun e => by have := HPL.out _ e.symm; omega)
  have e0 := D1.1 1 _ rfl
  have f0 := D1.2.1
  refine hK.out _ _ trivial (fun h5 => ?_)
  clear hK K h5
  refine wpAnyH_take (i := 9) (v := ?_) rfl (by kernel_rfl) (by kernel_rfl) (by kernel_rfl) (fun _ _ _ h => h) (Or.inl ⟨by rfl, fun W hW => ?_⟩) trivial ?_
  rotate_left
  ·clear hW
   go_simp
   try with_reducible rfl
  simp only [Act.put, List.getElem_toArray, List.getElem_cons_zero, List.getElem_cons_succ, List.setIfInBounds_toArray, List.set_cons_zero, List.set_cons_succ]
  refine wpAnyH_ready (rs := [10]) (by kernel_rfl) (by simp) (AllReadyH.cons rfl (fun K hK => ?_) AllReadyH.nil)
  go_simp
  refine hK.out _ _ trivial (fun h6 => ?_)
  clear hK K h6
  refine wpAnyH_done (by kernel_rfl) ?_ _
  have E1 := D1.set 1 (by simp) (.slice po pn pk)
  have E2 := D2.other (C := w.heap.size) (by omega) 1 (.slice po pn pk)
  have HO9 : Hid (w9.ownsRow base 35 2 (.slice po pn pk) (ln.length + 1) (lcells (ln ++ [⟨b, PV⟩]))) := o9'
  have HG9 : Hid (w.grownBy w9 q.ownBlock) := ⟨(g9.os.trans bWA.os).trans bO.os, (g9.tape.trans bWA.tape).trans bO.tape, (g9.output.trans bWA.output).trans bO.output, Nat.le_trans bO.size (Nat.le_trans bWA.size g9.size), fun b hb hne => (g9.block b (Nat.lt_of_lt_of_le hb (Nat.le_trans bO.size bWA.size)) hne).trans ((bWA.block b (Nat.lt_of_lt_of_le hb bO.size)).trans (bO.block b hb))⟩
  have HAT : Hid ((Value.slice po pn pk).ownBlock = q.ownBlock ∨ ∀ b, (Value.slice po pn pk).ownBlock = some b → w.heap.size + 2 ≤ b) := hat9.imp id fun h b e => by rw [h] at e; injection e with e; have := bWA.size; omega
  clear o9 o9' g9 hat9 D1 D2 e0 f0
  have x0 := E1.1 0 _ rfl
  have x1 := E1.1 1 _ rfl
  have y0 := E2.1 0 _ rfl
  have y1 := E2.1 1 _ rfl
  have yf := E2.2.1
  go_wp2_with fail
  refine bodyPost_ret (part_res1 rfl _ _ (w.heap.size + 1) (.slice px pn' pk') (.slice po pn pk) rfl ((E2.set 0 (by simp) _).set 1 (by simp) _)) rfl ⟨_, rfl, ?_, ?_, ?_⟩
  ·refine own_at HO9.out fun b e => ?_
   have hlt : b ≠ w.heap.size ∧ b ≠ w.heap.size + 1 := by
    rcases HAT.out with h | h
    ·rw [h] at e; have := HPL.out b e; omega
    have := h b e; omega
   rw [Below.heap_setCell _ _ _ _ hlt.2, Below.heap_setCell _ _ _ _ hlt.2, Below.heap_setCell _ _ _ _ hlt.1]
  ·refine ⟨HG9.out.os, HG9.out.tape, HG9.out.output, ?_, fun b hb hne => ?_⟩
   ·have := HG9.out.size; simpa using this
   rw [Below.heap_setCell _ _ _ _ (show b ≠ w.heap.size + 1 by omega), Below.heap_setCell _ _ _ _ (show b ≠ w.heap.size + 1 by omega), Below.heap_setCell _ _ _ _ (show b ≠ w.heap.size by omega)]
   exact HG9.out.block b hb hne
  exact HAT.out.imp id fun h b e => by have := h b e; omega
 go_simp
 have bWA : Below O.heap.size O (wq.alloc (.cells #[.bool b, .string PV] 35)) := bq3.alloc bq3.size _
 have cqa := (bWA.cell (p := ⟨w.heap.size, 1, none⟩) hX).trans cq0
 refine hK.out _ _ trivial (fun h1 => ?_)
 clear hK K h1
 refine wpAnyH_ready (rs := [1]) (by kernel_rfl) (by simp) (AllReadyH.cons rfl (fun K hK => ?_) AllReadyH.nil)
 go_simp
 refine hK.out _ _ trivial (fun h2 => ?_)
 clear hK K h2
 refine wpAnyH_ready (rs := [8]) (by kernel_rfl) (by simp) (AllReadyH.cons rfl (fun K hK => ?_) AllReadyH.nil)
 rw [if_pos (by rfl)]
 refine wp_append_at (wq.alloc (.cells #[.bool b, .string PV] 35)) (.tmp 21) (.tmp 27) 31 rfl base 35 (.agg #[.bool false, .string ⟨#[]⟩]) 2 24 Tryd.underlying31 Tryd.infoL3 rfl (by decide) q ln.length (lcells ln) rfl (own_below OQ.out bWA) ⟨wq.heap.size, 0, none⟩ 1 1 [.bool b, .string PV] rfl rfl (fun jj u hj => by
  rw [Addr.add_lit, Nat.zero_add]
  exact (BAt.new wq #[.bool b, .string PV] 35).1 jj u hj) (by intro u hu; simp at hu; rcases hu with rfl | rfl <;> rfl) (by unfold maxLen; omega) (by omega) (Nat.le_trans HBO.out bWA.size) ?_
 intro q' w9 o9 g9 hat9
 have o9' : w9.ownsRow base 35 2 q' (ln.length + 1) (lcells (ln ++ [⟨b, PV⟩])) := by rw [lcells_append]; exact o9
 obtain ⟨po, pn, pk, hpo⟩ : ∃ po pn pk, q' = Value.slice po pn pk := by
  rcases o9.2 with ⟨h, _⟩ | ⟨g9', cap9, cur9, h, _⟩
  ·exact ⟨_, _, _, h⟩
  exact ⟨_, _, _, h⟩
 subst hpo
 have D1 : BAt w9 w.heap.size [.slice px pn' pk', q] := (A1.out.below bWA).same g9.size (g9.block _ (A1.out.below bWA).2.2 fun e => by have := HPL.out _ e.symm; omega)
 have D2 : BAt w9 (w.heap.size + 1) [.slice none 0 0, .slice none 0 0] := (A2.out.below bWA).same g9.size (g9.block _ (A2.out.below bWA).2.2 fun e => by have := HPL.out _ e.symm; omega)
 have e0 := D1.1 1 _ rfl
 have f0 := D1.2.1
 refine hK.out _ _ trivial (fun h5 => ?_)
 clear hK K h5
 refine wpAnyH_take (i := 9) (v := ?_) rfl (by kernel_rfl) (by kernel_rfl) (by kernel_rfl) (fun _ _ _ h => h) (Or.inl ⟨by rfl, fun W hW => ?_⟩) trivial ?_
 rotate_left
 ·clear hW
  go_simp
  try with_reducible rfl
 simp only [Act.put, List.getElem_toArray, List.getElem_cons_zero, List.getElem_cons_succ, List.setIfInBounds_toArray, List.set_cons_zero, List.set_cons_succ]
 refine wpAnyH_ready (rs := [10]) (by kernel_rfl) (by simp) (AllReadyH.cons rfl (fun K hK => ?_) AllReadyH.nil)
 go_simp
 refine hK.out _ _ trivial (fun h6 => ?_)
 clear hK K h6
 refine wpAnyH_done (by kernel_rfl) ?_ _
 have E1 := D1.set 1 (by simp) (.slice po pn pk)
 have E2 := D2.other (C := w.heap.size) (by omega) 1 (.slice po pn pk)
 have HO9 : Hid (w9.ownsRow base 35 2 (.slice po pn pk) (ln.length + 1) (lcells (ln ++ [⟨b, PV⟩]))) := o9'
 have HG9 : Hid (w.grownBy w9 q.ownBlock) := ⟨(g9.os.trans bWA.os).trans bO.os, (g9.tape.trans bWA.tape).trans bO.tape, (g9.output.trans bWA.output).trans bO.output, Nat.le_trans bO.size (Nat.le_trans bWA.size g9.size), fun b hb hne => (g9.block b (Nat.lt_of_lt_of_le hb (Nat.le_trans bO.size bWA.size)) hne).trans ((bWA.block b (Nat.lt_of_lt_of_le hb bO.size)).trans (bO.block b hb))⟩
 have HAT : Hid ((Value.slice po pn pk).ownBlock = q.ownBlock ∨ ∀ b, (Value.slice po pn pk).ownBlock = some b → w.heap.size + 2 ≤ b) := hat9.imp id fun h b e => by rw [h] at e; injection e with e; have := bWA.size; omega
 clear o9 o9' g9 hat9 D1 D2 e0 f0
 have x0 := E1.1 0 _ rfl
 have x1 := E1.1 1 _ rfl
 have y0 := E2.1 0 _ rfl
 have y1 := E2.1 1 _ rfl
 have yf := E2.2.1
 go_wp2_with fail
 refine bodyPost_ret (part_res1 rfl _ _ (w.heap.size + 1) (.slice px pn' pk') (.slice po pn pk) rfl ((E2.set 0 (by simp) _).set 1 (by simp) _)) rfl ⟨_, rfl, ?_, ?_, ?_⟩
 ·refine own_at HO9.out fun b e => ?_
  have hlt : b ≠ w.heap.size ∧ b ≠ w.heap.size + 1 := by
   rcases HAT.out with h | h
   ·rw [h] at e; have := HPL.out b e; omega
   have := h b e; omega
  rw [Below.heap_setCell _ _ _ _ hlt.2, Below.heap_setCell _ _ _ _ hlt.2, Below.heap_setCell _ _ _ _ hlt.1]
 ·refine ⟨HG9.out.os, HG9.out.tape, HG9.out.output, ?_, fun b hb hne => ?_⟩
  ·have := HG9.out.size; simpa using this
  rw [Below.heap_setCell _ _ _ _ (show b ≠ w.heap.size + 1 by omega), Below.heap_setCell _ _ _ _ (show b ≠ w.heap.size + 1 by omega), Below.heap_setCell _ _ _ _ (show b ≠ w.heap.size by omega)]
  exact HG9.out.block b hb hne
 exact HAT.out.imp id fun h b e => by have := h b e; omega
theorem implWithNone (px qx : Option Addr) (pn pk qn qk : Nat) (KV VV : ByteArray) (w : World) (hk : (KV.toList == [117, 115, 101, 114, 45, 97, 103, 101, 110, 116]) = false) (hv : VV.size = 0) :
  Calls Tryd.prog 46 #[.agg #[.slice px pn pk, .slice qx qn qk], .string KV, .string VV] w fun e w' => e = .returned (.agg #[.slice px pn pk, .slice qx qn qk]) ∧ Below w.heap.size w w' := by
 obtain ⟨O, hO⟩ : ∃ O, O = (w.alloc (.cells #[.slice px pn pk, .slice qx qn qk] 33)).alloc (.cells #[.slice none 0 0, .slice none 0 0] 33) := ⟨_, rfl⟩
 have bO : Below w.heap.size w O := by rw [hO]; exact ((Below.refl _ _).alloc (Nat.le_refl _) _).alloc (by simp) _
 have hzO : O.heap.size = w.heap.size + 2 := by rw [hO]; simp
 have A1 : BAt O w.heap.size [.slice px pn pk, .slice qx qn qk] := by rw [hO]; exact (BAt.new w #[.slice px pn pk, .slice qx qn qk] _).alloc _
 have A2 : BAt O (w.heap.size + 1) [.slice none 0 0, .slice none 0 0] := by
  rw [hO]
  have := BAt.new (w.alloc (.cells #[.slice px pn pk, .slice qx qn qk] 33)) #[.slice none 0 0, .slice none 0 0] 33
  rw [World.size_alloc] at this
  exact this
 have he := empty_yes hv
 clear hv
 go_enter Tryd.func46, Tryd.ntmps46
 go_upto_region 1 with fail
 rw [← hO]
 clear hO
 have x0 := A1.1 0 _ rfl
 have x1 := A1.1 1 _ rfl
 have y0 := A2.1 0 _ rfl
 have y1 := A2.1 1 _ rfl
 have yf := A2.2.1
 go_wp2_with fail
 refine bodyPost_ret (part_res1 rfl _ _ (w.heap.size + 1) (.slice px pn pk) (.slice qx qn qk) rfl ((A2.set 0 (by simp) _).set 1 (by simp) _)) rfl ⟨rfl, ?_⟩
 exact (bO.setCell (by simp) _).setCell (by simp) _
end Go.Proofs.YtjdnemjcjodboaaDoor
namespace Go.Proofs.YtjdnemjcjodboaaDoor
open Go.RowKit
theorem wpList_append_rule {P : Program} (wr : World) {ops : Array Oper} {rest : List Oper} {o : Oper} {a : Act} {Q : Exit → Act → World → Prop}
  (hg : o.guard = none) (s x : Operand) (t : TypeId) (hop : o.op = .call { callee := .builtin .append, args := #[s, x], argTypes := #[t, t] })
  (B : Nat) (e : TypeId) (z : Value) (bytes : Nat) (ht : P.underlying t = some (.slice e)) (hinfo : (P.info? e).map (fun i => (i.zero, i.size, i.bytes)) = some (some z, 2, bytes)) (hz : z.cells.size = 2)
  (v : Value) (n : Nat) (xs : List Value) (hs : a.eval s = v) (hown : wr.ownsRow B e 2 v n xs)
  (p q : Value) (hx : a.eval x = .slice (some ⟨wr.heap.size, 0, none⟩) 1 1) (h1 : p.oneCell' = true) (h2 : q.oneCell' = true)
  (hroom : (n + 1) * bytes ≤ 140737488355328) (hroom' : n + 1 ≤ maxLen) (hB : B ≤ wr.heap.size)
  (hK : ∀ v' w1, w1.ownsRow B e 2 v' (n + 1) (xs ++ [p, q]) → wr.grownBy w1 v.ownBlock → (v'.ownBlock = v.ownBlock ∨ v'.ownBlock = some (wr.heap.size + 1)) → wpList P ops Q rest (a.put o.dst v') w1) :
  wpList P ops Q (o :: rest) a (wr.alloc (.cells #[p, q] e)) := by
 obtain ⟨i0, hi, hz0, hz1, hz2⟩ := info_parts hinfo
 refine wpList_append_own_at (wr.alloc (.cells #[p, q] e)) hg s x t hop B e i0 z 2 bytes ht hi hz0 hz1 hz2 hz (by decide) v n xs hs (hown.alloc _) ⟨wr.heap.size, 0, none⟩ 1 1 [p, q] hx (by simp) ?_ ?_ hroom' hroom (by simp; omega) ?_
 ·intro j u hj
  rw [Addr.add_lit, Nat.zero_add]
  rw [World.cell?_alloc_at _ _ _ _ rfl]
  simpa using hj
 ·intro u hu
  simp at hu
  rcases hu with rfl | rfl
  ·exact h1
  exact h2
 intro v' w1 h1 h2 _ h4
 refine hK v' w1 h1 ⟨h2.os, h2.tape, h2.output, ?_, fun k hk hne => (h2.block k (by simp; omega) hne).trans (Below.heap_alloc wr _ k hk)⟩ (by simpa using h4)
 have := h2.size
 simp at this
 omega
end Go.Proofs.YtjdnemjcjodboaaDoor
