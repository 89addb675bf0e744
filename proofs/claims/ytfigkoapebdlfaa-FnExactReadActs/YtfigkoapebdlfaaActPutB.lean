/- Contracts of spec.PutAct and impl.PutAct. -/
import Derived.Test.YtfigkoapebdlfaaRows
import Derived.Test.YtfigkoapebdlfaaActPut
namespace Go.Proofs.Ytfigkoapebdlfaa
open Go.RowKit
set_option linter.unusedVariables false
set_option linter.unusedSimpArgs false

set_option maxRecDepth 100000 in
set_option maxHeartbeats 4000000 in
theorem specPutAct (x : AV) (w : World) (ht : x.t.size ≤ 1048576) (hb : x.b.size ≤ 1048576) :
    Calls Try.prog 12 #[.agg #[.int .i64 x.k, .string x.t, .string x.b, .int .i64 x.n]] w fun e w' => ∃ v', e = .returned v' ∧ w'.ownsRow w.heap.size 5 1 v' (actL x).length (bcells (actL x)) ∧ Below w.heap.size w w' := by
  have CA : Hid (∀ W, Calls Try.prog 9 #[.agg #[.int .i64 x.k, .string x.t, .string x.b, .int .i64 x.n]] W fun e w' => e = .returned (.bool (actB x)) ∧ Below W.heap.size W w') := fun W => specActOk x W
  have HR : True := trivial
  obtain ⟨k, t, b, n⟩ := x
  dsimp only at ht hb CA HR ⊢
  obtain ⟨O, hO⟩ : ∃ O, O = w.alloc (.cells #[.int .i64 k, .string t, .string b, .int .i64 n] 26) := ⟨_, rfl⟩
  have bO : Below w.heap.size w O := by rw [hO]; exact (Below.refl _ _).alloc (Nat.le_refl _) _
  have AO : BAt O w.heap.size [.int .i64 k, .string t, .string b, .int .i64 n] := by rw [hO]; exact BAt.new w #[.int .i64 k, .string t, .string b, .int .i64 n] _
  obtain ⟨A, hA⟩ : ∃ A, actL ⟨k, t, b, n⟩ = A := ⟨_, rfl⟩
  have HA : Hid (A = actL ⟨k, t, b, n⟩) := hA.symm
  rw [hA]
  clear hA
  obtain ⟨P, hP⟩ : ∃ P, actB ⟨k, t, b, n⟩ = P := ⟨_, rfl⟩
  have HP : Hid (actB ⟨k, t, b, n⟩ = P) := hP
  rw [hP] at CA
  clear hP
  go_enter Try.func12, Try.ntmps12
  go_upto_region 1 with fail
  rw [← hO]
  clear hO
  have c0 := AO.1 0 _ rfl
  have c1 := AO.1 1 _ rfl
  have c2 := AO.1 2 _ rfl
  have c3 := AO.1 3 _ rfl
  go_wp2_with fail
  refine (CA.out _).mono ?_
  rintro e wa ⟨rfl, ba⟩
  have AA := AO.below ba
  have c0 := AA.1 0 _ rfl
  have c1 := AA.1 1 _ rfl
  have c2 := AA.1 2 _ rfl
  have c3 := AA.1 3 _ rfl
  have hg := AA.2.2
  have q1 := numL_len k
  have q2 := numL_len n
  have q3 := numL_len t.size
  have s1 : t.data.toList.length = t.size := rfl
  have Ba : Below w.heap.size w wa := bO.trans (ba.mono bO.size)
  have za := Ba.size
  clear AO AA ba bO CA
  cases P with
  | false =>
    have HE : Hid (A = []) := by show _ = _; rw [HA.out]; unfold actL; rw [HP.out]; rfl
    clear HA HP HR
    go_wp2_with fail
    go_ret
    rw [HE.out]
    exact ⟨_, rfl, World.ownsRow_lit wa #[] 0 za (by decide) rfl, Ba.alloc za _⟩
  | true =>
    have HE : Hid (A = rawL ⟨k, t, b, n⟩) := by show _ = _; rw [HA.out]; unfold actL; rw [HP.out]; rfl
    clear HA HP
    go_upto_region 3 with fail
    refine wp_region_held_drew (S := fun W => Below wa.heap.size wa W) (by kernel_rfl) (Below.refl _ _).drew (fun h0 => ?_)
    refine wpAnyH_take (i := 1) (v := ?_) rfl (by kernel_rfl) (by kernel_rfl) (by kernel_rfl) (fun _ _ _ h => h) (Or.inl ⟨by rfl, fun W hW => ?_⟩) h0 ?_
    rotate_left
    · clear hW
      go_simp
      try with_reducible rfl
    simp only [Act.put, List.getElem_toArray, List.getElem_cons_zero, List.getElem_cons_succ, List.setIfInBounds_toArray, List.set_cons_zero, List.set_cons_succ]
    refine wpAnyH_take (i := 2) (v := (.int .i64 k)) rfl (by kernel_rfl) (by kernel_rfl) (by kernel_rfl) (fun _ _ _ h => h) (Or.inl ⟨by rfl, fun W hW => ?_⟩) h0 ?_
    · have q0 := (hW.cell (p := ⟨w.heap.size, 0, none⟩) hg).trans c0
      go_simp
    simp only [Act.put, List.getElem_toArray, List.getElem_cons_zero, List.getElem_cons_succ, List.setIfInBounds_toArray, List.set_cons_zero, List.set_cons_succ]
    refine wpAnyH_take (i := 4) (v := ?_) rfl (by kernel_rfl) (by kernel_rfl) (by kernel_rfl) (fun _ _ _ h => h) (Or.inl ⟨by rfl, fun W hW => ?_⟩) h0 ?_
    rotate_left
    · clear hW
      go_simp
      try with_reducible rfl
    simp only [Act.put, List.getElem_toArray, List.getElem_cons_zero, List.getElem_cons_succ, List.setIfInBounds_toArray, List.set_cons_zero, List.set_cons_succ]
    refine wpAnyH_take (i := 5) (v := (.int .i64 n)) rfl (by kernel_rfl) (by kernel_rfl) (by kernel_rfl) (fun _ _ _ h => h) (Or.inl ⟨by rfl, fun W hW => ?_⟩) h0 ?_
    · have q0 := (hW.cell (p := ⟨w.heap.size, 3, none⟩) hg).trans c3
      go_simp
    simp only [Act.put, List.getElem_toArray, List.getElem_cons_zero, List.getElem_cons_succ, List.setIfInBounds_toArray, List.set_cons_zero, List.set_cons_succ]
    refine wpAnyH_take (i := 7) (v := ?_) rfl (by kernel_rfl) (by kernel_rfl) (by kernel_rfl) (fun _ _ _ h => h) (Or.inl ⟨by rfl, fun W hW => ?_⟩) h0 ?_
    rotate_left
    · clear hW
      go_simp
      try with_reducible rfl
    simp only [Act.put, List.getElem_toArray, List.getElem_cons_zero, List.getElem_cons_succ, List.setIfInBounds_toArray, List.set_cons_zero, List.set_cons_succ]
    refine wpAnyH_take (i := 8) (v := (.string t)) rfl (by kernel_rfl) (by kernel_rfl) (by kernel_rfl) (fun _ _ _ h => h) (Or.inl ⟨by rfl, fun W hW => ?_⟩) h0 ?_
    · have q0 := (hW.cell (p := ⟨w.heap.size, 1, none⟩) hg).trans c1
      go_simp
    simp only [Act.put, List.getElem_toArray, List.getElem_cons_zero, List.getElem_cons_succ, List.setIfInBounds_toArray, List.set_cons_zero, List.set_cons_succ]
    refine wpAnyH_take (i := 10) (v := ?_) rfl (by kernel_rfl) (by kernel_rfl) (by kernel_rfl) (fun _ _ _ h => h) (Or.inl ⟨by rfl, fun W hW => ?_⟩) h0 ?_
    rotate_left
    · clear hW
      go_simp
      try with_reducible rfl
    simp only [Act.put, List.getElem_toArray, List.getElem_cons_zero, List.getElem_cons_succ, List.setIfInBounds_toArray, List.set_cons_zero, List.set_cons_succ]
    refine wpAnyH_take (i := 11) (v := (.string b)) rfl (by kernel_rfl) (by kernel_rfl) (by kernel_rfl) (fun _ _ _ h => h) (Or.inl ⟨by rfl, fun W hW => ?_⟩) h0 ?_
    · have q0 := (hW.cell (p := ⟨w.heap.size, 2, none⟩) hg).trans c2
      go_simp
    simp only [Act.put, List.getElem_toArray, List.getElem_cons_zero, List.getElem_cons_succ, List.setIfInBounds_toArray, List.set_cons_zero, List.set_cons_succ]
    refine wpAnyH_ready (rs := [0]) (by kernel_rfl) (by simp) (AllReadyH.cons rfl (fun K hK => ?_) AllReadyH.nil)
    go_simp
    refine hK.out _ _ (h0.alloc h0.size _) (fun h1 => ?_)
    clear hK K h0
    refine wpAnyH_ready (rs := [3]) (by kernel_rfl) (by simp) (AllReadyH.cons rfl (fun K hK => ?_) AllReadyH.nil)
    go_simp
    refine (specPutNum k _ [] _ (.inl ⟨rfl, _, _, rfl⟩) (by simp)).mono ?_
    rintro e w1 ⟨v1, rfl, o1, bq⟩
    have h2 : Below wa.heap.size wa w1 := h1.trans (bq.mono h1.size)
    refine hK.out _ _ h2 (fun h9 => ?_)
    clear hK K h9 bq h1
    rw [List.nil_append, List.length_nil, Nat.zero_add] at o1
    have r1 := BRow.of_own o1
    clear o1
    refine wpAnyH_ready (rs := [6]) (by kernel_rfl) (by simp) (AllReadyH.cons rfl (fun K hK => ?_) AllReadyH.nil)
    go_simp
    refine (specPutNum n _ _ _ r1 (by omega)).mono ?_
    rintro e w2 ⟨v2, rfl, o2, bq⟩
    have h3 : Below wa.heap.size wa w2 := h2.trans (bq.mono h2.size)
    refine hK.out _ _ h3 (fun h9 => ?_)
    clear hK K h9 bq h2
    rw [← List.length_append] at o2
    have r2 := BRow.of_own o2
    clear o2 r1
    refine wpAnyH_ready (rs := [9]) (by kernel_rfl) (by simp) (AllReadyH.cons rfl (fun K hK => ?_) AllReadyH.nil)
    go_simp
    refine (specPutText t _ _ _ r2 (by rw [List.length_append]; omega) (by omega)).mono ?_
    rintro e w3 ⟨v3, rfl, o3, bq⟩
    have h4 : Below wa.heap.size wa w3 := h3.trans (bq.mono h3.size)
    refine hK.out _ _ h4 (fun h9 => ?_)
    clear hK K h9 bq h3
    have r3 := BRow.of_own o3
    clear o3 r2
    have z4 := h4.size
    refine wpAnyH_ready (rs := [12]) (by kernel_rfl) (by simp) (AllReadyH.cons rfl (fun K hK => ?_) AllReadyH.nil)
    go_simp
    refine (specPutText b _ _ _ r3 (by simp only [List.length_append]; omega) (by omega)).mono ?_
    rintro e w4 ⟨v4, rfl, o4, bq⟩
    have h5 : Below wa.heap.size wa w4 := h4.trans (bq.mono h4.size)
    refine hK.out _ _ h5 (fun h9 => ?_)
    clear hK K h9 bq h4
    clear r3
    refine wpAnyH_take (i := 13) (v := ?_) rfl (by kernel_rfl) (by kernel_rfl) (by kernel_rfl) (fun _ _ _ h => h) (Or.inl ⟨by rfl, fun W hW => ?_⟩) h5 ?_
    rotate_left
    · clear hW
      go_simp
      try with_reducible rfl
    simp only [Act.put, List.getElem_toArray, List.getElem_cons_zero, List.getElem_cons_succ, List.setIfInBounds_toArray, List.set_cons_zero, List.set_cons_succ]
    refine wpAnyH_done (by kernel_rfl) ?_ _
    have o5 := own_base o4 (Nat.le_trans za z4)
    have e5 : numL k ++ numL n ++ (numL t.size ++ t.data.toList) ++ (numL b.size ++ b.data.toList) = A := by rw [HE.out]; unfold rawL; simp only [List.append_assoc]
    rw [e5] at o5
    have B5 : Below w.heap.size w w4 := Ba.trans (h5.mono za)
    clear o4 e5 h5
    go_wp2_with fail
    go_ret
    exact ⟨_, rfl, o5, B5⟩
set_option maxRecDepth 100000 in
set_option maxHeartbeats 4000000 in
theorem implPutAct (x : AV) (w : World) (ht : x.t.size ≤ 1048576) (hb : x.b.size ≤ 1048576) :
    Calls Try.prog 13 #[.agg #[.int .i64 x.k, .string x.t, .string x.b, .int .i64 x.n]] w fun e w' => ∃ v', e = .returned v' ∧ w'.ownsRow w.heap.size 5 1 v' (actL x).length (bcells (actL x)) ∧ Below w.heap.size w w' := by
  have CA : Hid (∀ W, Calls Try.prog 11 #[.agg #[.int .i64 x.k, .string x.t, .string x.b, .int .i64 x.n]] W fun e w' => e = .returned (.bool (actB x)) ∧ Below W.heap.size W w') := fun W => implActOk x W
  have HR : True := trivial
  obtain ⟨k, t, b, n⟩ := x
  dsimp only at ht hb CA HR ⊢
  obtain ⟨O, hO⟩ : ∃ O, O = w.alloc (.cells #[.int .i64 k, .string t, .string b, .int .i64 n] 26) := ⟨_, rfl⟩
  have bO : Below w.heap.size w O := by rw [hO]; exact (Below.refl _ _).alloc (Nat.le_refl _) _
  have AO : BAt O w.heap.size [.int .i64 k, .string t, .string b, .int .i64 n] := by rw [hO]; exact BAt.new w #[.int .i64 k, .string t, .string b, .int .i64 n] _
  obtain ⟨A, hA⟩ : ∃ A, actL ⟨k, t, b, n⟩ = A := ⟨_, rfl⟩
  have HA : Hid (A = actL ⟨k, t, b, n⟩) := hA.symm
  rw [hA]
  clear hA
  obtain ⟨P, hP⟩ : ∃ P, actB ⟨k, t, b, n⟩ = P := ⟨_, rfl⟩
  have HP : Hid (actB ⟨k, t, b, n⟩ = P) := hP
  rw [hP] at CA
  clear hP
  go_enter Try.func13, Try.ntmps13
  go_upto_region 1 with fail
  rw [← hO]
  clear hO
  have c0 := AO.1 0 _ rfl
  have c1 := AO.1 1 _ rfl
  have c2 := AO.1 2 _ rfl
  have c3 := AO.1 3 _ rfl
  go_wp2_with fail
  refine (CA.out _).mono ?_
  rintro e wa ⟨rfl, ba⟩
  have AA := AO.below ba
  have c0 := AA.1 0 _ rfl
  have c1 := AA.1 1 _ rfl
  have c2 := AA.1 2 _ rfl
  have c3 := AA.1 3 _ rfl
  have hg := AA.2.2
  have q1 := numL_len k
  have q2 := numL_len n
  have q3 := numL_len t.size
  have s1 : t.data.toList.length = t.size := rfl
  have Ba : Below w.heap.size w wa := bO.trans (ba.mono bO.size)
  have za := Ba.size
  clear AO AA ba bO CA
  cases P with
  | false =>
    have HE : Hid (A = []) := by show _ = _; rw [HA.out]; unfold actL; rw [HP.out]; rfl
    clear HA HP HR
    go_wp2_with fail
    go_ret
    rw [HE.out]
    exact ⟨_, rfl, World.ownsRow_lit wa #[] 0 za (by decide) rfl, Ba.alloc za _⟩
  | true =>
    have HE : Hid (A = rawL ⟨k, t, b, n⟩) := by show _ = _; rw [HA.out]; unfold actL; rw [HP.out]; rfl
    clear HA HP
    go_upto_region 3 with fail
    refine wp_region_held_drew (S := fun W => Below wa.heap.size wa W) (by kernel_rfl) (Below.refl _ _).drew (fun h0 => ?_)
    refine wpAnyH_take (i := 0) (v := ?_) rfl (by kernel_rfl) (by kernel_rfl) (by kernel_rfl) (fun _ _ _ h => h) (Or.inl ⟨by rfl, fun W hW => ?_⟩) h0 ?_
    rotate_left
    · clear hW
      go_simp
      try with_reducible rfl
    simp only [Act.put, List.getElem_toArray, List.getElem_cons_zero, List.getElem_cons_succ, List.setIfInBounds_toArray, List.set_cons_zero, List.set_cons_succ]
    refine wpAnyH_take (i := 1) (v := (.int .i64 k)) rfl (by kernel_rfl) (by kernel_rfl) (by kernel_rfl) (fun _ _ _ h => h) (Or.inl ⟨by rfl, fun W hW => ?_⟩) h0 ?_
    · have q0 := (hW.cell (p := ⟨w.heap.size, 0, none⟩) hg).trans c0
      go_simp
    simp only [Act.put, List.getElem_toArray, List.getElem_cons_zero, List.getElem_cons_succ, List.setIfInBounds_toArray, List.set_cons_zero, List.set_cons_succ]
    refine wpAnyH_take (i := 2) (v := ?_) rfl (by kernel_rfl) (by kernel_rfl) (by kernel_rfl) (fun _ _ _ h => h) (Or.inl ⟨by rfl, fun W hW => ?_⟩) h0 ?_
    rotate_left
    · clear hW
      go_simp
      try with_reducible rfl
    simp only [Act.put, List.getElem_toArray, List.getElem_cons_zero, List.getElem_cons_succ, List.setIfInBounds_toArray, List.set_cons_zero, List.set_cons_succ]
    refine wpAnyH_take (i := 3) (v := (.int .i64 n)) rfl (by kernel_rfl) (by kernel_rfl) (by kernel_rfl) (fun _ _ _ h => h) (Or.inl ⟨by rfl, fun W hW => ?_⟩) h0 ?_
    · have q0 := (hW.cell (p := ⟨w.heap.size, 3, none⟩) hg).trans c3
      go_simp
    simp only [Act.put, List.getElem_toArray, List.getElem_cons_zero, List.getElem_cons_succ, List.setIfInBounds_toArray, List.set_cons_zero, List.set_cons_succ]
    refine wpAnyH_take (i := 6) (v := ?_) rfl (by kernel_rfl) (by kernel_rfl) (by kernel_rfl) (fun _ _ _ h => h) (Or.inl ⟨by rfl, fun W hW => ?_⟩) h0 ?_
    rotate_left
    · clear hW
      go_simp
      try with_reducible rfl
    simp only [Act.put, List.getElem_toArray, List.getElem_cons_zero, List.getElem_cons_succ, List.setIfInBounds_toArray, List.set_cons_zero, List.set_cons_succ]
    refine wpAnyH_take (i := 7) (v := (.string t)) rfl (by kernel_rfl) (by kernel_rfl) (by kernel_rfl) (fun _ _ _ h => h) (Or.inl ⟨by rfl, fun W hW => ?_⟩) h0 ?_
    · have q0 := (hW.cell (p := ⟨w.heap.size, 1, none⟩) hg).trans c1
      go_simp
    simp only [Act.put, List.getElem_toArray, List.getElem_cons_zero, List.getElem_cons_succ, List.setIfInBounds_toArray, List.set_cons_zero, List.set_cons_succ]
    refine wpAnyH_take (i := 9) (v := ?_) rfl (by kernel_rfl) (by kernel_rfl) (by kernel_rfl) (fun _ _ _ h => h) (Or.inl ⟨by rfl, fun W hW => ?_⟩) h0 ?_
    rotate_left
    · clear hW
      go_simp
      try with_reducible rfl
    simp only [Act.put, List.getElem_toArray, List.getElem_cons_zero, List.getElem_cons_succ, List.setIfInBounds_toArray, List.set_cons_zero, List.set_cons_succ]
    refine wpAnyH_take (i := 10) (v := (.string b)) rfl (by kernel_rfl) (by kernel_rfl) (by kernel_rfl) (fun _ _ _ h => h) (Or.inl ⟨by rfl, fun W hW => ?_⟩) h0 ?_
    · have q0 := (hW.cell (p := ⟨w.heap.size, 2, none⟩) hg).trans c2
      go_simp
    simp only [Act.put, List.getElem_toArray, List.getElem_cons_zero, List.getElem_cons_succ, List.setIfInBounds_toArray, List.set_cons_zero, List.set_cons_succ]
    refine wpAnyH_ready (rs := [4]) (by kernel_rfl) (by simp) (AllReadyH.cons rfl (fun K hK => ?_) AllReadyH.nil)
    go_simp
    refine hK.out _ _ (h0.alloc h0.size _) (fun h1 => ?_)
    clear hK K h0
    refine wpAnyH_ready (rs := [5]) (by kernel_rfl) (by simp) (AllReadyH.cons rfl (fun K hK => ?_) AllReadyH.nil)
    go_simp
    refine (implPutNums2 k n _ wa.heap.size [] _ wa.heap.size (by simp) h1.size (by simp) (by simp [Value.ownBlock]) (by show (wa.alloc _).cell? _ = _; rw [World.cell?_alloc_at _ _ _ _ rfl]; rfl) (by show (wa.alloc _).cell? _ = _; rw [World.cell?_alloc_at _ _ _ _ rfl]; rfl) ⟨rfl, Or.inl ⟨rfl, rfl⟩⟩).mono ?_
    rintro e w2 ⟨v2, rfl, o2, bq⟩
    have h3 : Below wa.heap.size wa w2 := h1.trans bq
    refine hK.out _ _ h3 (fun h9 => ?_)
    clear hK K h9 bq h1
    rw [List.nil_append] at o2
    have r2 := BRow.of_own o2
    clear o2
    refine wpAnyH_ready (rs := [8]) (by kernel_rfl) (by simp) (AllReadyH.cons rfl (fun K hK => ?_) AllReadyH.nil)
    go_simp
    refine (implPutText t _ _ _ r2 (by rw [List.length_append]; omega) (by omega)).mono ?_
    rintro e w3 ⟨v3, rfl, o3, bq⟩
    have h4 : Below wa.heap.size wa w3 := h3.trans (bq.mono h3.size)
    refine hK.out _ _ h4 (fun h9 => ?_)
    clear hK K h9 bq h3
    have r3 := BRow.of_own o3
    clear o3 r2
    have z4 := h4.size
    refine wpAnyH_ready (rs := [11]) (by kernel_rfl) (by simp) (AllReadyH.cons rfl (fun K hK => ?_) AllReadyH.nil)
    go_simp
    refine (implPutText b _ _ _ r3 (by simp only [List.length_append]; omega) (by omega)).mono ?_
    rintro e w4 ⟨v4, rfl, o4, bq⟩
    have h5 : Below wa.heap.size wa w4 := h4.trans (bq.mono h4.size)
    refine hK.out _ _ h5 (fun h9 => ?_)
    clear hK K h9 bq h4
    clear r3
    refine wpAnyH_take (i := 12) (v := ?_) rfl (by kernel_rfl) (by kernel_rfl) (by kernel_rfl) (fun _ _ _ h => h) (Or.inl ⟨by rfl, fun W hW => ?_⟩) h5 ?_
    rotate_left
    · clear hW
      go_simp
      try with_reducible rfl
    simp only [Act.put, List.getElem_toArray, List.getElem_cons_zero, List.getElem_cons_succ, List.setIfInBounds_toArray, List.set_cons_zero, List.set_cons_succ]
    refine wpAnyH_done (by kernel_rfl) ?_ _
    have o5 := own_base o4 (Nat.le_trans za z4)
    have e5 : numL k ++ numL n ++ (numL t.size ++ t.data.toList) ++ (numL b.size ++ b.data.toList) = A := by rw [HE.out]; unfold rawL; simp only [List.append_assoc]
    rw [e5] at o5
    have B5 : Below w.heap.size w w4 := Ba.trans (h5.mono za)
    clear o4 e5 h5
    go_wp2_with fail
    go_ret
    exact ⟨_, rfl, o5, B5⟩
end Go.Proofs.Ytfigkoapebdlfaa
