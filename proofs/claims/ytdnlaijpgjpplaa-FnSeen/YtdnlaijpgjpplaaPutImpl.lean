/- The contract of the code's withMark. -/
import Derived.Test.YtdnlaijpgjpplaaRows
import Derived.Test.YtdnlaijpgjpplaaPutPlain
import Derived.Test.YtdnlaijpgjpplaaSeenImpl2
import Derived.Test.YtdnlaijpgjpplaaPutSpec
import Derived.Deep.RegionHeld3
namespace Go.Proofs.Ytdnlaijpgjpplaa
open Go.RowKit
set_option linter.unusedVariables false
set_option linter.unusedSimpArgs false

/-- A row of marks does not lie in a block of two empty rows. -/
theorem EntRow.off {W W' : World} {D : Nat} {v : Value} {l : List EV} {t : TypeId} (h : EntRow W v l) (hD : W.heap[D]? = some (.cells #[.slice none 0 0, .slice none 0 0] t (0, 0))) (hz : W.heap.size ≤ W'.heap.size) (hb : ∀ k, k < W.heap.size → k ≠ D → W'.heap[k]? = W.heap[k]?) : EntRow W' v l := by
  rcases h with h | ⟨h0, g, off, cap, h1, h2, h3⟩
  · exact .inl h
  · have hg : g ≠ D := fun e => by
      subst e
      have c := (h3 0 h0).1
      rw [cell_of_row W g _ _ t (0, 0) hD] at c
      rcases off with _ | _ | off
      · cases c
      · cases c
      · simp at c
    exact .inr ⟨h0, g, off, cap, h1, by omega, fun i hi => ⟨(World.cell?_of_block (w := W) (a := ⟨g, off + i * 2, none⟩) (hb g h2 hg)).trans (h3 i hi).1, (World.cell?_of_block (w := W) (a := ⟨g, off + i * 2 + 1, none⟩) (hb g h2 hg)).trans (h3 i hi).2⟩⟩

theorem RunRow.off {W W' : World} {D : Nat} {v : Value} {ll : List (List EV)} {t : TypeId} (h : RunRow W v ll) (hf : ∀ i, i < ll.length → 0 < (ll.getD i []).length) (hD : W.heap[D]? = some (.cells #[.slice none 0 0, .slice none 0 0] t (0, 0))) (hz : W.heap.size ≤ W'.heap.size) (hb : ∀ k, k < W.heap.size → k ≠ D → W'.heap[k]? = W.heap[k]?) : RunRow W' v ll := by
  rcases h with h | ⟨h0, g, off, cap, h1, h2, h3⟩
  · exact .inl h
  · have hg : g ≠ D := fun e => by
      subst e
      obtain ⟨x, c, hx⟩ := h3 0 h0
      have hn := hf 0 h0
      rw [cell_of_row W g _ _ t (0, 0) hD] at c
      have hxe : x = .slice none 0 0 := by
        rcases off with _ | _ | off
        · injection c with c; exact c.symm
        · injection c with c; exact c.symm
        · simp at c
      subst hxe
      rcases hx with ⟨e, _⟩ | ⟨_, g', off', cap', e, _⟩
      · rw [e] at hn; simp at hn
      · cases e
    refine .inr ⟨h0, g, off, cap, h1, by omega, fun i hi => ?_⟩
    obtain ⟨x, c, hx⟩ := h3 i hi
    exact ⟨x, (World.cell?_of_block (w := W) (a := ⟨g, off + i, none⟩) (hb g h2 hg)).trans c, hx.off hD hz hb⟩

theorem RunRow.front {w : World} {g off n c : Nat} {ll : List (List EV)} (hg : g < w.heap.size) (h : ∀ i, i < ll.length → ∃ x, w.cell? ⟨g, off + i, none⟩ = some x ∧ EntRow w x (ll.getD i [])) (hn : n ≤ ll.length) (hc : n ≤ c) : RunRow w (.slice (some ⟨g, off, none⟩) n c) (ll.take n) := by
  have hl : (ll.take n).length = n := by rw [List.length_take]; omega
  by_cases h0 : n = 0
  · subst h0
    exact .inl ⟨List.eq_nil_of_length_eq_zero hl, _, _, rfl⟩
  · refine .inr ⟨by omega, g, off, c - n, by rw [hl, Nat.add_sub_cancel' hc], hg, fun i hi => ?_⟩
    rw [hl] at hi
    obtain ⟨x, a, b⟩ := h i (by omega)
    refine ⟨x, a, ?_⟩
    rw [List.getD_eq_getElem?_getD, List.getElem?_take_of_lt hi, ← List.getD_eq_getElem?_getD]
    exact b

theorem run_two {W : World} {b : Nat} {x1 x2 : Value} {l1 l2 : List EV} (hb : BAt W b [x1, x2]) (h1 : EntRow W x1 l1) (h2 : EntRow W x2 l2) : RunRow W (.slice (some ⟨b, 0, none⟩) 2 2) [l1, l2] := .inr ⟨by simp, b, 0, 0, rfl, hb.2.2, fun i hi => by
  match i, hi with
  | 0, _ => exact ⟨x1, hb.1 0 _ rfl, h1⟩
  | 1, _ => exact ⟨x2, hb.1 1 _ rfl, h2⟩⟩

set_option maxRecDepth 100000 in
set_option maxHeartbeats 4000000 in
theorem implWithMark (x : EV) (m : List EV) (ll : List (List EV)) (p q : Value) (w : World) (hk : sokS m ll = true) (hp : EntRow w p m) (hq : RunRow w q ll) :
    Calls Try.prog 22 #[.agg #[p, q], .agg #[.string x.s, .int .i64 x.k]] w fun e w' => ∃ ao ac bo bc, e = .returned (.agg #[.slice ao (putM m x).length ac, .slice bo (putL m ll x).length bc]) ∧ EntRow w' (.slice ao (putM m x).length ac) (putM m x) ∧ RunRow w' (.slice bo (putL m ll x).length bc) (putL m ll x) ∧ Below w.heap.size w w' := by
  obtain ⟨hm8, hl6, h400⟩ := sokS_sz hk
  have HFull := hidM (lastR_full (putR_full (m := m) (x := x) (sokS_full hk)))
  have HFullR := hidM (putR_full (m := m) (x := x) (sokS_full hk))
  have hon := on_len x m
  have hRl : (putR m ll x).length ≤ 7 ∧ (putR m ll x).flatten.length ≤ 409 := by
    rw [List.length_append] at h400
    unfold putR
    split
    · rw [List.length_cons, List.flatten_cons, List.length_append]; omega
    · omega
  obtain ⟨O, hO⟩ : ∃ O, O = ((w.alloc (.cells #[p, q] 27)).alloc (.cells #[.string x.s, .int .i64 x.k] 35)).alloc (.cells #[.slice none 0 0, .slice none 0 0] 27) := ⟨_, rfl⟩
  have bO : Below w.heap.size w O := by rw [hO]; exact (((Below.refl _ _).alloc (Nat.le_refl _) _).alloc (by simp) _).alloc (by simp; omega) _
  have hzO : w.heap.size + 3 = O.heap.size := by rw [hO]; simp
  have A0 : BAt O w.heap.size [p, q] := by rw [hO]; exact ((BAt.new w #[p, q] _).alloc _).alloc _
  have A1 : BAt O (w.heap.size + 1) [.string x.s, .int .i64 x.k] := by
    rw [hO]
    have := (BAt.new (w.alloc (.cells #[p, q] 27)) #[.string x.s, .int .i64 x.k] 35).alloc (.cells #[.slice none 0 0, .slice none 0 0] 27)
    rwa [World.size_alloc] at this
  have HD0 : O.heap[w.heap.size + 2]? = some (.cells #[.slice none 0 0, .slice none 0 0] 27 (0, 0)) := by
    rw [hO]
    have := heap_alloc_new ((w.alloc (.cells #[p, q] 27)).alloc (.cells #[.string x.s, .int .i64 x.k] 35)) (.cells #[.slice none 0 0, .slice none 0 0] 27)
    rwa [World.size_alloc, World.size_alloc] at this
  have HW : Hid (∀ W, Below O.heap.size O W → Below w.heap.size w W ∧ BAt W w.heap.size [p, q] ∧ BAt W (w.heap.size + 1) [.string x.s, .int .i64 x.k] ∧ W.heap[w.heap.size + 2]? = some (.cells #[.slice none 0 0, .slice none 0 0] 27 (0, 0))) := fun W hW => ⟨bO.trans (hW.mono bO.size), A0.below hW, A1.below hW, (hW.block _ (by omega)).trans HD0⟩
  have hB2 : w.heap.size + 2 < O.heap.size := by omega
  have HP := hidM hp
  have HQ := hidM hq
  obtain ⟨pa, pc, hpe⟩ := hp.slice
  obtain ⟨qa, qc, hqe⟩ := hq.slice
  subst hpe hqe
  clear hp hq A0 A1 HD0 hzO
  go_enter Try.func22, Try.ntmps22
  go_upto_region 1 with fail
  rw [← hO]
  clear hO
  refine wp_region_held_drew (S := fun W => Below O.heap.size O W) (by kernel_rfl) (Below.refl _ _).drew (fun h0 => ?_)
  refine wpAnyH_take (i := 0) (v := .agg #[.string x.s, .int .i64 x.k]) rfl (by kernel_rfl) (by kernel_rfl) (by kernel_rfl) (fun _ _ _ h => h) (Or.inl ⟨by rfl, fun W hW => ?_⟩) h0 ?_
  · have q0 := (HW.out W hW).2.2.1.1 0 _ rfl
    have q1 := (HW.out W hW).2.2.1.1 1 _ rfl
    go_simp
  simp only [Act.put, List.getElem_toArray, List.getElem_cons_zero, List.getElem_cons_succ, List.setIfInBounds_toArray, List.set_cons_zero, List.set_cons_succ]
  refine wpAnyH_take (i := 2) (v := ?_) rfl (by kernel_rfl) (by kernel_rfl) (by kernel_rfl) (fun _ _ _ h => h) (Or.inl ⟨by rfl, fun W hW => ?_⟩) h0 ?_
  rotate_left
  · clear hW
    go_simp
    try with_reducible rfl
  simp only [Act.put, List.getElem_toArray, List.getElem_cons_zero, List.getElem_cons_succ, List.setIfInBounds_toArray, List.set_cons_zero, List.set_cons_succ]
  refine wpAnyH_take (i := 3) (v := .slice pa m.length pc) rfl (by kernel_rfl) (by kernel_rfl) (by kernel_rfl) (fun _ _ _ h => h) (Or.inl ⟨by rfl, fun W hW => ?_⟩) h0 ?_
  · have q0 := (HW.out W hW).2.1.1 0 _ rfl
    go_simp
  simp only [Act.put, List.getElem_toArray, List.getElem_cons_zero, List.getElem_cons_succ, List.setIfInBounds_toArray, List.set_cons_zero, List.set_cons_succ]
  refine wpAnyH_take (i := 6) (v := ?_) rfl (by kernel_rfl) (by kernel_rfl) (by kernel_rfl) (fun _ _ _ h => h) (Or.inl ⟨by rfl, fun W hW => ?_⟩) h0 ?_
  rotate_left
  · clear hW
    go_simp
    try with_reducible rfl
  simp only [Act.put, List.getElem_toArray, List.getElem_cons_zero, List.getElem_cons_succ, List.setIfInBounds_toArray, List.set_cons_zero, List.set_cons_succ]
  refine wpAnyH_take (i := 7) (v := .slice qa ll.length qc) rfl (by kernel_rfl) (by kernel_rfl) (by kernel_rfl) (fun _ _ _ h => h) (Or.inl ⟨by rfl, fun W hW => ?_⟩) h0 ?_
  · have q0 := (HW.out W hW).2.1.1 1 _ rfl
    go_simp
  simp only [Act.put, List.getElem_toArray, List.getElem_cons_zero, List.getElem_cons_succ, List.setIfInBounds_toArray, List.set_cons_zero, List.set_cons_succ]
  refine wpAnyH_ready (rs := [1]) (by kernel_rfl) (by simp) (AllReadyH.cons rfl (fun K hK => ?_) AllReadyH.nil)
  go_simp
  have h1 := h0.alloc h0.size (.cells #[.string x.s, .int .i64 x.k] 35)
  refine hK.out _ _ h1 (fun _ => ?_)
  clear hK K
  refine wpAnyH_ready (rs := [4]) (by kernel_rfl) (by simp) (AllReadyH.cons rfl (fun K hK => ?_) AllReadyH.nil)
  go_simp
  have h2 := h1.alloc h1.size (.cells #[.slice (some ⟨O.heap.size, 0, none⟩) 1 1, .slice pa m.length pc] 24)
  refine hK.out _ _ h2 (fun _ => ?_)
  clear hK K
  refine wpAnyH_ready (rs := [5]) (by kernel_rfl) (by simp) (AllReadyH.cons rfl (fun K hK => ?_) AllReadyH.nil)
  go_simp
  obtain ⟨U, hU⟩ : ∃ U, U = (O.alloc (.cells #[.string x.s, .int .i64 x.k] 35)).alloc (.cells #[.slice (some ⟨O.heap.size, 0, none⟩) 1 1, .slice pa m.length pc] 24) := ⟨_, rfl⟩
  have bU : Below O.heap.size O U := by rw [hU]; exact ((Below.refl _ _).alloc (Nat.le_refl _) _).alloc (by simp) _
  have XU : EntRow U (.slice (some ⟨O.heap.size, 0, none⟩) 1 1) [x] := by
    rw [hU]
    have := EntRow.of_own' (l := [x]) (base := 0) (e := 35) (World.ownsRow_lit O #[.string x.s, .int .i64 x.k] 1 (Nat.zero_le _) (by decide) rfl)
    exact this.below ((Below.refl _ _).alloc (Nat.le_refl _) _)
  have AU : BAt U (O.heap.size + 1) [.slice (some ⟨O.heap.size, 0, none⟩) 1 1, .slice pa m.length pc] := by
    rw [hU]
    have := BAt.new (O.alloc (.cells #[.string x.s, .int .i64 x.k] 35)) #[.slice (some ⟨O.heap.size, 0, none⟩) 1 1, .slice pa m.length pc] 24
    rwa [World.size_alloc] at this
  have RU := run_two AU XU (HP.out.below (bO.trans (bU.mono bO.size)))
  have CM := hidM (implMerged [[x], m] _ U.drew (by simp) (by simp; omega) (RU.below (Below.refl _ _).drew))
  have HON : Hid (canon ([[x], m] : List (List EV)).flatten = onM x m) := hidM (by simp [onM])
  rw [HON.out] at CM
  rw [← hU]
  clear hU XU AU RU h1 h2 HON
  refine CM.out.mono ?_
  rintro e w2 ⟨v2, rfl, r2, b2⟩
  have B2 : Below O.heap.size O w2 := bU.trans (Below.mono (Below.trans (Below.refl _ _).drew b2) bU.size)
  refine hK.out _ _ B2 (fun _ => ?_)
  clear hK K CM
  obtain ⟨va, vc, hve⟩ := r2.slice
  subst hve
  generalize hY : (onM x m).length = ON at *
  have HY := hidM hY
  have R2 := hidM r2
  clear hY r2 b2 bU h0
  refine wpAnyH_take (i := 8) (v := ?_) rfl (by kernel_rfl) (by kernel_rfl) (by kernel_rfl) (fun _ _ _ h => h) (Or.inl ⟨by rfl, fun W hW => ?_⟩) B2 ?_
  rotate_left
  · clear hW
    go_simp
    try with_reducible rfl
  simp only [Act.put, List.getElem_toArray, List.getElem_cons_zero, List.getElem_cons_succ, List.setIfInBounds_toArray, List.set_cons_zero, List.set_cons_succ]
  refine wpAnyH_take (i := 9) (v := ?_) rfl (by kernel_rfl) (by kernel_rfl) (by kernel_rfl) (fun _ _ _ h => h) (Or.inl ⟨by rfl, fun W hW => ?_⟩) B2 ?_
  rotate_left
  · clear hW
    go_simp
    try with_reducible rfl
  simp only [Act.put, List.getElem_toArray, List.getElem_cons_zero, List.getElem_cons_succ, List.setIfInBounds_toArray, List.set_cons_zero, List.set_cons_succ]
  refine wpAnyH_done (by kernel_rfl) ?_ _
  have Q2 := hidM (HQ.out.below (bO.trans (B2.mono bO.size)))
  clear HQ HP
  by_cases h8 : 8 ≤ ON
  · have HPM : Hid (putM m x = []) := if_pos (by rw [HY.out]; exact h8)
    have HPR : Hid (putR m ll x = onM x m :: ll) := if_pos (by rw [HY.out]; exact h8)
    have h8i : 8 ≤ (ON : Int) := by omega
    obtain ⟨U3, hU3⟩ : ∃ U3, U3 = (w2.alloc (.cells #[.slice va ON vc] 24)).alloc (.cells #[.slice (some ⟨w2.heap.size, 0, none⟩) 1 1, .slice qa ll.length qc] 25) := ⟨_, rfl⟩
    have bU3 : Below w2.heap.size w2 U3 := by rw [hU3]; exact ((Below.refl _ _).alloc (Nat.le_refl _) _).alloc (by simp) _
    have A3 : BAt U3 w2.heap.size [.slice va ON vc] := by rw [hU3]; exact (BAt.new w2 #[.slice va ON vc] _).alloc _
    have A4 : BAt U3 (w2.heap.size + 1) [.slice (some ⟨w2.heap.size, 0, none⟩) 1 1, .slice qa ll.length qc] := by
      rw [hU3]
      have := BAt.new (w2.alloc (.cells #[.slice va ON vc] 24)) #[.slice (some ⟨w2.heap.size, 0, none⟩) 1 1, .slice qa ll.length qc] 25
      rwa [World.size_alloc] at this
    have CC3 := hidM (implConcatTwo _ _ (.slice (some ⟨w2.heap.size + 1, 0, none⟩) 2 2) [onM x m] ll U3 (w2.heap.size + 1) (by simp) (by omega) (RunRow.one A3 (R2.out.below bU3)) (Q2.out.below bU3) A4 rfl)
    clear A3 A4 Q2 R2
    go_wp2_with fail
    rw [← hU3]
    clear hU3
    refine CC3.out.mono ?_
    rintro e w4 ⟨v4, rfl, r4, b4⟩
    have B4 : Below O.heap.size O w4 := (B2.trans (bU3.mono B2.size)).trans (b4.mono (B2.trans (bU3.mono B2.size)).size)
    obtain ⟨RN, hRN⟩ : ∃ RN, RN = ([onM x m] ++ ll).length := ⟨_, rfl⟩
    have LNX := hidM hRN.symm
    have hRN7 : RN ≤ 7 := by rw [hRN, List.length_append]; simp; omega
    obtain ⟨a4, c4, hv4⟩ := r4.slice
    rw [← hRN] at hv4
    subst hv4
    have Q4 := hidM r4
    have E4 : Hid (EntRow w4 (.slice none 0 0) []) := .inl ⟨rfl, _, _, rfl⟩
    have HPR2 : Hid (putR m ll x = [onM x m] ++ ll) := HPR.out
    have hfl2 : ([onM x m] ++ ll).flatten.length ≤ 409 := by
      have h5 : ([onM x m] : List (List EV)).flatten.length = ON := by rw [← HY.out]; simp
      rw [List.flatten_append, List.length_append, h5]
      rw [List.length_append] at h400
      omega
    clear hRN r4 b4 CC3 B2 bU3
    have LNX2 := LNX.out
    generalize [onM x m] ++ ll = RR at *
    by_cases h3 : 3 < RN
    · have h3i : 3 < (RN : Int) := by omega
      have HRRz := hidM HPR2.out
      have HLn := hidM LNX2
      obtain ⟨g, off, hga, hg, hc, hcap⟩ : ∃ g off, a4 = some ⟨g, off, none⟩ ∧ g < w4.heap.size ∧ (∀ i, i < RR.length → ∃ y, w4.cell? ⟨g, off + i, none⟩ = some y ∧ EntRow w4 y (RR.getD i [])) ∧ RN ≤ c4 := by
        rcases Q4.out with ⟨h, _⟩ | ⟨h0, g, off, cap, hv, hg, hc⟩
        · have h1 := HLn.out
          have h2 := congrArg List.length h
          rw [List.length_nil] at h2
          omega
        · injection hv with h1 h2 h3
          exact ⟨g, off, h1, hg, hc, by omega⟩
      subst hga
      obtain ⟨I2, HI2⟩ : ∃ I2, Hid (I2 + 2 = RN) := ⟨RN - 2, by show _ = _; omega⟩
      obtain ⟨I1, HI1⟩ : ∃ I1, Hid (I1 + 1 = RN) := ⟨RN - 1, by show _ = _; omega⟩
      have hI2 : I2 < RN := by have := HI2.out; omega
      have hI1 : I1 < RN := by have := HI1.out; omega
      have eI2 : (RN : Int) - 2 = (I2 : Int) := by have := HI2.out; omega
      have eI1 : (RN : Int) - 1 = (I1 : Int) := by have := HI1.out; omega
      have eW2 : IntKind.i64.wrap (I2 : Int) = (I2 : Int) := i64_wrap_in _ (by omega)
      have hI2i : (I2 : Int) < (RN : Int) := by omega
      have eW1 : IntKind.i64.wrap (I1 : Int) = (I1 : Int) := i64_wrap_in _ (by omega)
      have hI1i : (I1 : Int) < (RN : Int) := by omega
      have hcap2 : I2 ≤ c4 := by omega
      obtain ⟨x1, cx1, ox1⟩ := hc I2 (by have := HLn.out; omega)
      obtain ⟨x2, cx2, ox2⟩ := hc I1 (by have := HLn.out; omega)
      have hz1 := flat_at (ll := RR) (i := I2) (by have := HLn.out; omega)
      have hz2 := flat_at (ll := RR) (i := I1) (by have := HLn.out; omega)
      have HFr : Hid (∀ W, Below w4.heap.size w4 W → RunRow W (.slice (some ⟨g, off, none⟩) I2 c4) (RR.take I2)) := fun W bW => (RunRow.front hg hc (by have := HLn.out; omega) hcap2).below bW
      have HLast : Hid (lastR RR = RR.take I2 ++ [canon (RR.getD I2 [] ++ RR.getD I1 [])]) := hidM (by
        have h1 := HLn.out
        have h2 := HI2.out
        have h3 := HI1.out
        unfold lastR
        rw [if_pos (by omega), show RR.length - 2 = I2 by omega, show RR.length - 1 = I1 by omega])
      have HTk : Hid ((RR.take I2).length = I2) := hidM (by rw [List.length_take]; have := HLn.out; omega)
      have HMr : Hid (∀ W b, Below w4.heap.size w4 W → BAt W b [x1, x2] → Calls Try.prog 29 #[.func (.func 30) #[] #[], .slice (some ⟨b, 0, none⟩) 2 2] W fun e w' => ∃ v', e = .returned v' ∧ EntRow w' v' (canon (RR.getD I2 [] ++ RR.getD I1 [])) ∧ Below W.heap.size W w') := fun W b bW hb => by
        have := implMerged [RR.getD I2 [], RR.getD I1 []] _ W (by simp) (by rw [show ([RR.getD I2 [], RR.getD I1 []] : List (List EV)).flatten = RR.getD I2 [] ++ RR.getD I1 [] by simp, List.length_append]; omega) (run_two hb (ox1.below bW) (ox2.below bW))
        rw [show ([RR.getD I2 [], RR.getD I1 []] : List (List EV)).flatten = RR.getD I2 [] ++ RR.getD I1 [] by simp] at this
        exact this
      obtain ⟨p1, s1, hx1⟩ := ox1.slice
      obtain ⟨p2, s2, hx2⟩ := ox2.slice
      generalize canon (RR.getD I2 [] ++ RR.getD I1 []) = LM at *
      subst hx1 hx2
      clear ox1 ox2 hz1 hz2 hc
      generalize (RR.getD I2 []).length = n1 at *
      generalize (RR.getD I1 []).length = n2 at *
      have HD8 : Hid (∀ W, Below w4.heap.size w4 W → W.cell? ⟨g, off + I2, none⟩ = some (.slice p1 n1 s1) ∧ W.cell? ⟨g, off + I1, none⟩ = some (.slice p2 n2 s2)) := fun W bW => ⟨(bW.cell (p := ⟨g, off + I2, none⟩) hg).trans cx1, (bW.cell (p := ⟨g, off + I1, none⟩) hg).trans cx2⟩
      clear cx1 cx2
      go_upto_region 6 with fail
      refine wp_region_held_drew (S := fun W => Below w4.heap.size w4 W) (by kernel_rfl) (Below.refl _ _).drew (fun h0 => ?_)
      refine wpAnyH_take (i := 0) (v := ?_) rfl (by kernel_rfl) (by kernel_rfl) (by kernel_rfl) (fun _ _ _ h => h) (Or.inl ⟨by rfl, fun W hW => ?_⟩) h0 ?_
      rotate_left
      · clear hW
        go_simp
        try with_reducible rfl
      simp only [Act.put, List.getElem_toArray, List.getElem_cons_zero, List.getElem_cons_succ, List.setIfInBounds_toArray, List.set_cons_zero, List.set_cons_succ]
      refine wpAnyH_take (i := 1) (v := ?_) rfl (by kernel_rfl) (by kernel_rfl) (by kernel_rfl) (fun _ _ _ h => h) (Or.inl ⟨by rfl, fun W hW => ?_⟩) h0 ?_
      rotate_left
      · clear hW
        go_simp
        try with_reducible rfl
      simp only [Act.put, List.getElem_toArray, List.getElem_cons_zero, List.getElem_cons_succ, List.setIfInBounds_toArray, List.set_cons_zero, List.set_cons_succ]
      refine wpAnyH_take (i := 2) (v := ?_) rfl (by kernel_rfl) (by kernel_rfl) (by kernel_rfl) (fun _ _ _ h => h) (Or.inl ⟨by rfl, fun W hW => ?_⟩) h0 ?_
      rotate_left
      · clear hW
        go_simp
        try with_reducible rfl
      simp only [Act.put, List.getElem_toArray, List.getElem_cons_zero, List.getElem_cons_succ, List.setIfInBounds_toArray, List.set_cons_zero, List.set_cons_succ]
      refine wpAnyH_take (i := 3) (v := .pointer (some ⟨g, off + I2, none⟩)) rfl (by kernel_rfl) (by kernel_rfl) (by kernel_rfl) (fun _ _ _ h => h) (Or.inl ⟨by rfl, fun W hW => ?_⟩) h0 ?_
      · clear hW
        go_simp
      simp only [Act.put, List.getElem_toArray, List.getElem_cons_zero, List.getElem_cons_succ, List.setIfInBounds_toArray, List.set_cons_zero, List.set_cons_succ]
      refine wpAnyH_take (i := 4) (v := .slice p1 n1 s1) rfl (by kernel_rfl) (by kernel_rfl) (by kernel_rfl) (fun _ _ _ h => h) (Or.inl ⟨by rfl, fun W hW => ?_⟩) h0 ?_
      · have q0 := (HD8.out W hW).1
        go_simp
      simp only [Act.put, List.getElem_toArray, List.getElem_cons_zero, List.getElem_cons_succ, List.setIfInBounds_toArray, List.set_cons_zero, List.set_cons_succ]
      refine wpAnyH_take (i := 5) (v := ?_) rfl (by kernel_rfl) (by kernel_rfl) (by kernel_rfl) (fun _ _ _ h => h) (Or.inl ⟨by rfl, fun W hW => ?_⟩) h0 ?_
      rotate_left
      · clear hW
        go_simp
        try with_reducible rfl
      simp only [Act.put, List.getElem_toArray, List.getElem_cons_zero, List.getElem_cons_succ, List.setIfInBounds_toArray, List.set_cons_zero, List.set_cons_succ]
      refine wpAnyH_take (i := 6) (v := ?_) rfl (by kernel_rfl) (by kernel_rfl) (by kernel_rfl) (fun _ _ _ h => h) (Or.inl ⟨by rfl, fun W hW => ?_⟩) h0 ?_
      rotate_left
      · clear hW
        go_simp
        try with_reducible rfl
      simp only [Act.put, List.getElem_toArray, List.getElem_cons_zero, List.getElem_cons_succ, List.setIfInBounds_toArray, List.set_cons_zero, List.set_cons_succ]
      refine wpAnyH_take (i := 7) (v := ?_) rfl (by kernel_rfl) (by kernel_rfl) (by kernel_rfl) (fun _ _ _ h => h) (Or.inl ⟨by rfl, fun W hW => ?_⟩) h0 ?_
      rotate_left
      · clear hW
        go_simp
        try with_reducible rfl
      simp only [Act.put, List.getElem_toArray, List.getElem_cons_zero, List.getElem_cons_succ, List.setIfInBounds_toArray, List.set_cons_zero, List.set_cons_succ]
      refine wpAnyH_take (i := 8) (v := .pointer (some ⟨g, off + I1, none⟩)) rfl (by kernel_rfl) (by kernel_rfl) (by kernel_rfl) (fun _ _ _ h => h) (Or.inl ⟨by rfl, fun W hW => ?_⟩) h0 ?_
      · clear hW
        go_simp
      simp only [Act.put, List.getElem_toArray, List.getElem_cons_zero, List.getElem_cons_succ, List.setIfInBounds_toArray, List.set_cons_zero, List.set_cons_succ]
      refine wpAnyH_take (i := 9) (v := .slice p2 n2 s2) rfl (by kernel_rfl) (by kernel_rfl) (by kernel_rfl) (fun _ _ _ h => h) (Or.inl ⟨by rfl, fun W hW => ?_⟩) h0 ?_
      · have q0 := (HD8.out W hW).2
        go_simp
      simp only [Act.put, List.getElem_toArray, List.getElem_cons_zero, List.getElem_cons_succ, List.setIfInBounds_toArray, List.set_cons_zero, List.set_cons_succ]
      refine wpAnyH_ready (rs := [10]) (by kernel_rfl) (by simp) (AllReadyH.cons rfl (fun K hK => ?_) AllReadyH.nil)
      go_simp
      have h1z := h0.alloc h0.size (.cells #[.slice p1 n1 s1, .slice p2 n2 s2] 24)
      refine hK.out _ _ h1z (fun _ => ?_)
      clear hK K
      refine wpAnyH_ready (rs := [11]) (by kernel_rfl) (by simp) (AllReadyH.cons rfl (fun K hK => ?_) AllReadyH.nil)
      go_simp
      have bT : Below w4.heap.size w4 (w4.alloc (.cells #[.slice p1 n1 s1, .slice p2 n2 s2] 24)).drew := ((Below.refl _ _).alloc (Nat.le_refl _) _).drew
      refine (HMr.out _ w4.heap.size bT ((BAt.new w4 #[.slice p1 n1 s1, .slice p2 n2 s2] 24).below (Below.refl _ _).drew)).mono ?_
      rintro e w5 ⟨v5, rfl, r5, b5⟩
      have b5z : Below w4.heap.size w4 w5 := bT.trans (b5.mono bT.size)
      refine hK.out _ _ b5z (fun _ => ?_)
      clear hK K
      obtain ⟨la, lc, hle5⟩ := r5.slice
      subst hle5
      refine wpAnyH_take (i := 12) (v := ?_) rfl (by kernel_rfl) (by kernel_rfl) (by kernel_rfl) (fun _ _ _ h => h) (Or.inl ⟨by rfl, fun W hW => ?_⟩) b5z ?_
      rotate_left
      · clear hW
        go_simp
        try with_reducible rfl
      simp only [Act.put, List.getElem_toArray, List.getElem_cons_zero, List.getElem_cons_succ, List.setIfInBounds_toArray, List.set_cons_zero, List.set_cons_succ]
      refine wpAnyH_done (by kernel_rfl) ?_ _
      have B5 : Below O.heap.size O w5 := B4.trans (b5z.mono B4.size)
      have E5 := hidM (EntRow.below E4.out b5z)
      have F5 := hidM (HFr.out w5 b5z)
      have R5 := hidM r5
      clear HD8 HMr HFr r5 b5 bT h1z h0 eW2 eW1
      generalize hLN : LM.length = LN at *
      clear hLN
      obtain ⟨U7, hU7⟩ : ∃ U7, U7 = (w5.alloc (.cells #[.slice la LN lc] 24)).alloc (.cells #[.slice (some ⟨g, off, none⟩) I2 c4, .slice (some ⟨w5.heap.size, 0, none⟩) 1 1] 25) := ⟨_, rfl⟩
      have bU7 : Below w5.heap.size w5 U7 := by rw [hU7]; exact ((Below.refl _ _).alloc (Nat.le_refl _) _).alloc (by simp) _
      have A7 : BAt U7 w5.heap.size [.slice la LN lc] := by rw [hU7]; exact (BAt.new w5 #[.slice la LN lc] _).alloc _
      have A8 : BAt U7 (w5.heap.size + 1) [.slice (some ⟨g, off, none⟩) I2 c4, .slice (some ⟨w5.heap.size, 0, none⟩) 1 1] := by
        rw [hU7]
        have := BAt.new (w5.alloc (.cells #[.slice la LN lc] 24)) #[.slice (some ⟨g, off, none⟩) I2 c4, .slice (some ⟨w5.heap.size, 0, none⟩) 1 1] 25
        rwa [World.size_alloc] at this
      have CC := hidM (implConcatTwo _ _ (.slice (some ⟨w5.heap.size + 1, 0, none⟩) 2 2) (RR.take I2) [LM] U7 (w5.heap.size + 1) (by rw [HTk.out]; omega) (by simp) (F5.out.below bU7) (RunRow.one A7 (R5.out.below bU7)) A8 rfl)
      clear A7 A8 F5 R5
      go_wp2_with fail
      rw [← hU7]
      clear hU7
      refine CC.out.mono ?_
      rintro e w7 ⟨v7, rfl, r7, b7⟩
      have B7 : Below O.heap.size O w7 := (B5.trans (bU7.mono B5.size)).trans (b7.mono (B5.trans (bU7.mono B5.size)).size)
      have E7 := hidM ((E5.out.below bU7).below b7)
      have hL7 : (RR.take I2 ++ [LM]).length = I2 + 1 := by rw [List.length_append, HTk.out]; rfl
      obtain ⟨a7, c7, hv7⟩ := r7.slice
      rw [hL7] at hv7
      subst hv7
      have R7 := hidM r7
      have HPL : Hid (putL m ll x = RR.take I2 ++ [LM]) := hidM (by unfold putL; rw [HRRz.out]; exact HLast.out)
      have HFl : Hid (∀ i, i < (RR.take I2 ++ [LM]).length → 0 < ((RR.take I2 ++ [LM]).getD i []).length) := by
        have := HFull.out
        rw [HRRz.out, HLast.out] at this
        exact this
      clear r7 b7 CC E5 hL7
      go_upto_region 8 with fail
      obtain ⟨BwF, _, _, HDf⟩ := HW.out w7 B7
      obtain ⟨hsZ, AZ⟩ := two_set (.slice none 0 0) (.slice a7 (I2 + 1) c7) HDf
      have r0 : w7.cell? ⟨w.heap.size + 2, 0, none⟩ = some (.slice none 0 0) := by rw [cell_of_row w7 _ _ _ _ (0, 0) HDf]; rfl
      have r1 : w7.cell? ⟨w.heap.size + 2, 1, none⟩ = some (.slice none 0 0) := by rw [cell_of_row w7 _ _ _ _ (0, 0) HDf]; rfl
      have f0 : w7.frozen? ⟨w.heap.size + 2, 0, none⟩ = false := frozen_of_row _ _ _ _ _ HDf
      have f1 : w7.frozen? ⟨w.heap.size + 2, 1, none⟩ = false := frozen_of_row _ _ _ _ _ HDf
      have EF2 := hidM (EntRow.off E7.out HDf (by simp) hsZ)
      have RF2 := hidM (RunRow.off R7.out HFl.out HDf (by simp) hsZ)
      have BF2 : Below w.heap.size w ((w7.setCell ⟨w.heap.size + 2, 0, none⟩ (.slice none 0 0)).setCell ⟨w.heap.size + 2, 1, none⟩ (.slice a7 (I2 + 1) c7)) := (BwF.setCell (by simp) _).setCell (by simp) _
      clear hsZ HDf
      go_wp2_with fail
      refine bodyPost_ret (seen_resultI rfl _ _ (w.heap.size + 2) _ _ rfl AZ) rfl ?_
      exact put_done HPM.out HPL.out rfl EF2.out RF2.out BF2
    · have h3i : ¬ 3 < (RN : Int) := by omega
      have HPL : Hid (putL m ll x = RR) := hidM (by unfold putL; rw [HPR2.out]; exact if_neg (by omega))
      have HFx : Hid (∀ i, i < RR.length → 0 < (RR.getD i []).length) := by
        have := HFullR.out
        rw [HPR2.out] at this
        exact this
      go_upto_region 8 with fail
      obtain ⟨BwF, _, _, HDf⟩ := HW.out w4 B4
      obtain ⟨hsZ, AZ⟩ := two_set (.slice none 0 0) (.slice a4 RN c4) HDf
      have r0 : w4.cell? ⟨w.heap.size + 2, 0, none⟩ = some (.slice none 0 0) := by rw [cell_of_row w4 _ _ _ _ (0, 0) HDf]; rfl
      have r1 : w4.cell? ⟨w.heap.size + 2, 1, none⟩ = some (.slice none 0 0) := by rw [cell_of_row w4 _ _ _ _ (0, 0) HDf]; rfl
      have f0 : w4.frozen? ⟨w.heap.size + 2, 0, none⟩ = false := frozen_of_row _ _ _ _ _ HDf
      have f1 : w4.frozen? ⟨w.heap.size + 2, 1, none⟩ = false := frozen_of_row _ _ _ _ _ HDf
      have EF2 := hidM (EntRow.off E4.out HDf (by simp) hsZ)
      have RF2 := hidM (RunRow.off Q4.out HFx.out HDf (by simp) hsZ)
      have BF2 : Below w.heap.size w ((w4.setCell ⟨w.heap.size + 2, 0, none⟩ (.slice none 0 0)).setCell ⟨w.heap.size + 2, 1, none⟩ (.slice a4 RN c4)) := (BwF.setCell (by simp) _).setCell (by simp) _
      clear hsZ HDf
      go_wp2_with fail
      refine bodyPost_ret (seen_resultI rfl _ _ (w.heap.size + 2) _ _ rfl AZ) rfl ?_
      exact put_done HPM.out HPL.out rfl EF2.out RF2.out BF2
  · have HPM : Hid (putM m x = onM x m) := if_neg (by rw [HY.out]; exact h8)
    have HPR : Hid (putR m ll x = ll) := if_neg (by rw [HY.out]; exact h8)
    have h8i : ¬ 8 ≤ (ON : Int) := by omega
    by_cases h3 : 3 < ll.length
    · have h3i : 3 < (ll.length : Int) := by omega
      have hfl2 : ll.flatten.length ≤ 409 := by rw [List.length_append] at h400; omega
      have HRRz := hidM HPR.out
      have HLn := hidM (Eq.refl ll.length)
      obtain ⟨g, off, hga, hg, hc, hcap⟩ : ∃ g off, qa = some ⟨g, off, none⟩ ∧ g < w2.heap.size ∧ (∀ i, i < ll.length → ∃ y, w2.cell? ⟨g, off + i, none⟩ = some y ∧ EntRow w2 y (ll.getD i [])) ∧ ll.length ≤ qc := by
        rcases Q2.out with ⟨h, _⟩ | ⟨h0, g, off, cap, hv, hg, hc⟩
        · have h1 := HLn.out
          have h2 := congrArg List.length h
          rw [List.length_nil] at h2
          omega
        · injection hv with h1 h2 h3
          exact ⟨g, off, h1, hg, hc, by omega⟩
      subst hga
      obtain ⟨I2, HI2⟩ : ∃ I2, Hid (I2 + 2 = ll.length) := ⟨ll.length - 2, by show _ = _; omega⟩
      obtain ⟨I1, HI1⟩ : ∃ I1, Hid (I1 + 1 = ll.length) := ⟨ll.length - 1, by show _ = _; omega⟩
      have hI2 : I2 < ll.length := by have := HI2.out; omega
      have hI1 : I1 < ll.length := by have := HI1.out; omega
      have eI2 : (ll.length : Int) - 2 = (I2 : Int) := by have := HI2.out; omega
      have eI1 : (ll.length : Int) - 1 = (I1 : Int) := by have := HI1.out; omega
      have eW2 : IntKind.i64.wrap (I2 : Int) = (I2 : Int) := i64_wrap_in _ (by omega)
      have hI2i : (I2 : Int) < (ll.length : Int) := by omega
      have eW1 : IntKind.i64.wrap (I1 : Int) = (I1 : Int) := i64_wrap_in _ (by omega)
      have hI1i : (I1 : Int) < (ll.length : Int) := by omega
      have hcap2 : I2 ≤ qc := by omega
      obtain ⟨x1, cx1, ox1⟩ := hc I2 (by have := HLn.out; omega)
      obtain ⟨x2, cx2, ox2⟩ := hc I1 (by have := HLn.out; omega)
      have hz1 := flat_at (ll := ll) (i := I2) (by have := HLn.out; omega)
      have hz2 := flat_at (ll := ll) (i := I1) (by have := HLn.out; omega)
      have HFr : Hid (∀ W, Below w2.heap.size w2 W → RunRow W (.slice (some ⟨g, off, none⟩) I2 qc) (ll.take I2)) := fun W bW => (RunRow.front hg hc (by have := HLn.out; omega) hcap2).below bW
      have HLast : Hid (lastR ll = ll.take I2 ++ [canon (ll.getD I2 [] ++ ll.getD I1 [])]) := hidM (by
        have h1 := HLn.out
        have h2 := HI2.out
        have h3 := HI1.out
        unfold lastR
        rw [if_pos (by omega), show ll.length - 2 = I2 by omega, show ll.length - 1 = I1 by omega])
      have HTk : Hid ((ll.take I2).length = I2) := hidM (by rw [List.length_take]; have := HLn.out; omega)
      have HMr : Hid (∀ W b, Below w2.heap.size w2 W → BAt W b [x1, x2] → Calls Try.prog 29 #[.func (.func 30) #[] #[], .slice (some ⟨b, 0, none⟩) 2 2] W fun e w' => ∃ v', e = .returned v' ∧ EntRow w' v' (canon (ll.getD I2 [] ++ ll.getD I1 [])) ∧ Below W.heap.size W w') := fun W b bW hb => by
        have := implMerged [ll.getD I2 [], ll.getD I1 []] _ W (by simp) (by rw [show ([ll.getD I2 [], ll.getD I1 []] : List (List EV)).flatten = ll.getD I2 [] ++ ll.getD I1 [] by simp, List.length_append]; omega) (run_two hb (ox1.below bW) (ox2.below bW))
        rw [show ([ll.getD I2 [], ll.getD I1 []] : List (List EV)).flatten = ll.getD I2 [] ++ ll.getD I1 [] by simp] at this
        exact this
      obtain ⟨p1, s1, hx1⟩ := ox1.slice
      obtain ⟨p2, s2, hx2⟩ := ox2.slice
      generalize canon (ll.getD I2 [] ++ ll.getD I1 []) = LM at *
      subst hx1 hx2
      clear ox1 ox2 hz1 hz2 hc
      generalize (ll.getD I2 []).length = n1 at *
      generalize (ll.getD I1 []).length = n2 at *
      have HD8 : Hid (∀ W, Below w2.heap.size w2 W → W.cell? ⟨g, off + I2, none⟩ = some (.slice p1 n1 s1) ∧ W.cell? ⟨g, off + I1, none⟩ = some (.slice p2 n2 s2)) := fun W bW => ⟨(bW.cell (p := ⟨g, off + I2, none⟩) hg).trans cx1, (bW.cell (p := ⟨g, off + I1, none⟩) hg).trans cx2⟩
      clear cx1 cx2
      go_upto_region 6 with fail
      refine wp_region_held_drew (S := fun W => Below w2.heap.size w2 W) (by kernel_rfl) (Below.refl _ _).drew (fun h0 => ?_)
      refine wpAnyH_take (i := 0) (v := ?_) rfl (by kernel_rfl) (by kernel_rfl) (by kernel_rfl) (fun _ _ _ h => h) (Or.inl ⟨by rfl, fun W hW => ?_⟩) h0 ?_
      rotate_left
      · clear hW
        go_simp
        try with_reducible rfl
      simp only [Act.put, List.getElem_toArray, List.getElem_cons_zero, List.getElem_cons_succ, List.setIfInBounds_toArray, List.set_cons_zero, List.set_cons_succ]
      refine wpAnyH_take (i := 1) (v := ?_) rfl (by kernel_rfl) (by kernel_rfl) (by kernel_rfl) (fun _ _ _ h => h) (Or.inl ⟨by rfl, fun W hW => ?_⟩) h0 ?_
      rotate_left
      · clear hW
        go_simp
        try with_reducible rfl
      simp only [Act.put, List.getElem_toArray, List.getElem_cons_zero, List.getElem_cons_succ, List.setIfInBounds_toArray, List.set_cons_zero, List.set_cons_succ]
      refine wpAnyH_take (i := 2) (v := ?_) rfl (by kernel_rfl) (by kernel_rfl) (by kernel_rfl) (fun _ _ _ h => h) (Or.inl ⟨by rfl, fun W hW => ?_⟩) h0 ?_
      rotate_left
      · clear hW
        go_simp
        try with_reducible rfl
      simp only [Act.put, List.getElem_toArray, List.getElem_cons_zero, List.getElem_cons_succ, List.setIfInBounds_toArray, List.set_cons_zero, List.set_cons_succ]
      refine wpAnyH_take (i := 3) (v := .pointer (some ⟨g, off + I2, none⟩)) rfl (by kernel_rfl) (by kernel_rfl) (by kernel_rfl) (fun _ _ _ h => h) (Or.inl ⟨by rfl, fun W hW => ?_⟩) h0 ?_
      · clear hW
        go_simp
      simp only [Act.put, List.getElem_toArray, List.getElem_cons_zero, List.getElem_cons_succ, List.setIfInBounds_toArray, List.set_cons_zero, List.set_cons_succ]
      refine wpAnyH_take (i := 4) (v := .slice p1 n1 s1) rfl (by kernel_rfl) (by kernel_rfl) (by kernel_rfl) (fun _ _ _ h => h) (Or.inl ⟨by rfl, fun W hW => ?_⟩) h0 ?_
      · have q0 := (HD8.out W hW).1
        go_simp
      simp only [Act.put, List.getElem_toArray, List.getElem_cons_zero, List.getElem_cons_succ, List.setIfInBounds_toArray, List.set_cons_zero, List.set_cons_succ]
      refine wpAnyH_take (i := 5) (v := ?_) rfl (by kernel_rfl) (by kernel_rfl) (by kernel_rfl) (fun _ _ _ h => h) (Or.inl ⟨by rfl, fun W hW => ?_⟩) h0 ?_
      rotate_left
      · clear hW
        go_simp
        try with_reducible rfl
      simp only [Act.put, List.getElem_toArray, List.getElem_cons_zero, List.getElem_cons_succ, List.setIfInBounds_toArray, List.set_cons_zero, List.set_cons_succ]
      refine wpAnyH_take (i := 6) (v := ?_) rfl (by kernel_rfl) (by kernel_rfl) (by kernel_rfl) (fun _ _ _ h => h) (Or.inl ⟨by rfl, fun W hW => ?_⟩) h0 ?_
      rotate_left
      · clear hW
        go_simp
        try with_reducible rfl
      simp only [Act.put, List.getElem_toArray, List.getElem_cons_zero, List.getElem_cons_succ, List.setIfInBounds_toArray, List.set_cons_zero, List.set_cons_succ]
      refine wpAnyH_take (i := 7) (v := ?_) rfl (by kernel_rfl) (by kernel_rfl) (by kernel_rfl) (fun _ _ _ h => h) (Or.inl ⟨by rfl, fun W hW => ?_⟩) h0 ?_
      rotate_left
      · clear hW
        go_simp
        try with_reducible rfl
      simp only [Act.put, List.getElem_toArray, List.getElem_cons_zero, List.getElem_cons_succ, List.setIfInBounds_toArray, List.set_cons_zero, List.set_cons_succ]
      refine wpAnyH_take (i := 8) (v := .pointer (some ⟨g, off + I1, none⟩)) rfl (by kernel_rfl) (by kernel_rfl) (by kernel_rfl) (fun _ _ _ h => h) (Or.inl ⟨by rfl, fun W hW => ?_⟩) h0 ?_
      · clear hW
        go_simp
      simp only [Act.put, List.getElem_toArray, List.getElem_cons_zero, List.getElem_cons_succ, List.setIfInBounds_toArray, List.set_cons_zero, List.set_cons_succ]
      refine wpAnyH_take (i := 9) (v := .slice p2 n2 s2) rfl (by kernel_rfl) (by kernel_rfl) (by kernel_rfl) (fun _ _ _ h => h) (Or.inl ⟨by rfl, fun W hW => ?_⟩) h0 ?_
      · have q0 := (HD8.out W hW).2
        go_simp
      simp only [Act.put, List.getElem_toArray, List.getElem_cons_zero, List.getElem_cons_succ, List.setIfInBounds_toArray, List.set_cons_zero, List.set_cons_succ]
      refine wpAnyH_ready (rs := [10]) (by kernel_rfl) (by simp) (AllReadyH.cons rfl (fun K hK => ?_) AllReadyH.nil)
      go_simp
      have h1z := h0.alloc h0.size (.cells #[.slice p1 n1 s1, .slice p2 n2 s2] 24)
      refine hK.out _ _ h1z (fun _ => ?_)
      clear hK K
      refine wpAnyH_ready (rs := [11]) (by kernel_rfl) (by simp) (AllReadyH.cons rfl (fun K hK => ?_) AllReadyH.nil)
      go_simp
      have bT : Below w2.heap.size w2 (w2.alloc (.cells #[.slice p1 n1 s1, .slice p2 n2 s2] 24)).drew := ((Below.refl _ _).alloc (Nat.le_refl _) _).drew
      refine (HMr.out _ w2.heap.size bT ((BAt.new w2 #[.slice p1 n1 s1, .slice p2 n2 s2] 24).below (Below.refl _ _).drew)).mono ?_
      rintro e w5 ⟨v5, rfl, r5, b5⟩
      have b5z : Below w2.heap.size w2 w5 := bT.trans (b5.mono bT.size)
      refine hK.out _ _ b5z (fun _ => ?_)
      clear hK K
      obtain ⟨la, lc, hle5⟩ := r5.slice
      subst hle5
      refine wpAnyH_take (i := 12) (v := ?_) rfl (by kernel_rfl) (by kernel_rfl) (by kernel_rfl) (fun _ _ _ h => h) (Or.inl ⟨by rfl, fun W hW => ?_⟩) b5z ?_
      rotate_left
      · clear hW
        go_simp
        try with_reducible rfl
      simp only [Act.put, List.getElem_toArray, List.getElem_cons_zero, List.getElem_cons_succ, List.setIfInBounds_toArray, List.set_cons_zero, List.set_cons_succ]
      refine wpAnyH_done (by kernel_rfl) ?_ _
      have B5 : Below O.heap.size O w5 := B2.trans (b5z.mono B2.size)
      have E5 := hidM (EntRow.below R2.out b5z)
      have F5 := hidM (HFr.out w5 b5z)
      have R5 := hidM r5
      clear HD8 HMr HFr r5 b5 bT h1z h0 eW2 eW1
      generalize hLN : LM.length = LN at *
      clear hLN
      obtain ⟨U7, hU7⟩ : ∃ U7, U7 = (w5.alloc (.cells #[.slice la LN lc] 24)).alloc (.cells #[.slice (some ⟨g, off, none⟩) I2 qc, .slice (some ⟨w5.heap.size, 0, none⟩) 1 1] 25) := ⟨_, rfl⟩
      have bU7 : Below w5.heap.size w5 U7 := by rw [hU7]; exact ((Below.refl _ _).alloc (Nat.le_refl _) _).alloc (by simp) _
      have A7 : BAt U7 w5.heap.size [.slice la LN lc] := by rw [hU7]; exact (BAt.new w5 #[.slice la LN lc] _).alloc _
      have A8 : BAt U7 (w5.heap.size + 1) [.slice (some ⟨g, off, none⟩) I2 qc, .slice (some ⟨w5.heap.size, 0, none⟩) 1 1] := by
        rw [hU7]
        have := BAt.new (w5.alloc (.cells #[.slice la LN lc] 24)) #[.slice (some ⟨g, off, none⟩) I2 qc, .slice (some ⟨w5.heap.size, 0, none⟩) 1 1] 25
        rwa [World.size_alloc] at this
      have CC := hidM (implConcatTwo _ _ (.slice (some ⟨w5.heap.size + 1, 0, none⟩) 2 2) (ll.take I2) [LM] U7 (w5.heap.size + 1) (by rw [HTk.out]; omega) (by simp) (F5.out.below bU7) (RunRow.one A7 (R5.out.below bU7)) A8 rfl)
      clear A7 A8 F5 R5
      go_wp2_with fail
      rw [← hU7]
      clear hU7
      refine CC.out.mono ?_
      rintro e w7 ⟨v7, rfl, r7, b7⟩
      have B7 : Below O.heap.size O w7 := (B5.trans (bU7.mono B5.size)).trans (b7.mono (B5.trans (bU7.mono B5.size)).size)
      have E7 := hidM ((E5.out.below bU7).below b7)
      have hL7 : (ll.take I2 ++ [LM]).length = I2 + 1 := by rw [List.length_append, HTk.out]; rfl
      obtain ⟨a7, c7, hv7⟩ := r7.slice
      rw [hL7] at hv7
      subst hv7
      have R7 := hidM r7
      have HPL : Hid (putL m ll x = ll.take I2 ++ [LM]) := hidM (by unfold putL; rw [HRRz.out]; exact HLast.out)
      have HFl : Hid (∀ i, i < (ll.take I2 ++ [LM]).length → 0 < ((ll.take I2 ++ [LM]).getD i []).length) := by
        have := HFull.out
        rw [HRRz.out, HLast.out] at this
        exact this
      clear r7 b7 CC E5 hL7
      go_upto_region 8 with fail
      obtain ⟨BwF, _, _, HDf⟩ := HW.out w7 B7
      obtain ⟨hsZ, AZ⟩ := two_set (.slice va ON vc) (.slice a7 (I2 + 1) c7) HDf
      have r0 : w7.cell? ⟨w.heap.size + 2, 0, none⟩ = some (.slice none 0 0) := by rw [cell_of_row w7 _ _ _ _ (0, 0) HDf]; rfl
      have r1 : w7.cell? ⟨w.heap.size + 2, 1, none⟩ = some (.slice none 0 0) := by rw [cell_of_row w7 _ _ _ _ (0, 0) HDf]; rfl
      have f0 : w7.frozen? ⟨w.heap.size + 2, 0, none⟩ = false := frozen_of_row _ _ _ _ _ HDf
      have f1 : w7.frozen? ⟨w.heap.size + 2, 1, none⟩ = false := frozen_of_row _ _ _ _ _ HDf
      have EF2 := hidM (EntRow.off E7.out HDf (by simp) hsZ)
      have RF2 := hidM (RunRow.off R7.out HFl.out HDf (by simp) hsZ)
      have BF2 : Below w.heap.size w ((w7.setCell ⟨w.heap.size + 2, 0, none⟩ (.slice va ON vc)).setCell ⟨w.heap.size + 2, 1, none⟩ (.slice a7 (I2 + 1) c7)) := (BwF.setCell (by simp) _).setCell (by simp) _
      clear hsZ HDf
      go_wp2_with fail
      refine bodyPost_ret (seen_resultI rfl _ _ (w.heap.size + 2) _ _ rfl AZ) rfl ?_
      exact put_done HPM.out HPL.out rfl EF2.out RF2.out BF2
    · have h3i : ¬ 3 < (ll.length : Int) := by omega
      have HPL : Hid (putL m ll x = ll) := hidM (by unfold putL; rw [HPR.out]; exact if_neg h3)
      have HFx : Hid (∀ i, i < ll.length → 0 < (ll.getD i []).length) := by
        have := HFullR.out
        rw [HPR.out] at this
        exact this
      go_upto_region 8 with fail
      obtain ⟨BwF, _, _, HDf⟩ := HW.out w2 B2
      obtain ⟨hsZ, AZ⟩ := two_set (.slice va ON vc) (.slice qa ll.length qc) HDf
      have r0 : w2.cell? ⟨w.heap.size + 2, 0, none⟩ = some (.slice none 0 0) := by rw [cell_of_row w2 _ _ _ _ (0, 0) HDf]; rfl
      have r1 : w2.cell? ⟨w.heap.size + 2, 1, none⟩ = some (.slice none 0 0) := by rw [cell_of_row w2 _ _ _ _ (0, 0) HDf]; rfl
      have f0 : w2.frozen? ⟨w.heap.size + 2, 0, none⟩ = false := frozen_of_row _ _ _ _ _ HDf
      have f1 : w2.frozen? ⟨w.heap.size + 2, 1, none⟩ = false := frozen_of_row _ _ _ _ _ HDf
      have EF2 := hidM (EntRow.off R2.out HDf (by simp) hsZ)
      have RF2 := hidM (RunRow.off Q2.out HFx.out HDf (by simp) hsZ)
      have BF2 : Below w.heap.size w ((w2.setCell ⟨w.heap.size + 2, 0, none⟩ (.slice va ON vc)).setCell ⟨w.heap.size + 2, 1, none⟩ (.slice qa ll.length qc)) := (BwF.setCell (by simp) _).setCell (by simp) _
      clear hsZ HDf
      go_wp2_with fail
      refine bodyPost_ret (seen_resultI rfl _ _ (w.heap.size + 2) _ _ rfl AZ) rfl ?_
      exact put_done HPM.out HPL.out rfl EF2.out RF2.out BF2
end Go.Proofs.Ytdnlaijpgjpplaa
