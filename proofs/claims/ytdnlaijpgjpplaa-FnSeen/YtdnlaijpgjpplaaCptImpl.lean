/- The contract of slices.CompactFunc at marks with the code's closure. -/
import Derived.Test.YtdnlaijpgjpplaaRows
import Derived.Test.YtdnlaijpgjpplaaSrtRow
import Derived.Test.YtdnlaijpgjpplaaKeyImpl
import Derived.Test.YtdnlaijpgjpplaaCptPlain
import Derived.BigRegion
import Derived.Deep.DeepCutAuto
import Derived.Deep.RegionHeld3
import Derived.Lib.SliceRun
namespace Go.Proofs.Ytdnlaijpgjpplaa
open Go.RowKit
set_option linter.unusedVariables false
set_option linter.unusedSimpArgs false

theorem ske_cmp (x y : EV) : (kcmp x y == 0) = ske x y := by
  unfold ske
  by_cases h : kcmp x y = 0
  · rw [beq_iff_eq.2 h, beq_iff_eq.2 ((kcmp_zero x y).1 h)]
  · rw [beq_eq_false_iff_ne.2 h, beq_eq_false_iff_ne.2 (fun e => h ((kcmp_zero x y).2 e))]
set_option maxHeartbeats 2000000 in
theorem implAlike (x y : EV) (B : Nat) (W : World) (hB : B < W.heap.size) (hc : W.cell? ⟨B, 0, none⟩ = some (.func (.func 30) #[] #[])) :
    Calls Try.prog 43 #[.agg #[.string x.s, .int .i64 x.k], .agg #[.string y.s, .int .i64 y.k], .pointer (some ⟨B, 0, none⟩)] W fun e w' => e = .returned (.bool (ske x y)) ∧ Below W.heap.size W w' := by
  obtain ⟨O, hO⟩ : ∃ O, O = (W.alloc (.cells #[.string x.s, .int .i64 x.k] 35)).alloc (.cells #[.string y.s, .int .i64 y.k] 35) := ⟨_, rfl⟩
  have bO : Below W.heap.size W O := by rw [hO]; exact ((Below.refl _ _).alloc (Nat.le_refl _) _).alloc (by simp) _
  have A0 : BAt O W.heap.size [.string x.s, .int .i64 x.k] := by rw [hO]; exact (BAt.new W #[.string x.s, .int .i64 x.k] _).alloc _
  have A1 : BAt O (W.heap.size + 1) [.string y.s, .int .i64 y.k] := by
    rw [hO]
    have := BAt.new (W.alloc (.cells #[.string x.s, .int .i64 x.k] 35)) #[.string y.s, .int .i64 y.k] 35
    rwa [World.size_alloc] at this
  have c0 := (bO.cell (p := ⟨B, 0, none⟩) hB).trans hc
  have c1 := A0.1 0 _ rfl
  have c2 := A0.1 1 _ rfl
  have c3 := A1.1 0 _ rfl
  have c4 := A1.1 1 _ rfl
  have CB := hidM (implByKey x y O)
  have HS := hidM (ske_cmp x y)
  generalize kcmp x y = z at *
  clear hc A0 A1
  go_enter Try.func43, Try.ntmps43
  go_upto_region 1 with fail
  rw [← hO]
  clear hO
  go_wp2_with fail
  refine CB.out.mono ?_
  rintro e w1 ⟨rfl, b1⟩
  go_wp2_with fail
  go_ret
  exact ⟨by rw [← HS.out]; rfl, bO.trans (b1.mono bO.size)⟩
theorem run_clear_mrks (w : World) (ty : TypeId) (b o n c : Nat) (hn : 0 < n) (hc : ∀ j, j < n * 2 → (w.cell? ⟨b, o + j, none⟩).isSome = true) (hf : ∀ j, w.frozen? ⟨b, j, none⟩ = false) :
    ∃ vs : List Value, (Builtin.clear_ #[24] ty #[.slice (some ⟨b, o, none⟩) n c]).run Try.prog w = .ok (.tuple #[]) (w.setCells b o vs) := by
  have hzc : (Builtin.zeroCells #[Value.string ⟨#[]⟩, Value.int .i64 0] n).toList.length = n * 2 := by simp [Builtin.zeroCells]
  have hz1 : ∀ v ∈ (Builtin.zeroCells #[Value.string ⟨#[]⟩, Value.int .i64 0] n).toList, v.oneCell' = true := by
    intro v hv
    simp [Builtin.zeroCells] at hv
    obtain ⟨i, _, rfl⟩ := hv
    rcases Nat.mod_two_eq_zero_or_one i with h | h <;> simp [h] <;> rfl
  have hst := run_storeCells_cells (P := Try.prog) b o (Builtin.zeroCells #[Value.string ⟨#[]⟩, Value.int .i64 0] n).toList 0 w (by rw [hzc]; simpa using hc) (by intro j _; exact hf _) hz1
  simp only [Nat.add_zero] at hst
  refine ⟨(Builtin.zeroCells #[Value.string ⟨#[]⟩, Value.int .i64 0] n).toList, ?_⟩
  have hcl : (Value.agg #[Value.string ⟨#[]⟩, Value.int .i64 0]).cells = #[Value.string ⟨#[]⟩, Value.int .i64 0] := rfl
  obtain ⟨m, rfl⟩ : ∃ m, n = m + 1 := ⟨n - 1, by omega⟩
  simp [Builtin.clear_, run_underlying Try.underlying24, Try.zeroValue35, hcl, hst]
theorem size_setCellsM (b : Nat) : ∀ (vs : List Value) (o : Nat) (w : World), (w.setCells b o vs).heap.size = w.heap.size
  | [], _, _ => rfl
  | v :: vs, o, w => by rw [World.setCells, size_setCellsM b vs]; simp
theorem grown_setCells {w W : World} (b : Nat) : ∀ (vs : List Value) (o : Nat) (W : World), w.grownBy W (some b) → w.grownBy (W.setCells b o vs) (some b)
  | [], _, _, h => h
  | v :: vs, o, W, h => grown_setCells (W := W) b vs (o + 1) _ (grow_trans h (put_grown W b o v))
/-- What is kept so far. -/
structure CI (l : List EV) (k0 k2 k : Nat) (d : List EV) : Prop where
  len : d.length = l.length
  low : d.take k = cpt (l.take (k0 + k2))
  high : d.drop (k0 + k2 - 1) = l.drop (k0 + k2 - 1)
theorem CI.get {l : List EV} {k0 k2 k : Nat} {d : List EV} (h : CI l k0 k2 k d) {j : Nat} (hj : k0 + k2 - 1 ≤ j) : d.getD j ev0 = l.getD j ev0 := by
  have := congrArg (fun x : List EV => x.getD (j - (k0 + k2 - 1)) ev0) h.high
  simp only [List.getD_eq_getElem?_getD, List.getElem?_drop] at this
  rwa [show k0 + k2 - 1 + (j - (k0 + k2 - 1)) = j by omega, ← List.getD_eq_getElem?_getD, ← List.getD_eq_getElem?_getD] at this
theorem CI.skip {l : List EV} {k0 k2 k : Nat} {d : List EV} (h : CI l k0 k2 k d) (h1 : 1 ≤ k2) (h2 : k0 + k2 < l.length) (he : ske (l.getD (k0 + k2) ev0) (l.getD (k0 + k2 - 1) ev0) = true) : CI l k0 (k2 + 1) k d := by
  refine ⟨h.len, ?_, ?_⟩
  · have := cpt_take l (k0 + k2 - 1) (by omega)
    rw [show k0 + k2 - 1 + 2 = k0 + (k2 + 1) by omega, show k0 + k2 - 1 + 1 = k0 + k2 by omega, if_pos he, List.append_nil] at this
    rw [h.low, this]
  · have := congrArg (List.drop 1) h.high
    rw [List.drop_drop, List.drop_drop] at this
    rwa [show k0 + k2 - 1 + 1 = k0 + (k2 + 1) - 1 by omega] at this
theorem CI.put {l : List EV} {k0 k2 k : Nat} {d : List EV} (h : CI l k0 k2 k d) (h1 : 1 ≤ k2) (h2 : k0 + k2 < l.length) (hk : k < k0 + k2) (he : ske (l.getD (k0 + k2) ev0) (l.getD (k0 + k2 - 1) ev0) = false) : CI l k0 (k2 + 1) (k + 1) (d.set k (l.getD (k0 + k2) ev0)) := by
  refine ⟨by rw [List.length_set]; exact h.len, ?_, ?_⟩
  · have := cpt_take l (k0 + k2 - 1) (by omega)
    rw [show k0 + k2 - 1 + 2 = k0 + (k2 + 1) by omega, show k0 + k2 - 1 + 1 = k0 + k2 by omega, he, if_neg (by decide)] at this
    rw [this, ← h.low, List.take_succ_eq_append_getElem (by rw [List.length_set, h.len]; omega), List.take_set_of_le (Nat.le_refl _), List.getElem_set_self]
  · have := congrArg (List.drop 1) h.high
    rw [List.drop_drop, List.drop_drop] at this
    rw [show k0 + k2 - 1 + 1 = k0 + (k2 + 1) - 1 by omega] at this
    rw [List.drop_set_of_lt (by omega)]
    exact this
set_option maxRecDepth 100000 in
set_option maxHeartbeats 4000000 in
theorem implCompact (w W : World) (base g n cap Bc : Nat) (l : List EV) (hn : n ≤ 262144) (hg : Bc ≠ g) (hB : Bc < w.heap.size) (hc : w.cell? ⟨Bc, 0, none⟩ = some (.func (.func 30) #[] #[])) (h : MRw w W base g n cap l) :
    Calls Try.prog 42 #[.slice (some ⟨g, 0, none⟩) n cap, .func (.func 43) #[] #[.pointer (some ⟨Bc, 0, none⟩)]] W fun e w' => ∃ v', e = .returned v' ∧ EntRow w' v' (cpt l) ∧ w.grownBy w' (some g) := by
  have hlen := h.len
  have hcap : n ≤ cap := own_room h.own
  have CA : Hid (∀ (x y : EV) (d : List EV) (W : World), MRw w W base g n cap d → Calls Try.prog 43 #[.agg #[.string x.s, .int .i64 x.k], .agg #[.string y.s, .int .i64 y.k], .pointer (some ⟨Bc, 0, none⟩)] W fun e w' => e = .returned (.bool (ske x y)) ∧ Below W.heap.size W w') := fun x y d W h => implAlike x y Bc W (Nat.lt_of_lt_of_le hB h.gr.size) ((World.cell?_of_block (w := w) (a := ⟨Bc, 0, none⟩) (h.gr.block Bc hB (fun e => hg (by injection e)))).trans hc)
  have HL := hidM h
  clear h hc
  by_cases h2 : n < 2
  · have h2z : (n : Int) < 2 := by omega
    have HR : Hid (cpt l = l) := hidM (by
      match l, hlen with
      | [], _ => rfl
      | [x], _ => rfl
      | x :: y :: t, hlen => simp at hlen; omega)
    go_enter Try.func42, Try.ntmps42
    go_wp2_with fail
    go_ret
    exact ⟨_, rfl, by rw [HR.out]; exact EntRow.of_own' (by rw [hlen]; exact HL.out.own), HL.out.gr⟩
  · have h2z : ¬ (n : Int) < 2 := by omega
    go_enter Try.func42, Try.ntmps42
    go_wp2
    go_loopw [5] (fun s wr => ∃ k : Nat, s = .int .i64 k ∧ 1 ≤ k ∧ k ≤ n ∧ Hid (cpt (l.take k) = l.take k) ∧ Hid (MRw w wr base g n cap l)) (fun s _ => n - (intOf s).toNat)
    case atStart => exact ⟨1, rfl, Nat.le_refl _, by omega, hidM (by
      match l, hlen with
      | [], hlen => rfl
      | x :: t, _ => rfl), HL⟩
    case round =>
      clear HL
      obtain ⟨k, rfl, hk1, hkn, HK, HM⟩ := hrel
      by_cases hlt : k < n
      · have hki : (k : Int) < (n : Int) := by omega
        obtain ⟨k', rfl⟩ : ∃ k', k = k' + 1 := ⟨k - 1, by omega⟩
        have hkz : ((k' + 1 : Nat) : Int) - 1 = (k' : Int) := by omega
        have hkw : IntKind.i64.wrap (k' : Int) = (k' : Int) := by rw [IntKind.wrap_i64]; omega
        have z1 : (k' : Int) < (n : Int) := by omega
        have z3 : (0 : Int) ≤ (k' : Int) + 1 := by omega
        have z4 : (k' : Int) + 1 < (n : Int) := by omega
        have HCX : Hid (∀ W, MRw w W base g n cap l → W.cell? ⟨g, (k' + 1) * 2, none⟩ = some (.string (l.getD (k' + 1) ev0).s) ∧ W.cell? ⟨g, (k' + 1) * 2 + 1, none⟩ = some (.int .i64 (l.getD (k' + 1) ev0).k)) := fun W h => h.at (by omega)
        have HCY : Hid (∀ W, MRw w W base g n cap l → W.cell? ⟨g, k' * 2, none⟩ = some (.string (l.getD k' ev0).s) ∧ W.cell? ⟨g, k' * 2 + 1, none⟩ = some (.int .i64 (l.getD k' ev0).k)) := fun W h => h.at (by omega)
        have CX := hidM (CA.out (l.getD (k' + 1) ev0) (l.getD k' ev0) l)
        have HT := hidM (cpt_take l k' (by omega))
        have HT2 : Hid (l.take (k' + 2) = l.take (k' + 1) ++ [l.getD (k' + 1) ev0]) := hidM (by
          rw [List.take_succ_eq_append_getElem (show k' + 1 < l.length by omega), List.getD_eq_getElem?_getD, List.getElem?_eq_getElem (show k' + 1 < l.length by omega)]; rfl)
        generalize l.getD (k' + 1) ev0 = x at *
        generalize l.getD k' ev0 = y at *
        go_upto_region 6 with fail
        refine wp_region_held_drew (S := fun W => MRw w W base g n cap l) (by kernel_rfl) HM.out.drew (fun h0 => ?_)
        clear HM
        refine wpAnyH_take (i := 0) (v := ?_) rfl (by kernel_rfl) (by kernel_rfl) (by kernel_rfl) (fun _ _ _ h => h) (Or.inl ⟨by rfl, fun W hW => ?_⟩) h0 ?_
        rotate_left
        · clear hW
          go_simp
          try with_reducible rfl
        simp only [Act.put, List.getElem_toArray, List.getElem_cons_zero, List.getElem_cons_succ, List.setIfInBounds_toArray, List.set_cons_zero, List.set_cons_succ]
        refine wpAnyH_take (i := 1) (v := ?_) rfl (by kernel_rfl) (by kernel_rfl) (by kernel_rfl) (fun _ _ _ h => h) (Or.inl ⟨by rfl, fun W hW => ?_⟩) h0 ?_
        rotate_left
        · clear hW
          go_simp
          try with_reducible rfl
        simp only [Act.put, List.getElem_toArray, List.getElem_cons_zero, List.getElem_cons_succ, List.setIfInBounds_toArray, List.set_cons_zero, List.set_cons_succ]
        refine wpAnyH_take (i := 2) (v := ?_) rfl (by kernel_rfl) (by kernel_rfl) (by kernel_rfl) (fun _ _ _ h => h) (Or.inl ⟨by rfl, fun W hW => ?_⟩) h0 ?_
        rotate_left
        · clear hW
          go_simp
          try with_reducible rfl
        simp only [Act.put, List.getElem_toArray, List.getElem_cons_zero, List.getElem_cons_succ, List.setIfInBounds_toArray, List.set_cons_zero, List.set_cons_succ]
        refine wpAnyH_take (i := 3) (v := ?_) rfl (by kernel_rfl) (by kernel_rfl) (by kernel_rfl) (fun _ _ _ h => h) (Or.inl ⟨by rfl, fun W hW => ?_⟩) h0 ?_
        rotate_left
        · clear hW
          go_simp
          try with_reducible rfl
        simp only [Act.put, List.getElem_toArray, List.getElem_cons_zero, List.getElem_cons_succ, List.setIfInBounds_toArray, List.set_cons_zero, List.set_cons_succ]
        refine wpAnyH_take (i := 4) (v := .agg #[.string x.s, .int .i64 x.k]) rfl (by kernel_rfl) (by kernel_rfl) (by kernel_rfl) (fun _ _ _ h => h) (Or.inl ⟨by rfl, fun W hW => ?_⟩) h0 ?_
        · obtain ⟨q0, q1⟩ := HCX.out W hW
          clear hW
          go_simp
        simp only [Act.put, List.getElem_toArray, List.getElem_cons_zero, List.getElem_cons_succ, List.setIfInBounds_toArray, List.set_cons_zero, List.set_cons_succ]
        refine wpAnyH_take (i := 5) (v := ?_) rfl (by kernel_rfl) (by kernel_rfl) (by kernel_rfl) (fun _ _ _ h => h) (Or.inl ⟨by rfl, fun W hW => ?_⟩) h0 ?_
        rotate_left
        · clear hW
          go_simp
          try with_reducible rfl
        simp only [Act.put, List.getElem_toArray, List.getElem_cons_zero, List.getElem_cons_succ, List.setIfInBounds_toArray, List.set_cons_zero, List.set_cons_succ]
        refine wpAnyH_take (i := 6) (v := ?_) rfl (by kernel_rfl) (by kernel_rfl) (by kernel_rfl) (fun _ _ _ h => h) (Or.inl ⟨by rfl, fun W hW => ?_⟩) h0 ?_
        rotate_left
        · clear hW
          go_simp
          try with_reducible rfl
        simp only [Act.put, List.getElem_toArray, List.getElem_cons_zero, List.getElem_cons_succ, List.setIfInBounds_toArray, List.set_cons_zero, List.set_cons_succ]
        refine wpAnyH_take (i := 7) (v := ?_) rfl (by kernel_rfl) (by kernel_rfl) (by kernel_rfl) (fun _ _ _ h => h) (Or.inl ⟨by rfl, fun W hW => ?_⟩) h0 ?_
        rotate_left
        · clear hW
          go_simp
          try with_reducible rfl
        simp only [Act.put, List.getElem_toArray, List.getElem_cons_zero, List.getElem_cons_succ, List.setIfInBounds_toArray, List.set_cons_zero, List.set_cons_succ]
        refine wpAnyH_take (i := 8) (v := ?_) rfl (by kernel_rfl) (by kernel_rfl) (by kernel_rfl) (fun _ _ _ h => h) (Or.inl ⟨by rfl, fun W hW => ?_⟩) h0 ?_
        rotate_left
        · clear hW
          go_simp
          try with_reducible rfl
        simp only [Act.put, List.getElem_toArray, List.getElem_cons_zero, List.getElem_cons_succ, List.setIfInBounds_toArray, List.set_cons_zero, List.set_cons_succ]
        refine wpAnyH_take (i := 9) (v := .agg #[.string y.s, .int .i64 y.k]) rfl (by kernel_rfl) (by kernel_rfl) (by kernel_rfl) (fun _ _ _ h => h) (Or.inl ⟨by rfl, fun W hW => ?_⟩) h0 ?_
        · obtain ⟨q0, q1⟩ := HCY.out W hW
          clear hW
          go_simp
        simp only [Act.put, List.getElem_toArray, List.getElem_cons_zero, List.getElem_cons_succ, List.setIfInBounds_toArray, List.set_cons_zero, List.set_cons_succ]
        refine wpAnyH_ready (rs := [10]) (by kernel_rfl) (by simp) (AllReadyH.cons rfl (fun K hK => ?_) AllReadyH.nil)
        go_simp
        go_wp2_with (go_at_call 43; refine (CX.out _ h0).mono ?_; rintro e w2 ⟨rfl, bq⟩)
        refine hK.out _ _ (h0.below bq) (fun h1 => ?_)
        clear hK K bq h0
        refine wpAnyH_done (by kernel_rfl) ?_ _
        have HM2 := hidM h1
        clear h1 HCX HCY CX
        cases hs : ske x y with
        | false =>
          have HK2 : Hid (cpt (l.take (k' + 1 + 1)) = l.take (k' + 1 + 1)) := hidM (by rw [HT.out, hs, if_neg (by decide), HK.out, HT2.out])
          clear HK HT HT2 hs
          go_wp2_with fail
          go_roundw
          case rel => exact ⟨k' + 1 + 1, by go_num, by omega, by omega, HK2, HM2⟩
          case measure => simp [intOf]; omega
        | true =>
          obtain ⟨k0, hk0⟩ : ∃ k0, k0 = k' + 1 := ⟨_, rfl⟩
          have HC0 : Hid (CI l k0 1 k0 l) := hidM ⟨rfl, by rw [hk0, HT.out, hs, if_pos rfl, List.append_nil, HK.out], rfl⟩
          have hk0e : (k' : Int) + 1 = (k0 : Int) := by omega
          have hk0c : (k0 : Int) ≤ (cap : Int) := by omega
          have hk0l : k' + 1 ≤ k0 := by omega
          have hk0m : k0 ≤ k' + 1 := by omega
          simp only [hk0e]
          have hk0z : (k0 : Int) ≤ (n : Int) := by omega
          have hk0p : 1 ≤ k0 := by omega
          clear HK HT HT2 hs hkz hkw z1 z3 z4 hk0 hk0e
          go_wp2
          obtain ⟨nk, hnk⟩ : ∃ nk, n - k0 = nk := ⟨_, rfl⟩
          obtain ⟨ck, hck⟩ : ∃ ck, cap - k0 = ck := ⟨_, rfl⟩
          rw [hnk, hck]
          have hnk1 : nk + k0 ≤ n := by omega
          have hnk2 : n ≤ nk + k0 := by omega
          clear hnk hck
          go_loopw [5, 7] (fun s t wr => ∃ (k k2 : Nat) (d : List EV), s = .int .i64 k ∧ t = .int .i64 k2 ∧ 1 ≤ k2 ∧ k2 ≤ nk ∧ k0 ≤ k ∧ k < k0 + k2 ∧ Hid (CI l k0 k2 k d) ∧ Hid (MRw w wr base g n cap d)) (fun _ t _ => n - (intOf t).toNat)
          case atStart => exact ⟨k0, 1, l, rfl, rfl, Nat.le_refl _, by omega, Nat.le_refl _, by omega, HC0, HM2⟩
          case round =>
            clear HC0 HM2
            obtain ⟨k, k2, d, rfl, rfl, h21, h2n, hk0k, hkk, HCI, HM⟩ := hrel
            by_cases hlt2 : k2 < nk
            · have hki2 : (k2 : Int) < (nk : Int) := by omega
              obtain ⟨q, rfl⟩ : ∃ q, k2 = q + 1 := ⟨k2 - 1, by omega⟩
              have hkz : ((q + 1 : Nat) : Int) - 1 = (q : Int) := by omega
              have hkw : IntKind.i64.wrap (q : Int) = (q : Int) := by rw [IntKind.wrap_i64]; omega
              have z1 : (q : Int) < (nk : Int) := by omega
              have z3 : (0 : Int) ≤ (q : Int) + 1 := by omega
              have z4 : (q : Int) + 1 < (nk : Int) := by omega
              have z5 : (k : Int) < (n : Int) := by omega
              have HCX : Hid (∀ W, MRw w W base g n cap d → W.cell? ⟨g, k0 * 2 + (q + 1) * 2, none⟩ = some (.string (l.getD (k0 + (q + 1)) ev0).s) ∧ W.cell? ⟨g, k0 * 2 + (q + 1) * 2 + 1, none⟩ = some (.int .i64 (l.getD (k0 + (q + 1)) ev0).k)) := fun W h => by
                have := h.at (i := k0 + (q + 1)) (by omega)
                rw [HCI.out.get (by omega)] at this
                rwa [show (k0 + (q + 1)) * 2 = k0 * 2 + (q + 1) * 2 by omega] at this
              have HCY : Hid (∀ W, MRw w W base g n cap d → W.cell? ⟨g, k0 * 2 + q * 2, none⟩ = some (.string (l.getD (k0 + (q + 1) - 1) ev0).s) ∧ W.cell? ⟨g, k0 * 2 + q * 2 + 1, none⟩ = some (.int .i64 (l.getD (k0 + (q + 1) - 1) ev0).k)) := fun W h => by
                have := h.at (i := k0 + (q + 1) - 1) (by omega)
                rw [HCI.out.get (Nat.le_refl _)] at this
                rwa [show (k0 + (q + 1) - 1) * 2 = k0 * 2 + q * 2 by omega] at this
              have CX := hidM (CA.out (l.getD (k0 + (q + 1)) ev0) (l.getD (k0 + (q + 1) - 1) ev0) d)
              have H1 := hidM (HCI.out.skip h21 (by omega))
              have H2 := hidM (HCI.out.put h21 (by omega) hkk)
              generalize l.getD (k0 + (q + 1)) ev0 = x at *
              generalize l.getD (k0 + (q + 1) - 1) ev0 = y at *
              go_upto_region 11 with fail
              refine wp_region_held_drew (S := fun W => MRw w W base g n cap d) (by kernel_rfl) HM.out.drew (fun h0 => ?_)
              clear HM
              refine wpAnyH_take (i := 0) (v := ?_) rfl (by kernel_rfl) (by kernel_rfl) (by kernel_rfl) (fun _ _ _ h => h) (Or.inl ⟨by rfl, fun W hW => ?_⟩) h0 ?_
              rotate_left
              · clear hW
                go_simp
                try with_reducible rfl
              simp only [Act.put, List.getElem_toArray, List.getElem_cons_zero, List.getElem_cons_succ, List.setIfInBounds_toArray, List.set_cons_zero, List.set_cons_succ]
              refine wpAnyH_take (i := 1) (v := ?_) rfl (by kernel_rfl) (by kernel_rfl) (by kernel_rfl) (fun _ _ _ h => h) (Or.inl ⟨by rfl, fun W hW => ?_⟩) h0 ?_
              rotate_left
              · clear hW
                go_simp
                try with_reducible rfl
              simp only [Act.put, List.getElem_toArray, List.getElem_cons_zero, List.getElem_cons_succ, List.setIfInBounds_toArray, List.set_cons_zero, List.set_cons_succ]
              refine wpAnyH_take (i := 2) (v := ?_) rfl (by kernel_rfl) (by kernel_rfl) (by kernel_rfl) (fun _ _ _ h => h) (Or.inl ⟨by rfl, fun W hW => ?_⟩) h0 ?_
              rotate_left
              · clear hW
                go_simp
                try with_reducible rfl
              simp only [Act.put, List.getElem_toArray, List.getElem_cons_zero, List.getElem_cons_succ, List.setIfInBounds_toArray, List.set_cons_zero, List.set_cons_succ]
              refine wpAnyH_take (i := 3) (v := ?_) rfl (by kernel_rfl) (by kernel_rfl) (by kernel_rfl) (fun _ _ _ h => h) (Or.inl ⟨by rfl, fun W hW => ?_⟩) h0 ?_
              rotate_left
              · clear hW
                go_simp
                try with_reducible rfl
              simp only [Act.put, List.getElem_toArray, List.getElem_cons_zero, List.getElem_cons_succ, List.setIfInBounds_toArray, List.set_cons_zero, List.set_cons_succ]
              refine wpAnyH_take (i := 4) (v := .agg #[.string x.s, .int .i64 x.k]) rfl (by kernel_rfl) (by kernel_rfl) (by kernel_rfl) (fun _ _ _ h => h) (Or.inl ⟨by rfl, fun W hW => ?_⟩) h0 ?_
              · obtain ⟨q0, q1⟩ := HCX.out W hW
                clear hW
                go_simp
              simp only [Act.put, List.getElem_toArray, List.getElem_cons_zero, List.getElem_cons_succ, List.setIfInBounds_toArray, List.set_cons_zero, List.set_cons_succ]
              refine wpAnyH_take (i := 5) (v := ?_) rfl (by kernel_rfl) (by kernel_rfl) (by kernel_rfl) (fun _ _ _ h => h) (Or.inl ⟨by rfl, fun W hW => ?_⟩) h0 ?_
              rotate_left
              · clear hW
                go_simp
                try with_reducible rfl
              simp only [Act.put, List.getElem_toArray, List.getElem_cons_zero, List.getElem_cons_succ, List.setIfInBounds_toArray, List.set_cons_zero, List.set_cons_succ]
              refine wpAnyH_take (i := 6) (v := ?_) rfl (by kernel_rfl) (by kernel_rfl) (by kernel_rfl) (fun _ _ _ h => h) (Or.inl ⟨by rfl, fun W hW => ?_⟩) h0 ?_
              rotate_left
              · clear hW
                go_simp
                try with_reducible rfl
              simp only [Act.put, List.getElem_toArray, List.getElem_cons_zero, List.getElem_cons_succ, List.setIfInBounds_toArray, List.set_cons_zero, List.set_cons_succ]
              refine wpAnyH_take (i := 7) (v := ?_) rfl (by kernel_rfl) (by kernel_rfl) (by kernel_rfl) (fun _ _ _ h => h) (Or.inl ⟨by rfl, fun W hW => ?_⟩) h0 ?_
              rotate_left
              · clear hW
                go_simp
                try with_reducible rfl
              simp only [Act.put, List.getElem_toArray, List.getElem_cons_zero, List.getElem_cons_succ, List.setIfInBounds_toArray, List.set_cons_zero, List.set_cons_succ]
              refine wpAnyH_take (i := 8) (v := ?_) rfl (by kernel_rfl) (by kernel_rfl) (by kernel_rfl) (fun _ _ _ h => h) (Or.inl ⟨by rfl, fun W hW => ?_⟩) h0 ?_
              rotate_left
              · clear hW
                go_simp
                try with_reducible rfl
              simp only [Act.put, List.getElem_toArray, List.getElem_cons_zero, List.getElem_cons_succ, List.setIfInBounds_toArray, List.set_cons_zero, List.set_cons_succ]
              refine wpAnyH_take (i := 9) (v := .agg #[.string y.s, .int .i64 y.k]) rfl (by kernel_rfl) (by kernel_rfl) (by kernel_rfl) (fun _ _ _ h => h) (Or.inl ⟨by rfl, fun W hW => ?_⟩) h0 ?_
              · obtain ⟨q0, q1⟩ := HCY.out W hW
                clear hW
                go_simp
              simp only [Act.put, List.getElem_toArray, List.getElem_cons_zero, List.getElem_cons_succ, List.setIfInBounds_toArray, List.set_cons_zero, List.set_cons_succ]
              refine wpAnyH_ready (rs := [10]) (by kernel_rfl) (by simp) (AllReadyH.cons rfl (fun K hK => ?_) AllReadyH.nil)
              go_simp
              go_wp2_with (go_at_call 43; refine (CX.out _ h0).mono ?_; rintro e w3 ⟨rfl, bq⟩)
              refine hK.out _ _ (h0.below bq) (fun h1 => ?_)
              clear hK K bq h0
              clear CX
              cases hs : ske x y with
              | true =>
                have HCN := hidM (H1.out hs)
                clear H1 H2 hs HCI
                refine wpAnyH_take (i := 11) (v := ?_) rfl (by kernel_rfl) (by kernel_rfl) (by kernel_rfl) (fun _ _ _ h => h) (Or.inl ⟨by rfl, fun W hW => ?_⟩) h1 ?_
                rotate_left
                · clear hW
                  go_simp
                  try with_reducible rfl
                simp only [Act.put, List.getElem_toArray, List.getElem_cons_zero, List.getElem_cons_succ, List.setIfInBounds_toArray, List.set_cons_zero, List.set_cons_succ]
                refine wpAnyH_done (by kernel_rfl) ?_ _
                have HM3 := hidM h1
                clear h1 HCX HCY
                go_wp2_with fail
                go_roundw
                case rel => exact ⟨k, q + 1 + 1, d, rfl, by go_num, by omega, by omega, hk0k, by omega, HCN, HM3⟩
                case measure => simp [intOf]; omega
              | false =>
                have HCN := hidM (H2.out hs)
                clear H1 H2 hs HCI
                refine wpAnyH_take (i := 11) (v := ?_) rfl (by kernel_rfl) (by kernel_rfl) (by kernel_rfl) (fun _ _ _ h => h) (Or.inl ⟨by rfl, fun W hW => ?_⟩) h1 ?_
                rotate_left
                · clear hW
                  go_simp
                  try with_reducible rfl
                simp only [Act.put, List.getElem_toArray, List.getElem_cons_zero, List.getElem_cons_succ, List.setIfInBounds_toArray, List.set_cons_zero, List.set_cons_succ]
                refine wpAnyH_done (by kernel_rfl) ?_ _
                obtain ⟨cx1, cx2⟩ := HCX.out _ h1
                obtain ⟨cw1, cw2⟩ := h1.at (i := k) (by omega)
                have f1 := h1.fz (k * 2)
                have f2 := h1.fz (k * 2 + 1)
                have HM3 := hidM (h1.put (i := k) (by omega) x)
                clear h1 HCX HCY
                go_wp2_with fail
                go_roundw
                case rel => exact ⟨k + 1, q + 1 + 1, d.set k x, by go_num, by go_num, by omega, by omega, by omega, by omega, HCN, HM3⟩
                case measure => simp [intOf]; omega
            · have hki2 : ¬ (k2 : Int) < (nk : Int) := by omega
              have HD : Hid (d.take k = cpt l) := hidM (by have := HCI.out.low; rwa [List.take_of_length_le (show l.length ≤ k0 + k2 by omega)] at this)
              have hdl : d.length = n := HM.out.len
              have hkl : (k : Int) ≤ (n : Int) := by omega
              have hkc : (k : Int) ≤ (cap : Int) := by omega
              have hfz : ∀ j, wr.frozen? ⟨g, j, none⟩ = false := fun j => HM.out.fz j
              have hkn2 : k < n := by omega
              obtain ⟨vs, hcl⟩ := run_clear_mrks wr 0 g (k * 2) (n - k) (cap - k) (by omega) (fun j hj => by
                rw [HM.out.own.cellAt (k * 2 + j) (by omega)]
                have : k * 2 + j < (ecells d).length := by rw [ecells_length]; omega
                rw [List.getElem?_eq_getElem this]
                rfl) hfz
              have hgw : g < wr.heap.size := (HM.out.own.lt g rfl).2
              have HR : Hid (EntRow (wr.setCells g (k * 2) vs) (.slice (some ⟨g, 0, none⟩) k cap) (cpt l)) := by
                show EntRow _ _ _
                rw [← HD.out]
                have hti : (d.take k).length = k := by rw [List.length_take]; omega
                refine .inr ⟨by omega, g, 0, cap - k, by rw [hti, Nat.add_sub_cancel' (by omega)], by rw [size_setCellsM]; exact hgw, fun j hj => ?_⟩
                rw [hti] at hj
                obtain ⟨e1, e2⟩ := HM.out.at (i := j) (by omega)
                have hgd : (d.take k).getD j ev0 = d.getD j ev0 := by
                  rw [List.getD_eq_getElem?_getD, List.getElem?_take, if_pos hj, List.getD_eq_getElem?_getD]
                rw [hgd, Nat.zero_add, World.cell?_setCells_out g vs (k * 2) wr ⟨g, j * 2, none⟩ (fun _ _ => .inl (by show j * 2 < _; omega)), World.cell?_setCells_out g vs (k * 2) wr ⟨g, j * 2 + 1, none⟩ (fun _ _ => .inl (by show j * 2 + 1 < _; omega))]
                exact ⟨e1, e2⟩
              have G3 := grown_setCells (W := wr) g vs (k * 2) wr HM.out.gr
              clear HCI HD HM hfz
              go_wp2_with fail
              go_ret
              exact ⟨_, rfl, HR.out, G3⟩
      · have hki : ¬ (k : Int) < (n : Int) := by omega
        have HR : Hid (cpt l = l) := hidM (by have := HK.out; rwa [List.take_of_length_le (by omega)] at this)
        go_wp2_with fail
        go_ret
        exact ⟨_, rfl, by rw [HR.out]; exact EntRow.of_own' (by rw [hlen]; exact HM.out.own), HM.out.gr⟩
end Go.Proofs.Ytdnlaijpgjpplaa
