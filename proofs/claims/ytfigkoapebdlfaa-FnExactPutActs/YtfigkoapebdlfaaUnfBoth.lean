/- Contracts of impl.Unframe, spec.Unframe. -/
import Derived.Test.YtfigkoapebdlfaaRows
import Derived.Test.YtfigkoapebdlfaaFrmBoth
import Derived.Test.YtfigkoapebdlfaaNumGet
import Derived.Deep.DeepCutAuto
import Derived.Deep.RegionHeld3
import Derived.Handy
namespace Go.Proofs.Ytfigkoapebdlfaa
open Go.RowKit
set_option linter.unusedVariables false
set_option linter.unusedSimpArgs false

theorem hidB {p : Prop} (h : p) : Hid p := h

/-- The body of a frame, the place behind it, and whether it is one. -/
def unfB (l : List UInt8) : Option (Nat × Nat) → List UInt8
  | none => []
  | some (q, n) => partL l q n
def unfP (p : Int) : Option (Nat × Nat) → Int
  | none => p
  | some (q, n) => ((q + n + 4 : Nat) : Int)

theorem unfB_le (l : List UInt8) (p : Int) : (unfB l (unfL l p)).length ≤ l.length := by
  cases h : unfL l p with
  | none => simp [unfB]
  | some r =>
    obtain ⟨q, n⟩ := r
    unfold unfB partL
    rw [List.length_take, List.length_drop]
    omega

theorem unf_bad {l : List UInt8} {p : Int} (h : pieceL l p = none) : unfL l p = none := by unfold unfL; rw [h]
theorem unf_no {l : List UInt8} {p : Int} {q n : Nat} (h : pieceL l p = some (q, n)) (h2 : ¬ fourL (crcL (partL l q n)) = partL l (q + n) 4) : unfL l p = none := by unfold unfL; rw [h]; exact if_neg h2
theorem unf_yes {l : List UInt8} {p : Int} {q n : Nat} (h : pieceL l p = some (q, n)) (h2 : fourL (crcL (partL l q n)) = partL l (q + n) 4) : unfL l p = some (q, n) := by unfold unfL; rw [h]; exact if_pos h2
theorem part_part (l : List UInt8) (s m : Nat) (h : s + m = l.length) : partL (partL l s m) 0 4 = partL l s 4 := by
  unfold partL
  rw [List.drop_zero, List.take_take]
  by_cases h4 : 4 ≤ m
  · rw [Nat.min_eq_left h4]
  · rw [List.take_of_length_le (by rw [List.length_drop]; omega), List.take_of_length_le (by rw [List.length_drop]; omega)]

set_option maxRecDepth 100000 in
set_option maxHeartbeats 4000000 in
theorem implUnframe (p : Int) (v : Value) (l : List UInt8) (w : World) (hin : BRow w v l) (hn : l.length ≤ 1099511627776) :
    Calls Try.prog 45 #[v, .int .i64 p] w fun e w' => ∃ v', e = .returned (.tuple #[v', .int .i64 (unfP p (unfL l p)), .bool (unfL l p).isSome]) ∧ w'.ownsRow w.heap.size 5 1 v' (unfB l (unfL l p)).length (bcells (unfB l (unfL l p))) ∧ Below w.heap.size w w' := by
  have HG := implPieceAt p v l w hin hn
  cases hp : pieceL l p with
  | none =>
    rw [hp] at HG
    rw [unf_bad hp]
    obtain ⟨ao, cp, hv⟩ := hin.slice
    subst hv
    clear hin hp
    go_enter Try.func45, Try.ntmps45
    go_wp2_with fail
    refine HG.mono ?_
    rintro e w1 ⟨he, rfl⟩
    replace he : e = .returned (.tuple #[.slice none 0 0, .int .i64 0, .bool false]) := he
    subst he
    go_upto_region 2 with fail
    refine wp_region_held_drew (S := fun W => Below w.heap.size w W) (by kernel_rfl) (Below.refl _ _).drew (fun h0 => ?_)
    refine wpAnyH_take (i := 0) (v := ?_) rfl (by kernel_rfl) (by kernel_rfl) (by kernel_rfl) (fun _ _ _ h => h) (Or.inl ⟨by rfl, fun W hW => ?_⟩) h0 ?_
    rotate_left
    · clear hW
      go_simp
      try with_reducible rfl
    simp only [Act.put, List.getElem_toArray, List.getElem_cons_zero, List.getElem_cons_succ, List.setIfInBounds_toArray, List.set_cons_zero, List.set_cons_succ]
    refine wpAnyH_take (i := 1) (v := ?_) rfl (by kernel_rfl) (by kernel_rfl) (by kernel_rfl) (fun _ _ _ h => h) (Or.inl ⟨by rfl, fun W hW => ?_⟩) h0 ?_
    rotate_left
    · clear hW
      go_simp
      try with_reducible rfl
    simp only [Act.put, List.getElem_toArray, List.getElem_cons_zero, List.getElem_cons_succ, List.setIfInBounds_toArray, List.set_cons_zero, List.set_cons_succ]
    refine wpAnyH_take (i := 2) (v := ?_) rfl (by kernel_rfl) (by kernel_rfl) (by kernel_rfl) (fun _ _ _ h => h) (Or.inl ⟨by rfl, fun W hW => ?_⟩) h0 ?_
    rotate_left
    · clear hW
      go_simp
      try with_reducible rfl
    simp only [Act.put, List.getElem_toArray, List.getElem_cons_zero, List.getElem_cons_succ, List.setIfInBounds_toArray, List.set_cons_zero, List.set_cons_succ]
    refine wpAnyH_take (i := 3) (v := undef) rfl (by kernel_rfl) (by kernel_rfl) (by kernel_rfl) (fun _ _ _ h => h) (Or.inr ⟨by rfl, rfl⟩) h0 ?_
    simp only [Act.put, List.getElem_toArray, List.getElem_cons_zero, List.getElem_cons_succ, List.setIfInBounds_toArray, List.set_cons_zero, List.set_cons_succ]
    refine wpAnyH_take (i := 4) (v := undef) rfl (by kernel_rfl) (by kernel_rfl) (by kernel_rfl) (fun _ _ _ h => h) (Or.inr ⟨by rfl, rfl⟩) h0 ?_
    simp only [Act.put, List.getElem_toArray, List.getElem_cons_zero, List.getElem_cons_succ, List.setIfInBounds_toArray, List.set_cons_zero, List.set_cons_succ]
    refine wpAnyH_take (i := 5) (v := undef) rfl (by kernel_rfl) (by kernel_rfl) (by kernel_rfl) (fun _ _ _ h => h) (Or.inr ⟨by rfl, rfl⟩) h0 ?_
    simp only [Act.put, List.getElem_toArray, List.getElem_cons_zero, List.getElem_cons_succ, List.setIfInBounds_toArray, List.set_cons_zero, List.set_cons_succ]
    refine wpAnyH_take (i := 6) (v := undef) rfl (by kernel_rfl) (by kernel_rfl) (by kernel_rfl) (fun _ _ _ h => h) (Or.inr ⟨by rfl, rfl⟩) h0 ?_
    simp only [Act.put, List.getElem_toArray, List.getElem_cons_zero, List.getElem_cons_succ, List.setIfInBounds_toArray, List.set_cons_zero, List.set_cons_succ]
    refine wpAnyH_take (i := 7) (v := undef) rfl (by kernel_rfl) (by kernel_rfl) (by kernel_rfl) (fun _ _ _ h => h) (Or.inr ⟨by rfl, rfl⟩) h0 ?_
    simp only [Act.put, List.getElem_toArray, List.getElem_cons_zero, List.getElem_cons_succ, List.setIfInBounds_toArray, List.set_cons_zero, List.set_cons_succ]
    refine wpAnyH_take (i := 8) (v := undef) rfl (by kernel_rfl) (by kernel_rfl) (by kernel_rfl) (fun _ _ _ h => h) (Or.inr ⟨by rfl, rfl⟩) h0 ?_
    simp only [Act.put, List.getElem_toArray, List.getElem_cons_zero, List.getElem_cons_succ, List.setIfInBounds_toArray, List.set_cons_zero, List.set_cons_succ]
    refine wpAnyH_take (i := 9) (v := undef) rfl (by kernel_rfl) (by kernel_rfl) (by kernel_rfl) (fun _ _ _ h => h) (Or.inr ⟨by rfl, rfl⟩) h0 ?_
    simp only [Act.put, List.getElem_toArray, List.getElem_cons_zero, List.getElem_cons_succ, List.setIfInBounds_toArray, List.set_cons_zero, List.set_cons_succ]
    refine wpAnyH_take (i := 10) (v := ?_) rfl (by kernel_rfl) (by kernel_rfl) (by kernel_rfl) (fun _ _ _ h => h) (Or.inl ⟨by rfl, fun W hW => ?_⟩) h0 ?_
    rotate_left
    · clear hW
      go_simp
      try with_reducible rfl
    simp only [Act.put, List.getElem_toArray, List.getElem_cons_zero, List.getElem_cons_succ, List.setIfInBounds_toArray, List.set_cons_zero, List.set_cons_succ]
    refine wpAnyH_done (by kernel_rfl) ?_ _
    go_wp2
    go_ret3
    exact ⟨_, rfl, World.ownsRow_lit w.drew #[] 0 (Nat.le_refl _) (by decide) rfl, ((Below.refl _ _).drew).alloc (Nat.le_refl _) _⟩
  | some r =>
    obtain ⟨q, N⟩ := r
    rw [hp] at HG
    have hqN := pieceL_le hp
    rcases hin with ⟨rfl, _⟩ | ⟨h0, b, off, cap, rfl, hb, hc⟩
    · exfalso
      have : pieceL [] p = none := by
        unfold pieceL
        cases hg : getL [] p with
        | none => rfl
        | some r =>
          obtain ⟨a1, a2⟩ := r
          have := getL_le hg
          simp at this
          omega
      rw [this] at hp
      cases hp
    · obtain ⟨S0, HS0⟩ : ∃ S0, Hid (S0 = q + N) := ⟨_, rfl⟩
      have hS0 : S0 ≤ l.length := by have := HS0.out; omega
      obtain ⟨vt, M, ct, hvt, hM⟩ : ∃ vt M ct, (if l.length + cap = S0 then Value.slice (some ⟨b, off, none⟩) 0 0 else .slice (some ⟨b, off + S0, none⟩) (l.length - S0) (l.length + cap - S0)) = .slice vt M ct ∧ M = l.length - S0 := by
        by_cases hE : l.length + cap = S0
        · exact ⟨_, _, _, if_pos hE, by omega⟩
        · exact ⟨_, _, _, if_neg hE, rfl⟩
      have HT : Hid (∀ W, Below w.heap.size w W → BRow W (.slice vt M ct) (partL l S0 M)) := fun W bW => by
        refine BRow.below ?_ bW
        rw [← hvt]
        by_cases hE : l.length + cap = S0
        · rw [if_pos hE]
          exact .inl ⟨List.eq_nil_of_length_eq_zero (by rw [partL_len (by omega)]; omega), _, _, rfl⟩
        · rw [if_neg hE, hM]
          exact BRow.part hb hc (a := S0) (n := l.length - S0) (by omega) (by omega) rfl
      have HPP : Hid (partL (partL l S0 M) 0 4 = partL l (q + N) 4) := by
        show _ = _
        rw [part_part l S0 M (by omega), HS0.out]
      have hML : (partL l S0 M).length ≤ 1099511627776 := by rw [partL_len (by omega)]; omega
      have HN : Hid ((partL l q N).length = N) := partL_len (by omega)
      have hNl : (partL l q N).length ≤ 1099511627776 := by rw [HN.out]; omega
      obtain ⟨n, hn0⟩ : ∃ n, n = l.length := ⟨_, rfl⟩
      rw [← hn0] at hn hvt hM hqN hS0
      have HG2 : Calls Try.prog 47 #[.slice (some ⟨b, off, none⟩) n (n + cap), .int .i64 p] w fun e w' => PieceB w l (some (q, N)) e ∧ w = w' := by rw [hn0]; exact HG
      rw [← hn0]
      have HVT := hidB hvt
      clear HG hc hn0 h0 hM hvt
      have HCr : Hid (∀ v' W, BRow W v' (partL l q N) → Calls Try.prog 50 #[v'] W fun e w' => ∃ v', e = .returned v' ∧ w'.ownsRow W.heap.size 5 1 v' 4 (bcells (fourL (crcL (partL l q N)))) ∧ Below W.heap.size W w') := fun v' W h => implCrcBytes v' (partL l q N) W h hNl
      have HPx : Hid (∀ x W, BRow W (.slice vt M ct) (partL l S0 M) → BRow W x (fourL (crcL (partL l q N))) → Calls Try.prog 52 #[.slice vt M ct, x] W fun e w' => e = .returned (.bool (decide (partL (partL l S0 M) 0 4 = fourL (crcL (partL l q N))))) ∧ W = w') := fun x W h1 h2 => implBPrefix _ x _ _ W h1 h2 (fourL_len _) hML
      have hyes := fun h => unf_yes (l := l) (p := p) (q := q) (n := N) hp h
      have hno := fun h => unf_no (l := l) (p := p) (q := q) (n := N) hp h
      have hF := fourL_len (crcL (partL l q N))
      generalize fourL (crcL (partL l q N)) = F at *
      rw [HPP.out] at HPx
      obtain ⟨d, HD⟩ : ∃ d : Bool, Hid (d = decide (partL l (q + N) 4 = F)) := ⟨_, rfl⟩
      rw [← HD.out] at HPx
      have HRes : Hid (unfL l p = if d then some (q, N) else none) := by
        show _ = _
        rw [HD.out]
        by_cases h : F = partL l (q + N) 4
        · rw [hyes h, decide_eq_true h.symm]; rfl
        · rw [hno h, decide_eq_false (fun e => h e.symm)]; rfl
      rw [HRes.out]
      clear hp hyes hno HPP HD HRes
      go_enter Try.func45, Try.ntmps45
      go_wp2_with fail
      refine HG2.mono ?_
      rintro e w1 ⟨⟨vp, rfl, hbp⟩, rfl⟩
      have HBP : Hid (BRow w vp (partL l q N)) := hbp
      obtain ⟨po, pc, hvp⟩ := hbp.slice
      rw [HN.out] at hvp
      subst hvp
      rw [← HS0.out]
      clear hbp
      go_upto_region 2 with fail
      refine wp_region_held_drew (S := fun W => Below w.heap.size w W) (by kernel_rfl) (Below.refl _ _).drew (fun h0 => ?_)
      refine wpAnyH_take (i := 0) (v := ?_) rfl (by kernel_rfl) (by kernel_rfl) (by kernel_rfl) (fun _ _ _ h => h) (Or.inl ⟨by rfl, fun W hW => ?_⟩) h0 ?_
      rotate_left
      · clear hW
        go_simp
        try with_reducible rfl
      simp only [Act.put, List.getElem_toArray, List.getElem_cons_zero, List.getElem_cons_succ, List.setIfInBounds_toArray, List.set_cons_zero, List.set_cons_succ]
      refine wpAnyH_take (i := 1) (v := ?_) rfl (by kernel_rfl) (by kernel_rfl) (by kernel_rfl) (fun _ _ _ h => h) (Or.inl ⟨by rfl, fun W hW => ?_⟩) h0 ?_
      rotate_left
      · clear hW
        go_simp
        try with_reducible rfl
      simp only [Act.put, List.getElem_toArray, List.getElem_cons_zero, List.getElem_cons_succ, List.setIfInBounds_toArray, List.set_cons_zero, List.set_cons_succ]
      refine wpAnyH_take (i := 2) (v := ?_) rfl (by kernel_rfl) (by kernel_rfl) (by kernel_rfl) (fun _ _ _ h => h) (Or.inl ⟨by rfl, fun W hW => ?_⟩) h0 ?_
      rotate_left
      · clear hW
        go_simp
        try with_reducible rfl
      simp only [Act.put, List.getElem_toArray, List.getElem_cons_zero, List.getElem_cons_succ, List.setIfInBounds_toArray, List.set_cons_zero, List.set_cons_succ]
      refine wpAnyH_take (i := 3) (v := ?_) rfl (by kernel_rfl) (by kernel_rfl) (by kernel_rfl) (fun _ _ _ h => h) (Or.inl ⟨by rfl, fun W hW => ?_⟩) h0 ?_
      rotate_left
      · clear hW
        go_simp
        try with_reducible rfl
      simp only [Act.put, List.getElem_toArray, List.getElem_cons_zero, List.getElem_cons_succ, List.setIfInBounds_toArray, List.set_cons_zero, List.set_cons_succ]
      refine wpAnyH_take (i := 4) (v := ?_) rfl (by kernel_rfl) (by kernel_rfl) (by kernel_rfl) (fun _ _ _ h => h) (Or.inl ⟨by rfl, fun W hW => ?_⟩) h0 ?_
      rotate_left
      · clear hW
        go_simp
        try with_reducible rfl
      simp only [Act.put, List.getElem_toArray, List.getElem_cons_zero, List.getElem_cons_succ, List.setIfInBounds_toArray, List.set_cons_zero, List.set_cons_succ]
      refine wpAnyH_take (i := 5) (v := .slice vt M ct) rfl (by kernel_rfl) (by kernel_rfl) (by kernel_rfl) (fun _ _ _ h => h) (Or.inl ⟨by rfl, fun W hW => ?_⟩) h0 ?_
      · clear hW
        rw [← HVT.out]
        by_cases hE : n + cap = S0
        · rw [if_pos hE]
          have hc0 : cap = 0 := by omega
          have hq0 : S0 = n := by omega
          subst hc0 hq0
          go_simp
        · rw [if_neg hE]
          go_simp
      simp only [Act.put, List.getElem_toArray, List.getElem_cons_zero, List.getElem_cons_succ, List.setIfInBounds_toArray, List.set_cons_zero, List.set_cons_succ]
      refine wpAnyH_take (i := 6) (v := ?_) rfl (by kernel_rfl) (by kernel_rfl) (by kernel_rfl) (fun _ _ _ h => h) (Or.inl ⟨by rfl, fun W hW => ?_⟩) h0 ?_
      rotate_left
      · clear hW
        go_simp
        try with_reducible rfl
      simp only [Act.put, List.getElem_toArray, List.getElem_cons_zero, List.getElem_cons_succ, List.setIfInBounds_toArray, List.set_cons_zero, List.set_cons_succ]
      refine wpAnyH_ready (rs := [7]) (by kernel_rfl) (by simp) (AllReadyH.cons rfl (fun K hK => ?_) AllReadyH.nil)
      go_simp
      refine (HCr.out _ _ (HBP.out.below h0)).mono ?_
      rintro e wx ⟨vx, rfl, ox, bx⟩
      have hx1 : Below w.heap.size w wx := h0.trans (bx.mono h0.size)
      refine hK.out _ _ hx1 (fun h1 => ?_)
      have HX : Hid (BRow wx vx F) := BRow.of_own ox
      obtain ⟨xo, xc, hvx⟩ := (BRow.of_own ox).slice
      rw [hF] at hvx
      subst hvx
      clear hK K ox bx h0 h1
      refine wpAnyH_ready (rs := [8]) (by kernel_rfl) (by simp) (AllReadyH.cons rfl (fun K hK => ?_) AllReadyH.nil)
      go_simp
      refine (HPx.out _ _ (HT.out _ hx1) HX.out).mono ?_
      rintro e wy ⟨rfl, rfl⟩
      refine hK.out _ _ hx1 (fun h1 => ?_)
      clear hK K h1 HX
      refine wpAnyH_take (i := 9) (v := ?_) rfl (by kernel_rfl) (by kernel_rfl) (by kernel_rfl) (fun _ _ _ h => h) (Or.inl ⟨by rfl, fun W hW => ?_⟩) hx1 ?_
      rotate_left
      · clear hW
        go_simp
        try with_reducible rfl
      simp only [Act.put, List.getElem_toArray, List.getElem_cons_zero, List.getElem_cons_succ, List.setIfInBounds_toArray, List.set_cons_zero, List.set_cons_succ]
      refine wpAnyH_take (i := 10) (v := ?_) rfl (by kernel_rfl) (by kernel_rfl) (by kernel_rfl) (fun _ _ _ h => h) (Or.inl ⟨by rfl, fun W hW => ?_⟩) hx1 ?_
      rotate_left
      · clear hW
        go_simp
        try with_reducible rfl
      simp only [Act.put, List.getElem_toArray, List.getElem_cons_zero, List.getElem_cons_succ, List.setIfInBounds_toArray, List.set_cons_zero, List.set_cons_succ]
      refine wpAnyH_done (by kernel_rfl) ?_ _
      cases d with
      | true =>
        have HPr : Hid (BRow wx (.slice po N pc) (partL l q N)) := HBP.out.below hx1
        have HO := hidB (implOwnBytes _ _ wx HPr.out hNl)
        clear HCr HPx HT
        go_wp2_with fail
        refine HO.out.mono ?_
        rintro e wz ⟨vz, rfl, oz, bz⟩
        have B1 : Below w.heap.size w wz := hx1.trans (bz.mono hx1.size)
        have oz2 := own_base oz hx1.size
        clear oz
        go_wp2
        go_ret3
        refine ⟨_, ?_, oz2, B1⟩
        simp [unfP, HS0.out]
      | false =>
        clear HCr HPx HT
        go_wp2
        go_ret3
        exact ⟨_, rfl, own_base (World.ownsRow_lit wx #[] 0 (Nat.le_refl _) (by decide) rfl) hx1.size, hx1.alloc hx1.size _⟩

theorem unf_short {l : List UInt8} {p : Int} {N q : Nat} (hg : getL l p = some (N, q)) (h : (l.length : Int) - q - 4 < N) : unfL l p = none := by
  have hq := getL_le hg
  by_cases hbig : l.length - q < N
  · exact unf_bad (by unfold pieceL; rw [hg]; exact if_pos hbig)
  · refine unf_no (q := q) (n := N) (by unfold pieceL; rw [hg]; exact if_neg hbig) fun e => ?_
    have := congrArg List.length e
    rw [fourL_len] at this
    unfold partL at this
    rw [List.length_take, List.length_drop] at this
    omega

set_option maxRecDepth 100000 in
set_option maxHeartbeats 4000000 in
theorem specUnframe (p : Int) (v : Value) (l : List UInt8) (w : World) (hin : BRow w v l) (hn : l.length ≤ 1099511627776) :
    Calls Try.prog 44 #[v, .int .i64 p] w fun e w' => ∃ v', e = .returned (.tuple #[v', .int .i64 (unfP p (unfL l p)), .bool (unfL l p).isSome]) ∧ w'.ownsRow w.heap.size 5 1 v' (unfB l (unfL l p)).length (bcells (unfB l (unfL l p))) ∧ Below w.heap.size w w' := by
  have HG := specGetNum p v l w hin hn
  cases hg : getL l p with
  | none =>
    have hp : pieceL l p = none := by unfold pieceL; rw [hg]
    rw [hg] at HG
    rw [unf_bad hp]
    obtain ⟨ao, cp, hv⟩ := hin.slice
    subst hv
    clear hin hp hg
    go_enter Try.func44, Try.ntmps44
    go_wp2_with fail
    refine HG.mono ?_
    rintro e w1 ⟨rfl, rfl⟩
    unfold getV
    go_wp2
    go_ret3
    exact ⟨_, rfl, World.ownsRow_lit w #[] 0 (Nat.le_refl _) (by decide) rfl, (Below.refl _ _).alloc (Nat.le_refl _) _⟩
  | some r =>
    obtain ⟨N, q⟩ := r
    obtain ⟨hN, hp0, hpq, hq⟩ := getL_le hg
    rw [hg] at HG
    by_cases hbig : (l.length : Int) - q - 4 < N
    · rw [unf_short hg hbig]
      obtain ⟨ao, cp, hv⟩ := hin.slice
      subst hv
      clear hin hg
      go_enter Try.func44, Try.ntmps44
      go_wp2_with fail
      refine HG.mono ?_
      rintro e w1 ⟨rfl, rfl⟩
      unfold getV
      go_wp2
      go_ret3
      exact ⟨_, rfl, World.ownsRow_lit w #[] 0 (Nat.le_refl _) (by decide) rfl, (Below.refl _ _).alloc (Nat.le_refl _) _⟩
    · have hp : pieceL l p = some (q, N) := by unfold pieceL; rw [hg]; exact if_neg (by omega)
      have hqN : q + N + 4 ≤ l.length := by omega
      rcases hin with ⟨rfl, _⟩ | ⟨h0, b, off, cap, rfl, hb, hc⟩
      · simp at hqN
      · have HP : Hid (∀ W, Below w.heap.size w W → ∀ m c, m = N → N ≤ c → BRow W (.slice (some ⟨b, off + q, none⟩) m c) (partL l q N)) := fun W bW m c e h => e ▸ (BRow.part hb hc (a := q) (n := N) (by omega) h rfl).below bW
        have HT : Hid (∀ W, Below w.heap.size w W → BRow W (.slice (some ⟨b, off + (q + N), none⟩) 4 (l.length + cap - (q + N))) (partL l (q + N) 4)) := fun W bW => (BRow.part hb hc (a := q + N) (n := 4) (by omega) (by omega) rfl).below bW
        have HT4 : Hid ((partL l (q + N) 4).length = 4) := partL_len hqN
        have HN : Hid ((partL l q N).length = N) := partL_len (by omega)
        obtain ⟨n, hn0⟩ : ∃ n, n = l.length := ⟨_, rfl⟩
        have HG2 : Calls Try.prog 36 #[.slice (some ⟨b, off, none⟩) n (n + cap), .int .i64 p] w fun e w' => e = .returned (getV (some (N, q))) ∧ w = w' := by rw [hn0]; exact HG
        rw [← hn0] at hn hq hbig hqN HT ⊢
        clear HG hc hn0 h0
        have hyes := fun h => unf_yes (l := l) (p := p) (q := q) (n := N) hp h
        have hno := fun h => unf_no (l := l) (p := p) (q := q) (n := N) hp h
        have hNl : (partL l q N).length ≤ 1099511627776 := by rw [HN.out]; omega
        have hx := crcL_lt (partL l q N)
        have HCr : Hid (∀ v' W, BRow W v' (partL l q N) → Calls Try.prog 49 #[v'] W fun e w' => e = .returned (.int .i64 (crcL (partL l q N) : Int)) ∧ W = w') := fun v' W h => specCrc v' (partL l q N) W h hNl
        generalize crcL (partL l q N) = X at *
        have HFo : Hid (∀ W : World, Calls Try.prog 48 #[.int .i64 (X : Int)] W fun e w' => ∃ v, e = .returned v ∧ w'.ownsRow W.heap.size 5 1 v 4 (bcells (fourL X)) ∧ Below W.heap.size W w') := fun W => specFour X W hx
        have hF := fourL_len X
        generalize fourL X = F at *
        obtain ⟨d, HD⟩ : ∃ d : Bool, Hid (d = decide (F = partL l (q + N) 4)) := ⟨_, rfl⟩
        have HSm : Hid (∀ va vb W, BRow W va F → BRow W vb (partL l (q + N) 4) → Calls Try.prog 51 #[va, vb] W fun e w' => e = .returned (.bool d) ∧ Below W.heap.size W w') := fun va vb W h1 h2 => by
          have := specSame va vb _ _ W h1 h2 hF HT4.out
          rw [← HD.out] at this
          exact this
        have HRes : Hid (unfL l p = if d then some (q, N) else none) := by
          show _ = _
          rw [HD.out]
          by_cases h : F = partL l (q + N) 4
          · rw [hyes h, decide_eq_true h]; rfl
          · rw [hno h, decide_eq_false h]; rfl
        rw [HRes.out]
        clear hp hyes hno HD HRes HT4 hg
        have hE1 : ¬ n + cap = q := by omega
        have hE2 : ¬ n + cap = q + N := by omega
        go_enter Try.func44, Try.ntmps44
        go_wp2_with fail
        refine HG2.mono ?_
        rintro e w1 ⟨rfl, rfl⟩
        unfold getV
        go_wp2_with (at_builtin; refine wpList_append_brow rfl _ _ 29 rfl w.heap.size 5 Try.underlying29 Try.infoByte _ 0 [] rfl (World.ownsRow_lit w #[] 0 (Nat.le_refl _) (by decide) rfl) _ (partL l q N) rfl (HP.out _ ((Below.refl _ _).alloc (Nat.le_refl _) _) _ _ (by omega) (by omega)) (by omega) (by simp) ?_)
        intro vo wo oo g2 _
        have bo : Below w.heap.size w wo := ((Below.refl _ _).alloc (Nat.le_refl _) _).grown g2 (by simp) (fun k hk => by cases hk; exact Nat.le_refl _)
        have HO := hidB oo
        have HBO := hidB (BRow.of_own oo)
        obtain ⟨po, pc, hvo⟩ := (BRow.of_own oo).slice
        rw [HN.out] at hvo
        subst hvo
        clear oo g2 HP
        obtain ⟨A, HA⟩ : ∃ A, Hid (A = q + N) := ⟨_, rfl⟩
        have hA4 : A + 4 ≤ n := by rw [HA.out]; omega
        have hE3 : ¬ n + cap = A := by omega
        have eW1 : IntKind.i64.wrap ((q : Int) + (N : Int)) = (A : Int) := by
          rw [i64_wrap_small _ (by omega) (by omega), HA.out]
          rfl
        have eW2 : IntKind.i64.wrap ((A : Int) + 4) = (A : Int) + 4 := i64_wrap_small _ (by omega) (by omega)
        have HTA : Hid (∀ W, Below w.heap.size w W → BRow W (.slice (some ⟨b, off + A, none⟩) 4 (n + cap - A)) (partL l (q + N) 4)) := by
          rw [HA.out]
          exact HT.out
        clear HT hE2
        go_upto_region 5 with fail
        refine wp_region_held_drew (S := fun W => Below wo.heap.size wo W) (by kernel_rfl) (Below.refl _ _).drew (fun h0 => ?_)
        refine wpAnyH_take (i := 0) (v := ?_) rfl (by kernel_rfl) (by kernel_rfl) (by kernel_rfl) (fun _ _ _ h => h) (Or.inl ⟨by rfl, fun W hW => ?_⟩) h0 ?_
        rotate_left
        · clear hW
          go_simp
          try with_reducible rfl
        simp only [Act.put, List.getElem_toArray, List.getElem_cons_zero, List.getElem_cons_succ, List.setIfInBounds_toArray, List.set_cons_zero, List.set_cons_succ]
        refine wpAnyH_take (i := 3) (v := ?_) rfl (by kernel_rfl) (by kernel_rfl) (by kernel_rfl) (fun _ _ _ h => h) (Or.inl ⟨by rfl, fun W hW => ?_⟩) h0 ?_
        rotate_left
        · clear hW
          go_simp
          try with_reducible rfl
        simp only [Act.put, List.getElem_toArray, List.getElem_cons_zero, List.getElem_cons_succ, List.setIfInBounds_toArray, List.set_cons_zero, List.set_cons_succ]
        refine wpAnyH_take (i := 4) (v := ?_) rfl (by kernel_rfl) (by kernel_rfl) (by kernel_rfl) (fun _ _ _ h => h) (Or.inl ⟨by rfl, fun W hW => ?_⟩) h0 ?_
        rotate_left
        · clear hW
          go_simp
          try with_reducible rfl
        simp only [Act.put, List.getElem_toArray, List.getElem_cons_zero, List.getElem_cons_succ, List.setIfInBounds_toArray, List.set_cons_zero, List.set_cons_succ]
        refine wpAnyH_take (i := 5) (v := ?_) rfl (by kernel_rfl) (by kernel_rfl) (by kernel_rfl) (fun _ _ _ h => h) (Or.inl ⟨by rfl, fun W hW => ?_⟩) h0 ?_
        rotate_left
        · clear hW
          go_simp
          try with_reducible rfl
        simp only [Act.put, List.getElem_toArray, List.getElem_cons_zero, List.getElem_cons_succ, List.setIfInBounds_toArray, List.set_cons_zero, List.set_cons_succ]
        refine wpAnyH_take (i := 6) (v := ?_) rfl (by kernel_rfl) (by kernel_rfl) (by kernel_rfl) (fun _ _ _ h => h) (Or.inl ⟨by rfl, fun W hW => ?_⟩) h0 ?_
        rotate_left
        · clear hW
          go_simp
          try with_reducible rfl
        simp only [Act.put, List.getElem_toArray, List.getElem_cons_zero, List.getElem_cons_succ, List.setIfInBounds_toArray, List.set_cons_zero, List.set_cons_succ]
        refine wpAnyH_take (i := 7) (v := ?_) rfl (by kernel_rfl) (by kernel_rfl) (by kernel_rfl) (fun _ _ _ h => h) (Or.inl ⟨by rfl, fun W hW => ?_⟩) h0 ?_
        rotate_left
        · clear hW
          go_simp
          try with_reducible rfl
        simp only [Act.put, List.getElem_toArray, List.getElem_cons_zero, List.getElem_cons_succ, List.setIfInBounds_toArray, List.set_cons_zero, List.set_cons_succ]
        refine wpAnyH_take (i := 8) (v := ?_) rfl (by kernel_rfl) (by kernel_rfl) (by kernel_rfl) (fun _ _ _ h => h) (Or.inl ⟨by rfl, fun W hW => ?_⟩) h0 ?_
        rotate_left
        · clear hW
          go_simp
          try with_reducible rfl
        simp only [Act.put, List.getElem_toArray, List.getElem_cons_zero, List.getElem_cons_succ, List.setIfInBounds_toArray, List.set_cons_zero, List.set_cons_succ]
        refine wpAnyH_take (i := 9) (v := ?_) rfl (by kernel_rfl) (by kernel_rfl) (by kernel_rfl) (fun _ _ _ h => h) (Or.inl ⟨by rfl, fun W hW => ?_⟩) h0 ?_
        rotate_left
        · clear hW
          go_simp
          try with_reducible rfl
        simp only [Act.put, List.getElem_toArray, List.getElem_cons_zero, List.getElem_cons_succ, List.setIfInBounds_toArray, List.set_cons_zero, List.set_cons_succ]
        refine wpAnyH_take (i := 10) (v := ?_) rfl (by kernel_rfl) (by kernel_rfl) (by kernel_rfl) (fun _ _ _ h => h) (Or.inl ⟨by rfl, fun W hW => ?_⟩) h0 ?_
        rotate_left
        · clear hW
          go_simp
          try with_reducible rfl
        simp only [Act.put, List.getElem_toArray, List.getElem_cons_zero, List.getElem_cons_succ, List.setIfInBounds_toArray, List.set_cons_zero, List.set_cons_succ]
        refine wpAnyH_take (i := 11) (v := .slice (some ⟨b, off + A, none⟩) 4 (n + cap - A)) rfl (by kernel_rfl) (by kernel_rfl) (by kernel_rfl) (fun _ _ _ h => h) (Or.inl ⟨by rfl, fun W hW => ?_⟩) h0 ?_
        · clear hW
          go_simp
          rw [if_pos (by omega), if_pos (by omega), show ((A : Int) + 4).toNat - A = 4 by omega]
        simp only [Act.put, List.getElem_toArray, List.getElem_cons_zero, List.getElem_cons_succ, List.setIfInBounds_toArray, List.set_cons_zero, List.set_cons_succ]
        refine wpAnyH_ready (rs := [1]) (by kernel_rfl) (by simp) (AllReadyH.cons rfl (fun K hK => ?_) AllReadyH.nil)
        go_simp
        refine (HCr.out _ _ (HBO.out.below h0)).mono ?_
        rintro e wx ⟨rfl, rfl⟩
        refine hK.out _ _ h0 (fun h1 => ?_)
        clear hK K h1
        refine wpAnyH_ready (rs := [2]) (by kernel_rfl) (by simp) (AllReadyH.cons rfl (fun K hK => ?_) AllReadyH.nil)
        go_simp
        refine (HFo.out _).mono ?_
        rintro e wx ⟨vx, rfl, ox, bx⟩
        have hx1 : Below wo.heap.size wo wx := h0.trans (bx.mono h0.size)
        refine hK.out _ _ hx1 (fun h1 => ?_)
        have HX : Hid (BRow wx vx F) := BRow.of_own ox
        obtain ⟨xo, xc, hvx⟩ := (BRow.of_own ox).slice
        rw [hF] at hvx
        subst hvx
        clear hK K ox bx h0 h1
        refine wpAnyH_ready (rs := [12]) (by kernel_rfl) (by simp) (AllReadyH.cons rfl (fun K hK => ?_) AllReadyH.nil)
        go_simp
        refine (HSm.out _ _ _ HX.out (HTA.out _ (bo.trans (hx1.mono bo.size)))).mono ?_
        rintro e wy ⟨rfl, by0⟩
        have hy1 : Below wo.heap.size wo wy := hx1.trans (by0.mono hx1.size)
        refine hK.out _ _ hy1 (fun h1 => ?_)
        clear hK K h1 HX by0 hx1
        refine wpAnyH_take (i := 13) (v := ?_) rfl (by kernel_rfl) (by kernel_rfl) (by kernel_rfl) (fun _ _ _ h => h) (Or.inl ⟨by rfl, fun W hW => ?_⟩) hy1 ?_
        rotate_left
        · clear hW
          go_simp
          try with_reducible rfl
        simp only [Act.put, List.getElem_toArray, List.getElem_cons_zero, List.getElem_cons_succ, List.setIfInBounds_toArray, List.set_cons_zero, List.set_cons_succ]
        refine wpAnyH_done (by kernel_rfl) ?_ _
        have B1 : Below w.heap.size w wy := bo.trans (hy1.mono bo.size)
        cases d with
        | true =>
          have oz := own_below HO.out hy1
          clear HCr HFo HSm HTA HO HBO eW1 eW2
          go_wp2
          go_ret3
          refine ⟨_, ?_, oz, B1⟩
          simp [unfP]
        | false =>
          clear HCr HFo HSm HTA HO HBO eW1 eW2
          go_wp2
          go_ret3
          exact ⟨_, rfl, own_base (World.ownsRow_lit wy #[] 0 (Nat.le_refl _) (by decide) rfl) B1.size, B1.alloc B1.size _⟩
end Go.Proofs.Ytfigkoapebdlfaa
