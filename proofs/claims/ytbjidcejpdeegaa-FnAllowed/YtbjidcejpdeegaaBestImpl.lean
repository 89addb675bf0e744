/- The contracts of the code's Best, Allowed and Forbids. -/
import Derived.Test.YtbjidcejpdeegaaRows
import Derived.Test.YtbjidcejpdeegaaBestSpec
import Derived.Test.YtbjidcejpdeegaaMatImpl
import Derived.Deep.RegionHeld3
import Derived.Test.YtbjidcejpdeegaaBlockAt
namespace Go.Proofs.Ytbjidcejpdeegaa
open Go.RowKit
set_option linter.unusedVariables false
set_option linter.unusedSimpArgs false

/-- One line decides ahead of another. -/
def outB (x y : LV) : Bool := decide (y.pa.size < x.pa.size) || (decide (x.pa.size = y.pa.size) && x.al && !y.al)
set_option maxHeartbeats 2000000 in
theorem implOutranks (x y : LV) (w : World) :
    Calls Try.prog 34 #[.agg #[.bool x.al, .string x.pa], .agg #[.bool y.al, .string y.pa]] w fun e w' => e = .returned (.bool (outB x y)) ∧ Below w.heap.size w w' := by
  have hbO : Below w.heap.size w ((w.alloc (.cells #[.bool x.al, .string x.pa] 34)).alloc (.cells #[.bool y.al, .string y.pa] 34)) := ((Below.refl _ _).alloc (Nat.le_refl _) _).alloc (by simp) _
  by_cases heq : x.pa.size = y.pa.size
  · have HO : Hid (outB x y = (x.al && !y.al)) := by show _ = _; unfold outB; rw [decide_eq_false (by omega), decide_eq_true heq]; simp
    have hei : ((x.pa.size : Int) != (y.pa.size : Int)) = false := by rw [heq]; simp
    have hei2 : (x.pa.size : Int) = (y.pa.size : Int) := by omega
    obtain ⟨xa, xp⟩ := x
    obtain ⟨ya, yp⟩ := y
    clear heq
    cases xa with
    | false =>
      go_enter Try.func34, Try.ntmps34
      go_wp2_with fail
      go_ret
      exact ⟨by rw [HO.out]; rfl, hbO⟩
    | true =>
      go_enter Try.func34, Try.ntmps34
      go_wp2_with fail
      go_ret
      exact ⟨by rw [HO.out]; rfl, hbO⟩
  · have HO : Hid (outB x y = decide (y.pa.size < x.pa.size)) := by
      show _ = _
      unfold outB
      rw [decide_eq_false heq, Bool.false_and, Bool.false_and, Bool.or_false]
    have hei : ((x.pa.size : Int) != (y.pa.size : Int)) = true := by simp; omega
    have hei2 : ¬ (x.pa.size : Int) = (y.pa.size : Int) := by omega
    obtain ⟨xa, xp⟩ := x
    obtain ⟨ya, yp⟩ := y
    clear heq
    go_enter Try.func34, Try.ntmps34
    go_wp2_with fail
    go_ret
    exact ⟨ret_bool HO.out.symm, hbO⟩
theorem out_over (l : List LV) (b k : Nat) : outB (l.getD k lv0) (l.getD b lv0) = overI l b k := rfl
set_option maxRecDepth 100000 in
set_option maxHeartbeats 4000000 in
theorem implBest (l : List LV) (v : Value) (s : ByteArray) (w : World) (hl : LSz l) (hs : s.size ≤ 4194304) (hM : MaxI w) (h : LineRow w v l) :
    Calls Try.prog 14 #[v, .string s] w fun e w' => e = .returned (.int .i64 (bestZ (bestL l s.data.toList))) ∧ Below w.heap.size w w' := by
  obtain ⟨hln, hlz⟩ := hl
  rcases h with ⟨rfl, ao, cap, rfl⟩ | ⟨h0, g, off, cap, rfl, hg, hc⟩
  · clear hM
    go_enter Try.func14, Try.ntmps14
    go_wp2
    refine wp_loop_rounds 1 ?_
    rw [rounds_succ]
    go_wp2
    go_ret
    exact ⟨rfl, Below.refl _ _⟩
  · have HC : Hid (∀ i, i < l.length → w.cell? ⟨g, off + i * 2, none⟩ = some (.bool (l.getD i lv0).al) ∧ w.cell? ⟨g, off + i * 2 + 1, none⟩ = some (.string (l.getD i lv0).pa)) := hc
    have HZ : Hid (∀ i, i < l.length → (l.getD i lv0).pa.size ≤ 4194304) := hlz
    have HM0 : Hid (MaxI w) := hM
    clear hc hlz hM
    go_enter Try.func14, Try.ntmps14
    go_wp2
    go_loopw [5, 10] (fun b i wr => ∃ (k : Nat) (z : Int), k ≤ l.length ∧ i = .int .i64 k ∧ b = .int .i64 z ∧ Hid (z = bestZ (bestK l s.data.toList k)) ∧ Below w.heap.size w wr) (fun _ i _ => l.length - (intOf i).toNat)
    case atStart => exact ⟨0, -1, Nat.zero_le _, rfl, rfl, rfl, Below.refl _ _⟩
    case round =>
      obtain ⟨k, z, hk, rfl, rfl, HZB, hbel⟩ := hrel
      by_cases hlt : k < l.length
      · have hki : (k : Int) < l.length := by omega
        obtain ⟨c1, c2⟩ := HC.out k hlt
        have c1w := (hbel.cell (p := ⟨g, off + k * 2, none⟩) hg).trans c1
        have c2w := (hbel.cell (p := ⟨g, off + k * 2 + 1, none⟩) hg).trans c2
        have hz := HZ.out k hlt
        have CM : Hid (∀ W, Below w.heap.size w W → Calls Try.prog 11 #[.string (l.getD k lv0).pa, .string s] W fun e w' => e = .returned (.bool (matI l s.data.toList k)) ∧ Below W.heap.size W w') := fun W hW => implMatches _ s W hz hs (max_below HM0.out hW)
        cases hb : bestK l s.data.toList k with
        | none =>
          obtain rfl : z = -1 := by rw [HZB.out, hb]; rfl
          have HB : Hid (bestK l s.data.toList (k + 1) = if matI l s.data.toList k = true then some k else none) := by
            show _ = _
            cases hm : matI l s.data.toList k with
            | true => rw [if_pos rfl]; exact best_one hm hb
            | false => rw [if_neg (by decide), best_no hm, hb]
          clear hb hz c1 c2 HZB
          generalize matI l s.data.toList k = mt at *
          generalize (l.getD k lv0).pa = pk at *
          generalize (l.getD k lv0).al = ak at *
          obtain ⟨U, hU⟩ : ∃ U, U = wr.alloc (.cells #[.bool ak, .string pk] 34) := ⟨_, rfl⟩
          have bU : Below wr.heap.size wr U := by rw [hU]; exact (Below.refl _ _).alloc (Nat.le_refl _) _
          have AU : BAt U wr.heap.size [.bool ak, .string pk] := by rw [hU]; exact BAt.new wr #[.bool ak, .string pk] _
          have BU : Below w.heap.size w U := hbel.trans (bU.mono hbel.size)
          go_upto_region 5 with fail
          rw [← hU]
          clear hU
          have d0 := AU.1 0 _ rfl
          have d1 := AU.1 1 _ rfl
          have hD := AU.2.2
          clear c1w c2w hbel bU
          generalize wr.heap.size = D at *
          refine wp_region_held_drew (S := fun W => BAt W D [.bool ak, .string pk] ∧ Below w.heap.size w W) (by kernel_rfl) ⟨AU, BU.drew⟩ (fun h0 => ?_)
          clear AU BU d0 d1 hD
          refine wpAnyH_take (i := 0) (v := ?_) rfl (by kernel_rfl) (by kernel_rfl) (by kernel_rfl) (fun _ _ _ h => h) (Or.inl ⟨by rfl, fun W hW => ?_⟩) h0 ?_
          rotate_left
          · clear hW
            go_simp
            try with_reducible rfl
          simp only [Act.put, List.getElem_toArray, List.getElem_cons_zero, List.getElem_cons_succ, List.setIfInBounds_toArray, List.set_cons_zero, List.set_cons_succ]
          refine wpAnyH_take (i := 1) (v := ?_) rfl (by kernel_rfl) (by kernel_rfl) (by kernel_rfl) (fun _ _ _ h => h) (Or.inl ⟨by rfl, fun W hW => ?_⟩) h0 ?_
          rotate_left
          · clear hW
            go_simp
            try with_reducible rfl
          simp only [Act.put, List.getElem_toArray, List.getElem_cons_zero, List.getElem_cons_succ, List.setIfInBounds_toArray, List.set_cons_zero, List.set_cons_succ]
          refine wpAnyH_take (i := 2) (v := ?_) rfl (by kernel_rfl) (by kernel_rfl) (by kernel_rfl) (fun _ _ _ h => h) (Or.inl ⟨by rfl, fun W hW => ?_⟩) h0 ?_
          rotate_left
          · clear hW
            go_simp
            try with_reducible rfl
          simp only [Act.put, List.getElem_toArray, List.getElem_cons_zero, List.getElem_cons_succ, List.setIfInBounds_toArray, List.set_cons_zero, List.set_cons_succ]
          refine wpAnyH_take (i := 3) (v := undef) rfl (by kernel_rfl) (by kernel_rfl) (by kernel_rfl) (fun _ _ _ h => h) (Or.inr ⟨by rfl, rfl⟩) h0 ?_
          simp only [Act.put, List.getElem_toArray, List.getElem_cons_zero, List.getElem_cons_succ, List.setIfInBounds_toArray, List.set_cons_zero, List.set_cons_succ]
          refine wpAnyH_take (i := 4) (v := undef) rfl (by kernel_rfl) (by kernel_rfl) (by kernel_rfl) (fun _ _ _ h => h) (Or.inr ⟨by rfl, rfl⟩) h0 ?_
          simp only [Act.put, List.getElem_toArray, List.getElem_cons_zero, List.getElem_cons_succ, List.setIfInBounds_toArray, List.set_cons_zero, List.set_cons_succ]
          refine wpAnyH_take (i := 5) (v := undef) rfl (by kernel_rfl) (by kernel_rfl) (by kernel_rfl) (fun _ _ _ h => h) (Or.inr ⟨by rfl, rfl⟩) h0 ?_
          simp only [Act.put, List.getElem_toArray, List.getElem_cons_zero, List.getElem_cons_succ, List.setIfInBounds_toArray, List.set_cons_zero, List.set_cons_succ]
          refine wpAnyH_take (i := 6) (v := undef) rfl (by kernel_rfl) (by kernel_rfl) (by kernel_rfl) (fun _ _ _ h => h) (Or.inr ⟨by rfl, rfl⟩) h0 ?_
          simp only [Act.put, List.getElem_toArray, List.getElem_cons_zero, List.getElem_cons_succ, List.setIfInBounds_toArray, List.set_cons_zero, List.set_cons_succ]
          refine wpAnyH_take (i := 7) (v := undef) rfl (by kernel_rfl) (by kernel_rfl) (by kernel_rfl) (fun _ _ _ h => h) (Or.inr ⟨by rfl, rfl⟩) h0 ?_
          simp only [Act.put, List.getElem_toArray, List.getElem_cons_zero, List.getElem_cons_succ, List.setIfInBounds_toArray, List.set_cons_zero, List.set_cons_succ]
          refine wpAnyH_take (i := 8) (v := undef) rfl (by kernel_rfl) (by kernel_rfl) (by kernel_rfl) (fun _ _ _ h => h) (Or.inr ⟨by rfl, rfl⟩) h0 ?_
          simp only [Act.put, List.getElem_toArray, List.getElem_cons_zero, List.getElem_cons_succ, List.setIfInBounds_toArray, List.set_cons_zero, List.set_cons_succ]
          refine wpAnyH_take (i := 9) (v := ?_) rfl (by kernel_rfl) (by kernel_rfl) (by kernel_rfl) (fun _ _ _ h => h) (Or.inl ⟨by rfl, fun W hW => ?_⟩) h0 ?_
          rotate_left
          · clear hW
            go_simp
            try with_reducible rfl
          simp only [Act.put, List.getElem_toArray, List.getElem_cons_zero, List.getElem_cons_succ, List.setIfInBounds_toArray, List.set_cons_zero, List.set_cons_succ]
          refine wpAnyH_take (i := 10) (v := ?_) rfl (by kernel_rfl) (by kernel_rfl) (by kernel_rfl) (fun _ _ _ h => h) (Or.inl ⟨by rfl, fun W hW => ?_⟩) h0 ?_
          rotate_left
          · clear hW
            go_simp
            try with_reducible rfl
          simp only [Act.put, List.getElem_toArray, List.getElem_cons_zero, List.getElem_cons_succ, List.setIfInBounds_toArray, List.set_cons_zero, List.set_cons_succ]
          refine wpAnyH_take (i := 11) (v := ?_) rfl (by kernel_rfl) (by kernel_rfl) (by kernel_rfl) (fun _ _ _ h => h) (Or.inl ⟨by rfl, fun W hW => ?_⟩) h0 ?_
          rotate_left
          · clear hW
            go_simp
            try with_reducible rfl
          simp only [Act.put, List.getElem_toArray, List.getElem_cons_zero, List.getElem_cons_succ, List.setIfInBounds_toArray, List.set_cons_zero, List.set_cons_succ]
          refine wpAnyH_take (i := 12) (v := .string pk) rfl (by kernel_rfl) (by kernel_rfl) (by kernel_rfl) (fun _ _ _ h => h) (Or.inl ⟨by rfl, fun W hW => ?_⟩) h0 ?_
          · have q1 := hW.1.1 1 _ rfl
            go_simp
          simp only [Act.put, List.getElem_toArray, List.getElem_cons_zero, List.getElem_cons_succ, List.setIfInBounds_toArray, List.set_cons_zero, List.set_cons_succ]
          refine wpAnyH_take (i := 13) (v := ?_) rfl (by kernel_rfl) (by kernel_rfl) (by kernel_rfl) (fun _ _ _ h => h) (Or.inl ⟨by rfl, fun W hW => ?_⟩) h0 ?_
          rotate_left
          · clear hW
            go_simp
            try with_reducible rfl
          simp only [Act.put, List.getElem_toArray, List.getElem_cons_zero, List.getElem_cons_succ, List.setIfInBounds_toArray, List.set_cons_zero, List.set_cons_succ]
          refine wpAnyH_ready (rs := [14]) (by kernel_rfl) (by simp) (AllReadyH.cons rfl (fun K hK => ?_) AllReadyH.nil)
          go_simp
          go_wp2_with (go_at_call 11; refine (CM.out _ h0.2).mono ?_; rintro e w2 ⟨rfl, bq⟩)
          refine hK.out _ _ ⟨h0.1.below bq, h0.2.trans (bq.mono h0.2.size)⟩ (fun h1 => ?_)
          clear hK K bq h0
          refine wpAnyH_take (i := 15) (v := ?_) rfl (by kernel_rfl) (by kernel_rfl) (by kernel_rfl) (fun _ _ _ h => h) (Or.inl ⟨by rfl, fun W hW => ?_⟩) h1 ?_
          rotate_left
          · clear hW
            go_simp
            try with_reducible rfl
          simp only [Act.put, List.getElem_toArray, List.getElem_cons_zero, List.getElem_cons_succ, List.setIfInBounds_toArray, List.set_cons_zero, List.set_cons_succ]
          refine wpAnyH_done (by kernel_rfl) ?_ _
          have B2 := h1.2
          clear h1 CM
          cases mt with
          | true =>
            go_wp2_with fail
            go_roundw
            case rel => exact ⟨k + 1, _, by omega, by go_num, rfl, by rw [HB.out]; rfl, B2⟩
            case measure => simp [intOf] <;> omega
          | false =>
            go_wp2_with fail
            go_roundw
            case rel => exact ⟨k + 1, _, by omega, by go_num, rfl, by rw [HB.out]; rfl, B2⟩
            case measure => simp [intOf] <;> omega
        | some b =>
          have hbk := best_lt hb
          obtain rfl : z = (b : Int) := by rw [HZB.out, hb]; rfl
          obtain ⟨e1, e2⟩ := HC.out b (by omega)
          have hbi : ¬ (b : Int) < 0 := by omega
          have hbl : (b : Int) < l.length := by omega
          have CO : Hid (∀ W, Below w.heap.size w W → Calls Try.prog 34 #[.agg #[.bool (l.getD k lv0).al, .string (l.getD k lv0).pa], .agg #[.bool (l.getD b lv0).al, .string (l.getD b lv0).pa]] W fun e w' => e = .returned (.bool (overI l b k)) ∧ Below W.heap.size W w') := fun W _ => implOutranks (l.getD k lv0) (l.getD b lv0) W
          have HB : Hid (bestK l s.data.toList (k + 1) = if overI l b k = true then (if matI l s.data.toList k = true then some k else some b) else some b) := by
            show _ = _
            cases hm : matI l s.data.toList k with
            | true =>
              rw [best_over hm hb]
              cases overI l b k <;> rfl
            | false =>
              rw [best_no hm, hb]
              cases overI l b k <;> rfl
          clear hb hz c1 c2 HZB
          generalize matI l s.data.toList k = mt at *
          generalize overI l b k = ov at *
          generalize (l.getD k lv0).pa = pk at *
          generalize (l.getD k lv0).al = ak at *
          generalize (l.getD b lv0).pa = pb at *
          generalize (l.getD b lv0).al = ab at *
          obtain ⟨U, hU⟩ : ∃ U, U = wr.alloc (.cells #[.bool ak, .string pk] 34) := ⟨_, rfl⟩
          have bU : Below wr.heap.size wr U := by rw [hU]; exact (Below.refl _ _).alloc (Nat.le_refl _) _
          have AU : BAt U wr.heap.size [.bool ak, .string pk] := by rw [hU]; exact BAt.new wr #[.bool ak, .string pk] _
          have BU : Below w.heap.size w U := hbel.trans (bU.mono hbel.size)
          go_upto_region 5 with fail
          rw [← hU]
          clear hU
          clear c1w c2w hbel bU
          generalize wr.heap.size = D at *
          refine wp_region_held_drew (S := fun W => BAt W D [.bool ak, .string pk] ∧ Below w.heap.size w W) (by kernel_rfl) ⟨AU, BU.drew⟩ (fun h0 => ?_)
          clear AU BU
          refine wpAnyH_take (i := 0) (v := ?_) rfl (by kernel_rfl) (by kernel_rfl) (by kernel_rfl) (fun _ _ _ h => h) (Or.inl ⟨by rfl, fun W hW => ?_⟩) h0 ?_
          rotate_left
          · clear hW
            go_simp
            try with_reducible rfl
          simp only [Act.put, List.getElem_toArray, List.getElem_cons_zero, List.getElem_cons_succ, List.setIfInBounds_toArray, List.set_cons_zero, List.set_cons_succ]
          refine wpAnyH_take (i := 1) (v := ?_) rfl (by kernel_rfl) (by kernel_rfl) (by kernel_rfl) (fun _ _ _ h => h) (Or.inl ⟨by rfl, fun W hW => ?_⟩) h0 ?_
          rotate_left
          · clear hW
            go_simp
            try with_reducible rfl
          simp only [Act.put, List.getElem_toArray, List.getElem_cons_zero, List.getElem_cons_succ, List.setIfInBounds_toArray, List.set_cons_zero, List.set_cons_succ]
          refine wpAnyH_take (i := 2) (v := ?_) rfl (by kernel_rfl) (by kernel_rfl) (by kernel_rfl) (fun _ _ _ h => h) (Or.inl ⟨by rfl, fun W hW => ?_⟩) h0 ?_
          rotate_left
          · clear hW
            go_simp
            try with_reducible rfl
          simp only [Act.put, List.getElem_toArray, List.getElem_cons_zero, List.getElem_cons_succ, List.setIfInBounds_toArray, List.set_cons_zero, List.set_cons_succ]
          refine wpAnyH_take (i := 3) (v := .agg #[.bool ak, .string pk]) rfl (by kernel_rfl) (by kernel_rfl) (by kernel_rfl) (fun _ _ _ h => h) (Or.inl ⟨by rfl, fun W hW => ?_⟩) h0 ?_
          · have q0 := hW.1.1 0 _ rfl
            have q1 := hW.1.1 1 _ rfl
            go_simp
          simp only [Act.put, List.getElem_toArray, List.getElem_cons_zero, List.getElem_cons_succ, List.setIfInBounds_toArray, List.set_cons_zero, List.set_cons_succ]
          refine wpAnyH_take (i := 4) (v := ?_) rfl (by kernel_rfl) (by kernel_rfl) (by kernel_rfl) (fun _ _ _ h => h) (Or.inl ⟨by rfl, fun W hW => ?_⟩) h0 ?_
          rotate_left
          · clear hW
            go_simp
            try with_reducible rfl
          simp only [Act.put, List.getElem_toArray, List.getElem_cons_zero, List.getElem_cons_succ, List.setIfInBounds_toArray, List.set_cons_zero, List.set_cons_succ]
          refine wpAnyH_take (i := 5) (v := ?_) rfl (by kernel_rfl) (by kernel_rfl) (by kernel_rfl) (fun _ _ _ h => h) (Or.inl ⟨by rfl, fun W hW => ?_⟩) h0 ?_
          rotate_left
          · clear hW
            go_simp
            try with_reducible rfl
          simp only [Act.put, List.getElem_toArray, List.getElem_cons_zero, List.getElem_cons_succ, List.setIfInBounds_toArray, List.set_cons_zero, List.set_cons_succ]
          refine wpAnyH_take (i := 6) (v := ?_) rfl (by kernel_rfl) (by kernel_rfl) (by kernel_rfl) (fun _ _ _ h => h) (Or.inl ⟨by rfl, fun W hW => ?_⟩) h0 ?_
          rotate_left
          · clear hW
            go_simp
            try with_reducible rfl
          simp only [Act.put, List.getElem_toArray, List.getElem_cons_zero, List.getElem_cons_succ, List.setIfInBounds_toArray, List.set_cons_zero, List.set_cons_succ]
          refine wpAnyH_take (i := 7) (v := .agg #[.bool ab, .string pb]) rfl (by kernel_rfl) (by kernel_rfl) (by kernel_rfl) (fun _ _ _ h => h) (Or.inl ⟨by rfl, fun W hW => ?_⟩) h0 ?_
          · have q0 := (hW.2.cell (p := ⟨g, off + b * 2, none⟩) hg).trans e1
            have q1 := (hW.2.cell (p := ⟨g, off + b * 2 + 1, none⟩) hg).trans e2
            go_simp
          simp only [Act.put, List.getElem_toArray, List.getElem_cons_zero, List.getElem_cons_succ, List.setIfInBounds_toArray, List.set_cons_zero, List.set_cons_succ]
          refine wpAnyH_ready (rs := [8]) (by kernel_rfl) (by simp) (AllReadyH.cons rfl (fun K hK => ?_) AllReadyH.nil)
          go_simp
          go_wp2_with (go_at_call 34; refine (CO.out _ h0.2).mono ?_; rintro e w2 ⟨rfl, bq⟩)
          refine hK.out _ _ ⟨h0.1.below bq, h0.2.trans (bq.mono h0.2.size)⟩ (fun h1 => ?_)
          clear hK K bq h0
          refine wpAnyH_take (i := 9) (v := ?_) rfl (by kernel_rfl) (by kernel_rfl) (by kernel_rfl) (fun _ _ _ h => h) (Or.inl ⟨by rfl, fun W hW => ?_⟩) h1 ?_
          rotate_left
          · clear hW
            go_simp
            try with_reducible rfl
          simp only [Act.put, List.getElem_toArray, List.getElem_cons_zero, List.getElem_cons_succ, List.setIfInBounds_toArray, List.set_cons_zero, List.set_cons_succ]
          refine wpAnyH_take (i := 10) (v := ?_) rfl (by kernel_rfl) (by kernel_rfl) (by kernel_rfl) (fun _ _ _ h => h) (Or.inl ⟨by rfl, fun W hW => ?_⟩) h1 ?_
          rotate_left
          · clear hW
            go_simp
            try with_reducible rfl
          simp only [Act.put, List.getElem_toArray, List.getElem_cons_zero, List.getElem_cons_succ, List.setIfInBounds_toArray, List.set_cons_zero, List.set_cons_succ]
          cases ov with
          | false =>
            refine wpAnyH_take (i := 11) (v := undef) rfl (by kernel_rfl) (by kernel_rfl) (by kernel_rfl) (fun _ _ _ h => h) (Or.inr ⟨by rfl, rfl⟩) h1 ?_
            simp only [Act.put, List.getElem_toArray, List.getElem_cons_zero, List.getElem_cons_succ, List.setIfInBounds_toArray, List.set_cons_zero, List.set_cons_succ]
            refine wpAnyH_take (i := 12) (v := undef) rfl (by kernel_rfl) (by kernel_rfl) (by kernel_rfl) (fun _ _ _ h => h) (Or.inr ⟨by rfl, rfl⟩) h1 ?_
            simp only [Act.put, List.getElem_toArray, List.getElem_cons_zero, List.getElem_cons_succ, List.setIfInBounds_toArray, List.set_cons_zero, List.set_cons_succ]
            refine wpAnyH_take (i := 13) (v := undef) rfl (by kernel_rfl) (by kernel_rfl) (by kernel_rfl) (fun _ _ _ h => h) (Or.inr ⟨by rfl, rfl⟩) h1 ?_
            simp only [Act.put, List.getElem_toArray, List.getElem_cons_zero, List.getElem_cons_succ, List.setIfInBounds_toArray, List.set_cons_zero, List.set_cons_succ]
            refine wpAnyH_take (i := 14) (v := undef) rfl (by kernel_rfl) (by kernel_rfl) (by kernel_rfl) (fun _ _ _ h => h) (Or.inr ⟨by rfl, rfl⟩) h1 ?_
            simp only [Act.put, List.getElem_toArray, List.getElem_cons_zero, List.getElem_cons_succ, List.setIfInBounds_toArray, List.set_cons_zero, List.set_cons_succ]
            refine wpAnyH_take (i := 15) (v := ?_) rfl (by kernel_rfl) (by kernel_rfl) (by kernel_rfl) (fun _ _ _ h => h) (Or.inl ⟨by rfl, fun W hW => ?_⟩) h1 ?_
            rotate_left
            · clear hW
              go_simp
              try with_reducible rfl
            simp only [Act.put, List.getElem_toArray, List.getElem_cons_zero, List.getElem_cons_succ, List.setIfInBounds_toArray, List.set_cons_zero, List.set_cons_succ]
            refine wpAnyH_done (by kernel_rfl) ?_ _
            have B2 := h1.2
            clear h1 CM CO
            go_wp2_with fail
            go_roundw
            case rel => exact ⟨k + 1, _, by omega, by go_num, rfl, by rw [HB.out]; rfl, B2⟩
            case measure => simp [intOf] <;> omega
          | true =>
            refine wpAnyH_take (i := 11) (v := ?_) rfl (by kernel_rfl) (by kernel_rfl) (by kernel_rfl) (fun _ _ _ h => h) (Or.inl ⟨by rfl, fun W hW => ?_⟩) h1 ?_
            rotate_left
            · clear hW
              go_simp
              try with_reducible rfl
            simp only [Act.put, List.getElem_toArray, List.getElem_cons_zero, List.getElem_cons_succ, List.setIfInBounds_toArray, List.set_cons_zero, List.set_cons_succ]
            refine wpAnyH_take (i := 12) (v := .string pk) rfl (by kernel_rfl) (by kernel_rfl) (by kernel_rfl) (fun _ _ _ h => h) (Or.inl ⟨by rfl, fun W hW => ?_⟩) h1 ?_
            · have q1 := hW.1.1 1 _ rfl
              go_simp
            simp only [Act.put, List.getElem_toArray, List.getElem_cons_zero, List.getElem_cons_succ, List.setIfInBounds_toArray, List.set_cons_zero, List.set_cons_succ]
            refine wpAnyH_take (i := 13) (v := ?_) rfl (by kernel_rfl) (by kernel_rfl) (by kernel_rfl) (fun _ _ _ h => h) (Or.inl ⟨by rfl, fun W hW => ?_⟩) h1 ?_
            rotate_left
            · clear hW
              go_simp
              try with_reducible rfl
            simp only [Act.put, List.getElem_toArray, List.getElem_cons_zero, List.getElem_cons_succ, List.setIfInBounds_toArray, List.set_cons_zero, List.set_cons_succ]
            refine wpAnyH_ready (rs := [14]) (by kernel_rfl) (by simp) (AllReadyH.cons rfl (fun K hK => ?_) AllReadyH.nil)
            go_simp
            go_wp2_with (go_at_call 11; refine (CM.out _ h1.2).mono ?_; rintro e w3 ⟨rfl, bq⟩)
            refine hK.out _ _ ⟨h1.1.below bq, h1.2.trans (bq.mono h1.2.size)⟩ (fun h2 => ?_)
            clear hK K bq h1
            refine wpAnyH_take (i := 15) (v := ?_) rfl (by kernel_rfl) (by kernel_rfl) (by kernel_rfl) (fun _ _ _ h => h) (Or.inl ⟨by rfl, fun W hW => ?_⟩) h2 ?_
            rotate_left
            · clear hW
              go_simp
              try with_reducible rfl
            simp only [Act.put, List.getElem_toArray, List.getElem_cons_zero, List.getElem_cons_succ, List.setIfInBounds_toArray, List.set_cons_zero, List.set_cons_succ]
            refine wpAnyH_done (by kernel_rfl) ?_ _
            have B2 := h2.2
            clear h2 CM CO
            cases mt with
            | true =>
              go_wp2_with fail
              go_roundw
              case rel => exact ⟨k + 1, _, by omega, by go_num, rfl, by rw [HB.out]; rfl, B2⟩
              case measure => simp [intOf] <;> omega
            | false =>
              go_wp2_with fail
              go_roundw
              case rel => exact ⟨k + 1, _, by omega, by go_num, rfl, by rw [HB.out]; rfl, B2⟩
              case measure => simp [intOf] <;> omega
      · have hki : ¬ (k : Int) < l.length := by omega
        have HE : Hid (bestK l s.data.toList k = bestL l s.data.toList) := by show _ = _; rw [show k = l.length by omega]; rfl
        go_wp2_with fail
        go_ret
        exact ⟨by rw [← HE.out, ← HZB.out]; rfl, hbel⟩
set_option maxHeartbeats 2000000 in
theorem implAllowed (l : List LV) (v : Value) (s : ByteArray) (w : World) (hl : LSz l) (hs : s.size ≤ 4194304) (hM : MaxI w) (h : LineRow w v l) :
    Calls Try.prog 15 #[v, .string s] w fun e w' => e = .returned (.bool (allowB l s.data.toList)) ∧ Below w.heap.size w w' := by
  have CB : Hid (∀ W, Below w.heap.size w W → Calls Try.prog 14 #[v, .string s] W fun e w' => e = .returned (.int .i64 (bestZ (bestL l s.data.toList))) ∧ Below W.heap.size W w') := fun W hW => implBest l v s W hl hs (max_below hM hW) (h.below hW)
  have HR : Hid (LineRow w v l) := h
  have hln := hl.1
  obtain ⟨ao, cap, rfl⟩ := h.slice
  clear h hl hM
  by_cases hr : s.data.toList = robotsT
  · have HA : Hid (allowB l s.data.toList = true) := by show _ = _; unfold allowB; rw [decide_eq_true hr]; rfl
    obtain rfl : s = ⟨#[47, 114, 111, 98, 111, 116, 115, 46, 116, 120, 116]⟩ := beq_text hr
    clear hr
    go_enter Try.func15, Try.ntmps15
    go_wp2_with fail
    go_ret
    exact ⟨ret_bool HA.out.symm, Below.refl _ _⟩
  · have hne : (s.toList == [47, 114, 111, 98, 111, 116, 115, 46, 116, 120, 116]) = false := beq_eq_false_iff_ne.2 fun e => hr (by rw [← ByteArray.toList_eq]; exact e)
    cases hb : bestL l s.data.toList with
    | none =>
      have HA : Hid (allowB l s.data.toList = true) := by show _ = _; unfold allowB; rw [hb]; simp
      rw [hb, show bestZ none = -1 from rfl] at CB
      clear hr hb
      go_enter Try.func15, Try.ntmps15
      go_wp2_with fail
      refine (CB.out _ (Below.refl _ _)).mono ?_
      rintro e w1 ⟨rfl, b1⟩
      go_wp2_with fail
      go_ret
      exact ⟨ret_bool HA.out.symm, b1⟩
    | some b =>
      have HA : Hid (allowB l s.data.toList = (l.getD b lv0).al) := by show _ = _; unfold allowB; rw [hb, decide_eq_false hr]; rfl
      rw [hb, show bestZ (some b) = (b : Int) from rfl] at CB
      have hbl := best_room hb
      have hbi : (b : Int) < l.length := by omega
      obtain ⟨g, off, cc, hv, hg, ca⟩ : ∃ g off cc, Value.slice ao l.length cap = .slice (some ⟨g, off, none⟩) l.length cc ∧ g < w.heap.size ∧ w.cell? ⟨g, off + b * 2, none⟩ = some (.bool (l.getD b lv0).al) := by
        rcases HR.out with ⟨h, _⟩ | ⟨_, g, off, cc, h1, h2, h3⟩
        · rw [h] at hbl; simp at hbl
        · exact ⟨g, off, _, h1, h2, (h3 b hbl).1⟩
      cases hv
      clear hr hb HR
      generalize (l.getD b lv0).al = al at *
      go_enter Try.func15, Try.ntmps15
      go_wp2_with fail
      refine (CB.out _ (Below.refl _ _)).mono ?_
      rintro e w1 ⟨rfl, b1⟩
      have caw := (b1.cell (p := ⟨g, off + b * 2, none⟩) hg).trans ca
      clear ca
      go_wp2_with fail
      go_ret
      exact ⟨ret_bool HA.out.symm, b1⟩
set_option maxHeartbeats 1000000 in
theorem implForbids (l : List LV) (v : Value) (w : World) (hl : LSz l) (hM : MaxI w) (h : LineRow w v l) :
    Calls Try.prog 17 #[v] w fun e w' => e = .returned (.bool (!allowB l [47])) ∧ Below w.heap.size w w' := by
  have CA : Hid (∀ W, Below w.heap.size w W → Calls Try.prog 15 #[v, .string ⟨#[47]⟩] W fun e w' => e = .returned (.bool (allowB l [47])) ∧ Below W.heap.size W w') := fun W hW => implAllowed l v ⟨#[47]⟩ W hl (by decide) (max_below hM hW) (h.below hW)
  obtain ⟨ao, cap, rfl⟩ := h.slice
  clear h hl hM
  go_enter Try.func17, Try.ntmps17
  go_wp2_with fail
  refine (CA.out _ (Below.refl _ _)).mono ?_
  rintro e w1 ⟨rfl, b1⟩
  go_wp2_with fail
  go_ret
  exact ⟨rfl, b1⟩
end Go.Proofs.Ytbjidcejpdeegaa
