/- Contracts of what is kept. -/
import Derived.Test.YtjdnemjcjodboaaDoorRows
import Derived.Test.YtjdnemjcjodboaaDoorLetWalk
namespace Go.Proofs.YtjdnemjcjodboaaDoor
open Go.RowKit

/-- The two arrays of truths, as their texts lay them. -/
def Marks (w : World) : Prop := ∀ c : Nat, c < 128 → w.cell? ⟨0, c, none⟩ = some (.bool (plainT c)) ∧ w.cell? ⟨1, c, none⟩ = some (.bool (markN c))

theorem Marks.later {w w' : World} (h : Marks w) (hb : Below w.heap.size w w') : Marks w' := fun c hc =>
  ⟨(World.cell?_of_block (w := w) (a := ⟨0, c, none⟩) (hb.block _ (World.block_lt_of_cell? w _ (h c hc).1))).trans (h c hc).1,
   (World.cell?_of_block (w := w) (a := ⟨1, c, none⟩) (hb.block _ (World.block_lt_of_cell? w _ (h c hc).2))).trans (h c hc).2⟩

theorem digit_eq (c : Nat) : decide (48 ≤ (c : Int) ∧ (c : Int) ≤ 57) = digitN c := by
  unfold digitN
  exact decide_eq_decide.2 (by omega)

set_option maxRecDepth 20000 in
set_option maxHeartbeats 1000000 in
theorem implIsPlain (c : Nat) (w : World) (hM : Marks w) (hc : (c : Int) ≤ 255) :
    Calls Tryd.prog 53 #[.int .u8 (c : Int)] w fun e w' => e = .returned (.bool (freeN c)) ∧ w = w' := by
  have hc0 : 0 ≤ (c : Int) := by omega
  cases hl : letterN c with
  | true =>
    have HL : Hid (letterN c = true) := hl
    have HV : Hid (freeN c = true) := by show _ = _; unfold freeN; rw [hl]; rfl
    clear hl hM
    go_enter Tryd.func53, Tryd.ntmps53
    go_wp2_with fail
    refine (implIsLetter c _ hc).mono ?_
    rintro e w' ⟨rfl, rfl⟩
    rw [HL.out]
    go_wp2
    go_ret
    exact ⟨ret_bool (by rw [HV.out]), rfl⟩
  | false =>
    have HL : Hid (letterN c = false) := hl
    cases hg : digitN c with
    | true =>
      have HG : Hid (digitN c = true) := hg
      have HV : Hid (freeN c = true) := by show _ = _; unfold freeN; rw [hl, hg]; rfl
      clear hl hg hM
      go_enter Tryd.func53, Tryd.ntmps53
      go_wp2_with fail
      refine (implIsLetter c _ hc).mono ?_
      rintro e w' ⟨rfl, rfl⟩
      rw [HL.out]
      go_wp2_with fail
      refine (implIsDigit c _ (by omega)).mono ?_
      rintro e w' ⟨rfl, rfl⟩
      rw [digit_eq, HG.out]
      go_wp2
      go_ret
      exact ⟨ret_bool (by rw [HV.out]), rfl⟩
    | false =>
      have HG : Hid (digitN c = false) := hg
      by_cases h128 : (c : Int) < 128
      · have hcell := (hM c (by omega)).1
        have HV : Hid (freeN c = plainT c) := by show _ = _; unfold freeN; rw [hl, hg]; rfl
        generalize plainT c = b at hcell HV
        clear hl hg hM
        go_enter Tryd.func53, Tryd.ntmps53
        go_wp2_with fail
        refine (implIsLetter c _ hc).mono ?_
        rintro e w' ⟨rfl, rfl⟩
        rw [HL.out]
        go_wp2_with fail
        refine (implIsDigit c _ (by omega)).mono ?_
        rintro e w' ⟨rfl, rfl⟩
        rw [digit_eq, HG.out]
        go_wp2
        go_ret
        exact ⟨ret_bool (by rw [HV.out]), rfl⟩
      · have HV : Hid (freeN c = false) := by
          show _ = _
          cases hx : freeN c with
          | false => rfl
          | true => have := free_lt hx; omega
        have h129 : 128 ≤ (c : Int) := by omega
        clear hl hg hM h128
        go_enter Tryd.func53, Tryd.ntmps53
        go_wp2_with fail
        refine (implIsLetter c _ hc).mono ?_
        rintro e w' ⟨rfl, rfl⟩
        rw [HL.out]
        go_wp2_with fail
        refine (implIsDigit c _ (by omega)).mono ?_
        rintro e w' ⟨rfl, rfl⟩
        rw [digit_eq, HG.out]
        go_wp2
        go_ret
        exact ⟨ret_bool (by rw [HV.out]), rfl⟩

theorem keepZ_out {set : Int} (c : Int) (h : ¬ (1 ≤ set ∧ set ≤ 3)) : keepZ set c = false := by
  unfold keepZ
  rw [keep_out h]
  simp
theorem keepZ_neg (set : Int) {c : Int} (h : c < 0) : keepZ set c = false := by
  unfold keepZ
  rw [decide_eq_false (by omega)]
  rfl
theorem keepZ_big (set : Int) {c : Int} (h : 128 ≤ c) : keepZ set c = false := by
  unfold keepZ
  cases hx : keepN set c.toNat with
  | false => simp
  | true => have := keep_lt hx; omega
theorem keepZ_nat (set : Int) (n : Nat) : keepZ set (n : Int) = keepN set n := by simp [keepZ]
theorem keepN_slash {set : Int} (h : 1 ≤ set ∧ set ≤ 3) : keepN set 47 = decide (set ≠ 3) := by simp [keepN, h, freeN, letterN, digitN, plainT, markN]
theorem keepN_quest {set : Int} (h : 1 ≤ set ∧ set ≤ 3) : keepN set 63 = decide (set = 2) := by simp [keepN, h, freeN, letterN, digitN, plainT, markN]
theorem keepN_else {set : Int} {n : Nat} (h : 1 ≤ set ∧ set ≤ 3) (h1 : n ≠ 47) (h2 : n ≠ 63) : keepN set n = (markN n || freeN n) := by
  simp [keepN, h, h1, h2, Bool.or_comm]

set_option maxRecDepth 20000 in
set_option maxHeartbeats 2000000 in
theorem implKeeps (set c : Int) (w : World) (hM : Marks w) :
    Calls Tryd.prog 77 #[.int .i64 set, .int .i64 c] w fun e w' => e = .returned (.bool (keepZ set c)) ∧ w = w' := by
  by_cases h1 : set < 1
  · have HV : Hid (keepZ set c = false) := keepZ_out c (by omega)
    clear hM
    go_enter Tryd.func77, Tryd.ntmps77
    go_wp2
    go_ret
    exact ⟨ret_bool (by rw [HV.out]), rfl⟩
  · by_cases h3 : 3 < set
    · have HV : Hid (keepZ set c = false) := keepZ_out c (by omega)
      clear hM
      go_enter Tryd.func77, Tryd.ntmps77
      go_wp2
      go_ret
      exact ⟨ret_bool (by rw [HV.out]), rfl⟩
    · by_cases hc0 : c < 0
      · have HV : Hid (keepZ set c = false) := keepZ_neg set hc0
        clear hM
        go_enter Tryd.func77, Tryd.ntmps77
        go_wp2
        go_ret
        exact ⟨ret_bool (by rw [HV.out]), rfl⟩
      · by_cases hc1 : 128 ≤ c
        · have HV : Hid (keepZ set c = false) := keepZ_big set hc1
          clear hM
          go_enter Tryd.func77, Tryd.ntmps77
          go_wp2
          go_ret
          exact ⟨ret_bool (by rw [HV.out]), rfl⟩
        · have hv : 1 ≤ set ∧ set ≤ 3 := by omega
          obtain ⟨n, rfl⟩ := Int.eq_ofNat_of_zero_le (show 0 ≤ c by omega)
          rw [keepZ_nat]
          have hc2 : (n : Int) < 128 := by omega
          have hc3 : 0 ≤ (n : Int) := by omega
          clear hc0 hc1
          by_cases hs : n = 47
          · subst hs
            have HV : Hid (keepN set 47 = decide (set ≠ 3)) := keepN_slash hv
            clear hM
            by_cases he : set = 3
            · go_enter Tryd.func77, Tryd.ntmps77
              go_wp2
              go_ret
              exact ⟨ret_bool (by first | (rw [HV.out]; simp [he]) | decide), rfl⟩
            · go_enter Tryd.func77, Tryd.ntmps77
              go_wp2
              go_ret
              exact ⟨ret_bool (by first | (rw [HV.out]; simp [he]) | decide), rfl⟩
          · by_cases hq : n = 63
            · subst hq
              have HV : Hid (keepN set 63 = decide (set = 2)) := keepN_quest hv
              clear hM
              by_cases he : set = 2
              · go_enter Tryd.func77, Tryd.ntmps77
                go_wp2
                go_ret
                exact ⟨ret_bool (by first | (rw [HV.out]; simp [he]) | decide), rfl⟩
              · go_enter Tryd.func77, Tryd.ntmps77
                go_wp2
                go_ret
                exact ⟨ret_bool (by first | (rw [HV.out]; simp [he]) | decide), rfl⟩
            · have HV : Hid (keepN set n = (markN n || freeN n)) := keepN_else hv hs hq
              have hs' : ¬ (n : Int) = 47 := by omega
              have hq' : ¬ (n : Int) = 63 := by omega
              have hcell := (hM n (by omega)).2
              have HM : Hid (Marks w) := hM
              clear hM hs hq hv
              generalize markN n = b at hcell HV
              cases b with
              | true =>
                go_enter Tryd.func77, Tryd.ntmps77
                go_wp2
                go_ret
                exact ⟨ret_bool (by rw [HV.out]; rfl), rfl⟩
              | false =>
                go_enter Tryd.func77, Tryd.ntmps77
                go_wp2_with fail
                refine (implIsPlain n _ HM.out (by omega)).mono ?_
                rintro e w' ⟨rfl, rfl⟩
                go_wp2
                go_ret
                exact ⟨ret_bool (by rw [HV.out]; rfl), rfl⟩
end Go.Proofs.YtjdnemjcjodboaaDoor
