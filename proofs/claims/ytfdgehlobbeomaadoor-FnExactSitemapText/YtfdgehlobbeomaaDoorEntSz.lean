/- Contracts of the laws' helpers that measure entries. -/
import Derived.Test.YtfdgehlobbeomaaDoorRows
import Derived.Test.YtfdgehlobbeomaaDoorEntRow
import Derived.Test.YtfdgehlobbeomaaDoorRobSz
namespace Go.Proofs.YtfdgehlobbeomaaDoor
open Go.RowKit
set_option linter.unusedVariables false

def sumEn (l : List EV) : Nat := l.length + psum (fun i => (l.getD i ev0).s.size) l.length
def EMx (l : List EV) : Prop := l.length ≤ maxLen ∧ ∀ i, i < l.length → (l.getD i ev0).s.size ≤ maxLen
set_option maxHeartbeats 2000000 in
theorem szEnt (x : EV) (left : Int) (w : World) (h0 : 0 ≤ left) (h1 : left ≤ 1048576) (hm : x.s.size ≤ maxLen) :
    Calls Tryd.prog 19 #[.agg #[.string x.s, .int .i64 x.k], .int .i64 left] w fun e w' => e = .returned (.int .i64 (leftZ left x.s.size)) ∧ Below w.heap.size w w' := by
  have hbO : Below w.heap.size w (w.alloc (.cells #[.string x.s, .int .i64 x.k] 54)) := (Below.refl _ _).alloc (Nat.le_refl _) _
  unfold maxLen at hm
  by_cases hn : left - (x.s.size : Int) < 0
  · have HZ : Hid (leftZ left x.s.size = -1) := leftZ_no (by omega)
    go_enter Tryd.func19, Tryd.ntmps19
    go_wp2_with fail
    go_ret
    exact ⟨by rw [HZ.out]; rfl, by first | exact hbO | exact Below.refl _ _⟩
  · have HZ : Hid (leftZ left x.s.size = left - x.s.size) := leftZ_yes (by omega)
    go_enter Tryd.func19, Tryd.ntmps19
    go_wp2_with fail
    go_ret
    exact ⟨by rw [HZ.out]; rfl, by first | exact hbO | exact Below.refl _ _⟩
set_option maxHeartbeats 2000000 in
theorem szEnts (l : List EV) (v : Value) (left : Int) (w : World) (h0 : 0 ≤ left) (h1 : left ≤ 1048576) (hm : EMx l) (h : EntRow w v l) :
    Calls Tryd.prog 9 #[v, .int .i64 left] w fun e w' => e = .returned (.int .i64 (leftZ left (sumEn l))) ∧ Below w.heap.size w w' := by
  obtain ⟨hml, hmx⟩ := hm
  unfold maxLen at hml
  have HMX : Hid (∀ i, i < l.length → (l.getD i ev0).s.size ≤ maxLen) := hmx
  clear hmx
  by_cases hneg : left - (l.length : Int) < 0
  · obtain ⟨ao, cap, rfl⟩ := h.slice
    clear h
    have HZ : Hid (leftZ left (sumEn l) = -1) := leftZ_no (by unfold sumEn; omega)
    go_enter Tryd.func9, Tryd.ntmps9
    go_wp2
    go_ret
    exact ⟨by rw [HZ.out]; rfl, Below.refl _ _⟩
  · rcases h with ⟨rfl, ao, cap, rfl⟩ | ⟨hp, g, off, cap, rfl, hg, hc⟩
    · have HZ : Hid (leftZ left (sumEn []) = left) := (leftZ_yes (by show ((0 : Nat) : Int) ≤ left; omega)).trans (by show left - ((0 : Nat) : Int) = left; omega)
      go_enter Tryd.func9, Tryd.ntmps9
      have hneg' : ¬ left < 0 := by omega
      go_wp2
      refine wp_loop_rounds 1 ?_
      rw [rounds_succ]
      go_wp2
      go_ret
      exact ⟨by rw [HZ.out]; rfl, Below.refl _ _⟩
    · have HC : Hid (∀ i, i < l.length → w.cell? ⟨g, off + i * 2, none⟩ = some (.string (l.getD i ev0).s) ∧ w.cell? ⟨g, off + i * 2 + 1, none⟩ = some (.int .i64 (l.getD i ev0).k)) := hc
      clear hc
      obtain ⟨F, hF⟩ : ∃ F : Nat → Nat, F = fun i => (l.getD i ev0).s.size := ⟨_, rfl⟩
      have HS : Hid (sumEn l = l.length + psum F l.length) := by show _ = _; rw [hF]; rfl
      have HF : Hid (F = fun i => (l.getD i ev0).s.size) := hF
      clear hF
      have hz : ∃ z : Int, left - l.length = z ∧ 0 ≤ z ∧ z ≤ left := ⟨_, rfl, by omega, by omega⟩
      obtain ⟨z0, hz0, hz1, hz2⟩ := hz
      have HZ0 : Hid (left - l.length = z0) := hz0
      clear hneg
      have hzn : ¬ z0 < 0 := by omega
      go_enter Tryd.func9, Tryd.ntmps9
      go_wp2
      clear hz0 hzn
      go_loopw [1, 5] (fun a i wr => ∃ (k : Nat) (z : Int), k ≤ l.length ∧ i = .int .i64 k ∧ a = .int .i64 z ∧ 0 ≤ z ∧ z ≤ left ∧ Hid (z = z0 - psum F k) ∧ Below w.heap.size w wr) (fun _ i _ => l.length - (intOf i).toNat)
      case atStart => exact ⟨0, z0, Nat.zero_le _, rfl, rfl, hz1, hz2, (by show z0 = z0 - ((0 : Nat) : Int); omega), Below.refl _ _⟩
      case round =>
        obtain ⟨k, z, hk, rfl, rfl, hy1, hy2, HX, hbel⟩ := hrel
        clear hz1 hz2
        by_cases hlt : k < l.length
        · have hki : (k : Int) < l.length := by omega
          obtain ⟨c1, c2⟩ := HC.out k hlt
          have c1w := (hbel.cell (p := ⟨g, off + k * 2, none⟩) hg).trans c1
          have c2w := (hbel.cell (p := ⟨g, off + k * 2 + 1, none⟩) hg).trans c2
          have hx := HMX.out k hlt
          have HFk : Hid (F k = (l.getD k ev0).s.size) := by show _ = _; rw [HF.out]
          have CR : Hid (∀ W, Calls Tryd.prog 19 #[.agg #[.string (l.getD k ev0).s, .int .i64 (l.getD k ev0).k], .int .i64 z] W fun e w' => e = .returned (.int .i64 (leftZ z (l.getD k ev0).s.size)) ∧ Below W.heap.size W w') := fun W => szEnt (l.getD k ev0) z W hy1 (by omega) hx
          clear c1 c2 hx
          generalize l.getD k ev0 = x at *
          have hlz := leftZ_le (n := x.s.size) hy1
          have HLY : Hid ((x.s.size : Int) ≤ z → leftZ z x.s.size = z - x.s.size) := leftZ_yes
          have HLN : Hid (z < (x.s.size : Int) → leftZ z x.s.size = -1) := leftZ_no
          generalize leftZ z x.s.size = z' at *
          obtain ⟨q1, q2, q3⟩ := hlz
          have HQ3 : Hid (0 ≤ z' → (x.s.size : Int) ≤ z) := q3
          clear q3
          go_wp2_with fail
          refine (CR.out _).mono ?_
          rintro e w1 ⟨rfl, b1⟩
          have B1 := hbel.trans (b1.mono hbel.size)
          clear CR b1 hbel c1w c2w
          by_cases hn : z' < 0
          · have HZ : Hid (leftZ left (sumEn l) = -1) := leftZ_no (by
              have e1 := HX.out; have e2 := HZ0.out; have e3 := HFk.out
              have e4 := psum_le F (show k + 1 ≤ l.length from hlt)
              have e5 : psum F (k + 1) = psum F k + F k := rfl
              have e6 : z < (x.s.size : Int) := by
                by_cases h : (x.s.size : Int) ≤ z
                · have := HLY.out h; omega
                · omega
              rw [HS.out]; omega)
            clear HX
            go_wp2_with fail
            go_ret
            exact ⟨by rw [HZ.out]; rfl, B1⟩
          · have HN : Hid (z' = z0 - psum F (k + 1)) := by
              show _ = _
              have e1 := HX.out; have e3 := HFk.out
              have e5 : psum F (k + 1) = psum F k + F k := rfl
              have e6 := HLY.out (HQ3.out (by omega))
              omega
            clear HX
            go_wp2_with fail
            go_roundw
            case rel => exact ⟨k + 1, _, by omega, by go_num, rfl, by omega, by omega, HN, B1⟩
            case measure => simp [intOf]; omega
        · have hki : ¬ (k : Int) < l.length := by omega
          have HZ : Hid (leftZ left (sumEn l) = z) := by
            have e1 := HX.out; have e2 := HZ0.out
            rw [show k = l.length by omega] at e1
            show _ = _
            rw [HS.out, leftZ_yes (by omega)]
            omega
          clear HX
          go_wp2_with fail
          go_ret
          exact ⟨by rw [HZ.out]; rfl, hbel⟩
end Go.Proofs.YtfdgehlobbeomaaDoor
