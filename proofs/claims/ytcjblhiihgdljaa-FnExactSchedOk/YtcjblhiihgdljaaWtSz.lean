/- Contracts of the laws' helpers that measure Waitings. -/
import Derived.Test.YtcjblhiihgdljaaRows
import Derived.Test.YtcjblhiihgdljaaWtRow
import Derived.Test.YtcjblhiihgdljaaSumZ
import Derived.Test.YtcjblhiihgdljaaBlockAt
import Derived.Handy
import Derived.Deep.DeepCutAuto
namespace Go.Proofs.Ytcjblhiihgdljaa
open Go.RowKit
set_option linter.unusedVariables false

def szWt (x : WtV) : Nat := x.k.size
def sumWt (l : List WtV) : Nat := l.length + psum (fun i => szWt (l.getD i wtv0)) l.length
def WtMx (l : List WtV) : Prop := l.length ≤ maxLen ∧ ∀ i, i < l.length → (l.getD i wtv0).k.size ≤ maxLen
theorem sumWt_len {l : List WtV} (h : sumWt l ≤ 1048576) : l.length ≤ 1048576 := by unfold sumWt at h; omega
set_option maxHeartbeats 2000000 in
theorem szWtC (x : WtV) (left : Int) (w : World) (h0 : 0 ≤ left) (h1 : left ≤ 1048576) (hm : x.k.size ≤ maxLen) :
    Calls Try.prog 74 #[.agg #[.string x.k, .int .i64 x.p, .int .i64 x.q], .int .i64 left] w fun e w' => e = .returned (.int .i64 (leftZ left (szWt x))) ∧ Below w.heap.size w w' := by
  obtain ⟨a, b, c⟩ := x
  have hbO : Below w.heap.size w (w.alloc (.cells #[.string a, .int .i64 b, .int .i64 c] 103)) := (Below.refl _ _).alloc (Nat.le_refl _) _
  have hm1 := hm
  clear hm
  unfold maxLen at hm1
  dsimp only at hm1 ⊢
  unfold szWt
  dsimp only
  by_cases hn0 : left - (a.size : Int) < 0
  · have HZ : Hid (leftZ left (a.size) = -1) := leftZ_no (by omega)
    go_enter Try.func74, Try.ntmps74
    go_wp2_with fail
    go_ret
    exact ⟨by rw [HZ.out]; rfl, by first | exact hbO | exact Below.refl _ _⟩
  · skip
    have HZ : Hid (leftZ left (a.size) = left - (a.size : Int)) := (leftZ_yes (by omega)).trans (by omega)
    go_enter Try.func74, Try.ntmps74
    go_wp2_with fail
    go_ret
    exact ⟨by rw [HZ.out]; rfl, by first | exact hbO | exact Below.refl _ _⟩
set_option maxHeartbeats 2000000 in
theorem szWts (l : List WtV) (v : Value) (left : Int) (w : World) (h0 : 0 ≤ left) (h1 : left ≤ 1048576) (hm : WtMx l) (h : WtRow w v l) :
    Calls Try.prog 64 #[v, .int .i64 left] w fun e w' => e = .returned (.int .i64 (leftZ left (sumWt l))) ∧ Below w.heap.size w w' := by
  obtain ⟨hml, hmx⟩ := hm
  unfold maxLen at hml
  have HMX : Hid (∀ i, i < l.length → (l.getD i wtv0).k.size ≤ maxLen) := hmx
  clear hmx
  by_cases hneg : left - (l.length : Int) < 0
  · obtain ⟨ao, cap, rfl⟩ := h.slice
    clear h
    have HZ : Hid (leftZ left (sumWt l) = -1) := leftZ_no (by unfold sumWt; omega)
    go_enter Try.func64, Try.ntmps64
    go_wp2
    go_ret
    exact ⟨by rw [HZ.out]; rfl, Below.refl _ _⟩
  · rcases h with ⟨rfl, ao, cap, rfl⟩ | ⟨hp, g, off, cap, rfl, hg, hc⟩
    · have HZ : Hid (leftZ left (sumWt []) = left) := (leftZ_yes (by show ((0 : Nat) : Int) ≤ left; omega)).trans (by show left - ((0 : Nat) : Int) = left; omega)
      go_enter Try.func64, Try.ntmps64
      have hneg' : ¬ left < 0 := by omega
      go_wp2
      refine wp_loop_rounds 1 ?_
      rw [rounds_succ]
      go_wp2
      go_ret
      exact ⟨by rw [HZ.out]; rfl, Below.refl _ _⟩
    · have HC : Hid (∀ i, i < l.length → WtAt w g (off + i * 3) (l.getD i wtv0)) := hc
      clear hc
      obtain ⟨F, hF⟩ : ∃ F : Nat → Nat, F = fun i => szWt (l.getD i wtv0) := ⟨_, rfl⟩
      have HS : Hid (sumWt l = l.length + psum F l.length) := by show _ = _; rw [hF]; rfl
      have HF : Hid (F = fun i => szWt (l.getD i wtv0)) := hF
      clear hF
      have hz : ∃ z : Int, left - l.length = z ∧ 0 ≤ z ∧ z ≤ left := ⟨_, rfl, by omega, by omega⟩
      obtain ⟨z0, hz0, hz1, hz2⟩ := hz
      have HZ0 : Hid (left - l.length = z0) := hz0
      clear hneg
      have hzn : ¬ z0 < 0 := by omega
      go_enter Try.func64, Try.ntmps64
      go_wp2
      clear hz0 hzn
      go_loopw [1, 5] (fun a i wr => ∃ (k : Nat) (z : Int), k ≤ l.length ∧ i = .int .i64 k ∧ a = .int .i64 z ∧ 0 ≤ z ∧ z ≤ left ∧ Hid (z = z0 - psum F k) ∧ Below w.heap.size w wr) (fun _ i _ => l.length - (intOf i).toNat)
      case atStart => exact ⟨0, z0, Nat.zero_le _, rfl, rfl, hz1, hz2, (by show z0 = z0 - ((0 : Nat) : Int); omega), Below.refl _ _⟩
      case round =>
        obtain ⟨k, z, hk, rfl, rfl, hy1, hy2, HX, hbel⟩ := hrel
        clear hz1 hz2
        by_cases hlt : k < l.length
        · have hki : (k : Int) < l.length := by omega
          obtain ⟨c0, c1, c2⟩ := (HC.out k hlt).below hbel hg
          have hx := HMX.out k hlt
          have HFk : Hid (F k = szWt (l.getD k wtv0)) := by show _ = _; rw [HF.out]
          have CR : Hid (∀ W, Calls Try.prog 74 #[.agg #[.string (l.getD k wtv0).k, .int .i64 (l.getD k wtv0).p, .int .i64 (l.getD k wtv0).q], .int .i64 z] W fun e w' => e = .returned (.int .i64 (leftZ z (szWt (l.getD k wtv0)))) ∧ Below W.heap.size W w') := fun W => szWtC (l.getD k wtv0) z W hy1 (by omega) hx
          clear hx
          generalize szWt (l.getD k wtv0) = xs at *
          generalize (l.getD k wtv0).k = x0 at *
          generalize (l.getD k wtv0).p = x1 at *
          generalize (l.getD k wtv0).q = x2 at *
          have hlz := leftZ_le (n := xs) hy1
          have HLY : Hid ((xs : Int) ≤ z → leftZ z xs = z - xs) := leftZ_yes
          have HLN : Hid (z < (xs : Int) → leftZ z xs = -1) := leftZ_no
          generalize leftZ z xs = z' at *
          obtain ⟨q1, q2, q3⟩ := hlz
          have HQ3 : Hid (0 ≤ z' → (xs : Int) ≤ z) := q3
          clear q3
          go_wp2_with fail
          refine (CR.out _).mono ?_
          rintro e w1 ⟨rfl, b1⟩
          have B1 := hbel.trans (b1.mono hbel.size)
          clear CR b1 hbel c0 c1 c2
          by_cases hn : z' < 0
          · have HZ : Hid (leftZ left (sumWt l) = -1) := leftZ_no (by
              have e1 := HX.out; have e2 := HZ0.out; have e3 := HFk.out
              have e4 := psum_le F (show k + 1 ≤ l.length from hlt)
              have e5 : psum F (k + 1) = psum F k + F k := rfl
              have e6 : z < (xs : Int) := by
                by_cases h : (xs : Int) ≤ z
                · have := HLY.out h; omega
                · omega
              rw [HS.out]; omega)
            clear HX
            go_wp2_with fail
            go_ret
            exact ⟨by rw [HZ.out]; rfl, B1⟩
          · have HN : Hid (z' = z0 - psum F (k + 1)) := by
              show _ = _
              have e1 := HX.out; have e3 := HFk.out
              have e5 : psum F (k + 1) = psum F k + F k := rfl
              have e6 := HLY.out (HQ3.out (by omega))
              omega
            clear HX
            go_wp2_with fail
            go_roundw
            case rel => exact ⟨k + 1, _, by omega, by go_num, rfl, by omega, by omega, HN, B1⟩
            case measure => simp [intOf]; omega
        · have hki : ¬ (k : Int) < l.length := by omega
          have HZ : Hid (leftZ left (sumWt l) = z) := by
            have e1 := HX.out; have e2 := HZ0.out
            rw [show k = l.length by omega] at e1
            show _ = _
            rw [HS.out, leftZ_yes (by omega)]
            omega
          clear HX
          go_wp2_with fail
          go_ret
          exact ⟨by rw [HZ.out]; rfl, hbel⟩
end Go.Proofs.Ytcjblhiihgdljaa
