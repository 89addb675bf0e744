/- Contracts of the laws' helpers that measure: names, lines, parts. -/
import Derived.Test.YtbjidcejpdeegaaRows
import Derived.Test.YtbjidcejpdeegaaRobRow
import Derived.Handy
import Derived.Deep.DeepCutAuto
namespace Go.Proofs.Ytbjidcejpdeegaa
open Go.RowKit
set_option linter.unusedVariables false

def psum (f : Nat → Nat) : Nat → Nat
  | 0 => 0
  | k + 1 => psum f k + f k
theorem psum_le (f : Nat → Nat) {k : Nat} : ∀ {n}, k ≤ n → psum f k ≤ psum f n
  | 0, h => by rw [show k = 0 by omega]; exact Nat.le_refl _
  | n + 1, h => by
    by_cases hk : k = n + 1
    · rw [hk]; exact Nat.le_refl _
    · have := psum_le f (show k ≤ n by omega)
      show _ ≤ psum f n + f n
      omega
theorem psum_at (f : Nat → Nat) {k n : Nat} (h : k < n) : f k ≤ psum f n := by
  have := psum_le f (show k + 1 ≤ n from h)
  have e : psum f (k + 1) = psum f k + f k := rfl
  omega
def sumS (l : List ByteArray) : Nat := l.length + psum (fun i => (l.getD i ByteArray.empty).size) l.length
def sumL (l : List LV) : Nat := l.length + psum (fun i => (l.getD i lv0).pa.size) l.length
def sumT (p : PT) : Nat := sumS p.ag + sumL p.ln
def sumP (l : List PT) : Nat := l.length + psum (fun i => sumT (l.getD i pt0)) l.length
/-- What came in is no longer than a slice or a text may be. -/
def SMx (l : List ByteArray) : Prop := l.length ≤ maxLen ∧ ∀ i, i < l.length → (l.getD i ByteArray.empty).size ≤ maxLen
def LMx (l : List LV) : Prop := l.length ≤ maxLen ∧ ∀ i, i < l.length → (l.getD i lv0).pa.size ≤ maxLen
def PMx (l : List PT) : Prop := l.length ≤ maxLen ∧ ∀ i, i < l.length → SMx (l.getD i pt0).ag ∧ LMx (l.getD i pt0).ln
/-- What is left when so much is taken away. -/
def leftZ (left : Int) (n : Nat) : Int := if (n : Int) ≤ left then left - n else -1
theorem leftZ_yes {left : Int} {n : Nat} (h : (n : Int) ≤ left) : leftZ left n = left - n := if_pos h
theorem leftZ_no {left : Int} {n : Nat} (h : left < (n : Int)) : leftZ left n = -1 := if_neg (by omega)
theorem leftZ_le {left : Int} {n : Nat} (h0 : 0 ≤ left) : -1 ≤ leftZ left n ∧ leftZ left n ≤ left ∧ (0 ≤ leftZ left n → (n : Int) ≤ left) := by
  unfold leftZ
  split
  · exact ⟨by omega, by omega, fun _ => by omega⟩
  · exact ⟨by omega, by omega, fun h => by omega⟩
set_option maxHeartbeats 2000000 in
theorem szLine (x : LV) (left : Int) (w : World) (h0 : 0 ≤ left) (h1 : left ≤ 1048576) (hm : x.pa.size ≤ maxLen) :
    Calls Try.prog 35 #[.agg #[.bool x.al, .string x.pa], .int .i64 left] w fun e w' => e = .returned (.int .i64 (leftZ left x.pa.size)) ∧ Below w.heap.size w w' := by
  have hbO : Below w.heap.size w (w.alloc (.cells #[.bool x.al, .string x.pa] 55)) := (Below.refl _ _).alloc (Nat.le_refl _) _
  unfold maxLen at hm
  by_cases hn : left - (x.pa.size : Int) < 0
  · have HZ : Hid (leftZ left x.pa.size = -1) := leftZ_no (by omega)
    go_enter Try.func35, Try.ntmps35
    go_wp2_with fail
    go_ret
    exact ⟨by rw [HZ.out]; rfl, by first | exact hbO | exact Below.refl _ _⟩
  · have HZ : Hid (leftZ left x.pa.size = left - x.pa.size) := leftZ_yes (by omega)
    go_enter Try.func35, Try.ntmps35
    go_wp2_with fail
    go_ret
    exact ⟨by rw [HZ.out]; rfl, by first | exact hbO | exact Below.refl _ _⟩
set_option maxHeartbeats 2000000 in
theorem szLines (l : List LV) (v : Value) (left : Int) (w : World) (h0 : 0 ≤ left) (h1 : left ≤ 1048576) (hm : LMx l) (h : LineRow w v l) :
    Calls Try.prog 18 #[v, .int .i64 left] w fun e w' => e = .returned (.int .i64 (leftZ left (sumL l))) ∧ Below w.heap.size w w' := by
  obtain ⟨hml, hmx⟩ := hm
  unfold maxLen at hml
  have HMX : Hid (∀ i, i < l.length → (l.getD i lv0).pa.size ≤ maxLen) := hmx
  clear hmx
  by_cases hneg : left - (l.length : Int) < 0
  · obtain ⟨ao, cap, rfl⟩ := h.slice
    clear h
    have HZ : Hid (leftZ left (sumL l) = -1) := leftZ_no (by unfold sumL; omega)
    go_enter Try.func18, Try.ntmps18
    go_wp2
    go_ret
    exact ⟨by rw [HZ.out]; rfl, Below.refl _ _⟩
  · rcases h with ⟨rfl, ao, cap, rfl⟩ | ⟨hp, g, off, cap, rfl, hg, hc⟩
    · have HZ : Hid (leftZ left (sumL []) = left) := (leftZ_yes (by show ((0 : Nat) : Int) ≤ left; omega)).trans (by show left - ((0 : Nat) : Int) = left; omega)
      go_enter Try.func18, Try.ntmps18
      have hneg' : ¬ left < 0 := by omega
      go_wp2
      refine wp_loop_rounds 1 ?_
      rw [rounds_succ]
      go_wp2
      go_ret
      exact ⟨by rw [HZ.out]; rfl, Below.refl _ _⟩
    · have HC : Hid (∀ i, i < l.length → w.cell? ⟨g, off + i * 2, none⟩ = some (.bool (l.getD i lv0).al) ∧ w.cell? ⟨g, off + i * 2 + 1, none⟩ = some (.string (l.getD i lv0).pa)) := hc
      clear hc
      obtain ⟨F, hF⟩ : ∃ F : Nat → Nat, F = fun i => (l.getD i lv0).pa.size := ⟨_, rfl⟩
      have HS : Hid (sumL l = l.length + psum F l.length) := by show _ = _; rw [hF]; rfl
      have HF : Hid (F = fun i => (l.getD i lv0).pa.size) := hF
      clear hF
      have hz : ∃ z : Int, left - l.length = z ∧ 0 ≤ z ∧ z ≤ left := ⟨_, rfl, by omega, by omega⟩
      obtain ⟨z0, hz0, hz1, hz2⟩ := hz
      have HZ0 : Hid (left - l.length = z0) := hz0
      clear hneg
      have hzn : ¬ z0 < 0 := by omega
      go_enter Try.func18, Try.ntmps18
      go_wp2
      clear hz0 hzn
      go_loopw [1, 5] (fun a i wr => ∃ (k : Nat) (z : Int), k ≤ l.length ∧ i = .int .i64 k ∧ a = .int .i64 z ∧ 0 ≤ z ∧ z ≤ left ∧ Hid (z = z0 - psum F k) ∧ Below w.heap.size w wr) (fun _ i _ => l.length - (intOf i).toNat)
      case atStart => exact ⟨0, z0, Nat.zero_le _, rfl, rfl, hz1, hz2, (by show z0 = z0 - ((0 : Nat) : Int); omega), Below.refl _ _⟩
      case round =>
        obtain ⟨k, z, hk, rfl, rfl, hy1, hy2, HX, hbel⟩ := hrel
        clear hz1 hz2
        by_cases hlt : k < l.length
        · have hki : (k : Int) < l.length := by omega
          obtain ⟨c1, c2⟩ := HC.out k hlt
          have c1w := (hbel.cell (p := ⟨g, off + k * 2, none⟩) hg).trans c1
          have c2w := (hbel.cell (p := ⟨g, off + k * 2 + 1, none⟩) hg).trans c2
          have hx := HMX.out k hlt
          have HFk : Hid (F k = (l.getD k lv0).pa.size) := by show _ = _; rw [HF.out]
          have CR : Hid (∀ W, Calls Try.prog 35 #[.agg #[.bool (l.getD k lv0).al, .string (l.getD k lv0).pa], .int .i64 z] W fun e w' => e = .returned (.int .i64 (leftZ z (l.getD k lv0).pa.size)) ∧ Below W.heap.size W w') := fun W => szLine (l.getD k lv0) z W hy1 (by omega) hx
          clear c1 c2 hx
          generalize l.getD k lv0 = x at *
          have hlz := leftZ_le (n := x.pa.size) hy1
          have HLY : Hid ((x.pa.size : Int) ≤ z → leftZ z x.pa.size = z - x.pa.size) := leftZ_yes
          have HLN : Hid (z < (x.pa.size : Int) → leftZ z x.pa.size = -1) := leftZ_no
          generalize leftZ z x.pa.size = z' at *
          obtain ⟨q1, q2, q3⟩ := hlz
          have HQ3 : Hid (0 ≤ z' → (x.pa.size : Int) ≤ z) := q3
          clear q3
          go_wp2_with fail
          refine (CR.out _).mono ?_
          rintro e w1 ⟨rfl, b1⟩
          have B1 := hbel.trans (b1.mono hbel.size)
          clear CR b1 hbel c1w c2w
          by_cases hn : z' < 0
          · have HZ : Hid (leftZ left (sumL l) = -1) := leftZ_no (by
              have e1 := HX.out; have e2 := HZ0.out; have e3 := HFk.out
              have e4 := psum_le F (show k + 1 ≤ l.length from hlt)
              have e5 : psum F (k + 1) = psum F k + F k := rfl
              have e6 : z < (x.pa.size : Int) := by
                by_cases h : (x.pa.size : Int) ≤ z
                · have := HLY.out h; omega
                · omega
              rw [HS.out]; omega)
            clear HX
            go_wp2_with fail
            go_ret
            exact ⟨by rw [HZ.out]; rfl, B1⟩
          · have HN : Hid (z' = z0 - psum F (k + 1)) := by
              show _ = _
              have e1 := HX.out; have e3 := HFk.out
              have e5 : psum F (k + 1) = psum F k + F k := rfl
              have e6 := HLY.out (HQ3.out (by omega))
              omega
            clear HX
            go_wp2_with fail
            go_roundw
            case rel => exact ⟨k + 1, _, by omega, by go_num, rfl, by omega, by omega, HN, B1⟩
            case measure => simp [intOf]; omega
        · have hki : ¬ (k : Int) < l.length := by omega
          have HZ : Hid (leftZ left (sumL l) = z) := by
            have e1 := HX.out; have e2 := HZ0.out
            rw [show k = l.length by omega] at e1
            show _ = _
            rw [HS.out, leftZ_yes (by omega)]
            omega
          clear HX
          go_wp2_with fail
          go_ret
          exact ⟨by rw [HZ.out]; rfl, hbel⟩
end Go.Proofs.Ytbjidcejpdeegaa
