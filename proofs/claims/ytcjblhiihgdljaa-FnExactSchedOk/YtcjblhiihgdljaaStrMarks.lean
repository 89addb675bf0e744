/- Contracts of the laws' own helpers over rows of texts: markText, eqStringS, markStringS, heldStringS. -/
import Derived.Test.YtcjblhiihgdljaaRows
import Derived.Test.YtcjblhiihgdljaaBase
import Derived.BigQuiet
import Derived.Deep.QuietTactic
import Derived.Deep.RegionWith
namespace Go.Proofs.Ytcjblhiihgdljaa
open Go.RowKit

def mtF : Nat → Nat → List UInt8 → List UInt8
  | 0, _, l => l
  | f + 1, k, l => if k = 0 then l else mtF f (k / 10) (UInt8.ofNat (48 + k % 10) :: l)

theorem mtF_fuel : ∀ (f g k : Nat) (l : List UInt8), k ≤ f → k ≤ g → mtF f k l = mtF g k l
  | 0, g, k, l, hf, _ => by
    have : k = 0 := by omega
    subst this
    cases g <;> simp [mtF]
  | f + 1, 0, k, l, _, hg => by
    have : k = 0 := by omega
    subst this
    simp [mtF]
  | f + 1, g + 1, k, l, hf, hg => by
    simp only [mtF]
    by_cases h : k = 0
    · rw [if_pos h, if_pos h]
    · rw [if_neg h, if_neg h]
      exact mtF_fuel f g (k / 10) _ (by omega) (by omega)

def mt (k : Nat) (l : List UInt8) : List UInt8 := mtF k k l

theorem mt_zero (l : List UInt8) : mt 0 l = l := rfl

theorem mt_step (k : Nat) (l : List UInt8) (h : ¬ k = 0) : mt k l = mt (k / 10) (UInt8.ofNat (48 + k % 10) :: l) := by
  unfold mt
  cases k with
  | zero => exact absurd rfl h
  | succ f =>
    rw [mtF, if_neg h]
    exact mtF_fuel f _ _ _ (by omega) (Nat.le_refl _)

def markS (k : Nat) : ByteArray := ⟨(if k = 0 then [109, 48] else 109 :: mt k []).toArray⟩

set_option maxHeartbeats 1000000 in
theorem markText (k0 : Nat) (w : World) (hk0 : 0 < k0) (hk : k0 ≤ 1099511627776) :
    Calls Try.prog 61 #[.int .i64 (k0 : Int)] w fun e w' => e = .returned (.string (markS k0)) ∧ Below w.heap.size w w' := by
  go_enter Try.func61, Try.ntmps61
  go_wp2
  go_loopw [0, 3] (fun a o wr => ∃ (k : Nat) (l : List UInt8), a = .int .i64 k ∧ o = .string ⟨l.toArray⟩ ∧ mt k l = mt k0 [] ∧ l.length + k ≤ k0 ∧ Below w.heap.size w wr)
    (fun a _ _ => (intOf a).toNat)
  case atStart => exact ⟨k0, [], rfl, rfl, rfl, by simp, Below.refl _ _⟩
  case round =>
    obtain ⟨k, l, rfl, rfl, hm, hle, hbel⟩ := hrel
    have HM : Hid (mt k l = mt k0 []) := hm
    clear hm
    have hsz := hbel.size
    by_cases hp : 0 < k
    · have hdig := run_digit (P := Try.prog) wr 101 9 5 Try.underlying101 Try.underlying5 Try.underlying9 (48 + k % 10) (by omega) (48 + (k : Int) % 10) (by omega)
      obtain ⟨d, hd⟩ : ∃ d, d = UInt8.ofNat (48 + k % 10) := ⟨_, rfl⟩
      rw [← hd] at hdig
      have HD : Hid (d = UInt8.ofNat (48 + k % 10)) := hd
      clear hd
      go_wp2
      go_roundw
      case rel => exact ⟨k / 10, d :: l, by go_num, by rw [bytes_cons], by rw [← HM.out, mt_step k l (by omega), HD.out], by simp; omega, hbel.alloc hsz _⟩
      case measure => simp [intOf]; omega
    · have hz : k = 0 := by omega
      have hl : l = mt k0 [] := by rw [← HM.out, hz, mt_zero]
      have HL : Hid (l = mt k0 []) := hl
      clear hl hz
      go_wp2
      go_ret
      refine ⟨?_, hbel⟩
      unfold markS
      rw [if_neg (by omega), ← HL.out, ← bytes_cons]
      rfl

theorem markTextI (x : Int) (w : World) (h0 : 0 < x) (h1 : x ≤ 1099511627776) :
    Calls Try.prog 61 #[.int .i64 x] w fun e w' => e = .returned (.string (markS x.toNat)) ∧ Below w.heap.size w w' := by
  obtain ⟨k, rfl⟩ := Int.eq_ofNat_of_zero_le (Int.le_of_lt h0)
  exact markText k w (by omega) (by omega)

def marks (k0 n : Nat) : List ByteArray := (List.range n).map fun i => markS (k0 + i)

theorem marks_succ (k0 n : Nat) : marks k0 (n + 1) = marks k0 n ++ [markS (k0 + n)] := by simp [marks, List.range_succ]

theorem marks_length (k0 n : Nat) : (marks k0 n).length = n := by simp [marks]

theorem marks_at (k0 n k : Nat) (h : k < n) : (marks k0 n).getD k ByteArray.empty = markS (k0 + k) := by simp [marks, List.getD, h]

theorem marks_set (k0 : Nat) (xs : List Value) (k : Nat) (h : k < xs.length) :
    (scells (marks k0 k) ++ xs.drop k).set k (.string (markS (k0 + k))) = scells (marks k0 (k + 1)) ++ xs.drop (k + 1) := by
  rw [List.set_append_right _ _ (by simp [scells_length, marks_length])]
  rw [marks_succ, scells_snoc]
  simp only [scells_length, marks_length, Nat.sub_self, List.append_assoc, List.append_cancel_left_eq]
  rw [List.drop_eq_getElem_cons h]
  rfl

end Go.Proofs.Ytcjblhiihgdljaa
