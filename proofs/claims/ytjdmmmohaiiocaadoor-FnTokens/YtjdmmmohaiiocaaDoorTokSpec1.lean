/- The contracts of what the specification's Tokens looks for: marks, names. -/
import Derived.Test.YtjdmmmohaiiocaaDoorRows
import Derived.Test.YtjdmmmohaiiocaaDoorTokPlain
import Derived.Test.YtjdmmmohaiiocaaDoorPctWalk
import Derived.Test.YtjdmmmohaiiocaaDoorTrimWalk
import Derived.Test.YtjdmmmohaiiocaaDoorExtPlain
import Derived.Test.YtjdmmmohaiiocaaDoorRowMore
import Derived.Handy
import Derived.Deep.DeepCutAuto
import Derived.Deep.CutBlock
namespace Go.Proofs.YtjdmmmohaiiocaaDoor
open Go.RowKit
set_option linter.unusedVariables false

/-- Where a mark begins from a place on. -/
def findZ (l : List UInt8) (k : Nat) (m : List UInt8) : Int := if Lib.index (l.drop k) m = -1 then -1 else Lib.index (l.drop k) m + k
theorem occ_text {s m : ByteArray} {a k : Nat} (h : a + k + m.size ≤ s.size) : Lib.occAt (s.data.toList.drop a) m.data.toList k = ((s.extract (a + k) (a + k + m.size)).toList == m.toList) := by
  have hsl : s.data.toList.length = s.size := by simp
  have hml : m.data.toList.length = m.size := by simp
  rw [Lib.occAt_iff_take _ _ _ (by rw [List.length_drop]; omega), ByteArray.toList_eq, ByteArray.toList_eq, extract_list, hml, List.drop_drop, List.drop_take]
  rw [show a + k + m.size - (a + k) = m.size by omega]
set_option maxHeartbeats 2000000 in
theorem spec13Find (s m : ByteArray) (a : Nat) (w : World) (hs : s.size ≤ 16777216) (hm : m.size ≤ 100) (hm0 : 0 < m.size) (ha : a ≤ s.size) :
    Calls Tryd.prog 45 #[.string s, .int .i64 (a : Int), .string m] w fun e w' => e = .returned (.int .i64 (findZ s.data.toList a m.data.toList)) ∧ w = w' := by
  have hsl : s.data.toList.length = s.size := by simp
  have hml : m.data.toList.length = m.size := by simp
  go_enter Tryd.func45, Tryd.ntmps45
  go_wp2_with fail
  go_loop [7] (fun i => ∃ k : Nat, a + k ≤ s.size + 1 ∧ i = .int .i64 ((a + k : Nat) : Int) ∧ Hid (Lib.NoOcc (s.data.toList.drop a) m.data.toList k)) (fun i => s.size + 1 - (intOf i).toNat)
  case atStart => exact ⟨0, by omega, rfl, Lib.NoOcc.zero _ _⟩
  case round =>
    obtain ⟨k, hk, rfl, HN⟩ := hrel
    by_cases hlt : a + k + m.size ≤ s.size
    · have hki : (a : Int) + k + m.size ≤ s.size := by omega
      have ho := occ_text hlt
      cases hb : Lib.occAt (s.data.toList.drop a) m.data.toList k with
      | true =>
        have HI : Hid (findZ s.data.toList a m.data.toList = (a : Int) + k) := by
          have h1 := Lib.index_hit HN.out (by rw [List.length_drop]; omega) hb
          show _ = _
          unfold findZ
          rw [h1, if_neg (by omega)]
          omega
        rw [hb] at ho
        have hoe := ho.symm
        clear hb ho HN
        go_wp2_with fail
        go_ret
        exact ⟨by rw [HI.out]; rfl, rfl⟩
      | false =>
        have HN2 : Hid (Lib.NoOcc (s.data.toList.drop a) m.data.toList (k + 1)) := HN.out.succ hb
        rw [hb] at ho
        have hoe := ho.symm
        clear hb ho HN
        go_wp2_with fail
        go_round
        case rel => exact ⟨k + 1, by omega, by go_num, HN2⟩
        case measure => simp [intOf] <;> omega
    · have hki : ¬ (a : Int) + k + m.size ≤ s.size := by omega
      have HI : Hid (findZ s.data.toList a m.data.toList = -1) := by
        have h1 : Lib.index (s.data.toList.drop a) m.data.toList = -1 := Lib.index_past (fun e => by rw [e] at hml; simp at hml; omega) HN.out (by rw [List.length_drop]; omega)
        show _ = _
        unfold findZ
        rw [h1, if_pos rfl]
      clear HN
      go_wp2_with fail
      go_ret
      exact ⟨by rw [HI.out]; rfl, rfl⟩
theorem pre_text {s m : ByteArray} {a : Nat} (h : a + m.size ≤ s.size) : Lib.hasPrefix (s.data.toList.drop a) m.data.toList = ((s.extract a (a + m.size)).toList == m.toList) := by
  have := occ_text (s := s) (m := m) (a := a) (k := 0) (by omega)
  rw [Nat.add_zero] at this
  rw [← this]
  rfl
theorem pre_long {s m : ByteArray} {a : Nat} (h : ¬ a + m.size ≤ s.size) (ha : a ≤ s.size) : Lib.hasPrefix (s.data.toList.drop a) m.data.toList = false := by
  cases hp : Lib.hasPrefix (s.data.toList.drop a) m.data.toList with
  | false => rfl
  | true =>
    have h1 := pre_len hp
    have hsl : s.data.toList.length = s.size := by simp
    have hml : m.data.toList.length = m.size := by simp
    rw [List.length_drop] at h1
    omega
set_option maxHeartbeats 1000000 in
theorem spec13Begins (s m : ByteArray) (a : Nat) (w : World) (hs : s.size ≤ 16777216) (hm : m.size ≤ 100) (ha : a ≤ s.size) :
    Calls Tryd.prog 43 #[.string s, .int .i64 (a : Int), .string m] w fun e w' => e = .returned (.bool (Lib.hasPrefix (s.data.toList.drop a) m.data.toList)) ∧ w = w' := by
  by_cases hlt : a + m.size ≤ s.size
  · have hki : (a : Int) + m.size ≤ s.size := by omega
    have hp := pre_text hlt
    obtain ⟨b, hb⟩ : ∃ b, Lib.hasPrefix (s.data.toList.drop a) m.data.toList = b := ⟨_, rfl⟩
    rw [hb] at hp ⊢
    have hpe := hp.symm
    clear hb hp
    go_enter Tryd.func43, Tryd.ntmps43
    go_wp2_with fail
    go_ret
    exact ⟨rfl, rfl⟩
  · have hki : ¬ (a : Int) + m.size ≤ s.size := by omega
    rw [pre_long hlt ha]
    go_enter Tryd.func43, Tryd.ntmps43
    go_wp2_with fail
    go_ret
    exact ⟨rfl, rfl⟩
end Go.Proofs.YtjdmmmohaiiocaaDoor
