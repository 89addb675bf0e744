/- Contracts of spec.Ascii and impl.Ascii: each answers whether all bytes are below 128. -/
import Derived.Test.YtcgjabbjpalmkaaDoorRows
import Derived.Test.YtcgjabbjpalmkaaDoorBase
namespace Go.Proofs.YtcgjabbjpalmkaaDoor
open Go.RowKit

def asciiB (l : List UInt8) : Bool := l.all fun c => decide (c.toNat < 128)

theorem asciiB_yes (s : ByteArray) (h : ∀ j, (hj : j < s.size) → s[j].toNat < 128) : asciiB s.data.toList = true := by
  unfold asciiB
  rw [List.all_eq_true]
  intro c hc
  obtain ⟨j, hj, rfl⟩ := List.getElem_of_mem hc
  exact decide_eq_true (h j (by simpa using hj))

theorem asciiB_no (s : ByteArray) (k : Nat) (hk : k < s.size) (h : 128 ≤ s[k].toNat) : asciiB s.data.toList = false := by
  unfold asciiB
  rw [List.all_eq_false]
  refine ⟨s[k], ?_, by simpa using h⟩
  exact List.mem_iff_getElem.2 ⟨k, by simpa using hk, rfl⟩

set_option maxHeartbeats 400000 in
theorem specAscii (s : ByteArray) (w : World) (hs : s.size ≤ maxLen) :
    Calls Tryd.prog 26 #[.string s] w fun e w' => e = .returned (.bool (asciiB s.data.toList)) ∧ w = w' := by
  unfold maxLen at hs
  go_enter Tryd.func26, Tryd.ntmps26
  go_wp2
  go_loop [3] (fun i => ∃ k : Nat, k ≤ s.size ∧ i = .int .i64 k ∧ ∀ j, (hj : j < s.size) → j < k → s[j].toNat < 128) (fun i => s.size - (intOf i).toNat)
  case atStart => exact ⟨0, Nat.zero_le _, rfl, fun j _ h => by omega⟩
  case round =>
    obtain ⟨k, hk, rfl, hall⟩ := hrel
    have HA : Hid (∀ j, (hj : j < s.size) → j < k → s[j].toNat < 128) := hall
    clear hall
    by_cases hlt : k < s.size
    · by_cases hb : s[k].toNat < 128
      · have hb' : (s[k].toNat : Int) ≤ 127 := by omega
        go_wp2
        go_round
        case rel =>
          refine ⟨k + 1, by omega, by go_num, fun j hj h => ?_⟩
          by_cases e : j = k
          · subst e; omega
          · exact HA.out j hj (by omega)
        case measure => simp [intOf]; omega
      · have hb' : 127 < (s[k].toNat : Int) := by omega
        go_wp2
        go_ret
        exact ⟨ret_bool (asciiB_no s k hlt (by omega)).symm, rfl⟩
    · go_wp2
      go_ret
      exact ⟨ret_bool (asciiB_yes s fun j hj => HA.out j hj (by omega)).symm, rfl⟩

set_option maxHeartbeats 400000 in
theorem implAscii (s : ByteArray) (w : World) (hs : s.size ≤ maxLen) :
    Calls Tryd.prog 22 #[.string s] w fun e w' => e = .returned (.bool (asciiB s.data.toList)) ∧ w = w' := by
  unfold maxLen at hs
  go_enter Tryd.func22, Tryd.ntmps22
  go_wp2
  go_loop [6] (fun i => ∃ k : Nat, k ≤ s.size ∧ i = .int .i64 k ∧ ∀ j, (hj : j < s.size) → j < k → s[j].toNat < 128) (fun i => s.size - (intOf i).toNat)
  case atStart => exact ⟨0, Nat.zero_le _, rfl, fun j _ h => by omega⟩
  case round =>
    obtain ⟨k, hk, rfl, hall⟩ := hrel
    have HA : Hid (∀ j, (hj : j < s.size) → j < k → s[j].toNat < 128) := hall
    clear hall
    by_cases hlt : k < s.size
    · by_cases hb : s[k].toNat < 128
      · have hb' : ¬ 128 ≤ (s[k].toNat : Int) := by omega
        clear hb
        go_wp2
        go_round
        case rel =>
          refine ⟨k + 1, by omega, by go_num, fun j hj h => ?_⟩
          by_cases e : j = k
          · subst e; omega
          · exact HA.out j hj (by omega)
        case measure => simp [intOf]; omega
      · have hb' : 128 ≤ (s[k].toNat : Int) := by omega
        go_wp2
        go_ret
        exact ⟨ret_bool (asciiB_no s k hlt (by omega)).symm, rfl⟩
    · go_wp2
      go_ret
      exact ⟨ret_bool (asciiB_yes s fun j hj => HA.out j hj (by omega)).symm, rfl⟩

end Go.Proofs.YtcgjabbjpalmkaaDoor
