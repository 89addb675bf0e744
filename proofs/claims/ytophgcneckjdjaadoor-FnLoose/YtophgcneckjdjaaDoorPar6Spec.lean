/- Contracts of the specification's reading of groups: l5Double, l5Groups. -/
import Derived.Test.YtophgcneckjdjaaDoorRows
import Derived.Test.YtophgcneckjdjaaDoorParse4Walk
import Derived.Test.YtophgcneckjdjaaDoorIp6Plain
namespace Go.Proofs.YtophgcneckjdjaaDoor
open Go.RowKit

/-- Where the first double colon stands, or -1. -/
def dblN : List UInt8 → Option Nat
  | [] => none
  | c :: r => if c = 58 ∧ r.head? = some 58 then some 0 else (dblN r).map (· + 1)

theorem dbl_cut : ∀ l, cut6L l = (dblN l).map fun k => (l.take k, l.drop (k + 2))
  | [] => rfl
  | c :: r => by
    rw [cut6L, dblN, dbl_cut r]
    split
    · cases r <;> simp
    · cases dblN r <;> simp

theorem dbl_lt : ∀ {l : List UInt8} {k : Nat}, dblN l = some k → k + 2 ≤ l.length
  | [], k, h => by cases h
  | c :: r, k, h => by
    rw [dblN] at h
    split at h
    · rename_i hc
      cases h
      cases r with
      | nil => simp at hc
      | cons d q => simp
    · cases hr : dblN r with
      | none => rw [hr] at h; cases h
      | some j =>
        rw [hr] at h
        cases h
        have := dbl_lt hr
        simp
        omega

theorem dbl_step (s : ByteArray) (k : Nat) (h : k + 1 < s.size) : dblN (s.data.toList.drop k) = if s[k].toNat = 58 ∧ s[k + 1].toNat = 58 then some 0 else (dblN (s.data.toList.drop (k + 1))).map (· + 1) := by
  have h1 : s.data.toList.drop k = s[k] :: s.data.toList.drop (k + 1) := List.drop_eq_getElem_cons (by simp; omega)
  have h2 : s.data.toList.drop (k + 1) = s[k + 1] :: s.data.toList.drop (k + 1 + 1) := List.drop_eq_getElem_cons (by simp; omega)
  rw [h1, dblN]
  have h3 : (s.data.toList.drop (k + 1)).head? = some s[k + 1] := by rw [h2]; rfl
  rw [h3]
  by_cases hc : s[k].toNat = 58 ∧ s[k + 1].toNat = 58
  · rw [if_pos hc, if_pos ⟨u8_is hc.1, by rw [u8_is (d := 58) hc.2]⟩]
  · rw [if_neg hc, if_neg]
    rintro ⟨a, b⟩
    apply hc
    injection b with b
    exact ⟨by rw [a]; rfl, by rw [b]; rfl⟩
theorem dbl_end (s : ByteArray) (k : Nat) (h : ¬ k + 1 < s.size) : dblN (s.data.toList.drop k) = none := by
  have hl : (s.data.toList.drop k).length ≤ 1 := by simp; omega
  match hd : s.data.toList.drop k, hl with
  | [], _ => rfl
  | [c], _ => simp [dblN]
  | _ :: _ :: _, hl => simp at hl

def dblZ (r : Option Nat) : Int := match r with
  | none => -1
  | some k => k

set_option maxHeartbeats 2000000 in
theorem specDouble (s : ByteArray) (w : World) (hs : s.size ≤ 1048576) :
    Calls Tryd.prog 47 #[.string s] w fun e w' => e = .returned (.int .i64 (dblZ (dblN s.data.toList))) ∧ Below w.heap.size w w' := by
  go_enter Tryd.func47, Tryd.ntmps47
  go_wp2
  go_loopw [3] (fun i wr => ∃ k : Nat, k ≤ s.size ∧ i = .int .i64 k ∧ dblN s.data.toList = (dblN (s.data.toList.drop k)).map (· + k) ∧ Below w.heap.size w wr) (fun i _ => s.size - (intOf i).toNat)
  case atStart => exact ⟨0, Nat.zero_le _, rfl, by simp, Below.refl _ _⟩
  case round =>
    obtain ⟨k, hk, rfl, hd, hbel⟩ := hrel
    have HD : Hid (dblN s.data.toList = (dblN (s.data.toList.drop k)).map (· + k)) := hd
    clear hd
    by_cases hlt : k + 1 < s.size
    · obtain ⟨c, hc⟩ : ∃ c : Nat, s[k].toNat = c := ⟨_, rfl⟩
      obtain ⟨d, hd⟩ : ∃ d : Nat, s[k + 1].toNat = d := ⟨_, rfl⟩
      have HS : Hid (dblN (s.data.toList.drop k) = if c = 58 ∧ d = 58 then some 0 else (dblN (s.data.toList.drop (k + 1))).map (· + 1)) := by
        show _ = _
        rw [dbl_step s k hlt, hc, hd]
      have hki : (k : Int) + 1 < (s.size : Int) := by omega
      by_cases hcd : c = 58 ∧ d = 58
      · have HZ : Hid (dblN s.data.toList = some k) := by
          show _ = _
          rw [HD.out, HS.out, if_pos hcd]
          simp
        obtain ⟨rfl, rfl⟩ := hcd
        go_wp2_with fail
        go_ret
        exact ⟨by rw [HZ.out]; rfl, hbel⟩
      · have HG : Hid (dblN s.data.toList = (dblN (s.data.toList.drop (k + 1))).map (· + (k + 1))) := by
          show _ = _
          rw [HD.out, HS.out, if_neg hcd]
          cases dblN (s.data.toList.drop (k + 1)) <;> simp <;> omega
        by_cases hc5 : c = 58
        · have hd5 : ((d : Int) == 58) = false := by simp; omega
          subst hc5
          clear hcd
          go_wp2_with fail
          go_roundw
          case rel => exact ⟨k + 1, by omega, by go_num, HG.out, hbel⟩
          case measure => simp [intOf]; omega
        · have hc5' : ((c : Int) == 58) = false := by simp; omega
          clear hcd hc5
          go_wp2_with fail
          go_roundw
          case rel => exact ⟨k + 1, by omega, by go_num, HG.out, hbel⟩
          case measure => simp [intOf]; omega
    · have HZ : Hid (dblN s.data.toList = none) := by
        show _ = _
        rw [HD.out, dbl_end s k hlt]
        rfl
      have hki : ¬ (k : Int) + 1 < (s.size : Int) := by omega
      go_wp2_with fail
      go_ret
      exact ⟨by rw [HZ.out]; rfl, hbel⟩
end Go.Proofs.YtophgcneckjdjaaDoor
