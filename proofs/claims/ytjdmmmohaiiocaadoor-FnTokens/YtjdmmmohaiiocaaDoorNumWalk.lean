/- Contracts of a row of digits to a base: spec.l5Number and impl.digits. -/
import Derived.Test.YtjdmmmohaiiocaaDoorRows
import Derived.Test.YtjdmmmohaiiocaaDoorHexWalk
import Derived.Test.YtjdmmmohaiiocaaDoorSplPlain
namespace Go.Proofs.YtjdmmmohaiiocaaDoor
open Go.RowKit

def numZ (r : Option Nat) : Int := match r with
  | none => -1
  | some n => n

theorem digF_drop (s : ByteArray) (k : Nat) (h : k < s.size) (base n : Nat) : digF base n (s.data.toList.drop k) =
    if 0 ≤ hexN s[k].toNat ∧ hexN s[k].toNat < (base : Int) then digF base (n * base + (hexN s[k].toNat).toNat) (s.data.toList.drop (k + 1)) else none := by
  rw [List.drop_eq_getElem_cons (by simpa using h), digF]
  rfl

theorem num_no {base most : Nat} {l : List UInt8} (h : most < l.length) : numL base most l = none := by unfold numL; rw [if_neg (by omega)]
theorem num_yes {base most : Nat} {l : List UInt8} (h : l.length ≤ most) : numL base most l = digF base 0 l := by unfold numL; rw [if_pos h]
theorem pow_room {n base d k : Nat} (hb : base ≤ 16) (hd : d < base) (hn : n < 16 ^ k) : n * base + d < 16 ^ (k + 1) := by
  have h1 : n * base ≤ n * 16 := Nat.mul_le_mul_left _ hb
  rw [Nat.pow_succ]
  omega
theorem pow_le {k : Nat} (h : k ≤ 11) : 16 ^ k ≤ 17592186044416 := Nat.pow_le_pow_right (by decide) h

set_option maxHeartbeats 1000000 in
theorem spec5Number (s : ByteArray) (base most : Nat) (w : World) (hb : base ≤ 16) (hm : most ≤ 11) :
    Calls Tryd.prog 49 #[.string s, .int .i64 (base : Int), .int .i64 (most : Int)] w fun e w' => e = .returned (.int .i64 (numZ (numL base most s.data.toList))) ∧ w = w' := by
  have hsl : s.data.toList.length = s.size := by simp
  by_cases hlen : most < s.size
  · have HF : Hid (numL base most s.data.toList = none) := num_no (by omega)
    have hlen' : (most : Int) < (s.size : Int) := by omega
    clear hsl
    go_enter Tryd.func49, Tryd.ntmps49
    go_wp2
    go_ret
    exact ⟨by rw [HF.out]; rfl, rfl⟩
  · have HF : Hid (numL base most s.data.toList = digF base 0 s.data.toList) := num_yes (by omega)
    have hlen' : ¬ (most : Int) < (s.size : Int) := by omega
    clear hsl
    go_enter Tryd.func49, Tryd.ntmps49
    go_wp2
    go_loop [7, 8] (fun x i => ∃ k n : Nat, k ≤ s.size ∧ n < 16 ^ k ∧ i = .int .i64 k ∧ x = .int .i64 n ∧ digF base n (s.data.toList.drop k) = digF base 0 s.data.toList) (fun _ i => s.size - (intOf i).toNat)
    case atStart => exact ⟨0, 0, Nat.zero_le _, by decide, rfl, rfl, rfl⟩
    case round =>
      obtain ⟨k, n, hk, hn, rfl, rfl, hf⟩ := hrel
      have HR : Hid (digF base n (s.data.toList.drop k) = digF base 0 s.data.toList) := hf
      have HN : Hid (n < 16 ^ k) := hn
      have hk11 : k ≤ 11 := by omega
      have hn2 : n < 17592186044416 := Nat.lt_of_lt_of_le hn (pow_le hk11)
      clear hf hn
      by_cases hlt : k < s.size
      · obtain ⟨d, hd⟩ : ∃ d : Nat, s[k].toNat = d := ⟨_, rfl⟩
        have hd1 : (d : Int) ≤ 255 := by have := s[k].toNat_lt; omega
        have HD : Hid (digF base n (s.data.toList.drop k) = if 0 ≤ hexN d ∧ hexN d < (base : Int) then digF base (n * base + (hexN d).toNat) (s.data.toList.drop (k + 1)) else none) := by
          show _ = _
          rw [digF_drop s k hlt base n, hd]
        obtain ⟨hx1, hx2⟩ := hexN_le d
        have CH : Hid (∀ W, Calls Tryd.prog 63 #[.int .u8 (d : Int)] W fun e w' => e = .returned (.int .i64 (hexN d)) ∧ W = w') := fun W => specHex d W hd1
        generalize hexN d = x at HD CH hx1 hx2
        have hki : (k : Int) < (s.size : Int) := by omega
        by_cases hx : 0 ≤ x ∧ x < (base : Int)
        · obtain ⟨y, rfl⟩ : ∃ y : Nat, x = (y : Int) := ⟨x.toNat, by omega⟩
          obtain ⟨p, hp⟩ : ∃ p : Nat, n * base = p := ⟨_, rfl⟩
          have HP : Hid (n * base = p) := hp
          have hp2 : (n : Int) * (base : Int) = (p : Int) := by rw [← hp]; simp
          have hp3 : p + y < 281474976710656 := by
            have h1 : n * base ≤ n * 16 := Nat.mul_le_mul_left _ hb
            omega
          have hyb : ¬ (base : Int) ≤ (y : Int) := by omega
          have HX : Hid (y < base) := by show _ < _; omega
          clear hx hp
          go_wp2_with fail
          refine (CH.out _).mono ?_
          rintro e w' ⟨rfl, rfl⟩
          go_wp2_with fail
          go_round
          case rel =>
            refine ⟨k + 1, n * base + y, by omega, pow_room hb HX.out HN.out, by go_num, by rw [HP.out]; go_num, ?_⟩
            rw [← HR.out, HD.out, if_pos ⟨by omega, by have := HX.out; omega⟩]
            simp
          case measure => simp [intOf]; omega
        · have HZ : Hid (digF base 0 s.data.toList = none) := by
            show _ = _
            rw [← HR.out, HD.out, if_neg hx]
          have HX : Hid (¬ (0 ≤ x ∧ x < (base : Int))) := hx
          clear hx
          by_cases hx0 : x < 0
          · go_wp2_with fail
            refine (CH.out _).mono ?_
            rintro e w' ⟨rfl, rfl⟩
            go_wp2_with fail
            go_ret
            exact ⟨by rw [HF.out, HZ.out]; rfl, rfl⟩
          · have hx3 : (base : Int) ≤ x := by have := HX.out; omega
            go_wp2_with fail
            refine (CH.out _).mono ?_
            rintro e w' ⟨rfl, rfl⟩
            go_wp2_with fail
            go_ret
            exact ⟨by rw [HF.out, HZ.out]; rfl, rfl⟩
      · have HZ : Hid (digF base 0 s.data.toList = some n) := by
          show _ = _
          rw [← HR.out, List.drop_of_length_le (by simp; omega)]
          rfl
        have hki : ¬ (k : Int) < (s.size : Int) := by omega
        go_wp2_with fail
        go_ret
        exact ⟨by rw [HF.out, HZ.out]; rfl, rfl⟩

/-- What a number and whether it is one answer. -/
def numA (r : Option Nat) : Value := match r with
  | none => .tuple #[.int .i64 0, .bool false]
  | some n => .tuple #[.int .i64 n, .bool true]

/-- Digits to a base alone. -/
def alD (base : Nat) (l : List UInt8) : Bool := l.all fun c => decide (0 ≤ hexN c.toNat ∧ hexN c.toNat < (base : Int))
theorem alD_drop (s : ByteArray) (k : Nat) (h : k < s.size) (base : Nat) : alD base (s.data.toList.drop k) = (decide (0 ≤ hexN s[k].toNat ∧ hexN s[k].toNat < (base : Int)) && alD base (s.data.toList.drop (k + 1))) := by
  rw [List.drop_eq_getElem_cons (by simpa using h)]
  rfl
theorem digF_no {base : Nat} : ∀ {l : List UInt8} {n : Nat}, alD base l = false → digF base n l = none
  | [], _, h => by simp [alD] at h
  | c :: r, n, h => by
    rw [digF]
    split
    · rename_i hc
      refine digF_no ?_
      have h2 : (decide (0 ≤ hexN c.toNat ∧ hexN c.toNat < (base : Int)) && alD base r) = false := h
      rw [decide_eq_true hc] at h2
      simpa using h2
    · rfl
theorem alD_at {base : Nat} {s : ByteArray} (h : alD base s.data.toList = true) (k : Nat) (hk : k < s.size) : 0 ≤ hexN s[k].toNat ∧ hexN s[k].toNat < (base : Int) :=
  of_decide_eq_true (List.all_eq_true.1 h s[k] (by
    have hk2 : k < s.data.toList.length := by simpa using hk
    exact List.getElem_mem hk2))

set_option maxHeartbeats 1000000 in
theorem implDigitsAlone (s : ByteArray) (base : Nat) (w : World) (hs : s.size ≤ 1048576) :
    Calls Tryd.prog 70 #[.string s, .int .i64 (base : Int)] w fun e w' => e = .returned (.bool (alD base s.data.toList)) ∧ w = w' := by
  go_enter Tryd.func70, Tryd.ntmps70
  go_wp2
  go_loop [9] (fun i => ∃ k : Nat, k ≤ s.size ∧ i = .int .i64 k ∧ alD base (s.data.toList.drop k) = alD base s.data.toList) (fun i => s.size - (intOf i).toNat)
  case atStart => exact ⟨0, Nat.zero_le _, rfl, rfl⟩
  case round =>
    obtain ⟨k, hk, rfl, hf⟩ := hrel
    have HR : Hid (alD base (s.data.toList.drop k) = alD base s.data.toList) := hf
    clear hf
    by_cases hlt : k < s.size
    · obtain ⟨d, hd⟩ : ∃ d : Nat, s[k].toNat = d := ⟨_, rfl⟩
      have hd1 : (d : Int) ≤ 255 := by have := s[k].toNat_lt; omega
      have HD : Hid (alD base (s.data.toList.drop k) = (decide (0 ≤ hexN d ∧ hexN d < (base : Int)) && alD base (s.data.toList.drop (k + 1)))) := by
        show _ = _
        rw [alD_drop s k hlt base, hd]
      obtain ⟨hx1, hx2⟩ := hexN_le d
      have CH : Hid (∀ W, Calls Tryd.prog 71 #[.int .u8 (d : Int)] W fun e w' => e = .returned (.int .i64 (hexN d)) ∧ W = w') := fun W => implHex d W (by omega)
      generalize hexN d = x at HD CH hx1 hx2
      have hki : (k : Int) < (s.size : Int) := by omega
      by_cases hx0 : x < 0
      · have HZ : Hid (alD base s.data.toList = false) := by
          show _ = _
          rw [← HR.out, HD.out, decide_eq_false (by omega)]
          rfl
        go_wp2_with fail
        refine (CH.out _).mono ?_
        rintro e w' ⟨rfl, rfl⟩
        go_wp2_with fail
        go_ret
        exact ⟨by rw [HZ.out]; rfl, rfl⟩
      · by_cases hx3 : (base : Int) ≤ x
        · have HZ : Hid (alD base s.data.toList = false) := by
            show _ = _
            rw [← HR.out, HD.out, decide_eq_false (by omega)]
            rfl
          go_wp2_with fail
          refine (CH.out _).mono ?_
          rintro e w' ⟨rfl, rfl⟩
          go_wp2_with fail
          go_ret
          exact ⟨by rw [HZ.out]; rfl, rfl⟩
        · have HZ : Hid (alD base (s.data.toList.drop (k + 1)) = alD base s.data.toList) := by
            show _ = _
            rw [← HR.out, HD.out, decide_eq_true (by omega)]
            rfl
          go_wp2_with fail
          refine (CH.out _).mono ?_
          rintro e w' ⟨rfl, rfl⟩
          go_wp2_with fail
          go_round
          case rel => exact ⟨k + 1, by omega, by go_num, HZ.out⟩
          case measure => simp [intOf]; omega
    · have HZ : Hid (alD base s.data.toList = true) := by
        show _ = _
        rw [← HR.out, List.drop_of_length_le (by simp; omega)]
        rfl
      have hki : ¬ (k : Int) < (s.size : Int) := by omega
      go_wp2_with fail
      go_ret
      exact ⟨by rw [HZ.out]; rfl, rfl⟩

set_option maxHeartbeats 1000000 in
theorem implDigits (s : ByteArray) (base most : Nat) (w : World) (hb : base ≤ 16) (hm : most ≤ 11) :
    Calls Tryd.prog 53 #[.string s, .int .i64 (base : Int), .int .i64 (most : Int)] w fun e w' => e = .returned (numA (numL base most s.data.toList)) ∧ w = w' := by
  have hsl : s.data.toList.length = s.size := by simp
  by_cases hlen : most < s.size
  · have HF : Hid (numL base most s.data.toList = none) := num_no (by omega)
    have hlen' : (most : Int) < (s.size : Int) := by omega
    clear hsl
    go_enter Tryd.func53, Tryd.ntmps53
    go_wp2
    go_ret2
    exact ⟨by rw [HF.out]; rfl, rfl⟩
  · have HF : Hid (numL base most s.data.toList = digF base 0 s.data.toList) := num_yes (by omega)
    have hlen' : ¬ (most : Int) < (s.size : Int) := by omega
    have hs11 : s.size ≤ 11 := by omega
    have CA : Hid (∀ W, Calls Tryd.prog 70 #[.string s, .int .i64 (base : Int)] W fun e w' => e = .returned (.bool (alD base s.data.toList)) ∧ W = w') := fun W => implDigitsAlone s base W (by omega)
    clear hsl
    cases ha : alD base s.data.toList with
    | false =>
      have HZ : Hid (digF base 0 s.data.toList = none) := digF_no ha
      rw [ha] at CA
      clear ha
      go_enter Tryd.func53, Tryd.ntmps53
      go_wp2_with fail
      refine (CA.out _).mono ?_
      rintro e w' ⟨rfl, rfl⟩
      go_wp2_with fail
      go_ret2
      exact ⟨by rw [HF.out, HZ.out]; rfl, rfl⟩
    | true =>
      have HA : Hid (∀ k (hk : k < s.size), 0 ≤ hexN s[k].toNat ∧ hexN s[k].toNat < (base : Int)) := alD_at ha
      rw [ha] at CA
      clear ha
      go_enter Tryd.func53, Tryd.ntmps53
      go_wp2_with fail
      refine (CA.out _).mono ?_
      rintro e w' ⟨rfl, rfl⟩
      go_wp2_with fail
      go_loop [8, 22] (fun x i => ∃ k n : Nat, k ≤ s.size ∧ n < 16 ^ k ∧ i = .int .i64 k ∧ x = .int .i64 n ∧ digF base n (s.data.toList.drop k) = digF base 0 s.data.toList) (fun _ i => s.size - (intOf i).toNat)
      case atStart => exact ⟨0, 0, Nat.zero_le _, by decide, rfl, rfl, rfl⟩
      case round =>
        obtain ⟨k, n, hk, hn, rfl, rfl, hf⟩ := hrel
        have HR : Hid (digF base n (s.data.toList.drop k) = digF base 0 s.data.toList) := hf
        have HN : Hid (n < 16 ^ k) := hn
        have hk11 : k ≤ 11 := by omega
        have hn2 : n < 17592186044416 := Nat.lt_of_lt_of_le hn (pow_le hk11)
        clear hf hn
        by_cases hlt : k < s.size
        · have hx := HA.out k hlt
          obtain ⟨d, hd⟩ : ∃ d : Nat, s[k].toNat = d := ⟨_, rfl⟩
          rw [hd] at hx
          have hd1 : (d : Int) ≤ 255 := by have := s[k].toNat_lt; omega
          have HD : Hid (digF base n (s.data.toList.drop k) = if 0 ≤ hexN d ∧ hexN d < (base : Int) then digF base (n * base + (hexN d).toNat) (s.data.toList.drop (k + 1)) else none) := by
            show _ = _
            rw [digF_drop s k hlt base n, hd]
          obtain ⟨hx1, hx2⟩ := hexN_le d
          have CH : Hid (∀ W, Calls Tryd.prog 71 #[.int .u8 (d : Int)] W fun e w' => e = .returned (.int .i64 (hexN d)) ∧ W = w') := fun W => implHex d W (by omega)
          generalize hexN d = x at HD CH hx1 hx2 hx
          have hki : (k : Int) < (s.size : Int) := by omega
          obtain ⟨y, rfl⟩ : ∃ y : Nat, x = (y : Int) := ⟨x.toNat, by omega⟩
          obtain ⟨p, hp⟩ : ∃ p : Nat, n * base = p := ⟨_, rfl⟩
          have HP : Hid (n * base = p) := hp
          have hp2 : (n : Int) * (base : Int) = (p : Int) := by rw [← hp]; simp
          have hp3 : p + y < 281474976710656 := by
            have h1 : n * base ≤ n * 16 := Nat.mul_le_mul_left _ hb
            omega
          have HX : Hid (y < base) := by show _ < _; omega
          clear hx hp
          go_wp2_with fail
          refine (CH.out _).mono ?_
          rintro e w' ⟨rfl, rfl⟩
          go_wp2_with fail
          go_round
          case rel =>
            refine ⟨k + 1, n * base + y, by omega, pow_room hb HX.out HN.out, by go_num, by rw [HP.out]; go_num, ?_⟩
            rw [← HR.out, HD.out, if_pos ⟨by omega, by have := HX.out; omega⟩]
            simp
          case measure => simp [intOf]; omega
        · have HZ : Hid (digF base 0 s.data.toList = some n) := by
            show _ = _
            rw [← HR.out, List.drop_of_length_le (by simp; omega)]
            rfl
          have hki : ¬ (k : Int) < (s.size : Int) := by omega
          go_wp2_with fail
          go_ret2
          exact ⟨by rw [HF.out, HZ.out]; rfl, rfl⟩
end Go.Proofs.YtjdmmmohaiiocaaDoor
