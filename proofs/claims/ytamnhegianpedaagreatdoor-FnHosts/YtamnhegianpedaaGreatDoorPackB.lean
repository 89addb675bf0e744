/- Contracts and plain laws: AsciiWalk, PutRunesWalk, RunesBack, LabPlain, NamePlain, EncBoth, DecImpl, RunesWalk, AscBase, LabWalk, LaidBase, AscImpl, AscSpec, NamesPlain, NameSpec, NameImpl, PartsWalk, NamesBack, PctWalk, UnWalk, EndWalk. -/
import Derived.Test.YtamnhegianpedaaGreatDoorRows
import Derived.Test.YtamnhegianpedaaGreatDoorBase
import Derived.Test.YtamnhegianpedaaGreatDoorPutWalk
import Derived.Test.YtamnhegianpedaaGreatDoorRunesPlain
import Derived.Test.YtamnhegianpedaaGreatDoorLowerWalk
import Derived.Test.YtamnhegianpedaaGreatDoorPunyDecWalk
import Derived.Test.YtamnhegianpedaaGreatDoorPunyLen
import Derived.Test.YtamnhegianpedaaGreatDoorPunyEncWalk
import Derived.Test.YtamnhegianpedaaGreatDoorEncImpl
import Derived.Test.YtamnhegianpedaaGreatDoorIntMarks
import Derived.Test.YtamnhegianpedaaGreatDoorReadImpl
import Derived.Test.YtamnhegianpedaaGreatDoorRowMore
import Derived.Test.YtamnhegianpedaaGreatDoorRuneAtWalk
import Derived.Lib.OthersKept
import Derived.Test.YtamnhegianpedaaGreatDoorShelf
import Derived.Lib.LaidIn
import Derived.Lib.LaidU8T
import Derived.Deep.DeepHandedRow
import Derived.Deep.DeepWitnessRowRef
import Derived.ProofKit
import Derived.Shelf.Unicode.DecodeSlow
import Derived.Test.YtamnhegianpedaaGreatDoorAppAt
import Derived.Test.YtamnhegianpedaaGreatDoorDropWalk
import Derived.Lib.Join
import Derived.Test.YtamnhegianpedaaGreatDoorFieldsWalk
import Derived.Sort.OwnSorted
import Derived.Test.YtamnhegianpedaaGreatDoorHexWalk
import Derived.Test.YtamnhegianpedaaGreatDoorLooseWalk
import Derived.Test.YtamnhegianpedaaGreatDoorFieldSpl
namespace Go.Proofs.YtamnhegianpedaaGreatDoor
open Go.RowKit

def asciiB (l : List UInt8) : Bool := l.all fun c => decide (c.toNat < 128)

theorem asciiB_yes (s : ByteArray) (h : ∀ j, (hj : j < s.size) → s[j].toNat < 128) : asciiB s.data.toList = true := by
  unfold asciiB
  rw [List.all_eq_true]
  intro c hc
  obtain ⟨j, hj, rfl⟩ := List.getElem_of_mem hc
  exact decide_eq_true (h j (by simpa using hj))

theorem asciiB_no (s : ByteArray) (k : Nat) (hk : k < s.size) (h : 128 ≤ s[k].toNat) : asciiB s.data.toList = false := by
  unfold asciiB
  rw [List.all_eq_false]
  refine ⟨s[k], ?_, by simpa using h⟩
  exact List.mem_iff_getElem.2 ⟨k, by simpa using hk, rfl⟩

set_option maxHeartbeats 400000 in
theorem specAscii (s : ByteArray) (w : World) (hs : s.size ≤ maxLen) :
    Calls Tryz.prog 69 #[.string s] w fun e w' => e = .returned (.bool (asciiB s.data.toList)) ∧ w = w' := by
  unfold maxLen at hs
  go_enter Tryz.func69, Tryz.ntmps69
  go_wp2
  go_loop [3] (fun i => ∃ k : Nat, k ≤ s.size ∧ i = .int .i64 k ∧ ∀ j, (hj : j < s.size) → j < k → s[j].toNat < 128) (fun i => s.size - (intOf i).toNat)
  case atStart => exact ⟨0, Nat.zero_le _, rfl, fun j _ h => by omega⟩
  case round =>
    obtain ⟨k, hk, rfl, hall⟩ := hrel
    have HA : Hid (∀ j, (hj : j < s.size) → j < k → s[j].toNat < 128) := hall
    clear hall
    by_cases hlt : k < s.size
    · by_cases hb : s[k].toNat < 128
      · have hb' : (s[k].toNat : Int) ≤ 127 := by omega
        go_wp2
        go_round
        case rel =>
          refine ⟨k + 1, by omega, by go_num, fun j hj h => ?_⟩
          by_cases e : j = k
          · subst e; omega
          · exact HA.out j hj (by omega)
        case measure => simp [intOf]; omega
      · have hb' : 127 < (s[k].toNat : Int) := by omega
        go_wp2
        go_ret
        exact ⟨ret_bool (asciiB_no s k hlt (by omega)).symm, rfl⟩
    · go_wp2
      go_ret
      exact ⟨ret_bool (asciiB_yes s fun j hj => HA.out j hj (by omega)).symm, rfl⟩

set_option maxHeartbeats 400000 in
theorem implAscii (s : ByteArray) (w : World) (hs : s.size ≤ maxLen) :
    Calls Tryz.prog 115 #[.string s] w fun e w' => e = .returned (.bool (asciiB s.data.toList)) ∧ w = w' := by
  unfold maxLen at hs
  go_enter Tryz.func115, Tryz.ntmps115
  go_wp2
  go_loop [6] (fun i => ∃ k : Nat, k ≤ s.size ∧ i = .int .i64 k ∧ ∀ j, (hj : j < s.size) → j < k → s[j].toNat < 128) (fun i => s.size - (intOf i).toNat)
  case atStart => exact ⟨0, Nat.zero_le _, rfl, fun j _ h => by omega⟩
  case round =>
    obtain ⟨k, hk, rfl, hall⟩ := hrel
    have HA : Hid (∀ j, (hj : j < s.size) → j < k → s[j].toNat < 128) := hall
    clear hall
    by_cases hlt : k < s.size
    · by_cases hb : s[k].toNat < 128
      · have hb' : ¬ 128 ≤ (s[k].toNat : Int) := by omega
        clear hb
        go_wp2
        go_round
        case rel =>
          refine ⟨k + 1, by omega, by go_num, fun j hj h => ?_⟩
          by_cases e : j = k
          · subst e; omega
          · exact HA.out j hj (by omega)
        case measure => simp [intOf]; omega
      · have hb' : 128 ≤ (s[k].toNat : Int) := by omega
        go_wp2
        go_ret
        exact ⟨ret_bool (asciiB_no s k hlt (by omega)).symm, rfl⟩
    · go_wp2
      go_ret
      exact ⟨ret_bool (asciiB_yes s fun j hj => HA.out j hj (by omega)).symm, rfl⟩

end Go.Proofs.YtamnhegianpedaaGreatDoor

namespace Go.Proofs.YtamnhegianpedaaGreatDoor
open Go.RowKit

def encAll (l : List Int) : List UInt8 := l.flatMap Lib.encodeRune

theorem encAll_snoc (l : List Int) (r : Int) : encAll (l ++ [r]) = encAll l ++ Lib.encodeRune r := by simp [encAll]

theorem encAll_le (l : List Int) : (encAll l).length ≤ 4 * l.length := by
  induction l with
  | nil => simp [encAll]
  | cons r l ih =>
    have := enc_length r
    have e : encAll (r :: l) = Lib.encodeRune r ++ encAll l := by simp [encAll]
    rw [e, List.length_append, List.length_cons]
    omega

def allOk (l : List Int) : Prop := ∀ r ∈ l, runeOk r

theorem allOk_at {l : List Int} (h : allOk l) (k : Nat) (hk : k < l.length) : runeOk (l.getD k 0) := by
  rw [List.getD_eq_getElem?_getD, List.getElem?_eq_getElem hk]
  exact h _ (List.getElem_mem hk)

end Go.Proofs.YtamnhegianpedaaGreatDoor

namespace Go.Proofs.YtamnhegianpedaaGreatDoor

theorem byte_nat (z : Int) (_h0 : 0 ≤ z) (h1 : z < 256) : (z.toNat.toUInt8).toNat = z.toNat := by
  simp; omega

theorem decode_encode (r : Int) (h : runeOk r) (rest : List UInt8) : Lib.decodeL (Lib.encodeRune r ++ rest) = (r.toNat, (Lib.encodeRune r).length) := by
  obtain ⟨h0, h1, h2⟩ := h
  by_cases a : r < 128
  · have e : Lib.encodeRune r = [r.toNat.toUInt8] := by unfold Lib.encodeRune; rw [Lib.encodeRuneZ_one h0 (by omega)]; rfl
    rw [e, Lib.decodeL_N]
    simp only [List.cons_append, List.nil_append, List.getD_cons_zero, List.length_singleton]
    rw [byte_nat r h0 (by omega)]
    unfold Lib.decodeN
    rw [if_pos (by omega)]
  · by_cases b : r < 2048
    · have e : Lib.encodeRune r = [(192 + r / 64).toNat.toUInt8, (128 + r % 64).toNat.toUInt8] := by unfold Lib.encodeRune; rw [Lib.encodeRuneZ_two (by omega) (by omega)]; rfl
      rw [e, Lib.decodeL_N]
      simp only [List.cons_append, List.nil_append, List.getD_cons_zero, List.getD_cons_succ, List.length_cons, List.length_nil]
      rw [byte_nat _ (by omega) (by omega), byte_nat _ (by omega) (by omega)]
      unfold Lib.decodeN
      rw [if_neg (by omega), if_pos (by omega), if_pos (by omega)]
      congr 1
      omega
    · by_cases c : r < 65536
      · have e : Lib.encodeRune r = [(224 + r / 4096).toNat.toUInt8, (128 + r / 64 % 64).toNat.toUInt8, (128 + r % 64).toNat.toUInt8] := by unfold Lib.encodeRune; rw [Lib.encodeRuneZ_three (by omega)]; rfl
        rw [e, Lib.decodeL_N]
        simp only [List.cons_append, List.nil_append, List.getD_cons_zero, List.getD_cons_succ, List.length_cons, List.length_nil]
        rw [byte_nat _ (by omega) (by omega), byte_nat _ (by omega) (by omega), byte_nat _ (by omega) (by omega)]
        unfold Lib.decodeN
        rw [if_neg (by omega), if_neg (by omega), if_pos (by omega), if_pos (by omega)]
        congr 1
        omega
      · have e : Lib.encodeRune r = [(240 + r / 262144).toNat.toUInt8, (128 + r / 4096 % 64).toNat.toUInt8, (128 + r / 64 % 64).toNat.toUInt8, (128 + r % 64).toNat.toUInt8] := by unfold Lib.encodeRune; rw [Lib.encodeRuneZ_four (by omega) (by omega)]; rfl
        rw [e, Lib.decodeL_N]
        simp only [List.cons_append, List.nil_append, List.getD_cons_zero, List.getD_cons_succ, List.length_cons, List.length_nil]
        rw [byte_nat _ (by omega) (by omega), byte_nat _ (by omega) (by omega), byte_nat _ (by omega) (by omega), byte_nat _ (by omega) (by omega)]
        unfold Lib.decodeN
        rw [if_neg (by omega), if_neg (by omega), if_neg (by omega), if_pos (by omega), if_pos (by omega)]
        congr 1
        omega

theorem decode_runeOk (s : ByteArray) (p : Nat) (h : okAt s p) : runeOk ((Utf8.decode s p).1 : Int) := by
  unfold okAt at h
  rw [Lib.decode_at] at h ⊢
  generalize (s.get! p).toNat = b0 at *
  generalize (s.get! (p + 1)).toNat = b1 at *
  generalize (s.get! (p + 2)).toNat = b2 at *
  generalize (s.get! (p + 3)).toNat = b3 at *
  unfold runeOk
  rcases Lib.decodeN_shape (s.size - p) b0 b1 b2 b3 with ⟨c, e⟩ | ⟨c1, c2, c3, cv, e⟩ | ⟨c1, c2, c3, c4, cv, cs, e⟩ | ⟨c1, c2, c3, c4, c5, cv, cs, e⟩ | e
  · rw [e]; simp only; omega
  · rw [e]; simp only; omega
  · rw [e]; simp only; omega
  · rw [e]; simp only; omega
  · rw [e] at h; simp at h

theorem stR_back (s : ByteArray) (k : Nat) : allOk (stR s k).2 ∧ encAll (stR s k).2 = s.data.toList.take (stR s k).1 := by
  induction k with
  | zero => exact ⟨fun r hr => by simp [stR] at hr, by simp [stR, encAll]⟩
  | succ k ih =>
    obtain ⟨i1, i2⟩ := ih
    rw [stR]
    split
    · rename_i g
      refine ⟨fun r hr => ?_, ?_⟩
      · rcases List.mem_append.1 hr with hr | hr
        · exact i1 r hr
        · rw [List.mem_singleton.1 hr]; exact decode_runeOk s _ g.2
      · have hne : s.data.toList.drop (stR s k).1 ≠ [] := by
          intro e
          have := congrArg List.length e
          simp at this
          omega
        have hd := Lib.encode_decode (s.data.toList.drop (stR s k).1) hne (by rw [Lib.decodeL_drop]; exact g.2)
        rw [Lib.decodeL_drop] at hd
        simp only
        rw [encAll_snoc, i2, hd, List.take_add]
    · exact ⟨i1, i2⟩

theorem fin_back (s : ByteArray) (h : (finR s).1 = s.size) : allOk (finR s).2 ∧ encAll (finR s).2 = s.data.toList := by
  obtain ⟨a, b⟩ := stR_back s s.size
  unfold finR at h ⊢
  refine ⟨a, ?_⟩
  rw [b, h, take_all s _ (Nat.le_refl _)]

theorem encAll_append (l m : List Int) : encAll (l ++ m) = encAll l ++ encAll m := by simp [encAll]

theorem stR_put (zl : List Int) (h : allOk zl) : ∀ k, k ≤ zl.length → stR ⟨(encAll zl).toArray⟩ k = ((encAll (zl.take k)).length, zl.take k)
  | 0, _ => by simp [stR, encAll]
  | k + 1, hk => by
    have ih := stR_put zl h k (by omega)
    have hr := allOk_at h k (by omega)
    have hsp : zl = zl.take k ++ zl.getD k 0 :: zl.drop (k + 1) := by
      have h1 : zl = zl.take k ++ zl.drop k := (List.take_append_drop k zl).symm
      have h2 : zl.drop k = zl.getD k 0 :: zl.drop (k + 1) := by
        rw [List.drop_eq_getElem_cons (by omega)]
        simp [List.getD, show k < zl.length by omega]
      rw [← h2]; exact h1
    have hdrop : (encAll zl).drop (encAll (zl.take k)).length = Lib.encodeRune (zl.getD k 0) ++ encAll (zl.drop (k + 1)) := by
      have e : encAll zl = encAll (zl.take k) ++ (Lib.encodeRune (zl.getD k 0) ++ encAll (zl.drop (k + 1))) := by
        conv => lhs; rw [hsp]
        rw [encAll_append]
        simp [encAll]
      rw [e, List.drop_left]
    have hdec : Utf8.decode ⟨(encAll zl).toArray⟩ (encAll (zl.take k)).length = ((zl.getD k 0).toNat, (Lib.encodeRune (zl.getD k 0)).length) := by
      rw [← Lib.decodeL_drop]
      simp only
      rw [hdrop, decode_encode _ hr]
    have hlen := enc_length (zl.getD k 0)
    have hok : okAt ⟨(encAll zl).toArray⟩ (encAll (zl.take k)).length := by
      unfold okAt
      rw [hdec]
      rintro ⟨e1, e2⟩
      simp only at e1 e2
      have : zl.getD k 0 = 65533 := by have := hr.1; omega
      rw [this] at e2
      exact absurd e2 (by decide)
    have hlt : (encAll (zl.take k)).length < (⟨(encAll zl).toArray⟩ : ByteArray).size := by
      have : ((encAll zl).drop (encAll (zl.take k)).length).length = (Lib.encodeRune (zl.getD k 0)).length + (encAll (zl.drop (k + 1))).length := by rw [hdrop, List.length_append]
      rw [List.length_drop] at this
      simp only [ByteArray.size, List.size_toArray]
      omega
    rw [stR, ih]
    simp only
    rw [if_pos ⟨hlt, hok⟩, hdec]
    simp only
    rw [ztake_snoc zl k (by omega), encAll_snoc, List.length_append]
    have : (((zl.getD k 0).toNat : Nat) : Int) = zl.getD k 0 := Int.toNat_of_nonneg hr.1
    rw [this]

theorem fin_put (zl : List Int) (h : allOk zl) : finR ⟨(encAll zl).toArray⟩ = ((⟨(encAll zl).toArray⟩ : ByteArray).size, zl) := by
  have e := stR_put zl h zl.length (Nat.le_refl _)
  rw [List.take_length] at e
  have hst : stuckR ⟨(encAll zl).toArray⟩ zl.length := by
    unfold stuckR
    rw [e]
    simp [ByteArray.size]
  rw [← stR_fin _ _ hst, e]
  simp [ByteArray.size]

theorem ascii_fin (s : ByteArray) (h : asciiB s.data.toList = true) : (finR s).1 = s.size := by
  rw [← valid_iff]
  have := Lib.validD_ascii s.data.toList.length s.data.toList (fun b hb => by
    rw [List.take_length] at hb
    unfold asciiB at h
    rw [List.all_eq_true] at h
    exact of_decide_eq_true (h b hb))
  rw [this, List.drop_length]
  rfl

end Go.Proofs.YtamnhegianpedaaGreatDoor

namespace Go.Proofs.YtamnhegianpedaaGreatDoor
open Go.RowKit

def labB (c : UInt8) : Bool := decide (97 ≤ c.toNat ∧ c.toNat ≤ 122) || decide (48 ≤ c.toNat ∧ c.toNat ≤ 57) || decide (c.toNat = 45)
def labL (l : List UInt8) : Bool := decide (1 ≤ l.length) && decide (l.length ≤ 63) && decide (l.head? ≠ some 45) && decide (l.getLast? ≠ some 45) && l.all labB

theorem labL_parts {l : List UInt8} (h : labL l = true) : 1 ≤ l.length ∧ l.length ≤ 63 ∧ l.head? ≠ some 45 ∧ l.getLast? ≠ some 45 ∧ ∀ c ∈ l, labB c = true := by
  unfold labL at h
  simp only [Bool.and_eq_true, decide_eq_true_eq, List.all_eq_true] at h
  exact ⟨h.1.1.1.1, h.1.1.1.2, h.1.1.2, h.1.2, h.2⟩
theorem labL_of {l : List UInt8} (h1 : 1 ≤ l.length) (h2 : l.length ≤ 63) (h3 : l.head? ≠ some 45) (h4 : l.getLast? ≠ some 45) (h5 : ∀ c ∈ l, labB c = true) : labL l = true := by
  unfold labL
  simp only [Bool.and_eq_true, decide_eq_true_eq, List.all_eq_true]
  exact ⟨⟨⟨⟨h1, h2⟩, h3⟩, h4⟩, h5⟩

theorem labB_parts {c : UInt8} (h : labB c = true) : (97 ≤ c.toNat ∧ c.toNat ≤ 122) ∨ (48 ≤ c.toNat ∧ c.toNat ≤ 57) ∨ c.toNat = 45 := by
  unfold labB at h
  simp only [Bool.or_eq_true, decide_eq_true_eq] at h
  omega
theorem labB_yes {c : UInt8} {d : Nat} (hd : c.toNat = d) (h : (97 ≤ d ∧ d ≤ 122) ∨ (48 ≤ d ∧ d ≤ 57) ∨ d = 45) : labB c = true := by
  unfold labB
  simp only [Bool.or_eq_true, decide_eq_true_eq]
  omega

theorem head_at (s : ByteArray) (h : 0 < s.size) : s.data.toList.head? = some s[0] := by
  have hk : 0 < s.data.toList.length := by simpa using h
  rw [List.head?_eq_getElem?, List.getElem?_eq_getElem hk]
  rfl
theorem last_at (s : ByteArray) (h : 0 < s.size) : s.data.toList.getLast? = some (s[s.size - 1]'(by omega)) := by
  have hk : 0 < s.data.toList.length := by simpa using h
  rw [List.getLast?_eq_getElem?, List.getElem?_eq_getElem (by omega)]
  rfl

theorem lab_size (s : ByteArray) (h : ¬ (1 ≤ s.size ∧ s.size ≤ 63)) : labL s.data.toList = false := by
  refine Bool.eq_false_iff.2 fun hl => h ?_
  obtain ⟨h1, h2, _⟩ := labL_parts hl
  have e : s.data.toList.length = s.size := by simp
  omega
theorem lab_head (s : ByteArray) (h : 0 < s.size) (h0 : s[0].toNat = 45) : labL s.data.toList = false := by
  refine Bool.eq_false_iff.2 fun hl => ?_
  obtain ⟨_, _, h3, _⟩ := labL_parts hl
  exact h3 ((head_at s h).trans (congrArg some (UInt8.toNat_inj.1 (by simpa using h0))))
theorem lab_last (s : ByteArray) (h : 0 < s.size) (h0 : (s[s.size - 1]'(by omega)).toNat = 45) : labL s.data.toList = false := by
  refine Bool.eq_false_iff.2 fun hl => ?_
  obtain ⟨_, _, _, h3, _⟩ := labL_parts hl
  exact h3 ((last_at s h).trans (congrArg some (UInt8.toNat_inj.1 (by simpa using h0))))
theorem lab_byte (s : ByteArray) (k : Nat) (h : k < s.size) (h0 : ¬ ((97 ≤ s[k].toNat ∧ s[k].toNat ≤ 122) ∨ (48 ≤ s[k].toNat ∧ s[k].toNat ≤ 57) ∨ s[k].toNat = 45)) : labL s.data.toList = false := by
  refine Bool.eq_false_iff.2 fun hl => ?_
  obtain ⟨_, _, _, _, h3⟩ := labL_parts hl
  have hm : s[k] ∈ s.data.toList := by
    have : s[k] ∈ s.data := Array.getElem_mem _
    simpa using this
  exact h0 (labB_parts (h3 _ hm))
theorem lab_yes (s : ByteArray) (hr : 1 ≤ s.size ∧ s.size ≤ 63) (h0 : ¬ (s[0]'(by omega)).toNat = 45) (h1 : ¬ (s[s.size - 1]'(by omega)).toNat = 45) (h : ∀ c ∈ s.data.toList.take s.size, labB c = true) : labL s.data.toList = true := by
  have e : s.data.toList.length = s.size := by simp
  rw [take_all s s.size (Nat.le_refl _)] at h
  refine labL_of (by omega) (by omega) (fun hh => h0 ?_) (fun hh => h1 ?_) h
  · rw [head_at s (by omega)] at hh
    have := Option.some.inj hh
    rw [this]; rfl
  · rw [last_at s (by omega)] at hh
    have := Option.some.inj hh
    rw [this]; rfl
theorem lab_take (s : ByteArray) (k : Nat) (h : k < s.size) (d : Nat) (hd : s[k].toNat = d) (hc : (97 ≤ d ∧ d ≤ 122) ∨ (48 ≤ d ∧ d ≤ 57) ∨ d = 45) (h0 : ∀ c ∈ s.data.toList.take k, labB c = true) : ∀ c ∈ s.data.toList.take (k + 1), labB c = true := by
  intro c hm
  rw [take_snoc s k h] at hm
  rcases List.mem_append.1 hm with h2 | h2
  · exact h0 c h2
  · rw [List.mem_singleton.1 h2]
    exact labB_yes hd hc

theorem labIn_yes (x a b : Int) (w : World) (h1 : a ≤ x) (h2 : x ≤ b) :
    Calls Tryz.prog 24 #[.int .i64 x, .int .i64 a, .int .i64 b] w fun e w' => e = .returned (.bool true) ∧ w = w' := by
  go_enter Tryz.func24, Tryz.ntmps24
  go_wp2
  go_ret
  exact ⟨rfl, rfl⟩
theorem labIn_no (x a b : Int) (w : World) (h : x < a ∨ b < x) :
    Calls Tryz.prog 24 #[.int .i64 x, .int .i64 a, .int .i64 b] w fun e w' => e = .returned (.bool false) ∧ w = w' := by
  by_cases h1 : a ≤ x
  · have h2 : ¬ x ≤ b := by omega
    clear h
    go_enter Tryz.func24, Tryz.ntmps24
    go_wp2
    go_ret
    exact ⟨ret_bool (by simp), rfl⟩
  · have h2 : x < a := by omega
    clear h h1
    go_enter Tryz.func24, Tryz.ntmps24
    go_wp2
    go_ret
    exact ⟨rfl, rfl⟩
end Go.Proofs.YtamnhegianpedaaGreatDoor

namespace Go.Proofs.YtamnhegianpedaaGreatDoor
open Go.RowKit

def xn : List UInt8 := [120, 110, 45, 45]
def isXn (l : List UInt8) : Bool := xn.isPrefixOf l
def nat8 (l : List UInt8) : List Nat := l.map UInt8.toNat
def okA (l : List UInt8) : Bool := labL l && (!(isXn l) || (decC (nat8 (l.drop 4))).isSome)
def asc1 (s : List UInt8) : Option (List UInt8) :=
  if asciiB s = true then some (lowerL s)
  else if (finR ⟨(lowerL s).toArray⟩).1 = s.length ∧ (finR ⟨(lowerL s).toArray⟩).2.length ≤ 60 then some (xn ++ b8 (encC ((finR ⟨(lowerL s).toArray⟩).2.map Int.toNat)))
  else none
def ascL (s : List UInt8) : Option (List UInt8) := match asc1 s with
  | some t => if okA t = true then some t else none
  | none => none
def uniL (s : List UInt8) : Option (List UInt8) :=
  if ascL s = some s then (if isXn s = true then (decC (nat8 (s.drop 4))).map (fun l => encAll (l.map fun (c : Nat) => (c : Int))) else some s) else none

theorem sN_nat8 (s : ByteArray) : sN s = nat8 s.data.toList := rfl

theorem lab_lower {l : List UInt8} (h : ∀ c ∈ l, labB c = true) : lowerL l = l := by
  unfold lowerL
  conv => rhs; rw [← List.map_id l]
  refine List.map_congr_left fun c hc => ?_
  have := labB_parts (h c hc)
  unfold lowerC
  rw [if_neg (by omega)]
  rfl

theorem lab_ascii {l : List UInt8} (h : ∀ c ∈ l, labB c = true) : asciiB l = true := by
  unfold asciiB
  rw [List.all_eq_true]
  intro c hc
  have := labB_parts (h c hc)
  exact decide_eq_true (by omega)

theorem okA_lab {t : List UInt8} (h : okA t = true) : labL t = true := by
  unfold okA at h
  simp only [Bool.and_eq_true] at h
  exact h.1

theorem ascL_ok {s t : List UInt8} (h : ascL s = some t) : okA t = true := by
  unfold ascL at h
  split at h
  · split at h
    · rename_i h1; cases h; exact h1
    · cases h
  · cases h

theorem ascL_of_ok {t : List UInt8} (h : okA t = true) : ascL t = some t := by
  obtain ⟨_, _, _, _, hb⟩ := labL_parts (okA_lab h)
  have e : asc1 t = some t := by
    unfold asc1
    rw [if_pos (lab_ascii hb), lab_lower hb]
  unfold ascL
  rw [e]
  exact if_pos h

theorem ascL_idem {s t : List UInt8} (h : ascL s = some t) : ascL t = some t := ascL_of_ok (ascL_ok h)

theorem ascL_lab {s t : List UInt8} (h : ascL s = some t) : labL t = true := okA_lab (ascL_ok h)

theorem encD_none (l : List Nat) : ∀ (f n d : Nat), (l.filter (· < n)).length = l.length → encD l f n d (l.filter (· < n)).length = []
  | 0, n, d, _ => by rw [encD]
  | f + 1, n, d, h => by
    rw [encD, if_neg (by omega)]

theorem xn_prefix {l : List UInt8} (h : isXn l = true) : l = xn ++ l.drop 4 := by
  unfold isXn at h
  obtain ⟨r, rfl⟩ := List.isPrefixOf_iff_prefix.1 h
  simp [xn]

theorem xn_app (l : List UInt8) : isXn (xn ++ l) = true := by
  unfold isXn
  exact List.isPrefixOf_iff_prefix.2 (List.prefix_append _ _)

theorem mem_nat8 {l : List UInt8} {x : Nat} (h : x ∈ nat8 l) : ∃ c ∈ l, c.toNat = x := by
  unfold nat8 at h
  obtain ⟨c, hc, rfl⟩ := List.mem_map.1 h
  exact ⟨c, hc, rfl⟩

/-- The runes of a coded label: one from 128 on, none of the great letters. -/
theorem dec_lab {t : List UInt8} {l : List Nat} (hx : isXn t = true) (hl : labL t = true) (hd : decC (nat8 (t.drop 4)) = some l) :
    (∃ x ∈ l, 128 ≤ x) ∧ ∀ x ∈ l, ¬ (65 ≤ x ∧ x ≤ 90) := by
  obtain ⟨_, _, _, hlast, hb⟩ := labL_parts hl
  obtain ⟨hok, he⟩ := (dec_iff _ _).1 hd
  have ht := xn_prefix hx
  constructor
  · apply Classical.byContradiction
    intro hno
    have hall : ∀ x ∈ l, x < 128 := fun x hx => by
      apply Classical.byContradiction
      intro h
      exact hno ⟨x, hx, by omega⟩
    have hf : l.filter (· < 128) = l := List.filter_eq_self.2 fun x hx => decide_eq_true (hall x hx)
    have hv : encV l = [] := by
      unfold encV
      rw [encD_none l l.length 128 0 (by rw [hf])]
      rw [codeV]
    unfold encC at he
    rw [hf, hv, List.map_nil, List.append_nil] at he
    by_cases h0 : 0 < l.length
    · rw [if_pos h0] at he
      apply hlast
      have h2 : (nat8 (t.drop 4)).getLast? = some 45 := by rw [← he]; simp
      unfold nat8 at h2
      rw [List.getLast?_map] at h2
      cases h3 : (t.drop 4).getLast? with
      | none => rw [h3] at h2; cases h2
      | some c =>
        rw [h3] at h2
        have hc : c.toNat = 45 := by simpa using h2
        have hc' : c = 45 := UInt8.toNat_inj.1 (by simpa using hc)
        subst hc'
        rw [ht, List.getLast?_append, h3]
        rfl
    · rw [if_neg h0] at he
      have h2 : nat8 (t.drop 4) = [] := by rw [← he, List.append_nil]; exact List.eq_nil_of_length_eq_zero (by omega)
      have h3 : t.drop 4 = [] := by unfold nat8 at h2; simpa using h2
      apply hlast
      rw [ht, h3]
      rfl
  · intro x hxl hx2
    have hm : x ∈ encC l := by
      unfold encC
      rw [List.append_assoc]
      exact List.mem_append_left _ (List.mem_filter.2 ⟨hxl, decide_eq_true (by omega)⟩)
    rw [he] at hm
    obtain ⟨c, hc, hcx⟩ := mem_nat8 hm
    have := labB_parts (hb c (List.mem_of_mem_drop hc))
    omega

theorem b8_nat8 (l : List UInt8) : b8 (nat8 l) = l := by
  unfold b8 nat8
  rw [List.map_map]
  conv => rhs; rw [← List.map_id l]
  exact List.map_congr_left fun c _ => by simp

theorem encOk_Zall {l : List Nat} (h : encOk l = true) : allOk (l.map fun (c : Nat) => (c : Int)) := (encOk_Z.1 h).2

theorem toNat_back (l : List Nat) : (l.map fun (c : Nat) => (c : Int)).map Int.toNat = l := by
  rw [List.map_map]
  conv => rhs; rw [← List.map_id l]
  exact List.map_congr_left fun c _ => by simp

theorem low_size (s : ByteArray) : (⟨(lowerL s.data.toList).toArray⟩ : ByteArray).size = s.size := by
  show (lowerL s.data.toList).toArray.size = s.data.size
  rw [List.size_toArray, lowerL, List.length_map]
  rfl

theorem lower_ascii (l : List UInt8) : asciiB (lowerL l) = asciiB l := by
  unfold asciiB lowerL
  rw [List.all_map]
  congr 1
  funext c
  have h := lowerC_toNat c
  by_cases hc : 65 ≤ (c.toNat : Int) ∧ (c.toNat : Int) ≤ 90
  · rw [if_pos hc] at h
    rw [Function.comp, decide_eq_decide]
    omega
  · rw [if_neg hc] at h
    rw [Function.comp, decide_eq_decide]
    omega

/-- A text that is no text of runes, or of too many, has no label. -/
theorem asc1_no {s : List UInt8} (h : asciiB s = false) (h2 : ¬ ((finR ⟨(lowerL s).toArray⟩).1 = s.length ∧ (finR ⟨(lowerL s).toArray⟩).2.length ≤ 60)) : ascL s = none := by
  unfold ascL asc1
  rw [if_neg (by rw [h]; decide), if_neg h2]
theorem asc1_yes {s : List UInt8} (h : asciiB s = false) (h2 : (finR ⟨(lowerL s).toArray⟩).1 = s.length ∧ (finR ⟨(lowerL s).toArray⟩).2.length ≤ 60) :
    ascL s = if okA (xn ++ b8 (encC ((finR ⟨(lowerL s).toArray⟩).2.map Int.toNat))) = true then some (xn ++ b8 (encC ((finR ⟨(lowerL s).toArray⟩).2.map Int.toNat))) else none := by
  unfold ascL asc1
  rw [if_neg (by rw [h]; decide), if_pos h2]
theorem asc1_ascii {s : List UInt8} (h : asciiB s = true) : ascL s = if okA (lowerL s) = true then some (lowerL s) else none := by
  unfold ascL asc1
  rw [if_pos h]

def ansS (r : Option (List UInt8)) : Value := match r with
  | some t => .tuple #[.string ⟨t.toArray⟩, .bool true]
  | none => .tuple #[.string ⟨#[]⟩, .bool false]

theorem ans_if (b : Bool) (t : List UInt8) : ansS (if b = true then some t else none) = if b = true then .tuple #[.string ⟨t.toArray⟩, .bool true] else .tuple #[.string ⟨#[]⟩, .bool false] := by
  cases b <;> rfl
end Go.Proofs.YtamnhegianpedaaGreatDoor

namespace Go.Proofs.YtamnhegianpedaaGreatDoor
open Go.RowKit

theorem nats_of {zl : List Int} (h : encOkZ zl) : ∃ l : List Nat, zl = l.map (fun (c : Nat) => (c : Int)) ∧ encOk l = true := by
  have e : zl = (zl.map Int.toNat).map (fun (c : Nat) => (c : Int)) := by
    rw [List.map_map]
    refine (List.map_id zl).symm.trans (List.map_congr_left fun z hz => ?_)
    have := (h.2 z hz).1
    show z = ((z.toNat : Nat) : Int)
    omega
  refine ⟨zl.map Int.toNat, e, encOk_Z.2 ?_⟩
  rw [← e]
  exact h

theorem encBoth (zl : List Int) (hl : zl.length ≤ 1048576) : ∃ (t : ByteArray) (b : Bool), t.size ≤ 600 ∧
    (∀ (v : Value) (B : Nat) (w : World), w.ownsRow B 3 1 v zl.length (icells zl) → Calls Tryz.prog 71 #[v] w fun e w' => e = .returned (.tuple #[.string t, .bool b]) ∧ Below w.heap.size w w') ∧
    (∀ (v : Value) (B : Nat) (w : World), w.ownsRow B 3 1 v zl.length (icells zl) → Calls Tryz.prog 132 #[v] w fun e w' => e = .returned (.tuple #[.string t, .bool b]) ∧ Below w.heap.size w w') := by
  by_cases hok : encOkZ zl
  · obtain ⟨l, rfl, hk⟩ := nats_of hok
    have hlen : (l.map (fun (c : Nat) => (c : Int))).length = l.length := by simp
    refine ⟨⟨(b8 (encC l)).toArray⟩, true, by have := encC_600 hk; simpa [ByteArray.size, b8] using this, fun v B w h => ?_, fun v B w h => ?_⟩
    · rcases own_shape h with ⟨h0, _, ao, cap, rfl⟩ | ⟨_, g, cap, rfl⟩
      · have hl0 : l = [] := List.eq_nil_of_length_eq_zero (hlen.symm.trans h0)
        subst hl0
        exact specPunyEncode_nil ao cap w
      · rw [hlen] at h ⊢
        exact specPunyEncode_yes l l.length g cap B w hk rfl h
    · rcases own_shape h with ⟨h0, _, ao, cap, rfl⟩ | ⟨_, g, cap, rfl⟩
      · have hl0 : l = [] := List.eq_nil_of_length_eq_zero (hlen.symm.trans h0)
        subst hl0
        exact implPunyEncode_nil ao cap w
      · rw [hlen] at h ⊢
        exact implPunyEncode_yes l l.length g cap B w hk rfl h
  · have hne : zl ≠ [] := fun h => hok (by rw [h]; exact ⟨by decide, fun z hz => by simp at hz⟩)
    have hpos : zl.length ≠ 0 := fun h => hne (List.eq_nil_of_length_eq_zero h)
    refine ⟨⟨#[]⟩, false, by decide, fun v B w h => ?_, fun v B w h => ?_⟩
    · rcases own_shape h with ⟨h0, _⟩ | ⟨_, g, cap, rfl⟩
      · exact absurd h0 hpos
      · exact specPunyEncode_no zl zl.length g cap B w hok rfl hl h
    · rcases own_shape h with ⟨h0, _⟩ | ⟨_, g, cap, rfl⟩
      · exact absurd h0 hpos
      · exact implPunyEncode_no zl zl.length g cap B w hok rfl hl h

theorem specEncAll (l : List Nat) (v : Value) (B : Nat) (w : World) (hk : encOk l = true) (h : w.ownsRow B 3 1 v l.length (icN l)) :
    Calls Tryz.prog 71 #[v] w fun e w' => e = .returned (.tuple #[.string ⟨(b8 (encC l)).toArray⟩, .bool true]) ∧ Below w.heap.size w w' := by
  rcases own_shape h with ⟨h0, _, ao, cap, rfl⟩ | ⟨_, g, cap, rfl⟩
  · have hl0 : l = [] := List.eq_nil_of_length_eq_zero h0
    subst hl0
    exact specPunyEncode_nil ao cap w
  · exact specPunyEncode_yes l l.length g cap B w hk rfl h
end Go.Proofs.YtamnhegianpedaaGreatDoor

namespace Go.Proofs.YtamnhegianpedaaGreatDoor
open Go.RowKit Go.Shelf

/-- PunyEncode at whatever row of numbers the caller owns. -/
theorem implEncAll (l : List Nat) (v : Value) (B : Nat) (w : World) (hl : l.length ≤ 1048576) (hown : w.ownsRow B 3 1 v l.length (icN l)) :
    Calls Tryz.prog 132 #[v] w fun e w' => e = .returned (.tuple #[.string ⟨(b8 (if encOk l = true then encC l else [])).toArray⟩, .bool (encOk l)]) ∧ Below w.heap.size w w' := by
  rcases own_shape hown with ⟨h0, _, ao, cap, rfl⟩ | ⟨_, g, cap, rfl⟩
  · have hl0 : l = [] := List.eq_nil_of_length_eq_zero h0
    subst hl0
    refine (implPunyEncode_nil ao cap w).mono ?_
    rintro e w' ⟨rfl, hb⟩
    exact ⟨rfl, hb⟩
  · by_cases hok : encOk l = true
    · rw [if_pos hok, hok]
      exact implPunyEncode_yes l l.length g cap B w hok rfl hown
    · rw [if_neg hok]
      have hf : encOk l = false := by simpa using hok
      rw [hf]
      exact implPunyEncode_no (l.map fun (c : Nat) => (c : Int)) l.length g cap B w (fun h => hok (encOk_Z.2 h)) (by simp) hl hown

theorem dec_raw {s l : List Nat} (h : decC s = some l) : rawC s = some l := by
  unfold decC at h
  split at h
  · next l' hr =>
    split at h
    · cases h; exact hr
    · cases h
  · cases h

theorem split_nil : splitD [] = none := rfl

/-- A code does not begin with its only hyphen. -/
theorem dec_dash {s l : List Nat} (h : splitD s = some ([], s.drop 1)) (hd : decC s = some l) : False := by
  obtain ⟨_, he⟩ := (dec_iff s l).1 hd
  obtain ⟨p1, p2⟩ := enc_parts l
  rw [he] at p1 p2
  have h1 : headD s = [] := by unfold headD; rw [h]
  have h2 : tailD s = s.drop 1 := by unfold tailD; rw [h]
  rw [h1] at p1
  have h3 : s = (encV l).map digB := by
    rw [← he]
    unfold encC
    rw [← p1]
    rfl
  rw [← h3, h2] at p2
  have h4 := congrArg List.length p2
  rw [List.length_drop] at h4
  have h5 : s = [] := List.eq_nil_of_length_eq_zero (by omega)
  rw [h5, split_nil] at h
  cases h

set_option maxRecDepth 20000 in
set_option maxHeartbeats 4000000 in
theorem implPunyDecode (s : ByteArray) (w : World) (hs600 : (s.size : Int) ≤ 600) :
    Calls Tryz.prog 135 #[.string s] w fun e w' => decAns w w' (decC (sN s)) e ∧ Below w.heap.size w w' := by
  have hng : ¬ 600 < (s.size : Int) := by omega
  go_enter Tryz.func135, Tryz.ntmps135
  go_wp2_with fail
  refine (implRead s w hs600).mono ?_
  rintro e w2 ⟨hans, hb⟩
  obtain ⟨R, hR, HD⟩ : ∃ R : Option (List Nat), readIAns w w2 R e ∧ ∀ l, decC (sN s) = some l → R = some l := by
    rcases hans with ⟨k, hk, hks, hsp, hr⟩ | ⟨hsp | hsp, hr⟩
    · refine ⟨_, hr, fun l hl => ?_⟩
      have h1 := dec_raw hl
      unfold rawC headD tailD at h1
      rw [hsp, sN_length] at h1
      simp only at h1
      rw [List.length_take, sN_length, Nat.min_eq_left (by omega)] at h1
      exact rawI_of k _ _ _ _ _ _ l (by decide) h1
    · refine ⟨_, hr, fun l hl => ?_⟩
      have h1 := dec_raw hl
      unfold rawC headD tailD at h1
      rw [hsp, sN_length] at h1
      exact rawI_of 0 _ _ _ _ _ _ l (by decide) h1
    · exact ⟨_, hr, fun l hl => (dec_dash hsp hl).elim⟩
  have HDD : Hid (∀ l, decC (sN s) = some l → R = some l) := HD
  have HB : Hid (Below w.heap.size w w2) := hb
  have hsz := hb.size
  clear hans HD hb
  rcases hR with ⟨hno, rfl⟩ | ⟨l, v, hyes, hl6, rfl, hown⟩
  · have HN : Hid (decC (sN s) = none) := by
      show _ = _
      cases hd : decC (sN s) with
      | none => rfl
      | some l => have := HDD.out l hd; rw [hno] at this; cases this
    have HZ : Hid ((w2.alloc (.cells #[] 3)).ownsRow w.heap.size 3 1 (.slice (some ⟨w2.heap.size, 0, none⟩) 0 0) 0 []) := World.ownsRow_lit w2 #[] 0 hsz (by decide) rfl
    clear hno
    go_wp2_with fail
    go_ret2
    exact ⟨decAns_none HN.out HZ.out rfl, HB.out.alloc hsz _⟩
  · have CE : Hid (Calls Tryz.prog 132 #[v] w2 fun e w' => e = .returned (.tuple #[.string ⟨(b8 (if encOk l = true then encC l else [])).toArray⟩, .bool (encOk l)]) ∧ Below w2.heap.size w2 w') := implEncAll l v w.heap.size w2 (by omega) hown
    have HOW : Hid (w2.ownsRow w.heap.size 3 1 v l.length (icN l)) := hown
    have HAL : Hid (∀ l', decC (sN s) = some l' → l' = l) := fun l' h => by
      have := HDD.out l' h
      rw [hyes] at this
      injection this with this
      exact this.symm
    clear hyes HDD
    obtain ⟨ao, cp, hu⟩ := own_slice hown
    subst hu
    clear hown
    by_cases hok : encOk l = true
    · rw [if_pos hok, hok] at CE
      by_cases heq : encC l = sN s
      · have HY : Hid (decC (sN s) = some l) := (dec_iff _ _).2 ⟨hok, heq⟩
        have hst := str_eq ((sN_eq s (encC l) (fun c hc => by have := enc_ascii c hc; omega)).2 heq)
        generalize (⟨(b8 (encC l)).toArray⟩ : ByteArray) = t at CE hst
        clear hok heq
        go_wp2_with fail
        refine CE.out.mono ?_
        rintro e w3 ⟨rfl, hb3⟩
        have HO3 : Hid (w3.ownsRow w.heap.size 3 1 (.slice ao l.length cp) l.length (icN l)) := own_below HOW.out hb3
        have HB3 : Hid (Below w.heap.size w w3) := HB.out.trans (hb3.mono hsz)
        clear hb3
        go_wp2_with fail
        go_ret2
        exact ⟨decAns_some HY.out HO3.out rfl, HB3.out⟩
      · have HN : Hid (decC (sN s) = none) := by
          show _ = _
          cases hd : decC (sN s) with
          | none => rfl
          | some l' =>
            have h1 := HAL.out l' hd
            rw [h1] at hd
            exact absurd ((dec_iff _ _).1 hd).2 heq
        have hst := str_ne (fun h => heq ((sN_eq s (encC l) (fun c hc => by have := enc_ascii c hc; omega)).1 h))
        generalize (⟨(b8 (encC l)).toArray⟩ : ByteArray) = t at CE hst
        clear hok heq
        go_wp2_with fail
        refine CE.out.mono ?_
        rintro e w3 ⟨rfl, hb3⟩
        have hsz3 : w.heap.size ≤ w3.heap.size := Nat.le_trans hsz hb3.size
        have HB3 : Hid (Below w.heap.size w w3) := HB.out.trans (hb3.mono hsz)
        have HZ : Hid ((w3.alloc (.cells #[] 3)).ownsRow w.heap.size 3 1 (.slice (some ⟨w3.heap.size, 0, none⟩) 0 0) 0 []) := World.ownsRow_lit w3 #[] 0 hsz3 (by decide) rfl
        clear hb3
        go_wp2_with fail
        go_ret2
        exact ⟨decAns_none HN.out HZ.out rfl, HB3.out.alloc hsz3 _⟩
    · have HN : Hid (decC (sN s) = none) := by
        show _ = _
        cases hd : decC (sN s) with
        | none => rfl
        | some l' =>
          have h1 := HAL.out l' hd
          rw [h1] at hd
          exact absurd ((dec_iff _ _).1 hd).1 hok
      rw [if_neg hok, show encOk l = false by simpa using hok] at CE
      generalize (⟨(b8 []).toArray⟩ : ByteArray) = t at CE
      clear hok
      go_wp2_with fail
      refine CE.out.mono ?_
      rintro e w3 ⟨rfl, hb3⟩
      have hsz3 : w.heap.size ≤ w3.heap.size := Nat.le_trans hsz hb3.size
      have HB3 : Hid (Below w.heap.size w w3) := HB.out.trans (hb3.mono hsz)
      have HZ : Hid ((w3.alloc (.cells #[] 3)).ownsRow w.heap.size 3 1 (.slice (some ⟨w3.heap.size, 0, none⟩) 0 0) 0 []) := World.ownsRow_lit w3 #[] 0 hsz3 (by decide) rfl
      clear hb3
      go_wp2_with fail
      go_ret2
      exact ⟨decAns_none HN.out HZ.out rfl, HB3.out.alloc hsz3 _⟩

theorem implPunyDecode_big (s : ByteArray) (w : World) (hs : 600 < (s.size : Int)) :
    Calls Tryz.prog 135 #[.string s] w fun e w' => decAns w w' none e ∧ Below w.heap.size w w' := by
  go_enter Tryz.func135, Tryz.ntmps135
  go_wp2
  go_ret2
  exact ⟨decAns_none rfl (World.ownsRow_lit w #[] 0 (Nat.le_refl _) (by decide) rfl) rfl, (Below.refl _ _).alloc (Nat.le_refl _) _⟩
end Go.Proofs.YtamnhegianpedaaGreatDoor

namespace Go.Proofs.YtamnhegianpedaaGreatDoor
open Go.RowKit

theorem int_one (x : Int) : ∀ u ∈ #[Value.int .i64 x].toList, u.oneCell' = true := by
  intro u hu; simp at hu; subst hu; rfl

/-- A new row with the runes of s, and true; or an empty one, and false. -/
def RunesPost (s : ByteArray) (w : World) (e : Ending) (w' : World) : Prop :=
  ((finR s).1 = s.size ∧ ∃ v, e = .returned (.tuple #[v, .bool true]) ∧ w'.ownsRow w.heap.size 3 1 v (finR s).2.length (icells (finR s).2) ∧ Below w.heap.size w w') ∨
  ((finR s).1 ≠ s.size ∧ ∃ v, e = .returned (.tuple #[v, .bool false]) ∧ w'.ownsRow w.heap.size 3 1 v 0 (icells []) ∧ Below w.heap.size w w')

theorem runes_step (s : ByteArray) (k : Nat) (h1 : (stR s k).1 < s.size) (h2 : okAt s (stR s k).1) {w1 : World} {B : Nat} {v : Value} {e : TypeId} {x : Int} (hx : x = ((Utf8.decode s (stR s k).1).1 : Int))
    (hown : w1.ownsRow B e 1 v ((stR s k).2.length + 1) (icells (stR s k).2 ++ [.int .i64 x])) :
    w1.ownsRow B e 1 v (stR s (k + 1)).2.length (icells (stR s (k + 1)).2) := by
  subst hx
  rw [stR_step s k h1 h2]
  simp only
  rw [icells_snoc, List.length_append]
  exact hown

theorem own_not_iter {w : World} {B : Nat} {e : TypeId} {size : Nat} {v : Value} {n : Nat} {xs : List Value} {K : Nat} {s : ByteArray} {p : Nat} (h : w.ownsRow B e size v n xs) (hk : w.heap[K]? = some (.stringIter s p)) : some K ≠ v.ownBlock := by
  intro hx
  rcases h.2 with ⟨rfl, _⟩ | ⟨g, cap, cur, rfl, _, hg, _⟩
  · simp [Value.ownBlock] at hx
  · simp [Value.ownBlock] at hx
    subst hx
    rw [hk] at hg
    simp at hg

theorem own_iterAt {w : World} {B : Nat} {e : TypeId} {size : Nat} {v : Value} {n : Nat} {xs : List Value} {K : Nat} {s : ByteArray} {p : Nat} (h : w.ownsRow B e size v n xs) (hk : w.heap[K]? = some (.stringIter s p)) (p' : Nat) : (w.iterAt K s p').ownsRow B e size v n xs := by
  have hne := own_not_iter h hk
  refine ⟨h.1, ?_⟩
  rcases h.2 with hn | ⟨g, cap, cur, rfl, hb, hg, rest⟩
  · exact .inl hn
  · refine .inr ⟨g, cap, cur, rfl, hb, ?_, rest⟩
    have hgk : g ≠ K := by
      intro e
      subst e
      simp [Value.ownBlock] at hne
    rw [Lib.iterAt_other w K g s p' hgk]
    exact hg

set_option maxHeartbeats 2000000 in
theorem specRunes (s : ByteArray) (w : World) (hs : s.size ≤ 1048576) :
    Calls Tryz.prog 70 #[.string s] w fun e w' => RunesPost s w e w' := by
  go_enter Tryz.func70, Tryz.ntmps70
  go_wp2
  go_loopw [4, 5] (fun v i wr => ∃ k : Nat, i = .int .i64 ((stR s k).1 : Int) ∧ wr.ownsRow w.heap.size 3 1 v (stR s k).2.length (icells (stR s k).2) ∧ Below w.heap.size w wr)
    (fun _ i _ => s.size - (intOf i).toNat)
  case atStart => exact ⟨0, rfl, World.ownsRow_lit w #[] 0 (Nat.le_refl _) (by decide) rfl, (Below.refl _ _).alloc (Nat.le_refl _) _⟩
  case round =>
    obtain ⟨k, rfl, hown, hbel⟩ := hrel
    have hsz := hbel.size
    have hl := stR_len' s k
    have hle := stR_le s k
    have HS1 : Hid (∀ (h1 : (stR s k).1 < s.size) (h2 : okAt s (stR s k).1), (stR s (k + 1)).1 = (stR s k).1 + (Utf8.decode s (stR s k).1).2) := fun h1 h2 => by rw [stR_step s k h1 h2]
    have HST : Hid (¬ ((stR s k).1 < s.size ∧ okAt s (stR s k).1) → stR s k = finR s) := fun h => stR_fin s k h
    have HSP : Hid (∀ (h1 : (stR s k).1 < s.size) (h2 : okAt s (stR s k).1) (w1 : World) (v : Value) (x : Int) (hx : x = ((Utf8.decode s (stR s k).1).1 : Int)),
      w1.ownsRow w.heap.size 3 1 v ((stR s k).2.length + 1) (icells (stR s k).2 ++ [.int .i64 x]) → w1.ownsRow w.heap.size 3 1 v (stR s (k + 1)).2.length (icells (stR s (k + 1)).2)) :=
      fun h1 h2 w1 v x hx h => runes_step s k h1 h2 hx h
    have HP : Hid ((stR s k).1 = (stR s k).1) := rfl
    by_cases hlt : (stR s k).1 < s.size
    · have hw := Lib.decode_width_pos s (stR s k).1 hlt
      by_cases hok : okAt s (stR s k).1
      · have hr : runeAt s (stR s k).1 = (((Utf8.decode s (stR s k).1).1 : Int), ((Utf8.decode s (stR s k).1).2 : Int)) := by unfold runeAt; rw [if_pos hok]
        have hw4 : (stR s k).1 + (Utf8.decode s (stR s k).1).2 ≤ s.size := by rw [← HS1.out hlt hok]; exact stR_le s (k + 1)
        have HOK : Hid (okAt s (stR s k).1) := hok
        have cr := specL1Rune s (stR s k).1
        rw [hr] at cr
        have CR : Hid (∀ (W : World) (_ : (stR s k).1 < s.size) (_ : s.size ≤ 1099511627776), Calls Tryz.prog 84 #[.string s, .int .i64 ((stR s k).1 : Int)] W fun e w' => e = .returned (.tuple #[.int .i64 ((Utf8.decode s (stR s k).1).1 : Int), .int .i64 ((Utf8.decode s (stR s k).1).2 : Int)]) ∧ Below W.heap.size W w') := cr
        clear hok hr cr HST
        have H1 : Hid ((stR s (k + 1)).1 = (stR s k).1 + (Utf8.decode s (stR s k).1).2) := HS1.out hlt HOK.out
        have H2 : Hid (∀ (w1 : World) (v : Value), w1.ownsRow w.heap.size 3 1 v ((stR s k).2.length + 1) (icells (stR s k).2 ++ [.int .i64 ((Utf8.decode s (stR s k).1).1 : Int)]) → w1.ownsRow w.heap.size 3 1 v (stR s (k + 1)).2.length (icells (stR s (k + 1)).2)) :=
          fun w1 v h => HSP.out hlt HOK.out w1 v _ rfl h
        clear HS1 HSP HP
        generalize (Utf8.decode s (stR s k).1).1 = R at *
        generalize (Utf8.decode s (stR s k).1).2 = W at *
        generalize hp : (stR s k).1 = p at *
        generalize (stR s k).2 = l at *
        have HPP : Hid ((stR s k).1 = p) := hp
        clear hp
        have hne : ((W : Int) == 0) = false := by simp; omega
        go_wp2_with fail
        refine (CR.out _ hlt (by omega)).mono ?_
        rintro e wc ⟨rfl, hbc⟩
        have hown2 := own_below hown hbc
        have hsc := hbc.size
        go_wp2_with (at_builtin; refine wpList_append_new _ rfl _ _ 67 rfl w.heap.size 3 (.int .i64 0) 8 Tryz.underlying67 Tryz.infoInt rfl _ _ _ rfl hown2 #[.int .i64 (R : Int)] 1 rfl rfl (int_one _) (by omega) (by unfold maxLen; omega) (by omega) ?_)
        intro v' w1 hown' hb1
        have R1 := H2.out w1 v' hown'
        have B1 : Below w.heap.size w w1 := (hbel.trans (hbc.mono hsz)).trans hb1
        clear hown' hb1 hown hbel hown2 hbc
        go_wp2
        go_roundw
        case rel => exact ⟨k + 1, by rw [H1.out]; go_num, R1, B1⟩
        case measure => simp [intOf]; omega
      · have hr : runeAt s (stR s k).1 = (0, 0) := by unfold runeAt; rw [if_neg hok]
        have HF : Hid (stR s k = finR s) := HST.out (fun h => hok h.2)
        have cr := specL1Rune s (stR s k).1
        rw [hr] at cr
        have CR : Hid (∀ (W : World) (_ : (stR s k).1 < s.size) (_ : s.size ≤ 1099511627776), Calls Tryz.prog 84 #[.string s, .int .i64 ((stR s k).1 : Int)] W fun e w' => e = .returned (.tuple #[.int .i64 0, .int .i64 0]) ∧ Below W.heap.size W w') := cr
        clear hok hr cr HST HS1 HSP HP hw
        have HN : Hid ((finR s).1 ≠ s.size) := by show _ ≠ _; rw [← HF.out]; omega
        generalize (stR s k).1 = p at *
        clear HF
        go_wp2_with fail
        refine (CR.out _ hlt (by omega)).mono ?_
        rintro e wc ⟨rfl, hbc⟩
        have hsc := hbc.size
        have B1 : Below w.heap.size w (wc.alloc (.cells #[] 3)) := (hbel.trans (hbc.mono hsz)).alloc (by omega) _
        have O1 : (wc.alloc (.cells #[] 3)).ownsRow w.heap.size 3 1 (.slice (some ⟨wc.heap.size, 0, none⟩) 0 0) 0 (icells []) := World.ownsRow_lit wc #[] 0 (by omega) (by decide) rfl
        go_wp2
        go_ret2
        exact .inr ⟨HN.out, _, rfl, O1, B1⟩
    · have HF : Hid (stR s k = finR s) := HST.out (fun h => hlt h.1)
      have HN : Hid ((finR s).1 = s.size) := by show _ = _; rw [← HF.out]; omega
      have O1 : wr.ownsRow w.heap.size 3 1 u4 (finR s).2.length (icells (finR s).2) := by rw [← HF.out]; exact hown
      clear HF HST HS1 HSP HP hown
      generalize (stR s k).1 = p at *
      go_wp2
      go_ret2
      exact .inl ⟨HN.out, _, rfl, O1, hbel⟩

set_option maxHeartbeats 2000000 in
theorem implRunes (s : ByteArray) (w : World) (hs : s.size ≤ 1048576) (hT : Lib.Utf8Tabs 2 3 w) :
    Calls Tryz.prog 131 #[.string s] w fun e w' => RunesPost s w e w' := by
  obtain ⟨i0, hi, hz0, hz1, hz2⟩ := info_parts Tryz.infoInt
  have cv := Any.utf8_ValidString Tryz.lays196 s w (by omega) hT
  have CV : Hid (Calls Tryz.prog 149 #[.string s] w fun e w' => e = .returned (.bool (Lib.validD s.data.toList)) ∧ Below w.heap.size w w') := cv
  clear cv hT
  by_cases hv : Lib.validD s.data.toList = true
  · have HV : Hid (Lib.validD s.data.toList = true) := hv
    have HN : Hid ((finR s).1 = s.size) := (valid_iff s).1 hv
    have CV2 : Hid (Calls Tryz.prog 149 #[.string s] w fun e w' => e = .returned (.bool true) ∧ Below w.heap.size w w') := by have h := CV.out; rw [hv] at h; exact h
    have hrc := Lib.runeCount_le s
    clear hv CV
    go_enter Tryz.func131, Tryz.ntmps131
    go_wp2_with fail
    refine CV2.out.mono ?_
    rintro e wa ⟨rfl, ba⟩
    go_wp2_with fail
    refine (Tryz.utf8_RuneCountInString s _ (by omega)).mono ?_
    rintro e wb ⟨rfl, pos, hwb⟩
    have bb : Below wa.heap.size wa wb := by rw [hwb]; exact (Below.refl _ _).alloc (Nat.le_refl _) _
    have za := ba.size
    have Bb : Below w.heap.size w wb := ba.trans (bb.mono za)
    clear hwb bb ba pos
    have zb := Bb.size
    generalize Lib.runeCount s = rc at *
    go_wp2_with (at_make; refine wpList_make_own _ rfl _ _ 67 rfl w.heap.size 3 i0 (.int .i64 0) 1 Tryz.underlying67 hi hz0 hz1 _ _ _ rc rfl rfl (by omega) (by rw [hz2]; omega) (by unfold maxLen; omega) zb ?_)
    intro wm hmo hgm
    have Bm : Below w.heap.size w wm := Bb.grown hgm zb (fun k hk => by cases hk)
    have zm := Bm.size
    have hit : (wm.iter s 0).heap[wm.heap.size]? = some (.stringIter s 0) := World.iter_heap wm s 0
    have Bi : Below w.heap.size w (wm.iter s 0) := Bm.alloc zm _
    have oi : (wm.iter s 0).ownsRow w.heap.size 3 1 (.slice (some ⟨wb.heap.size, 0, none⟩) 0 rc) 0 [] := hmo.alloc _
    clear hgm hmo Bb Bm
    have HK : Hid (w.heap.size ≤ wm.heap.size) := zm
    go_wp2_with fail
    generalize wm.heap.size = K at hit HK ⊢
    go_loopw [4] (fun v wr => ∃ k : Nat, wr.heap[K]? = some (.stringIter s (stR s k).1) ∧ wr.ownsRow w.heap.size 3 1 v (stR s k).2.length (icells (stR s k).2) ∧ Below w.heap.size w wr)
      (fun _ wr => s.size - wr.iterPos K)
    case atStart => exact ⟨0, hit, oi, Bi⟩
    case round =>
      obtain ⟨k, hk, hown, hbel⟩ := hrel
      clear hit oi Bi
      have hsz := hbel.size
      have hl := stR_len' s k
      have hle := stR_le s k
      by_cases hlt : (stR s k).1 < s.size
      · have hok := valid_ok s HV.out k hlt
        have H1 : Hid ((stR s (k + 1)).1 = (stR s k).1 + (Utf8.decode s (stR s k).1).2) := by show _ = _; rw [stR_step s k hlt hok]
        have H2 : Hid (∀ (w1 : World) (v : Value), w1.ownsRow w.heap.size 3 1 v ((stR s k).2.length + 1) (icells (stR s k).2 ++ [.int .i64 ((Utf8.decode s (stR s k).1).1 : Int)]) → w1.ownsRow w.heap.size 3 1 v (stR s (k + 1)).2.length (icells (stR s (k + 1)).2)) :=
          fun w1 v h => runes_step s k hlt hok rfl h
        have hw := Lib.decode_width_pos s (stR s k).1 hlt
        have hr31 := decode_le s (stR s k).1
        have hnx := fun ty => Lib.run_next_any_at (P := Tryz.prog) wr K s (stR s k).1 ty hk hlt
        have hk2 := Lib.iterAt_heap wr K s (stR s k).1 ((stR s k).1 + (Utf8.decode s (stR s k).1).2) hk
        have hown2 := own_iterAt hown hk ((stR s k).1 + (Utf8.decode s (stR s k).1).2)
        have hneK : some K ≠ u4.ownBlock := own_not_iter hown hk
        have hbel2 := Lib.below_iterAt hbel HK.out s ((stR s k).1 + (Utf8.decode s (stR s k).1).2)
        have hKlt : K < wr.heap.size := (Array.getElem?_eq_some_iff.1 hk).1
        have HI : Hid (wr.iterPos K = (stR s k).1) := by show _ = _; unfold World.iterPos; rw [hk]
        generalize (Utf8.decode s (stR s k).1).1 = R at *
        generalize (Utf8.decode s (stR s k).1).2 = W at *
        have HNK : Hid (some K ≠ u4.ownBlock) := hneK
        clear hok hneK hown hbel
        generalize hp : (stR s k).1 = p at *
        generalize (stR s k).2 = l at *
        have HPP : Hid ((stR s k).1 = p) := hp
        clear hp
        have zi : (wr.iterAt K s (p + W)).heap.size = wr.heap.size := Lib.iterAt_size wr K s (p + W)
        have HZI : Hid ((wr.iterAt K s (p + W)).heap.size = wr.heap.size) := zi
        have hz3 : w.heap.size ≤ (wr.iterAt K s (p + W)).heap.size := by omega
        have hK3 : K < (wr.iterAt K s (p + W)).heap.size := by omega
        clear zi hk
        generalize wr.iterAt K s (p + W) = wi at *
        go_wp2_with (at_builtin; refine wpList_append_newG _ rfl _ _ 67 rfl w.heap.size 3 (.int .i64 0) 8 Tryz.underlying67 Tryz.infoInt rfl _ _ _ rfl hown2 #[.int .i64 (R : Int)] 1 rfl rfl (int_one _) (by omega) (by unfold maxLen; omega) hz3 ?_)
        intro v' w1 hown' hb1 hkeep
        have R1 := H2.out w1 v' hown'
        have B1 : Below w.heap.size w w1 := hbel2.trans hb1
        have K1 : w1.heap[K]? = some (.stringIter s (p + W)) := (hkeep K hK3 HNK.out).trans hk2
        have HI1 : Hid (w1.iterPos K = p + W) := by show _ = _; unfold World.iterPos; rw [K1]
        clear hown' hb1 hown2 hbel2 hkeep hk2
        go_wp2
        go_roundw
        case rel => exact ⟨k + 1, by rw [H1.out]; exact K1, R1, B1⟩
        case measure =>
          have a := HI.out
          have b := HI1.out
          simp only [a, b]
          omega
      · have HF : Hid (stR s k = finR s) := stR_fin s k (fun h => hlt h.1)
        have hnx := fun ty => Lib.run_next_end_at (P := Tryz.prog) wr K s (stR s k).1 ty hk hlt
        have O1 : wr.ownsRow w.heap.size 3 1 u4 (finR s).2.length (icells (finR s).2) := by rw [← HF.out]; exact hown
        clear HF hown
        go_wp2
        go_ret2
        exact .inl ⟨HN.out, _, rfl, O1, hbel⟩
  · have HN : Hid ((finR s).1 ≠ s.size) := fun h => hv ((valid_iff s).2 h)
    have CV2 : Hid (Calls Tryz.prog 149 #[.string s] w fun e w' => e = .returned (.bool false) ∧ Below w.heap.size w w') := by
      have h := CV.out
      rw [Bool.not_eq_true] at hv
      rw [hv] at h
      exact h
    clear hv CV
    go_enter Tryz.func131, Tryz.ntmps131
    go_wp2_with fail
    refine CV2.out.mono ?_
    rintro e wa ⟨rfl, ba⟩
    have za := ba.size
    have B1 : Below w.heap.size w (wa.alloc (.cells #[] 3)) := ba.alloc za _
    have O1 : (wa.alloc (.cells #[] 3)).ownsRow w.heap.size 3 1 (.slice (some ⟨wa.heap.size, 0, none⟩) 0 0) 0 (icells []) := World.ownsRow_lit wa #[] 0 za (by decide) rfl
    go_wp2
    go_ret2
    exact .inr ⟨HN.out, _, rfl, O1, B1⟩
end Go.Proofs.YtamnhegianpedaaGreatDoor

namespace Go.Proofs.YtamnhegianpedaaGreatDoor
open Go.RowKit

theorem decC_big (s : ByteArray) (h : 600 < (s.size : Int)) : decC (sN s) = none := by
  cases hd : decC (sN s) with
  | none => rfl
  | some l =>
    obtain ⟨hok, he⟩ := (dec_iff _ _).1 hd
    have := encC_600 hok
    rw [he, sN_length] at this
    omega

theorem specDecBig (s : ByteArray) (w : World) (h : 600 < (s.size : Int)) :
    Calls Tryz.prog 89 #[.string s] w fun e w' => decAns w w' none e ∧ Below w.heap.size w w' := by
  go_enter Tryz.func89, Tryz.ntmps89
  go_wp2
  go_ret2
  exact ⟨decAns_none rfl (World.ownsRow_lit w #[] 0 (Nat.le_refl _) (by decide) rfl) rfl, (Below.refl _ _).alloc (Nat.le_refl _) _⟩

theorem specDecAll (s : ByteArray) (w : World) : Calls Tryz.prog 89 #[.string s] w fun e w' => decAns w w' (decC (sN s)) e ∧ Below w.heap.size w w' := by
  by_cases h : (s.size : Int) ≤ 600
  · exact specPunyDecode s w h
  · rw [decC_big s (by omega)]
    exact specDecBig s w (by omega)
theorem implDecAll (s : ByteArray) (w : World) : Calls Tryz.prog 135 #[.string s] w fun e w' => decAns w w' (decC (sN s)) e ∧ Below w.heap.size w w' := by
  by_cases h : (s.size : Int) ≤ 600
  · exact implPunyDecode s w h
  · rw [decC_big s (by omega)]
    exact implPunyDecode_big s w (by omega)

theorem nats_runes {zl : List Int} (h : allOk zl) : zl = (zl.map Int.toNat).map (fun (c : Nat) => (c : Int)) := by
  rw [List.map_map]
  refine (List.map_id zl).symm.trans (List.map_congr_left fun z hz => ?_)
  have := (h z hz).1
  show z = ((z.toNat : Nat) : Int)
  omega
theorem encOk_yes {zl : List Int} (h : allOk zl) (h2 : zl.length ≤ 60) : encOk (zl.map Int.toNat) = true := by
  rw [encOk_Z, ← nats_runes h]
  exact ⟨h2, h⟩
theorem encOk_no {zl : List Int} (h2 : ¬ zl.length ≤ 60) : encOk (zl.map Int.toNat) = false := by
  unfold encOk
  rw [List.length_map, decide_eq_false h2]
  rfl

/-- What PunyEncode answers of right runes. -/
def encAns (zl : List Int) : Value := if zl.length ≤ 60 then .tuple #[.string ⟨(b8 (encC (zl.map Int.toNat))).toArray⟩, .bool true] else .tuple #[.string ⟨#[]⟩, .bool false]

theorem specEncRunes (zl : List Int) (v : Value) (B : Nat) (w : World) (hk : allOk zl) (hl : zl.length ≤ 1048576) (h : w.ownsRow B 3 1 v zl.length (icells zl)) :
    Calls Tryz.prog 71 #[v] w fun e w' => e = .returned (encAns zl) ∧ Below w.heap.size w w' := by
  by_cases h2 : zl.length ≤ 60
  · have e : encAns zl = .tuple #[.string ⟨(b8 (encC (zl.map Int.toNat))).toArray⟩, .bool true] := if_pos h2
    rw [e]
    refine specEncAll (zl.map Int.toNat) v B w (encOk_yes hk h2) ?_
    unfold icN
    rw [← nats_runes hk, List.length_map]
    exact h
  · have e : encAns zl = .tuple #[.string ⟨#[]⟩, .bool false] := if_neg h2
    rw [e]
    rcases own_shape h with ⟨h0, _⟩ | ⟨_, g, cap, rfl⟩
    · omega
    · exact specPunyEncode_no zl zl.length g cap B w (fun hh => h2 hh.1) rfl hl h
theorem implEncRunes (zl : List Int) (v : Value) (B : Nat) (w : World) (hk : allOk zl) (hl : zl.length ≤ 1048576) (h : w.ownsRow B 3 1 v zl.length (icells zl)) :
    Calls Tryz.prog 132 #[v] w fun e w' => e = .returned (encAns zl) ∧ Below w.heap.size w w' := by
  have hr : w.ownsRow B 3 1 v (zl.map Int.toNat).length (icN (zl.map Int.toNat)) := by
    unfold icN
    rw [← nats_runes hk, List.length_map]
    exact h
  have hc := implEncAll (zl.map Int.toNat) v B w (by rw [List.length_map]; exact hl) hr
  by_cases h2 : zl.length ≤ 60
  · have e : encAns zl = .tuple #[.string ⟨(b8 (encC (zl.map Int.toNat))).toArray⟩, .bool true] := if_pos h2
    rw [e]
    rw [encOk_yes hk h2, if_pos rfl] at hc
    exact hc
  · have e : encAns zl = .tuple #[.string ⟨#[]⟩, .bool false] := if_neg h2
    rw [e]
    rw [encOk_no h2, if_neg (by decide)] at hc
    exact hc

/-- The runes of a text of runes are right ones. -/
theorem fin_allOk (s : ByteArray) (h : (finR s).1 = s.size) : allOk (finR s).2 := (fin_back s h).1
theorem fin_len (s : ByteArray) : (finR s).2.length ≤ s.size := stR_len s s.size

theorem isXn_cut (s : ByteArray) : Lib.hasPrefix s.data.toList xn = isXn s.data.toList := rfl
theorem trim_xn {l : List UInt8} (h : isXn l = true) : Lib.trimPrefix l xn = l.drop 4 := by
  have h' : Lib.hasPrefix l xn = true := h
  unfold Lib.trimPrefix
  rw [if_pos h']
  rfl
theorem trim_no {l : List UInt8} (h : isXn l = false) : Lib.trimPrefix l xn = l := by
  have h' : Lib.hasPrefix l xn = false := h
  unfold Lib.trimPrefix
  rw [if_neg (by rw [h']; decide)]

/-- The runes of a coded label. -/
def codeR (l : List UInt8) : Option (List Nat) := if isXn l = true then decC (nat8 (l.drop 4)) else none

theorem implCodeOk (s : ByteArray) (w : World) :
    Calls Tryz.prog 118 #[.string s] w fun e w' => e = .returned (.bool (!(isXn s.data.toList) || (codeR s.data.toList).isSome)) ∧ Below w.heap.size w w' := by
  have CP := Tryz.strings_CutPrefix s ⟨#[120, 110, 45, 45]⟩ w
  have CP' : Hid (Calls Tryz.prog 134 #[.string s, .string ⟨#[120, 110, 45, 45]⟩] w fun e w' => e = .returned (.tuple #[.string ⟨(Lib.trimPrefix s.data.toList xn).toArray⟩, .bool (isXn s.data.toList)]) ∧ w' = w) := CP
  clear CP
  cases hx : isXn s.data.toList with
  | false =>
    rw [hx, trim_no hx] at CP'
    clear hx
    go_enter Tryz.func118, Tryz.ntmps118
    go_wp2_with fail
    refine CP'.out.mono ?_
    rintro e w' ⟨rfl, rfl⟩
    go_wp2_with fail
    go_ret
    exact ⟨rfl, Below.refl _ _⟩
  | true =>
    rw [hx, trim_xn hx] at CP'
    have CD : Hid (∀ W, Calls Tryz.prog 135 #[.string ⟨(s.data.toList.drop 4).toArray⟩] W fun e w' => decAns W w' (codeR s.data.toList) e ∧ Below W.heap.size W w') := fun W => by
      have h := implDecAll ⟨(s.data.toList.drop 4).toArray⟩ W
      have e : decC (sN ⟨(s.data.toList.drop 4).toArray⟩) = codeR s.data.toList := by
        unfold codeR
        rw [if_pos hx]
        rfl
      rw [e] at h
      exact h
    clear hx
    go_enter Tryz.func118, Tryz.ntmps118
    go_wp2_with fail
    refine CP'.out.mono ?_
    rintro e w' ⟨rfl, rfl⟩
    go_wp2_with fail
    refine (CD.out _).mono ?_
    rintro e wa ⟨hd, ba⟩
    cases hr : codeR s.data.toList with
    | some l =>
      rw [hr] at hd
      obtain ⟨v, rfl, _⟩ := hd
      have HR : Hid (codeR s.data.toList = some l) := hr
      clear hr CD CP'
      go_wp2_with fail
      go_ret
      exact ⟨ret_bool (by rw [HR.out]; rfl), ba⟩
    | none =>
      rw [hr] at hd
      obtain ⟨v, rfl, _⟩ := hd
      have HR : Hid (codeR s.data.toList = none) := hr
      clear hr CD CP'
      go_wp2_with fail
      go_ret
      exact ⟨ret_bool (by rw [HR.out]; rfl), ba⟩

/-- Of a text of at most sixty runes. -/
theorem implCodeLabel_yes (s : ByteArray) (w : World) (hs : s.size ≤ 1048576) (hT : Lib.Utf8Tabs 2 3 w) (h1 : (finR s).1 = s.size) (h2 : (finR s).2.length ≤ 60) :
    Calls Tryz.prog 116 #[.string s] w fun e w' => e = .returned (.tuple #[.string ⟨(xn ++ b8 (encC ((finR s).2.map Int.toNat))).toArray⟩, .bool true]) ∧ Below w.heap.size w w' := by
  have CR : Hid (Calls Tryz.prog 131 #[.string s] w fun e w' => RunesPost s w e w') := implRunes s w hs hT
  have HA : Hid (allOk (finR s).2) := fin_allOk s h1
  have HL : Hid ((finR s).2.length ≤ 1048576) := by have := fin_len s; show _ ≤ _; omega
  have HE : Hid (encAns (finR s).2 = .tuple #[.string ⟨(b8 (encC ((finR s).2.map Int.toNat))).toArray⟩, .bool true]) := if_pos h2
  have HX : Hid ((⟨#[120, 110, 45, 45]⟩ : ByteArray) ++ ⟨(b8 (encC ((finR s).2.map Int.toNat))).toArray⟩ = ⟨(xn ++ b8 (encC ((finR s).2.map Int.toNat))).toArray⟩) := by
    show _ = _
    apply ByteArray.ext
    rw [ByteArray.data_append]
    apply Array.toList_inj.1
    simp [xn]
  have hz : (⟨(b8 (encC ((finR s).2.map Int.toNat))).toArray⟩ : ByteArray).size ≤ 600 := by
    show (b8 (encC ((finR s).2.map Int.toNat))).toArray.size ≤ 600
    rw [List.size_toArray, b8_length]
    exact encC_600 (encOk_yes HA.out h2)
  obtain ⟨T, hTT⟩ : ∃ T : ByteArray, ⟨(b8 (encC ((finR s).2.map Int.toNat))).toArray⟩ = T := ⟨_, rfl⟩
  rw [hTT] at HE HX hz
  clear hT h2 hTT
  go_enter Tryz.func116, Tryz.ntmps116
  go_wp2_with fail
  refine CR.out.mono ?_
  rintro e wa (⟨_, va, rfl, oa, ba⟩ | ⟨hn, _⟩)
  · go_wp2_with fail
    refine (implEncRunes _ _ _ _ HA.out HL.out oa).mono ?_
    rintro e wb ⟨rfl, bb⟩
    rw [HE.out]
    have B := ba.trans (bb.mono ba.size)
    clear oa ba bb CR
    go_wp2_with fail
    go_ret2
    refine ⟨?_, B⟩
    rw [← HX.out]
    rfl
  · exact absurd h1 hn

theorem implCodeLabel_no (s : ByteArray) (w : World) (hs : s.size ≤ 1048576) (hT : Lib.Utf8Tabs 2 3 w) (h : ¬ ((finR s).1 = s.size ∧ (finR s).2.length ≤ 60)) :
    Calls Tryz.prog 116 #[.string s] w fun e w' => (∃ t : ByteArray, e = .returned (.tuple #[.string t, .bool false])) ∧ Below w.heap.size w w' := by
  have CR : Hid (Calls Tryz.prog 131 #[.string s] w fun e w' => RunesPost s w e w') := implRunes s w hs hT
  have HA : Hid ((finR s).1 = s.size → allOk (finR s).2) := fun h1 => fin_allOk s h1
  have HL : Hid ((finR s).2.length ≤ 1048576) := by have := fin_len s; show _ ≤ _; omega
  have HE : Hid ((finR s).1 = s.size → encAns (finR s).2 = .tuple #[.string ⟨#[]⟩, .bool false]) := fun h1 => if_neg (fun h2 => h ⟨h1, h2⟩)
  clear hT h
  go_enter Tryz.func116, Tryz.ntmps116
  go_wp2_with fail
  refine CR.out.mono ?_
  rintro e wa (⟨h1, va, rfl, oa, ba⟩ | ⟨_, va, rfl, _, ba⟩)
  · go_wp2_with fail
    refine (implEncRunes _ _ _ _ (HA.out h1) HL.out oa).mono ?_
    rintro e wb ⟨rfl, bb⟩
    rw [HE.out h1]
    have B := ba.trans (bb.mono ba.size)
    clear oa ba bb CR
    go_wp2_with fail
    go_ret2
    exact ⟨⟨_, rfl⟩, B⟩
  · clear CR
    go_wp2_with fail
    go_ret2
    exact ⟨⟨_, rfl⟩, ba⟩
end Go.Proofs.YtamnhegianpedaaGreatDoor

namespace Go.Proofs.YtamnhegianpedaaGreatDoor
open Go.RowKit

set_option maxHeartbeats 1000000 in
theorem specLabelOk (s : ByteArray) (w : World) (hs : s.size ≤ maxLen) :
    Calls Tryz.prog 72 #[.string s] w fun e w' => e = .returned (.bool (labL s.data.toList)) ∧ w = w' := by
  unfold maxLen at hs
  have HV : Hid (∀ b : Bool, labL s.data.toList = b → (.returned (.bool b) : Ending) = .returned (.bool (labL s.data.toList))) := fun b h => by rw [h]
  by_cases hr : 1 ≤ s.size ∧ s.size ≤ 63
  · have hr1 : 1 ≤ (s.size : Int) := by omega
    have hr2 : (s.size : Int) ≤ 63 := by omega
    by_cases h0 : (s[0]'(by omega)).toNat = 45
    · have HF : Hid (labL s.data.toList = false) := lab_head s (by omega) h0
      go_enter Tryz.func72, Tryz.ntmps72
      go_wp2_with fail
      refine (labIn_yes _ _ _ _ hr1 hr2).mono ?_
      rintro e w' ⟨rfl, rfl⟩
      go_wp2_with fail
      go_ret
      exact ⟨HV.out _ HF.out, rfl⟩
    · by_cases h1 : (s[s.size - 1]'(by omega)).toNat = 45
      · have HF : Hid (labL s.data.toList = false) := lab_last s (by omega) h1
        go_enter Tryz.func72, Tryz.ntmps72
        go_wp2_with fail
        refine (labIn_yes _ _ _ _ hr1 hr2).mono ?_
        rintro e w' ⟨rfl, rfl⟩
        go_wp2_with fail
        go_ret
        exact ⟨HV.out _ HF.out, rfl⟩
      · have q0 : (((s[0]'(by omega)).toNat : Int) == 45) = false := beq_eq_false_iff_ne.2 (by omega)
        have q1 : (((s[s.size - 1]'(by omega)).toNat : Int) == 45) = false := beq_eq_false_iff_ne.2 (by omega)
        have HY : Hid ((∀ c ∈ s.data.toList.take s.size, labB c = true) → labL s.data.toList = true) := lab_yes s hr h0 h1
        clear h0 h1
        go_enter Tryz.func72, Tryz.ntmps72
        go_wp2_with fail
        refine (labIn_yes _ _ _ _ hr1 hr2).mono ?_
        rintro e w' ⟨rfl, rfl⟩
        go_wp2_with fail
        go_loop [4] (fun i => ∃ k : Nat, k ≤ s.size ∧ i = .int .i64 k ∧ ∀ c ∈ s.data.toList.take k, labB c = true) (fun i => s.size - (intOf i).toNat)
        case atStart => exact ⟨0, Nat.zero_le _, rfl, fun c h => by simp at h⟩
        case round =>
          obtain ⟨k, hk, rfl, hall⟩ := hrel
          have HA : Hid (∀ c ∈ s.data.toList.take k, labB c = true) := hall
          clear hall
          by_cases hlt : k < s.size
          · obtain ⟨d, hd⟩ : ∃ d : Nat, s[k].toNat = d := ⟨_, rfl⟩
            have hd1 : (d : Int) ≤ 255 := by have := s[k].toNat_lt; omega
            have HS : Hid ((97 ≤ d ∧ d ≤ 122) ∨ (48 ≤ d ∧ d ≤ 57) ∨ d = 45 → ∀ c ∈ s.data.toList.take (k + 1), labB c = true) := fun hc => lab_take s k hlt d hd hc HA.out
            have HN : Hid (¬ ((97 ≤ d ∧ d ≤ 122) ∨ (48 ≤ d ∧ d ≤ 57) ∨ d = 45) → labL s.data.toList = false) := fun hc => lab_byte s k hlt (by rw [hd]; exact hc)
            by_cases ha : 97 ≤ d ∧ d ≤ 122
            · go_wp2_with fail
              refine (labIn_yes _ _ _ _ (by omega) (by omega)).mono ?_
              rintro e w' ⟨rfl, rfl⟩
              go_wp2_with fail
              go_round
              case rel => exact ⟨k + 1, by omega, by go_num, HS.out (by omega)⟩
              case measure => simp [intOf]; omega
            · by_cases hn : 48 ≤ d ∧ d ≤ 57
              · go_wp2_with fail
                refine (labIn_no _ _ _ _ (by omega)).mono ?_
                rintro e w' ⟨rfl, rfl⟩
                go_wp2_with fail
                refine (labIn_yes _ _ _ _ (by omega) (by omega)).mono ?_
                rintro e w' ⟨rfl, rfl⟩
                go_wp2_with fail
                go_round
                case rel => exact ⟨k + 1, by omega, by go_num, HS.out (by omega)⟩
                case measure => simp [intOf]; omega
              · by_cases hm : d = 45
                · subst hm
                  clear hn ha
                  go_wp2_with fail
                  refine (labIn_no _ _ _ _ (by omega)).mono ?_
                  rintro e w' ⟨rfl, rfl⟩
                  go_wp2_with fail
                  refine (labIn_no _ _ _ _ (by omega)).mono ?_
                  rintro e w' ⟨rfl, rfl⟩
                  go_wp2_with fail
                  go_round
                  case rel => exact ⟨k + 1, by omega, by go_num, HS.out (.inr (.inr trivial))⟩
                  case measure => simp [intOf]; omega
                · have hm' : ¬ (d : Int) = 45 := by omega
                  go_wp2_with fail
                  refine (labIn_no _ _ _ _ (by omega)).mono ?_
                  rintro e w' ⟨rfl, rfl⟩
                  go_wp2_with fail
                  refine (labIn_no _ _ _ _ (by omega)).mono ?_
                  rintro e w' ⟨rfl, rfl⟩
                  go_wp2_with fail
                  go_ret
                  exact ⟨HV.out _ (HN.out (by omega)), rfl⟩
          · have hks : k = s.size := by omega
            subst hks
            go_wp2_with fail
            go_ret
            exact ⟨HV.out _ (HY.out HA.out), rfl⟩
  · have HF : Hid (labL s.data.toList = false) := lab_size s hr
    have hr1 : (s.size : Int) < 1 ∨ 63 < (s.size : Int) := by omega
    go_enter Tryz.func72, Tryz.ntmps72
    go_wp2_with fail
    refine (labIn_no _ _ _ _ hr1).mono ?_
    rintro e w' ⟨rfl, rfl⟩
    go_wp2_with fail
    go_ret
    exact ⟨HV.out _ HF.out, rfl⟩

theorem labIsDigit (d : Nat) (w : World) (hd : (d : Int) ≤ 255) :
    Calls Tryz.prog 138 #[.int .u8 d] w fun e w' => e = .returned (.bool (decide (48 ≤ (d : Int)) && decide ((d : Int) ≤ 57))) ∧ w = w' := by
  by_cases h1 : 48 ≤ (d : Int)
  · go_enter Tryz.func138, Tryz.ntmps138
    go_wp2
    go_ret
    exact ⟨ret_bool (by simp; omega), rfl⟩
  · go_enter Tryz.func138, Tryz.ntmps138
    go_wp2
    go_ret
    exact ⟨ret_bool (by simp; omega), rfl⟩

def labD (d : Nat) : Bool := decide ((97 ≤ d ∧ d ≤ 122) ∨ (48 ≤ d ∧ d ≤ 57) ∨ d = 45)

set_option maxHeartbeats 1000000 in
theorem implIsLabelByte (d : Nat) (w : World) (hd : (d : Int) ≤ 255) :
    Calls Tryz.prog 133 #[.int .u8 d] w fun e w' => e = .returned (.bool (labD d)) ∧ w = w' := by
  have HV : Hid (∀ b : Bool, labD d = b → (.returned (.bool b) : Ending) = .returned (.bool (labD d))) := fun b h => by rw [h]
  by_cases hm : (d : Int) = 45
  · go_enter Tryz.func133, Tryz.ntmps133
    go_wp2_with fail
    go_ret
    exact ⟨HV.out _ (decide_eq_true (by omega)), rfl⟩
  · by_cases hn : 48 ≤ d ∧ d ≤ 57
    · have HC : Hid (Calls Tryz.prog 138 #[.int .u8 d] w fun e w' => e = .returned (.bool true) ∧ w = w') := by
        have := labIsDigit d w hd
        rw [decide_eq_true (show 48 ≤ (d : Int) by omega), decide_eq_true (show (d : Int) ≤ 57 by omega)] at this
        exact this
      go_enter Tryz.func133, Tryz.ntmps133
      go_wp2_with fail
      refine HC.out.mono ?_
      rintro e w' ⟨rfl, rfl⟩
      go_wp2_with fail
      go_ret
      exact ⟨HV.out _ (decide_eq_true (by omega)), rfl⟩
    · have HC : Hid (Calls Tryz.prog 138 #[.int .u8 d] w fun e w' => e = .returned (.bool false) ∧ w = w') := by
        have := labIsDigit d w hd
        have e : (decide (48 ≤ (d : Int)) && decide ((d : Int) ≤ 57)) = false := by simp; omega
        rw [e] at this
        exact this
      by_cases h1 : 97 ≤ (d : Int)
      · by_cases h2 : (d : Int) ≤ 122
        · go_enter Tryz.func133, Tryz.ntmps133
          go_wp2_with fail
          refine HC.out.mono ?_
          rintro e w' ⟨rfl, rfl⟩
          go_wp2_with fail
          go_ret
          exact ⟨HV.out _ (decide_eq_true (by omega)), rfl⟩
        · go_enter Tryz.func133, Tryz.ntmps133
          go_wp2_with fail
          refine HC.out.mono ?_
          rintro e w' ⟨rfl, rfl⟩
          go_wp2_with fail
          go_ret
          exact ⟨HV.out _ (by unfold labD; rw [Bool.eq_iff_iff]; simp; omega), rfl⟩
      · go_enter Tryz.func133, Tryz.ntmps133
        go_wp2_with fail
        refine HC.out.mono ?_
        rintro e w' ⟨rfl, rfl⟩
        go_wp2_with fail
        go_ret
        exact ⟨HV.out _ (by unfold labD; rw [Bool.eq_iff_iff]; simp; omega), rfl⟩

theorem lab_empty_no {u : ByteArray} (h : 0 < u.size) : u.toList.isEmpty = false := by
  cases he : u.toList.isEmpty with
  | false => rfl
  | true =>
    rw [ByteArray.toList_eq, List.isEmpty_iff_length_eq_zero] at he
    have : u.size = 0 := by simpa using he
    omega

set_option maxHeartbeats 1000000 in
theorem implLabelOk (s : ByteArray) (w : World) (hs : s.size ≤ maxLen) :
    Calls Tryz.prog 117 #[.string s] w fun e w' => e = .returned (.bool (labL s.data.toList)) ∧ w = w' := by
  unfold maxLen at hs
  have HV : Hid (∀ b : Bool, labL s.data.toList = b → (.returned (.bool b) : Ending) = .returned (.bool (labL s.data.toList))) := fun b h => by rw [h]
  by_cases hz : s = ⟨#[]⟩
  · have HF : Hid (labL s.data.toList = false) := by subst hz; show _ = _; rfl
    subst hz
    go_enter Tryz.func117, Tryz.ntmps117
    go_wp2_with fail
    go_ret
    exact ⟨HV.out _ HF.out, rfl⟩
  · have hr1 : 0 < s.size := by
      apply Nat.pos_of_ne_zero
      intro h
      exact hz (ByteArray.ext (Array.eq_empty_of_size_eq_zero h))
    have hem := lab_empty_no hr1
    by_cases hr2 : (s.size : Int) ≤ 63
    · have hr3 : ¬ 63 < (s.size : Int) := by omega
      by_cases h0 : (s[0]'(by omega)).toNat = 45
      · have HF : Hid (labL s.data.toList = false) := lab_head s (by omega) h0
        go_enter Tryz.func117, Tryz.ntmps117
        go_wp2_with fail
        go_ret
        exact ⟨HV.out _ HF.out, rfl⟩
      · by_cases h1 : (s[s.size - 1]'(by omega)).toNat = 45
        · have HF : Hid (labL s.data.toList = false) := lab_last s (by omega) h1
          go_enter Tryz.func117, Tryz.ntmps117
          go_wp2_with fail
          go_ret
          exact ⟨HV.out _ HF.out, rfl⟩
        · have q0 : (((s[0]'(by omega)).toNat : Int) == 45) = false := beq_eq_false_iff_ne.2 (by omega)
          have q1 : (((s[s.size - 1]'(by omega)).toNat : Int) == 45) = false := beq_eq_false_iff_ne.2 (by omega)
          have HY : Hid ((∀ c ∈ s.data.toList.take s.size, labB c = true) → labL s.data.toList = true) := lab_yes s (by omega) h0 h1
          clear h0 h1
          go_enter Tryz.func117, Tryz.ntmps117
          go_wp2_with fail
          go_loop [26] (fun i => ∃ k : Nat, k ≤ s.size ∧ i = .int .i64 k ∧ ∀ c ∈ s.data.toList.take k, labB c = true) (fun i => s.size - (intOf i).toNat)
          case atStart => exact ⟨0, Nat.zero_le _, rfl, fun c h => by simp at h⟩
          case round =>
            obtain ⟨k, hk, rfl, hall⟩ := hrel
            have HA : Hid (∀ c ∈ s.data.toList.take k, labB c = true) := hall
            clear hall
            by_cases hlt : k < s.size
            · obtain ⟨d, hd⟩ : ∃ d : Nat, s[k].toNat = d := ⟨_, rfl⟩
              have hd1 : (d : Int) ≤ 255 := by have := s[k].toNat_lt; omega
              have HS : Hid ((97 ≤ d ∧ d ≤ 122) ∨ (48 ≤ d ∧ d ≤ 57) ∨ d = 45 → ∀ c ∈ s.data.toList.take (k + 1), labB c = true) := fun hc => lab_take s k hlt d hd hc HA.out
              have HN : Hid (¬ ((97 ≤ d ∧ d ≤ 122) ∨ (48 ≤ d ∧ d ≤ 57) ∨ d = 45) → labL s.data.toList = false) := fun hc => lab_byte s k hlt (by rw [hd]; exact hc)
              have HC : Hid (∀ W, Calls Tryz.prog 133 #[.int .u8 d] W fun e w' => e = .returned (.bool (labD d)) ∧ W = w') := fun W => implIsLabelByte d W hd1
              cases hb : labD d with
              | true =>
                have HB : Hid ((97 ≤ d ∧ d ≤ 122) ∨ (48 ≤ d ∧ d ≤ 57) ∨ d = 45) := by
                  have := of_decide_eq_true (p := (97 ≤ d ∧ d ≤ 122) ∨ (48 ≤ d ∧ d ≤ 57) ∨ d = 45) hb
                  exact this
                rw [hb] at HC
                clear hb
                go_wp2_with fail
                refine (HC.out _).mono ?_
                rintro e w' ⟨rfl, rfl⟩
                go_wp2_with fail
                go_round
                case rel => exact ⟨k + 1, by omega, by go_num, HS.out HB.out⟩
                case measure => simp [intOf]; omega
              | false =>
                have HB : Hid (¬ ((97 ≤ d ∧ d ≤ 122) ∨ (48 ≤ d ∧ d ≤ 57) ∨ d = 45)) := by
                  have := of_decide_eq_false (p := (97 ≤ d ∧ d ≤ 122) ∨ (48 ≤ d ∧ d ≤ 57) ∨ d = 45) hb
                  exact this
                rw [hb] at HC
                clear hb
                go_wp2_with fail
                refine (HC.out _).mono ?_
                rintro e w' ⟨rfl, rfl⟩
                go_wp2_with fail
                go_ret
                exact ⟨HV.out _ (HN.out HB.out), rfl⟩
            · have hks : k = s.size := by omega
              subst hks
              go_wp2_with fail
              go_ret
              exact ⟨HV.out _ (HY.out HA.out), rfl⟩
    · have HF : Hid (labL s.data.toList = false) := lab_size s (by omega)
      go_enter Tryz.func117, Tryz.ntmps117
      go_wp2_with fail
      go_ret
      exact ⟨HV.out _ HF.out, rfl⟩
end Go.Proofs.YtamnhegianpedaaGreatDoor

namespace Go.Proofs.YtamnhegianpedaaGreatDoor
open Go.ChangeShapes Go.WideShapes Go.ChangeAt Go.RowKit Go.Lib

theorem own : ownKnob Tryz.prog.godebug = none := by kernel_rfl

def laidTwo : List (String × DataW Unit) := [("unicode/utf8.acceptRanges", Rows.laid_unicode_utf8_acceptRanges), ("unicode/utf8.first", Rows.laid_unicode_utf8_first)]

theorem acc_eq : (Rows.laid_unicode_utf8_acceptRanges : DataW Unit) = Lib.acceptData := by kernel_rfl
theorem first_eq : Rows.laid_unicode_utf8_first = Lib.firstData := by kernel_rfl

/-- What the rows' list gives: package utf8's two tables. -/
theorem tabs {W : World} (hL : laidMet Tryz.prog laidTwo W) : Lib.Utf8Tabs 2 3 W := by
  unfold laidTwo at hL
  rw [acc_eq, first_eq] at hL
  exact utf8Tabs_of_readsT (U8Types.of196 Tryz.lays196) ⟨by kernel_rfl, by kernel_rfl, by kernel_rfl, by kernel_rfl, by kernel_rfl, by kernel_rfl, by kernel_rfl⟩ (Lib.laidMet.reads hL (.tail _ (.head _))) (Lib.laidMet.reads hL (.head _))

theorem tabs_below {u u' : World} (h : Lib.Utf8Tabs 2 3 u) (hb : Below u.heap.size u u') : Lib.Utf8Tabs 2 3 u' := Utf8Tabs_below h hb

def putCells (cs : Array Value) : Obj → Obj
  | .cells _ t frozen => .cells cs t frozen
  | o => o

/-- The heap of the witness: the two tables hold what their initialisers lay. -/
def laidHeap (h : Array Obj) : Array Obj :=
  (h.modify 2 (putCells (Lib.firstTab.map fun z => Value.int .u8 z).toArray)).modify 3 (putCells ((List.range 16).flatMap fun i => [Value.int .u8 (Lib.accLo i), Value.int .u8 (Lib.accHi i)]).toArray)

theorem laid_met (os : Os) (args : Array Value) : laidMet Tryz.prog laidTwo (({ World.holding Tryz.prog os ⟨#[], #[], []⟩ with heap := laidHeap (World.holding Tryz.prog os ⟨#[], #[], []⟩).heap } : World).forCall (fun _ _ => 0) ⟨#[], args, []⟩).memory :=
  (LaidIn.of_run (l := laidTwo) [3, 2] 8 (by kernel_rfl) (by kernel_rfl) (by kernel_rfl) (by kernel_rfl)).met

end Go.Proofs.YtamnhegianpedaaGreatDoor

namespace Go.Proofs.YtamnhegianpedaaGreatDoor
open Go.RowKit

theorem okA_code (t : List UInt8) : okA t = (labL t && (!(isXn t) || (codeR t).isSome)) := by
  unfold okA codeR
  cases isXn t <;> simp

theorem ans_yes {o : Option (List UInt8)} {t : List UInt8} (h : o = if okA t = true then some t else none) (h1 : okA t = true) : ansS o = .tuple #[.string ⟨t.toArray⟩, .bool true] := by
  rw [h, if_pos h1]; rfl
theorem ans_no {o : Option (List UInt8)} {t : List UInt8} (h : o = if okA t = true then some t else none) (h1 : okA t = false) : ansS o = .tuple #[.string ⟨#[]⟩, .bool false] := by
  rw [h, if_neg (by rw [h1]; decide)]; rfl


set_option maxHeartbeats 1000000 in
theorem implToAscii (s : ByteArray) (w : World) (hs : s.size ≤ 1048576) (hT : Lib.Utf8Tabs 2 3 w) :
    Calls Tryz.prog 98 #[.string s] w fun e w' => e = .returned (ansS (ascL s.data.toList)) ∧ Below w.heap.size w w' := by
  have CLo : Hid (Calls Tryz.prog 114 #[.string s] w fun e w' => e = .returned (.string ⟨(lowerL s.data.toList).toArray⟩) ∧ Below w.heap.size w w') := implLower s w hs
  have hls := low_size s
  have HLS : Hid ((⟨(lowerL s.data.toList).toArray⟩ : ByteArray).size ≤ 1048576) := by show _ ≤ _; omega
  have HTT : Hid (Lib.Utf8Tabs 2 3 w) := hT
  have HM : Hid (ByteArray.size ⟨(lowerL s.data.toList).toArray⟩ ≤ maxLen) := by show _ ≤ _; unfold maxLen; omega
  have CA : Hid (∀ W, Calls Tryz.prog 115 #[.string ⟨(lowerL s.data.toList).toArray⟩] W fun e w' => e = .returned (.bool (asciiB s.data.toList)) ∧ W = w') := fun W => by
    have h := implAscii ⟨(lowerL s.data.toList).toArray⟩ W HM.out
    rw [show asciiB (⟨(lowerL s.data.toList).toArray⟩ : ByteArray).data.toList = asciiB (lowerL s.data.toList) from rfl, lower_ascii] at h
    exact h
  clear hT hls
  cases ha : asciiB s.data.toList with
  | true =>
    rw [ha] at CA
    have HAS : Hid (ascL s.data.toList = if okA (lowerL s.data.toList) = true then some (lowerL s.data.toList) else none) := asc1_ascii ha
    clear ha
    generalize lowerL s.data.toList = t at CLo CA HAS HM HLS
    go_enter Tryz.func98, Tryz.ntmps98
    go_wp2_with fail
    refine CLo.out.mono ?_
    rintro e wa ⟨rfl, ba⟩
    go_wp2_with fail
    refine (CA.out _).mono ?_
    rintro e w' ⟨rfl, rfl⟩
    have HK := okA_code t
    have hzz : (⟨t.toArray⟩ : ByteArray).size ≤ maxLen := HM.out
    cases hl : labL t with
    | false =>
      have HF : Hid (ansS (ascL s.data.toList) = .tuple #[.string ⟨#[]⟩, .bool false]) := ans_no HAS.out (by rw [HK, hl]; rfl)
      have CL : Hid (∀ W, Calls Tryz.prog 117 #[.string ⟨t.toArray⟩] W fun e w' => e = .returned (.bool false) ∧ W = w') := fun W => by
        have h := implLabelOk ⟨t.toArray⟩ W hzz
        rw [show labL (⟨t.toArray⟩ : ByteArray).data.toList = labL t from rfl, hl] at h
        exact h
      clear HK hl hzz
      go_wp2_with fail
      refine (CL.out _).mono ?_
      rintro e w' ⟨rfl, rfl⟩
      go_wp2_with fail
      go_ret2
      exact ⟨by rw [HF.out]; rfl, ba⟩
    | true =>
      have CL : Hid (∀ W, Calls Tryz.prog 117 #[.string ⟨t.toArray⟩] W fun e w' => e = .returned (.bool true) ∧ W = w') := fun W => by
        have h := implLabelOk ⟨t.toArray⟩ W hzz
        rw [show labL (⟨t.toArray⟩ : ByteArray).data.toList = labL t from rfl, hl] at h
        exact h
      have CC := fun W => implCodeOk ⟨t.toArray⟩ W
      have CK : Hid (∀ W, Calls Tryz.prog 118 #[.string ⟨t.toArray⟩] W fun e w' => e = .returned (.bool (okA t)) ∧ Below W.heap.size W w') := fun W => by
        rw [HK, hl]
        exact CC W
      clear HK hl hzz CC
      cases ho : okA t with
      | false =>
        have HF : Hid (ansS (ascL s.data.toList) = .tuple #[.string ⟨#[]⟩, .bool false]) := ans_no HAS.out ho
        rw [ho] at CK
        clear ho
        go_wp2_with fail
        refine (CL.out _).mono ?_
        rintro e w' ⟨rfl, rfl⟩
        go_wp2_with fail
        refine (CK.out _).mono ?_
        rintro e wz ⟨rfl, bz⟩
        have B := ba.trans (bz.mono ba.size)
        clear bz
        go_wp2_with fail
        go_ret2
        exact ⟨by rw [HF.out]; rfl, B⟩
      | true =>
        have HF : Hid (ansS (ascL s.data.toList) = .tuple #[.string ⟨t.toArray⟩, .bool true]) := ans_yes HAS.out ho
        rw [ho] at CK
        clear ho
        go_wp2_with fail
        refine (CL.out _).mono ?_
        rintro e w' ⟨rfl, rfl⟩
        go_wp2_with fail
        refine (CK.out _).mono ?_
        rintro e wz ⟨rfl, bz⟩
        have B := ba.trans (bz.mono ba.size)
        clear bz
        go_wp2_with fail
        go_ret2
        exact ⟨by rw [HF.out]; rfl, B⟩
  | false =>
    rw [ha] at CA
    by_cases hy : (finR ⟨(lowerL s.data.toList).toArray⟩).1 = s.data.toList.length ∧ (finR ⟨(lowerL s.data.toList).toArray⟩).2.length ≤ 60
    · have hz : (⟨(lowerL s.data.toList).toArray⟩ : ByteArray).size = s.data.toList.length := by rw [low_size]; simp
      have hy1 : (finR ⟨(lowerL s.data.toList).toArray⟩).1 = (⟨(lowerL s.data.toList).toArray⟩ : ByteArray).size := hy.1.trans hz.symm
      have CC : Hid (∀ W, Lib.Utf8Tabs 2 3 W → Calls Tryz.prog 116 #[.string ⟨(lowerL s.data.toList).toArray⟩] W fun e w' => e = .returned (.tuple #[.string ⟨(xn ++ b8 (encC ((finR ⟨(lowerL s.data.toList).toArray⟩).2.map Int.toNat))).toArray⟩, .bool true]) ∧ Below W.heap.size W w') :=
        fun W hT => implCodeLabel_yes _ W HLS.out hT hy1 hy.2
      have HAS := asc1_yes ha hy
      have HN : (xn ++ b8 (encC ((finR ⟨(lowerL s.data.toList).toArray⟩).2.map Int.toNat))).length ≤ 604 := by
        rw [List.length_append, b8_length]
        have := encC_600 (encOk_yes (fin_allOk _ hy1) hy.2)
        simp [xn]
        omega
      generalize xn ++ b8 (encC ((finR ⟨(lowerL s.data.toList).toArray⟩).2.map Int.toNat)) = t at CC HAS HN
      have HAS : Hid (ascL s.data.toList = if okA t = true then some t else none) := HAS
      have HM2 : Hid (ByteArray.size ⟨t.toArray⟩ ≤ maxLen) := by
        show t.toArray.size ≤ maxLen
        rw [List.size_toArray]
        unfold maxLen
        omega
      clear ha hy hy1 hz HN
      go_enter Tryz.func98, Tryz.ntmps98
      go_wp2_with fail
      refine CLo.out.mono ?_
      rintro e wa ⟨rfl, ba⟩
      go_wp2_with fail
      refine (CA.out _).mono ?_
      rintro e w' ⟨rfl, rfl⟩
      go_wp2_with fail
      refine (CC.out _ (tabs_below HTT.out ba)).mono ?_
      rintro e wb ⟨rfl, bb⟩
      have b2 := ba.trans (bb.mono ba.size)
      clear ba bb
      have HK := okA_code t
      have hzz : (⟨t.toArray⟩ : ByteArray).size ≤ maxLen := HM2.out
      cases hl : labL t with
      | false =>
        have HF : Hid (ansS (ascL s.data.toList) = .tuple #[.string ⟨#[]⟩, .bool false]) := ans_no HAS.out (by rw [HK, hl]; rfl)
        have CL : Hid (∀ W, Calls Tryz.prog 117 #[.string ⟨t.toArray⟩] W fun e w' => e = .returned (.bool false) ∧ W = w') := fun W => by
          have h := implLabelOk ⟨t.toArray⟩ W hzz
          rw [show labL (⟨t.toArray⟩ : ByteArray).data.toList = labL t from rfl, hl] at h
          exact h
        clear HK hl hzz
        go_wp2_with fail
        refine (CL.out _).mono ?_
        rintro e w' ⟨rfl, rfl⟩
        go_wp2_with fail
        go_ret2
        exact ⟨by rw [HF.out]; rfl, b2⟩
      | true =>
        have CL : Hid (∀ W, Calls Tryz.prog 117 #[.string ⟨t.toArray⟩] W fun e w' => e = .returned (.bool true) ∧ W = w') := fun W => by
          have h := implLabelOk ⟨t.toArray⟩ W hzz
          rw [show labL (⟨t.toArray⟩ : ByteArray).data.toList = labL t from rfl, hl] at h
          exact h
        have CC := fun W => implCodeOk ⟨t.toArray⟩ W
        have CK : Hid (∀ W, Calls Tryz.prog 118 #[.string ⟨t.toArray⟩] W fun e w' => e = .returned (.bool (okA t)) ∧ Below W.heap.size W w') := fun W => by
          rw [HK, hl]
          exact CC W
        clear HK hl hzz CC
        cases ho : okA t with
        | false =>
          have HF : Hid (ansS (ascL s.data.toList) = .tuple #[.string ⟨#[]⟩, .bool false]) := ans_no HAS.out ho
          rw [ho] at CK
          clear ho
          go_wp2_with fail
          refine (CL.out _).mono ?_
          rintro e w' ⟨rfl, rfl⟩
          go_wp2_with fail
          refine (CK.out _).mono ?_
          rintro e wz ⟨rfl, bz⟩
          have B := b2.trans (bz.mono b2.size)
          clear bz
          go_wp2_with fail
          go_ret2
          exact ⟨by rw [HF.out]; rfl, B⟩
        | true =>
          have HF : Hid (ansS (ascL s.data.toList) = .tuple #[.string ⟨t.toArray⟩, .bool true]) := ans_yes HAS.out ho
          rw [ho] at CK
          clear ho
          go_wp2_with fail
          refine (CL.out _).mono ?_
          rintro e w' ⟨rfl, rfl⟩
          go_wp2_with fail
          refine (CK.out _).mono ?_
          rintro e wz ⟨rfl, bz⟩
          have B := b2.trans (bz.mono b2.size)
          clear bz
          go_wp2_with fail
          go_ret2
          exact ⟨by rw [HF.out]; rfl, B⟩
    · have hz : (⟨(lowerL s.data.toList).toArray⟩ : ByteArray).size = s.data.toList.length := by rw [low_size]; simp
      have CC : Hid (∀ W, Lib.Utf8Tabs 2 3 W → Calls Tryz.prog 116 #[.string ⟨(lowerL s.data.toList).toArray⟩] W fun e w' => (∃ t : ByteArray, e = .returned (.tuple #[.string t, .bool false])) ∧ Below W.heap.size W w') :=
        fun W hT => implCodeLabel_no _ W HLS.out hT (by rw [hz]; exact hy)
      have HF : Hid (ansS (ascL s.data.toList) = .tuple #[.string ⟨#[]⟩, .bool false]) := by show _ = _; rw [asc1_no ha hy]; rfl
      clear ha hy hz
      go_enter Tryz.func98, Tryz.ntmps98
      go_wp2_with fail
      refine CLo.out.mono ?_
      rintro e wa ⟨rfl, ba⟩
      go_wp2_with fail
      refine (CA.out _).mono ?_
      rintro e w' ⟨rfl, rfl⟩
      go_wp2_with fail
      refine (CC.out _ (tabs_below HTT.out ba)).mono ?_
      rintro e wb ⟨⟨t, rfl⟩, bb⟩
      have b2 := ba.trans (bb.mono ba.size)
      clear ba bb
      go_wp2_with fail
      go_ret2
      exact ⟨by rw [HF.out]; rfl, b2⟩
end Go.Proofs.YtamnhegianpedaaGreatDoor

namespace Go.Proofs.YtamnhegianpedaaGreatDoor
open Go.RowKit

theorem ext4 (s : ByteArray) : (s.extract 0 4).data.toList = s.data.toList.take 4 := by
  rw [ByteArray.data_extract, Array.toList_extract]
  simp
theorem ext_from (s : ByteArray) : s.extract 4 s.size = ⟨(s.data.toList.drop 4).toArray⟩ := by
  apply ByteArray.ext
  apply Array.toList_inj.1
  rw [ByteArray.data_extract, Array.toList_extract]
  simp
  exact List.take_of_length_le (by simp)
theorem xn_eq (s : ByteArray) (h : 4 ≤ s.size) : ((s.extract 0 4).toList == [120, 110, 45, 45]) = isXn s.data.toList := by
  rw [ByteArray.toList_eq, ext4]
  have hl : 4 ≤ s.data.toList.length := by simpa using h
  generalize s.data.toList = l at hl
  match l, hl with
  | a :: b :: c :: d :: r, _ =>
    unfold isXn xn
    simp [List.isPrefixOf]
    rw [Bool.eq_iff_iff]
    simp
    constructor
    · rintro ⟨rfl, rfl, rfl, rfl⟩; exact ⟨rfl, rfl, rfl, rfl⟩
    · rintro ⟨h1, h2, h3, h4⟩; exact ⟨h1.symm, h2.symm, h3.symm, h4.symm⟩
theorem xn_short (s : ByteArray) (h : s.size < 4) : isXn s.data.toList = false := by
  cases hx : isXn s.data.toList with
  | false => rfl
  | true =>
    have := congrArg List.length (xn_prefix hx)
    rw [List.length_append] at this
    have hl : s.data.toList.length = s.size := by simp
    simp [xn] at this
    omega

theorem codeR_xn {l : List UInt8} (h : isXn l = true) : codeR l = decC (nat8 (l.drop 4)) := if_pos h

theorem all_take (l : List Nat) (k : Nat) (h : k < l.length) : (l.take (k + 1)).all (fun c => decide (c < 128)) = ((l.take k).all (fun c => decide (c < 128)) && decide (l.getD k 0 < 128)) := by
  rw [List.take_succ_eq_append_getElem h, List.all_append]
  simp [List.getD, h]

set_option maxHeartbeats 2000000 in
theorem specL4Coded (s : ByteArray) (w : World) (hs : s.size ≤ 1048576) (hlab : labL s.data.toList = true) :
    Calls Tryz.prog 73 #[.string s] w fun e w' => decAns w w' (codeR s.data.toList) e ∧ Below w.heap.size w w' := by
  have HO : Hid (∀ W : World, (W.alloc (.cells #[] 3)).ownsRow W.heap.size 3 1 (.slice (some ⟨W.heap.size, 0, none⟩) 0 0) 0 []) := fun W => World.ownsRow_lit W #[] 0 (Nat.le_refl _) (by decide) rfl
  have hs' : (s.size : Int) ≤ 1048576 := by omega
  by_cases h4 : s.size < 4
  · have h4' : (s.size : Int) < 4 := by omega
    have HR : Hid (codeR s.data.toList = none) := if_neg (by rw [xn_short s h4]; decide)
    go_enter Tryz.func73, Tryz.ntmps73
    go_wp2_with fail
    go_ret2
    rw [HR.out]
    exact ⟨⟨_, rfl, HO.out w⟩, (Below.refl _ _).alloc (Nat.le_refl _) _⟩
  · have h4' : ¬ (s.size : Int) < 4 := by omega
    have h4n : 4 ≤ s.size := by omega
    have hxe := xn_eq s h4n
    cases hx : isXn s.data.toList with
    | false =>
      rw [hx] at hxe
      have HR : Hid (codeR s.data.toList = none) := if_neg (by rw [hx]; decide)
      clear hx
      go_enter Tryz.func73, Tryz.ntmps73
      go_wp2_with fail
      go_ret2
      rw [HR.out]
      exact ⟨⟨_, rfl, HO.out w⟩, (Below.refl _ _).alloc (Nat.le_refl _) _⟩
    | true =>
      rw [hx] at hxe
      have HD := fun l => @dec_lab s.data.toList l hx hlab
      rw [← codeR_xn hx] at HD
      have HD : Hid (∀ l, codeR s.data.toList = some l → (∃ x ∈ l, 128 ≤ x) ∧ ∀ x ∈ l, ¬ (65 ≤ x ∧ x ≤ 90)) := HD
      have CD : Hid (∀ W, Calls Tryz.prog 89 #[.string (s.extract 4 s.size)] W fun e w' => decAns W w' (codeR s.data.toList) e ∧ Below W.heap.size W w') := fun W => by
        rw [ext_from s, codeR_xn hx]
        exact specDecAll ⟨(s.data.toList.drop 4).toArray⟩ W
      clear hx
      go_enter Tryz.func73, Tryz.ntmps73
      go_wp2_with fail
      refine (CD.out _).mono ?_
      rintro e wa ⟨hd, ba⟩
      have hsz := ba.size
      cases hr : codeR s.data.toList with
      | none =>
        rw [hr] at hd
        obtain ⟨v, rfl, ov⟩ := hd
        have HR : Hid (codeR s.data.toList = none) := hr
        clear hr HD CD
        rcases own_shape ov with ⟨_, _, ao, cap, rfl⟩ | ⟨h, _⟩
        · go_wp2_with fail
          go_loop [6, 7] (fun p i => p = .bool true ∧ i = .int .i64 0) (fun _ _ => 0)
          case atStart => exact ⟨rfl, rfl⟩
          case round =>
            obtain ⟨rfl, rfl⟩ := hrel
            go_wp2_with fail
            go_ret2
            rw [HR.out]
            exact ⟨⟨_, rfl, own_base (HO.out wa) hsz⟩, ba.alloc hsz _⟩
        · omega
      | some l =>
        rw [hr] at hd
        obtain ⟨v, rfl, ov⟩ := hd
        obtain ⟨hx1, hx2⟩ := HD.out l hr
        have HR : Hid (codeR s.data.toList = some l) := hr
        have HX : Hid (∀ x ∈ l, ¬ (65 ≤ x ∧ x ≤ 90)) := hx2
        have HP : Hid (l.all (fun c => decide (c < 128)) = false) := by
          obtain ⟨x, hx, h128⟩ := hx1
          show _ = _
          rw [List.all_eq_false]
          exact ⟨x, hx, by simpa using h128⟩
        clear hr HD CD hx2
        rcases own_shape ov with ⟨h0, _⟩ | ⟨_, g, cap, rfl⟩
        · obtain ⟨x, hx, _⟩ := hx1
          have : l = [] := List.eq_nil_of_length_eq_zero h0
          rw [this] at hx
          simp at hx
        · clear hx1
          have hll : l.length ≤ 1048576 := by
            obtain ⟨hok, _⟩ := (dec_iff _ _).1 ((codeR_xn (by cases h : isXn s.data.toList with | true => rfl | false => have h2 := HR.out; unfold codeR at h2; rw [h] at h2; simp at h2)).symm.trans HR.out)
            have := (encOk_parts hok).1
            omega
          have HC : Hid (∀ j, j < l.length → wa.cell? ⟨g, j, none⟩ = some (.int .i64 (l.getD j 0 : Nat))) := fun j hj => icN_at ov j hj
          have HV : Hid (wa.ownsRow w.heap.size 3 1 (.slice (some ⟨g, 0, none⟩) l.length cap) l.length (icN l)) := ov
          clear ov
          go_wp2_with fail
          go_loop [6, 7] (fun p i => ∃ k : Nat, k ≤ l.length ∧ p = .bool ((l.take k).all (fun c => decide (c < 128))) ∧ i = .int .i64 k) (fun _ i => l.length - (intOf i).toNat)
          case atStart => exact ⟨0, Nat.zero_le _, rfl, rfl⟩
          case round =>
            obtain ⟨k, hk, rfl, rfl⟩ := hrel
            by_cases hlt : k < l.length
            · have hc := HC.out k hlt
              have HS : Hid ((l.take (k + 1)).all (fun c => decide (c < 128)) = ((l.take k).all (fun c => decide (c < 128)) && decide (l.getD k 0 < 128))) := all_take l k hlt
              have HN : Hid (¬ (65 ≤ l.getD k 0 ∧ l.getD k 0 ≤ 90)) := HX.out _ (by rw [List.getD_eq_getElem?_getD, List.getElem?_eq_getElem hlt]; exact List.getElem_mem hlt)
              obtain ⟨y, hy⟩ : ∃ y, l.getD k 0 = y := ⟨_, rfl⟩
              rw [hy] at hc HS HN
              generalize (l.take k).all (fun c => decide (c < 128)) = b at HS
              have hkl : (k : Int) < l.length := by omega
              clear hy
              have CI : Hid (∀ W, Calls Tryz.prog 24 #[.int .i64 (y : Int), .int .i64 65, .int .i64 90] W fun e w' => e = .returned (.bool false) ∧ W = w') := fun W => labIn_no _ _ _ W (by have := HN.out; omega)
              cases b with
              | false =>
                go_wp2_with fail
                refine (CI.out _).mono ?_
                rintro e w' ⟨rfl, rfl⟩
                go_wp2_with fail
                go_round
                case rel => exact ⟨k + 1, by omega, by rw [HS.out]; rfl, by go_num⟩
                case measure => simp [intOf]; omega
              | true =>
                go_wp2_with fail
                refine (CI.out _).mono ?_
                rintro e w' ⟨rfl, rfl⟩
                go_wp2_with fail
                go_round
                case rel => exact ⟨k + 1, by omega, by rw [HS.out]; simp; omega, by go_num⟩
                case measure => simp [intOf]; omega
            · have hks : k = l.length := by omega
              have HB : (l.take k).all (fun c => decide (c < 128)) = false := by rw [hks, List.take_length]; exact HP.out
              rw [HB]
              clear HB
              subst hks
              go_wp2_with fail
              go_ret2
              rw [HR.out]
              exact ⟨⟨_, rfl, HV.out⟩, ba⟩


set_option maxHeartbeats 2000000 in
theorem specToAscii (s : ByteArray) (w : World) (hs : s.size ≤ 1048576) :
    Calls Tryz.prog 43 #[.string s] w fun e w' => e = .returned (ansS (ascL s.data.toList)) ∧ Below w.heap.size w w' := by
  have CLo : Hid (Calls Tryz.prog 68 #[.string s] w fun e w' => e = .returned (.string ⟨(lowerL s.data.toList).toArray⟩) ∧ Below w.heap.size w w') := specLower s w hs
  have hls := low_size s
  have HLS : Hid ((⟨(lowerL s.data.toList).toArray⟩ : ByteArray).size ≤ 1048576) := by show _ ≤ _; omega
  have CA : Hid (∀ W, Calls Tryz.prog 69 #[.string s] W fun e w' => e = .returned (.bool (asciiB s.data.toList)) ∧ W = w') := fun W => specAscii s W (by unfold maxLen; omega)
  cases ha : asciiB s.data.toList with
  | true =>
    rw [ha] at CA
    have HAS : Hid (ascL s.data.toList = if okA (lowerL s.data.toList) = true then some (lowerL s.data.toList) else none) := asc1_ascii ha
    clear ha hls
    generalize lowerL s.data.toList = t at CLo HAS HLS
    go_enter Tryz.func43, Tryz.ntmps43
    go_wp2_with fail
    refine CLo.out.mono ?_
    rintro e wa ⟨rfl, ba⟩
    go_wp2_with fail
    refine (CA.out _).mono ?_
    rintro e w' ⟨rfl, rfl⟩
    have HK := okA_code t
    have hzm : (⟨t.toArray⟩ : ByteArray).size ≤ 1048576 := HLS.out
    obtain ⟨S, hS⟩ : ∃ S : ByteArray, S = ⟨t.toArray⟩ := ⟨_, rfl⟩
    have hSt : S.data.toList = t := by rw [hS]
    rw [← hS] at hzm
    rw [← hSt] at HK
    have HSS : Hid (S = ⟨t.toArray⟩) := hS
    have HST : Hid (S.data.toList = t) := hSt
    rw [← hS]
    clear hS hSt
    cases hl : labL S.data.toList with
    | false =>
      have HF : Hid (ansS (ascL s.data.toList) = .tuple #[.string ⟨#[]⟩, .bool false]) := ans_no HAS.out (by rw [← HST.out, HK, hl]; rfl)
      have CL : Hid (∀ W, Calls Tryz.prog 72 #[.string S] W fun e w' => e = .returned (.bool false) ∧ W = w') := fun W => by
        have h := specLabelOk S W (by unfold maxLen; omega)
        rw [hl] at h
        exact h
      clear HK hl
      try go_wp2_with fail
      refine (CL.out _).mono ?_
      rintro e w' ⟨rfl, rfl⟩
      go_wp2_with fail
      go_ret2
      exact ⟨by rw [HF.out]; rfl, ba⟩
    | true =>
      have CL : Hid (∀ W, Calls Tryz.prog 72 #[.string S] W fun e w' => e = .returned (.bool true) ∧ W = w') := fun W => by
        have h := specLabelOk S W (by unfold maxLen; omega)
        rw [hl] at h
        exact h
      have CK : Hid (∀ W, Calls Tryz.prog 73 #[.string S] W fun e w' => decAns W w' (codeR S.data.toList) e ∧ Below W.heap.size W w') := fun W => specL4Coded S W hzm hl
      rw [hl] at HK
      by_cases h4 : S.size < 4
      · have h4' : ¬ 4 ≤ (S.size : Int) := by omega
        have HF : Hid (ansS (ascL s.data.toList) = .tuple #[.string S, .bool true]) := by
          show _ = _
          rw [HSS.out]
          exact ans_yes HAS.out (by rw [← HST.out, HK, xn_short S h4]; rfl)
        clear HK hl
        try go_wp2_with fail
        refine (CL.out _).mono ?_
        rintro e w' ⟨rfl, rfl⟩
        go_wp2_with fail
        go_ret2
        exact ⟨by rw [HF.out]; rfl, ba⟩
      · have h4' : 4 ≤ (S.size : Int) := by omega
        have hxe := xn_eq S (by omega)
        cases hx : isXn S.data.toList with
        | false =>
          rw [hx] at hxe
          have HF : Hid (ansS (ascL s.data.toList) = .tuple #[.string S, .bool true]) := by
            show _ = _
            rw [HSS.out]
            exact ans_yes HAS.out (by rw [← HST.out, HK, hx]; rfl)
          clear HK hl hx
          try go_wp2_with fail
          refine (CL.out _).mono ?_
          rintro e w' ⟨rfl, rfl⟩
          go_wp2_with fail
          go_ret2
          exact ⟨by rw [HF.out]; rfl, ba⟩
        | true =>
          rw [hx] at hxe
          cases hr : codeR S.data.toList with
          | none =>
            have HF : Hid (ansS (ascL s.data.toList) = .tuple #[.string ⟨#[]⟩, .bool false]) := ans_no HAS.out (by rw [← HST.out, HK, hx, hr]; rfl)
            rw [hr] at CK
            clear HK hl hx hr
            try go_wp2_with fail
            refine (CL.out _).mono ?_
            rintro e w' ⟨rfl, rfl⟩
            go_wp2_with fail
            refine (CK.out _).mono ?_
            rintro e wz ⟨⟨v, rfl, _⟩, bz⟩
            have B := ba.trans (bz.mono ba.size)
            clear bz
            go_wp2_with fail
            go_ret2
            exact ⟨by rw [HF.out]; rfl, B⟩
          | some l =>
            have HF : Hid (ansS (ascL s.data.toList) = .tuple #[.string S, .bool true]) := by
              show _ = _
              rw [HSS.out]
              exact ans_yes HAS.out (by rw [← HST.out, HK, hx, hr]; rfl)
            rw [hr] at CK
            clear HK hl hx hr
            try go_wp2_with fail
            refine (CL.out _).mono ?_
            rintro e w' ⟨rfl, rfl⟩
            go_wp2_with fail
            refine (CK.out _).mono ?_
            rintro e wz ⟨⟨v, rfl, _⟩, bz⟩
            have B := ba.trans (bz.mono ba.size)
            clear bz
            go_wp2_with fail
            go_ret2
            exact ⟨by rw [HF.out]; rfl, B⟩
  | false =>
    rw [ha] at CA
    have hz : (⟨(lowerL s.data.toList).toArray⟩ : ByteArray).size = s.data.toList.length := by rw [low_size]; simp
    have CR : Hid (∀ W, Calls Tryz.prog 70 #[.string ⟨(lowerL s.data.toList).toArray⟩] W fun e w' => RunesPost ⟨(lowerL s.data.toList).toArray⟩ W e w') := fun W => specRunes _ W HLS.out
    by_cases hy1 : (finR ⟨(lowerL s.data.toList).toArray⟩).1 = (⟨(lowerL s.data.toList).toArray⟩ : ByteArray).size
    · have HAO := fin_allOk _ hy1
      have hfl := fin_len ⟨(lowerL s.data.toList).toArray⟩
      have HEN : Hid (∀ (W : World) (v : Value) (B : Nat), W.ownsRow B 3 1 v (finR ⟨(lowerL s.data.toList).toArray⟩).2.length (icells (finR ⟨(lowerL s.data.toList).toArray⟩).2) → Calls Tryz.prog 71 #[v] W fun e w' => e = .returned (encAns (finR ⟨(lowerL s.data.toList).toArray⟩).2) ∧ Below W.heap.size W w') :=
        fun W v B h => specEncRunes _ v B W HAO (by omega) h
      by_cases hy2 : (finR ⟨(lowerL s.data.toList).toArray⟩).2.length ≤ 60
      · have HAS0 := asc1_yes ha ⟨hy1.trans hz, hy2⟩
        have e1 : encAns (finR ⟨(lowerL s.data.toList).toArray⟩).2 = .tuple #[.string ⟨(b8 (encC ((finR ⟨(lowerL s.data.toList).toArray⟩).2.map Int.toNat))).toArray⟩, .bool true] := if_pos hy2
        rw [e1] at HEN
        have HN := encC_600 (encOk_yes HAO hy2)
        generalize encC ((finR ⟨(lowerL s.data.toList).toArray⟩).2.map Int.toNat) = q at HAS0 HEN HN
        have HX : Hid ((⟨#[120, 110, 45, 45]⟩ : ByteArray) ++ ⟨(b8 q).toArray⟩ = ⟨(xn ++ b8 q).toArray⟩) := by
          show _ = _
          apply ByteArray.ext
          rw [ByteArray.data_append]
          apply Array.toList_inj.1
          simp [xn]
        have hzq : (⟨(b8 q).toArray⟩ : ByteArray).size ≤ 600 := by
          show (b8 q).toArray.size ≤ 600
          rw [List.size_toArray, b8_length]
          exact HN
        obtain ⟨T, hTT⟩ : ∃ T : ByteArray, ⟨(b8 q).toArray⟩ = T := ⟨_, rfl⟩
        have HM2 : Hid (ByteArray.size ⟨(xn ++ b8 q).toArray⟩ ≤ 1048576) := by
          show (xn ++ b8 q).toArray.size ≤ 1048576
          rw [List.size_toArray, List.length_append, b8_length]
          simp [xn]
          omega
        have HAS : Hid (ascL s.data.toList = if okA (xn ++ b8 q) = true then some (xn ++ b8 q) else none) := HAS0
        clear HAS0
        generalize xn ++ b8 q = t at HAS HM2 HX
        rw [hTT] at HEN HX hzq
        have HY1 : Hid ((finR ⟨(lowerL s.data.toList).toArray⟩).1 = (⟨(lowerL s.data.toList).toArray⟩ : ByteArray).size) := hy1
        clear ha hy1 hy2 hz HN HAO hfl hls e1 hTT
        go_enter Tryz.func43, Tryz.ntmps43
        go_wp2_with fail
        refine CLo.out.mono ?_
        rintro e wa ⟨rfl, ba⟩
        go_wp2_with fail
        refine (CA.out _).mono ?_
        rintro e w' ⟨rfl, rfl⟩
        go_wp2_with fail
        refine (CR.out _).mono ?_
        rintro e wb (⟨_, vb, rfl, ob, bb⟩ | ⟨hn, _⟩)
        · go_wp2_with fail
          refine (HEN.out _ _ _ ob).mono ?_
          rintro e wc ⟨rfl, bc⟩
          have b2 := ba.trans (bb.mono ba.size)
          have b3 := b2.trans (bc.mono b2.size)
          clear ba bb ob b2 bc
          go_wp2_with fail
          rw [HX.out]
          have HK := okA_code t
          have hzm : (⟨t.toArray⟩ : ByteArray).size ≤ 1048576 := HM2.out
          obtain ⟨S, hS⟩ : ∃ S : ByteArray, S = ⟨t.toArray⟩ := ⟨_, rfl⟩
          have hSt : S.data.toList = t := by rw [hS]
          rw [← hS] at hzm
          rw [← hSt] at HK
          have HSS : Hid (S = ⟨t.toArray⟩) := hS
          have HST : Hid (S.data.toList = t) := hSt
          rw [← hS]
          clear hS hSt
          cases hl : labL S.data.toList with
          | false =>
            have HF : Hid (ansS (ascL s.data.toList) = .tuple #[.string ⟨#[]⟩, .bool false]) := ans_no HAS.out (by rw [← HST.out, HK, hl]; rfl)
            have CL : Hid (∀ W, Calls Tryz.prog 72 #[.string S] W fun e w' => e = .returned (.bool false) ∧ W = w') := fun W => by
              have h := specLabelOk S W (by unfold maxLen; omega)
              rw [hl] at h
              exact h
            clear HK hl
            try go_wp2_with fail
            refine (CL.out _).mono ?_
            rintro e w' ⟨rfl, rfl⟩
            go_wp2_with fail
            go_ret2
            exact ⟨by rw [HF.out]; rfl, b3⟩
          | true =>
            have CL : Hid (∀ W, Calls Tryz.prog 72 #[.string S] W fun e w' => e = .returned (.bool true) ∧ W = w') := fun W => by
              have h := specLabelOk S W (by unfold maxLen; omega)
              rw [hl] at h
              exact h
            have CK : Hid (∀ W, Calls Tryz.prog 73 #[.string S] W fun e w' => decAns W w' (codeR S.data.toList) e ∧ Below W.heap.size W w') := fun W => specL4Coded S W hzm hl
            rw [hl] at HK
            by_cases h4 : S.size < 4
            · have h4' : ¬ 4 ≤ (S.size : Int) := by omega
              have HF : Hid (ansS (ascL s.data.toList) = .tuple #[.string S, .bool true]) := by
                show _ = _
                rw [HSS.out]
                exact ans_yes HAS.out (by rw [← HST.out, HK, xn_short S h4]; rfl)
              clear HK hl
              try go_wp2_with fail
              refine (CL.out _).mono ?_
              rintro e w' ⟨rfl, rfl⟩
              go_wp2_with fail
              go_ret2
              exact ⟨by rw [HF.out]; rfl, b3⟩
            · have h4' : 4 ≤ (S.size : Int) := by omega
              have hxe := xn_eq S (by omega)
              cases hx : isXn S.data.toList with
              | false =>
                rw [hx] at hxe
                have HF : Hid (ansS (ascL s.data.toList) = .tuple #[.string S, .bool true]) := by
                  show _ = _
                  rw [HSS.out]
                  exact ans_yes HAS.out (by rw [← HST.out, HK, hx]; rfl)
                clear HK hl hx
                try go_wp2_with fail
                refine (CL.out _).mono ?_
                rintro e w' ⟨rfl, rfl⟩
                go_wp2_with fail
                go_ret2
                exact ⟨by rw [HF.out]; rfl, b3⟩
              | true =>
                rw [hx] at hxe
                cases hr : codeR S.data.toList with
                | none =>
                  have HF : Hid (ansS (ascL s.data.toList) = .tuple #[.string ⟨#[]⟩, .bool false]) := ans_no HAS.out (by rw [← HST.out, HK, hx, hr]; rfl)
                  rw [hr] at CK
                  clear HK hl hx hr
                  try go_wp2_with fail
                  refine (CL.out _).mono ?_
                  rintro e w' ⟨rfl, rfl⟩
                  go_wp2_with fail
                  refine (CK.out _).mono ?_
                  rintro e wz ⟨⟨v, rfl, _⟩, bz⟩
                  have B := b3.trans (bz.mono b3.size)
                  clear bz
                  go_wp2_with fail
                  go_ret2
                  exact ⟨by rw [HF.out]; rfl, B⟩
                | some l =>
                  have HF : Hid (ansS (ascL s.data.toList) = .tuple #[.string S, .bool true]) := by
                    show _ = _
                    rw [HSS.out]
                    exact ans_yes HAS.out (by rw [← HST.out, HK, hx, hr]; rfl)
                  rw [hr] at CK
                  clear HK hl hx hr
                  try go_wp2_with fail
                  refine (CL.out _).mono ?_
                  rintro e w' ⟨rfl, rfl⟩
                  go_wp2_with fail
                  refine (CK.out _).mono ?_
                  rintro e wz ⟨⟨v, rfl, _⟩, bz⟩
                  have B := b3.trans (bz.mono b3.size)
                  clear bz
                  go_wp2_with fail
                  go_ret2
                  exact ⟨by rw [HF.out]; rfl, B⟩
        · exact absurd HY1.out hn
      · have HF : Hid (ansS (ascL s.data.toList) = .tuple #[.string ⟨#[]⟩, .bool false]) := by show _ = _; rw [asc1_no ha (fun h => hy2 h.2)]; rfl
        have e1 : encAns (finR ⟨(lowerL s.data.toList).toArray⟩).2 = .tuple #[.string ⟨#[]⟩, .bool false] := if_neg hy2
        rw [e1] at HEN
        have HY1 : Hid ((finR ⟨(lowerL s.data.toList).toArray⟩).1 = (⟨(lowerL s.data.toList).toArray⟩ : ByteArray).size) := hy1
        clear ha hy1 hy2 hz HAO hfl hls e1
        go_enter Tryz.func43, Tryz.ntmps43
        go_wp2_with fail
        refine CLo.out.mono ?_
        rintro e wa ⟨rfl, ba⟩
        go_wp2_with fail
        refine (CA.out _).mono ?_
        rintro e w' ⟨rfl, rfl⟩
        go_wp2_with fail
        refine (CR.out _).mono ?_
        rintro e wb (⟨_, vb, rfl, ob, bb⟩ | ⟨hn, _⟩)
        · go_wp2_with fail
          refine (HEN.out _ _ _ ob).mono ?_
          rintro e wc ⟨rfl, bc⟩
          have b2 := ba.trans (bb.mono ba.size)
          have b3 := b2.trans (bc.mono b2.size)
          clear ba bb ob b2 bc
          go_wp2_with fail
          go_ret2
          exact ⟨by rw [HF.out]; rfl, b3⟩
        · exact absurd HY1.out hn
    · have HF : Hid (ansS (ascL s.data.toList) = .tuple #[.string ⟨#[]⟩, .bool false]) := by show _ = _; rw [asc1_no ha (fun h => hy1 (h.1.trans hz.symm))]; rfl
      have HEN : Hid (∀ (W : World) (v : Value) (B : Nat), W.ownsRow B 3 1 v 0 (icells []) → Calls Tryz.prog 71 #[v] W fun e w' => e = .returned (.tuple #[.string ⟨(b8 (encC [])).toArray⟩, .bool true]) ∧ Below W.heap.size W w') :=
        fun W v B h => specEncRunes [] v B W (fun r hr => by simp at hr) (by decide) h
      have HY1 : Hid (¬ (finR ⟨(lowerL s.data.toList).toArray⟩).1 = (⟨(lowerL s.data.toList).toArray⟩ : ByteArray).size) := hy1
      clear ha hy1 hz hls
      go_enter Tryz.func43, Tryz.ntmps43
      go_wp2_with fail
      refine CLo.out.mono ?_
      rintro e wa ⟨rfl, ba⟩
      go_wp2_with fail
      refine (CA.out _).mono ?_
      rintro e w' ⟨rfl, rfl⟩
      go_wp2_with fail
      refine (CR.out _).mono ?_
      rintro e wb (⟨hn, _⟩ | ⟨_, vb, rfl, ob, bb⟩)
      · exact absurd hn HY1.out
      · go_wp2_with fail
        refine (HEN.out _ _ _ ob).mono ?_
        rintro e wc ⟨rfl, bc⟩
        have b2 := ba.trans (bb.mono ba.size)
        have b3 := b2.trans (bc.mono b2.size)
        clear ba bb ob b2 bc
        go_wp2_with fail
        go_ret2
        exact ⟨by rw [HF.out]; rfl, b3⟩
end Go.Proofs.YtamnhegianpedaaGreatDoor

namespace Go.Proofs.YtamnhegianpedaaGreatDoor
open Go.RowKit

def ascB (s : ByteArray) : Option ByteArray := match ascL s.data.toList with
  | some t => some ⟨t.toArray⟩
  | none => none
def ascs : List ByteArray → Option (List ByteArray)
  | [] => some []
  | s :: r => match ascB s, ascs r with
    | some a, some b => some (a :: b)
    | _, _ => none
def namesL (fs : List ByteArray) : Option (List UInt8) := match ascs fs with
  | some ls => if (jn 46 ls).length ≤ 253 then some (jn 46 ls) else none
  | none => none
def nameL (s : ByteArray) : Option (List UInt8) := namesL (dropE (fieldsL s 46))

theorem ascs_append (a b : List ByteArray) : ascs (a ++ b) = match ascs a, ascs b with
    | some x, some y => some (x ++ y)
    | _, _ => none := by
  induction a with
  | nil =>
    simp only [List.nil_append, ascs]
    cases ascs b <;> rfl
  | cons s r ih =>
    simp only [List.cons_append, ascs, ih]
    cases ascB s <;> cases ascs r <;> cases ascs b <;> rfl

theorem ascs_len : ∀ {fs ls : List ByteArray}, ascs fs = some ls → ls.length = fs.length
  | [], ls, h => by cases h; rfl
  | s :: r, ls, h => by
    rw [ascs] at h
    cases h1 : ascB s with
    | none => rw [h1] at h; cases h
    | some a =>
      cases h2 : ascs r with
      | none => rw [h1, h2] at h; cases h
      | some b =>
        rw [h1, h2] at h
        cases h
        rw [List.length_cons, List.length_cons, ascs_len h2]

theorem ascs_mem : ∀ {fs ls : List ByteArray}, ascs fs = some ls → ∀ a ∈ ls, ∃ s ∈ fs, ascB s = some a
  | [], ls, h => by cases h; intro a ha; simp at ha
  | s :: r, ls, h => by
    rw [ascs] at h
    cases h1 : ascB s with
    | none => rw [h1] at h; cases h
    | some x =>
      cases h2 : ascs r with
      | none => rw [h1, h2] at h; cases h
      | some b =>
        rw [h1, h2] at h
        cases h
        intro a ha
        rcases List.mem_cons.1 ha with rfl | hb
        · exact ⟨s, List.mem_cons_self, h1⟩
        · obtain ⟨q, hq, e⟩ := ascs_mem h2 a hb
          exact ⟨q, List.mem_cons_of_mem _ hq, e⟩

theorem ascB_lab {s a : ByteArray} (h : ascB s = some a) : labL a.data.toList = true ∧ ascB a = some a := by
  unfold ascB at h
  cases hs : ascL s.data.toList with
  | none => rw [hs] at h; cases h
  | some t =>
    rw [hs] at h
    cases h
    refine ⟨ascL_lab hs, ?_⟩
    unfold ascB
    rw [show (⟨t.toArray⟩ : ByteArray).data.toList = t from rfl, ascL_idem hs]

theorem ascs_labs {fs ls : List ByteArray} (h : ascs fs = some ls) : ∀ a ∈ ls, labL a.data.toList = true ∧ ascB a = some a := fun a ha => by
  obtain ⟨s, _, e⟩ := ascs_mem h a ha
  exact ascB_lab e

theorem ascs_self : ∀ {ls : List ByteArray}, (∀ a ∈ ls, ascB a = some a) → ascs ls = some ls
  | [], _ => rfl
  | a :: r, h => by
    rw [ascs, h a List.mem_cons_self, ascs_self fun b hb => h b (List.mem_cons_of_mem _ hb)]

theorem jn_le (sep : UInt8) (a b : List ByteArray) : (jn sep a).length ≤ (jn sep (a ++ b)).length := by
  cases a with
  | nil => simp [jn]
  | cons x xs => simp [jn, List.flatMap_append]

theorem flat_bound (sep : UInt8) : ∀ (ys : List ByteArray), (∀ a ∈ ys, a.size ≤ 63) → (ys.flatMap fun y => sep :: y.data.toList).length ≤ 64 * ys.length
  | [], _ => by simp
  | y :: ys, hh => by
    have h2 := hh y List.mem_cons_self
    have hy : y.data.toList.length = y.size := by simp
    have h3 := flat_bound sep ys fun a ha => hh a (List.mem_cons_of_mem _ ha)
    rw [List.flatMap_cons, List.length_append, List.length_cons, List.length_cons]
    omega
theorem jn_bound (sep : UInt8) (ls : List ByteArray) (h : ∀ a ∈ ls, a.size ≤ 63) : (jn sep ls).length ≤ 64 * ls.length := by
  cases ls with
  | nil => simp [jn]
  | cons x xs =>
    have h1 := h x List.mem_cons_self
    have hx : x.data.toList.length = x.size := by simp
    have h3 := flat_bound sep xs fun a ha => h a (List.mem_cons_of_mem _ ha)
    unfold jn
    rw [List.length_append, List.length_cons]
    omega

theorem jn_join (ls : List ByteArray) : Lib.join (ls.map (·.data.toList)) [46] = jn 46 ls := by
  cases ls with
  | nil => rfl
  | cons x xs =>
    unfold jn
    induction xs generalizing x with
    | nil => simp [Lib.join, List.intercalate]
    | cons y ys ih =>
      have h := ih y
      simp only [Lib.join, List.intercalate, List.map_cons] at h ⊢
      rw [List.intersperse_cons_cons, List.flatten_cons, List.flatten_cons, h, List.flatMap_cons]
      simp

theorem labs_size {ls : List ByteArray} (h : ∀ a ∈ ls, labL a.data.toList = true ∧ ascB a = some a) : ∀ a ∈ ls, a.size ≤ 63 := fun a ha => by
  have := (labL_parts (h a ha).1).2.1
  simpa using this

theorem namesL_no {fs : List ByteArray} (h : ascs fs = none) : namesL fs = none := by unfold namesL; rw [h]
theorem namesL_big {fs ls : List ByteArray} (h : ascs fs = some ls) (h2 : ¬ (jn 46 ls).length ≤ 253) : namesL fs = none := by unfold namesL; rw [h]; exact if_neg h2
theorem namesL_yes {fs ls : List ByteArray} (h : ascs fs = some ls) (h2 : (jn 46 ls).length ≤ 253) : namesL fs = some (jn 46 ls) := by unfold namesL; rw [h]; exact if_pos h2

end Go.Proofs.YtamnhegianpedaaGreatDoor

namespace Go.Proofs.YtamnhegianpedaaGreatDoor
open Go.RowKit

def sOf (r : Option (List UInt8)) : Option ByteArray := r.map fun t => ⟨t.toArray⟩

theorem ansS_asc (s : ByteArray) : ansS (ascL s.data.toList) = match ascB s with
    | some a => .tuple #[.string a, .bool true]
    | none => .tuple #[.string ⟨#[]⟩, .bool false] := by
  unfold ascB ansS
  cases ascL s.data.toList <;> rfl

theorem take_ascs {fs ls : List ByteArray} {k : Nat} (hk : k < fs.length) (h : ascs (fs.take k) = some ls) : ascs (fs.take (k + 1)) = match ascB (fs.getD k ByteArray.empty) with
    | some a => some (ls ++ [a])
    | none => none := by
  rw [btake_snoc fs k hk, ascs_append, h]
  simp only [ascs]
  cases ascB (fs.getD k ByteArray.empty) <;> rfl
theorem ascs_none_of {fs : List ByteArray} {k : Nat} (h : ascs (fs.take k) = none) : ascs fs = none := by
  rw [← List.take_append_drop k fs, ascs_append, h]
theorem names_over {fs ls : List ByteArray} {k : Nat} (h : ascs (fs.take k) = some ls) (h2 : ¬ (jn 46 ls).length ≤ 253) : namesL fs = none := by
  have e := ascs_append (fs.take k) (fs.drop k)
  rw [List.take_append_drop, h] at e
  cases hd : ascs (fs.drop k) with
  | none => rw [hd] at e; exact namesL_no e
  | some ms =>
    rw [hd] at e
    refine namesL_big e fun hh => h2 (Nat.le_trans (jn_le 46 ls ms) hh)

theorem name_ans_no {r : Option (List UInt8)} (h : r = none) : ansS r = .tuple #[.string ⟨#[]⟩, .bool false] := by rw [h]; rfl
theorem name_ans_yes {r : Option (List UInt8)} {t : List UInt8} (h : r = some t) : ansS r = .tuple #[.string ⟨t.toArray⟩, .bool true] := by rw [h]; rfl

theorem len_data (z : ByteArray) : z.data.toList.length = z.size := by simp
theorem arr_data (z : ByteArray) : (⟨z.data.toList.toArray⟩ : ByteArray) = z := by
  apply ByteArray.ext
  apply Array.toList_inj.1
  rfl


set_option maxHeartbeats 4000000 in
theorem specNameOf (s : ByteArray) (w : World) (hs : s.size ≤ 1048576) :
    Calls Tryz.prog 22 #[.string s] w fun e w' => e = .returned (ansS (nameL s)) ∧ Below w.heap.size w w' := by
  have CF : Hid (Calls Tryz.prog 42 #[.string s, .int .u8 46] w fun e w' => ∃ v, e = .returned v ∧ w'.ownsRow w.heap.size 9 1 v (fieldsL s 46).length (scells (fieldsL s 46)) ∧ Below w.heap.size w w') := specFields s 46 w hs
  have hpos : 0 < (fieldsL s 46).length := by simp [fieldsL]
  have hlen : (fieldsL s 46).length ≤ 1048577 := by
    have := (fieldsTo_le s 46 s.size).2
    simp [fieldsL]; omega
  have HSZ0 : Hid (∀ x ∈ fieldsL s 46, x.size ≤ 1048576) := fields_sizes46 s hs
  have HNM0 : Hid (nameL s = namesL (dropE (fieldsL s 46))) := rfl
  generalize fieldsL s 46 = f0 at CF hpos hlen HSZ0 HNM0
  by_cases hd : 1 < f0.length ∧ (f0.getD (f0.length - 1) ByteArray.empty).size = 0
  · have HNM : Hid (nameL s = namesL (f0.take (f0.length - 1))) := by
      have h := HNM0.out
      unfold dropE at h
      rw [if_pos hd] at h
      exact h
    have HSZ : Hid (∀ x ∈ f0.take (f0.length - 1), x.size ≤ 1048576) := fun x hx => HSZ0.out x (List.mem_of_mem_take hx)
    have hl1 : 1 < (f0.length : Int) := by omega
    have hem := empty_yes hd.2
    clear hd
    go_enter Tryz.func22, Tryz.ntmps22
    go_wp2_with fail
    refine CF.out.mono ?_
    rintro e wa ⟨va, rfl, oa, ba⟩
    rcases own_shape oa with ⟨h, _⟩ | ⟨_, g, cap, rfl⟩
    · omega
    · have hc := scell_at oa (f0.length - 1) (by omega)
      have hcap : f0.length ≤ cap := by
        rcases oa.2 with ⟨h, _⟩ | ⟨_, _, _, h, _, _, h3, _⟩
        · cases h
        · cases h; exact h3
      have OV := own_take oa (f0.length - 1) (by omega)
      rw [scells_take] at OV
      have hi : ((f0.length : Int) - 1) = ((f0.length - 1 : Nat) : Int) := by omega
      generalize f0.getD (f0.length - 1) ByteArray.empty = q at hc hem
      clear oa
      go_wp2_with fail
      obtain ⟨m, hm⟩ : ∃ m, f0.length - 1 = m := ⟨_, rfl⟩
      rw [hm] at OV HNM HSZ ⊢
      obtain ⟨fs, hfs⟩ : ∃ fs, f0.take m = fs := ⟨_, rfl⟩
      rw [hfs] at OV HNM HSZ
      have hml : m = fs.length := by rw [← hfs, List.length_take]; omega
      have hlen2 : fs.length ≤ 1048577 := by omega
      clear hfs hm hc hi
      subst hml
      go_loopw [5, 6] (fun o i wr => ∃ (k : Nat) (ls : List ByteArray) (z : ByteArray), k ≤ fs.length ∧ i = .int .i64 k ∧ ascs (fs.take k) = some ls ∧ o = .string z ∧ z.data.toList = jn 46 ls ∧ z.size ≤ 253 ∧ wr.ownsRow w.heap.size 9 1 (.slice (some ⟨g, 0, none⟩) fs.length cap) fs.length (scells fs) ∧ Below w.heap.size w wr)
        (fun _ i _ => fs.length - (intOf i).toNat)
      case atStart => exact ⟨0, [], ⟨#[]⟩, Nat.zero_le _, rfl, rfl, rfl, rfl, by decide, OV, ba⟩
      case round =>
        obtain ⟨k, ls, z, hk, rfl, hls, rfl, hz, hz2, ow, hbel⟩ := hrel
        have HLS : Hid (ascs (fs.take k) = some ls) := hls
        have HZ : Hid (z.data.toList = jn 46 ls) := hz
        have HLN : Hid (ls.length = k) := by show _ = _; rw [ascs_len hls, List.length_take]; omega
        have hz3 : (z.size : Int) ≤ 253 := by omega
        clear hls hz
        by_cases hlt : k < fs.length
        · have hc := scell_at ow k hlt
          have hTA := take_ascs hlt HLS.out
          have hsz := hbel.size
          have CT : Hid (∀ W, Calls Tryz.prog 43 #[.string (fs.getD k ByteArray.empty)] W fun e w' => e = .returned (ansS (ascL (fs.getD k ByteArray.empty).data.toList)) ∧ Below W.heap.size W w') := fun W => specToAscii _ W (HSZ.out _ (by rw [List.getD_eq_getElem?_getD, List.getElem?_eq_getElem hlt]; exact List.getElem_mem hlt))
          rw [ansS_asc] at CT
          generalize fs.getD k ByteArray.empty = y at hc hTA CT
          have hkl : (k : Int) < fs.length := by omega
          cases ha : ascB y with
          | none =>
            rw [ha] at CT hTA
            have HF : Hid (ansS (nameL s) = .tuple #[.string ⟨#[]⟩, .bool false]) := name_ans_no (HNM.out.trans (namesL_no (ascs_none_of hTA)))
            clear ha hTA
            go_wp2_with fail
            refine (CT.out _).mono ?_
            rintro e wb ⟨rfl, bb⟩
            have b2 := hbel.trans (bb.mono hsz)
            clear hbel bb ow
            go_wp2_with fail
            go_ret2
            exact ⟨by rw [HF.out]; rfl, b2⟩
          | some a =>
            rw [ha] at CT hTA
            have hal : a.size ≤ 63 := by
              have := (labL_parts (ascB_lab ha).1).2.1
              simpa using this
            have HTA : Hid (ascs (fs.take (k + 1)) = some (ls ++ [a])) := hTA
            clear ha hTA
            by_cases hk0 : 0 < k
            · first
              | (exfalso; omega)
              | (have HJ : Hid (((z ++ ⟨#[46]⟩) ++ a).data.toList = jn 46 (ls ++ [a])) := by
                   show _ = _
                   rw [jn_snoc 46 ls a (by intro h; have := HLN.out; rw [h] at this; simp at this; omega), ← HZ.out]
                   simp
                 have hzs : ((z ++ (⟨#[46]⟩ : ByteArray)) ++ a).size = z.size + 1 + a.size := by
                   rw [ByteArray.size_append, ByteArray.size_append]; rfl
                 by_cases hov : ((z ++ (⟨#[46]⟩ : ByteArray)) ++ a).size ≤ 253
                 · have hov' : ¬ 253 < ((((z ++ (⟨#[46]⟩ : ByteArray)) ++ a).size : Nat) : Int) := by omega
                   go_wp2_with fail
                   refine (CT.out _).mono ?_
                   rintro e wb ⟨rfl, bb⟩
                   have b2 := hbel.trans (bb.mono hsz)
                   have o2 := own_below ow bb
                   clear hbel bb ow
                   go_wp2_with fail
                   go_roundw
                   case rel => exact ⟨k + 1, ls ++ [a], _, by omega, by go_num, HTA.out, rfl, HJ.out, hov, o2, b2⟩
                   case measure => simp [intOf]; omega
                 · have hov' : 253 < ((((z ++ (⟨#[46]⟩ : ByteArray)) ++ a).size : Nat) : Int) := by omega
                   have HF : Hid (ansS (nameL s) = .tuple #[.string ⟨#[]⟩, .bool false]) := name_ans_no (HNM.out.trans (names_over HTA.out (by
                     rw [← HJ.out]
                     have e := len_data ((z ++ (⟨#[46]⟩ : ByteArray)) ++ a)
                     omega)))
                   go_wp2_with fail
                   refine (CT.out _).mono ?_
                   rintro e wb ⟨rfl, bb⟩
                   have b2 := hbel.trans (bb.mono hsz)
                   clear hbel bb ow
                   go_wp2_with fail
                   go_ret2
                   exact ⟨by rw [HF.out]; rfl, b2⟩)
            · have hk00 : k = 0 := by omega
              subst hk00
              have hl0 : ls = [] := List.eq_nil_of_length_eq_zero HLN.out
              subst hl0
              have hz0 : z = ⟨#[]⟩ := by
                rw [← arr_data z, HZ.out]; rfl
              subst hz0
              have HJ : Hid (((⟨#[]⟩ : ByteArray) ++ a).data.toList = jn 46 ([] ++ [a])) := by
                show _ = _
                rw [jn_one]
                simp
              have hzs : ((⟨#[]⟩ : ByteArray) ++ a).size = a.size := by
                rw [ByteArray.size_append]; exact Nat.zero_add _
              have hov' : ¬ 253 < ((((⟨#[]⟩ : ByteArray) ++ a).size : Nat) : Int) := by omega
              go_wp2_with fail
              refine (CT.out _).mono ?_
              rintro e wb ⟨rfl, bb⟩
              have b2 := hbel.trans (bb.mono hsz)
              have o2 := own_below ow bb
              clear hbel bb ow
              go_wp2_with fail
              go_roundw
              case rel => exact ⟨0 + 1, [] ++ [a], _, by omega, by go_num, HTA.out, rfl, HJ.out, by omega, o2, b2⟩
              case measure => simp [intOf]; omega
        · have hks : k = fs.length := by omega
          have HF : Hid (ansS (nameL s) = .tuple #[.string z, .bool true]) := by
            have h := HLS.out
            rw [hks, List.take_length] at h
            have h2 : (jn 46 ls).length ≤ 253 := by
              rw [← HZ.out]
              have e := len_data z
              omega
            have h3 := name_ans_yes (HNM.out.trans (namesL_yes h h2))
            rw [← HZ.out, arr_data] at h3
            exact h3
          subst hks
          go_wp2_with fail
          go_ret2
          exact ⟨by rw [HF.out]; rfl, hbel⟩
  · have HNM : Hid (nameL s = namesL f0) := by
      have h := HNM0.out
      unfold dropE at h
      rw [if_neg hd] at h
      exact h
    by_cases hl1 : 1 < f0.length
    · have hl1' : 1 < (f0.length : Int) := by omega
      have hem := empty_no (u := f0.getD (f0.length - 1) ByteArray.empty) (by apply Nat.pos_of_ne_zero; intro h; exact hd ⟨hl1, h⟩)
      clear hd
      go_enter Tryz.func22, Tryz.ntmps22
      go_wp2_with fail
      refine CF.out.mono ?_
      rintro e wa ⟨va, rfl, OV, ba⟩
      rcases own_shape OV with ⟨h, _⟩ | ⟨_, g, cap, rfl⟩
      · omega
      · have hc := scell_at OV (f0.length - 1) (by omega)
        have hi : ((f0.length : Int) - 1) = ((f0.length - 1 : Nat) : Int) := by omega
        generalize f0.getD (f0.length - 1) ByteArray.empty = q at hc hem
        go_wp2_with fail
        clear hc hi hem hl1 hl1'
        have HSZ := HSZ0
        go_loopw [5, 6] (fun o i wr => ∃ (k : Nat) (ls : List ByteArray) (z : ByteArray), k ≤ f0.length ∧ i = .int .i64 k ∧ ascs (f0.take k) = some ls ∧ o = .string z ∧ z.data.toList = jn 46 ls ∧ z.size ≤ 253 ∧ wr.ownsRow w.heap.size 9 1 (.slice (some ⟨g, 0, none⟩) f0.length cap) f0.length (scells f0) ∧ Below w.heap.size w wr)
          (fun _ i _ => f0.length - (intOf i).toNat)
        case atStart => exact ⟨0, [], ⟨#[]⟩, Nat.zero_le _, rfl, rfl, rfl, rfl, by decide, OV, ba⟩
        case round =>
          obtain ⟨k, ls, z, hk, rfl, hls, rfl, hz, hz2, ow, hbel⟩ := hrel
          have HLS : Hid (ascs (f0.take k) = some ls) := hls
          have HZ : Hid (z.data.toList = jn 46 ls) := hz
          have HLN : Hid (ls.length = k) := by show _ = _; rw [ascs_len hls, List.length_take]; omega
          have hz3 : (z.size : Int) ≤ 253 := by omega
          clear hls hz
          by_cases hlt : k < f0.length
          · have hc := scell_at ow k hlt
            have hTA := take_ascs hlt HLS.out
            have hsz := hbel.size
            have CT : Hid (∀ W, Calls Tryz.prog 43 #[.string (f0.getD k ByteArray.empty)] W fun e w' => e = .returned (ansS (ascL (f0.getD k ByteArray.empty).data.toList)) ∧ Below W.heap.size W w') := fun W => specToAscii _ W (HSZ.out _ (by rw [List.getD_eq_getElem?_getD, List.getElem?_eq_getElem hlt]; exact List.getElem_mem hlt))
            rw [ansS_asc] at CT
            generalize f0.getD k ByteArray.empty = y at hc hTA CT
            have hkl : (k : Int) < f0.length := by omega
            cases ha : ascB y with
            | none =>
              rw [ha] at CT hTA
              have HF : Hid (ansS (nameL s) = .tuple #[.string ⟨#[]⟩, .bool false]) := name_ans_no (HNM.out.trans (namesL_no (ascs_none_of hTA)))
              clear ha hTA
              go_wp2_with fail
              refine (CT.out _).mono ?_
              rintro e wb ⟨rfl, bb⟩
              have b2 := hbel.trans (bb.mono hsz)
              clear hbel bb ow
              go_wp2_with fail
              go_ret2
              exact ⟨by rw [HF.out]; rfl, b2⟩
            | some a =>
              rw [ha] at CT hTA
              have hal : a.size ≤ 63 := by
                have := (labL_parts (ascB_lab ha).1).2.1
                simpa using this
              have HTA : Hid (ascs (f0.take (k + 1)) = some (ls ++ [a])) := hTA
              clear ha hTA
              by_cases hk0 : 0 < k
              · first
                | (exfalso; omega)
                | (have HJ : Hid (((z ++ ⟨#[46]⟩) ++ a).data.toList = jn 46 (ls ++ [a])) := by
                     show _ = _
                     rw [jn_snoc 46 ls a (by intro h; have := HLN.out; rw [h] at this; simp at this; omega), ← HZ.out]
                     simp
                   have hzs : ((z ++ (⟨#[46]⟩ : ByteArray)) ++ a).size = z.size + 1 + a.size := by
                     rw [ByteArray.size_append, ByteArray.size_append]; rfl
                   by_cases hov : ((z ++ (⟨#[46]⟩ : ByteArray)) ++ a).size ≤ 253
                   · have hov' : ¬ 253 < ((((z ++ (⟨#[46]⟩ : ByteArray)) ++ a).size : Nat) : Int) := by omega
                     go_wp2_with fail
                     refine (CT.out _).mono ?_
                     rintro e wb ⟨rfl, bb⟩
                     have b2 := hbel.trans (bb.mono hsz)
                     have o2 := own_below ow bb
                     clear hbel bb ow
                     go_wp2_with fail
                     go_roundw
                     case rel => exact ⟨k + 1, ls ++ [a], _, by omega, by go_num, HTA.out, rfl, HJ.out, hov, o2, b2⟩
                     case measure => simp [intOf]; omega
                   · have hov' : 253 < ((((z ++ (⟨#[46]⟩ : ByteArray)) ++ a).size : Nat) : Int) := by omega
                     have HF : Hid (ansS (nameL s) = .tuple #[.string ⟨#[]⟩, .bool false]) := name_ans_no (HNM.out.trans (names_over HTA.out (by
                       rw [← HJ.out]
                       have e := len_data ((z ++ (⟨#[46]⟩ : ByteArray)) ++ a)
                       omega)))
                     go_wp2_with fail
                     refine (CT.out _).mono ?_
                     rintro e wb ⟨rfl, bb⟩
                     have b2 := hbel.trans (bb.mono hsz)
                     clear hbel bb ow
                     go_wp2_with fail
                     go_ret2
                     exact ⟨by rw [HF.out]; rfl, b2⟩)
              · have hk00 : k = 0 := by omega
                subst hk00
                have hl0 : ls = [] := List.eq_nil_of_length_eq_zero HLN.out
                subst hl0
                have hz0 : z = ⟨#[]⟩ := by
                  rw [← arr_data z, HZ.out]; rfl
                subst hz0
                have HJ : Hid (((⟨#[]⟩ : ByteArray) ++ a).data.toList = jn 46 ([] ++ [a])) := by
                  show _ = _
                  rw [jn_one]
                  simp
                have hzs : ((⟨#[]⟩ : ByteArray) ++ a).size = a.size := by
                  rw [ByteArray.size_append]; exact Nat.zero_add _
                have hov' : ¬ 253 < ((((⟨#[]⟩ : ByteArray) ++ a).size : Nat) : Int) := by omega
                go_wp2_with fail
                refine (CT.out _).mono ?_
                rintro e wb ⟨rfl, bb⟩
                have b2 := hbel.trans (bb.mono hsz)
                have o2 := own_below ow bb
                clear hbel bb ow
                go_wp2_with fail
                go_roundw
                case rel => exact ⟨0 + 1, [] ++ [a], _, by omega, by go_num, HTA.out, rfl, HJ.out, by omega, o2, b2⟩
                case measure => simp [intOf]; omega
          · have hks : k = f0.length := by omega
            have HF : Hid (ansS (nameL s) = .tuple #[.string z, .bool true]) := by
              have h := HLS.out
              rw [hks, List.take_length] at h
              have h2 : (jn 46 ls).length ≤ 253 := by
                rw [← HZ.out]
                have e := len_data z
                omega
              have h3 := name_ans_yes (HNM.out.trans (namesL_yes h h2))
              rw [← HZ.out, arr_data] at h3
              exact h3
            subst hks
            go_wp2_with fail
            go_ret2
            exact ⟨by rw [HF.out]; rfl, hbel⟩
    · have hl1' : ¬ 1 < (f0.length : Int) := by omega
      clear hd
      go_enter Tryz.func22, Tryz.ntmps22
      go_wp2_with fail
      refine CF.out.mono ?_
      rintro e wa ⟨va, rfl, OV, ba⟩
      rcases own_shape OV with ⟨h, _⟩ | ⟨_, g, cap, rfl⟩
      · omega
      · go_wp2_with fail
        clear hl1 hl1'
        have HSZ := HSZ0
        go_loopw [5, 6] (fun o i wr => ∃ (k : Nat) (ls : List ByteArray) (z : ByteArray), k ≤ f0.length ∧ i = .int .i64 k ∧ ascs (f0.take k) = some ls ∧ o = .string z ∧ z.data.toList = jn 46 ls ∧ z.size ≤ 253 ∧ wr.ownsRow w.heap.size 9 1 (.slice (some ⟨g, 0, none⟩) f0.length cap) f0.length (scells f0) ∧ Below w.heap.size w wr)
          (fun _ i _ => f0.length - (intOf i).toNat)
        case atStart => exact ⟨0, [], ⟨#[]⟩, Nat.zero_le _, rfl, rfl, rfl, rfl, by decide, OV, ba⟩
        case round =>
          obtain ⟨k, ls, z, hk, rfl, hls, rfl, hz, hz2, ow, hbel⟩ := hrel
          have HLS : Hid (ascs (f0.take k) = some ls) := hls
          have HZ : Hid (z.data.toList = jn 46 ls) := hz
          have HLN : Hid (ls.length = k) := by show _ = _; rw [ascs_len hls, List.length_take]; omega
          have hz3 : (z.size : Int) ≤ 253 := by omega
          clear hls hz
          by_cases hlt : k < f0.length
          · have hc := scell_at ow k hlt
            have hTA := take_ascs hlt HLS.out
            have hsz := hbel.size
            have CT : Hid (∀ W, Calls Tryz.prog 43 #[.string (f0.getD k ByteArray.empty)] W fun e w' => e = .returned (ansS (ascL (f0.getD k ByteArray.empty).data.toList)) ∧ Below W.heap.size W w') := fun W => specToAscii _ W (HSZ.out _ (by rw [List.getD_eq_getElem?_getD, List.getElem?_eq_getElem hlt]; exact List.getElem_mem hlt))
            rw [ansS_asc] at CT
            generalize f0.getD k ByteArray.empty = y at hc hTA CT
            have hkl : (k : Int) < f0.length := by omega
            cases ha : ascB y with
            | none =>
              rw [ha] at CT hTA
              have HF : Hid (ansS (nameL s) = .tuple #[.string ⟨#[]⟩, .bool false]) := name_ans_no (HNM.out.trans (namesL_no (ascs_none_of hTA)))
              clear ha hTA
              go_wp2_with fail
              refine (CT.out _).mono ?_
              rintro e wb ⟨rfl, bb⟩
              have b2 := hbel.trans (bb.mono hsz)
              clear hbel bb ow
              go_wp2_with fail
              go_ret2
              exact ⟨by rw [HF.out]; rfl, b2⟩
            | some a =>
              rw [ha] at CT hTA
              have hal : a.size ≤ 63 := by
                have := (labL_parts (ascB_lab ha).1).2.1
                simpa using this
              have HTA : Hid (ascs (f0.take (k + 1)) = some (ls ++ [a])) := hTA
              clear ha hTA
              by_cases hk0 : 0 < k
              · first
                | (exfalso; omega)
                | (have HJ : Hid (((z ++ ⟨#[46]⟩) ++ a).data.toList = jn 46 (ls ++ [a])) := by
                     show _ = _
                     rw [jn_snoc 46 ls a (by intro h; have := HLN.out; rw [h] at this; simp at this; omega), ← HZ.out]
                     simp
                   have hzs : ((z ++ (⟨#[46]⟩ : ByteArray)) ++ a).size = z.size + 1 + a.size := by
                     rw [ByteArray.size_append, ByteArray.size_append]; rfl
                   by_cases hov : ((z ++ (⟨#[46]⟩ : ByteArray)) ++ a).size ≤ 253
                   · have hov' : ¬ 253 < ((((z ++ (⟨#[46]⟩ : ByteArray)) ++ a).size : Nat) : Int) := by omega
                     go_wp2_with fail
                     refine (CT.out _).mono ?_
                     rintro e wb ⟨rfl, bb⟩
                     have b2 := hbel.trans (bb.mono hsz)
                     have o2 := own_below ow bb
                     clear hbel bb ow
                     go_wp2_with fail
                     go_roundw
                     case rel => exact ⟨k + 1, ls ++ [a], _, by omega, by go_num, HTA.out, rfl, HJ.out, hov, o2, b2⟩
                     case measure => simp [intOf]; omega
                   · have hov' : 253 < ((((z ++ (⟨#[46]⟩ : ByteArray)) ++ a).size : Nat) : Int) := by omega
                     have HF : Hid (ansS (nameL s) = .tuple #[.string ⟨#[]⟩, .bool false]) := name_ans_no (HNM.out.trans (names_over HTA.out (by
                       rw [← HJ.out]
                       have e := len_data ((z ++ (⟨#[46]⟩ : ByteArray)) ++ a)
                       omega)))
                     go_wp2_with fail
                     refine (CT.out _).mono ?_
                     rintro e wb ⟨rfl, bb⟩
                     have b2 := hbel.trans (bb.mono hsz)
                     clear hbel bb ow
                     go_wp2_with fail
                     go_ret2
                     exact ⟨by rw [HF.out]; rfl, b2⟩)
              · have hk00 : k = 0 := by omega
                subst hk00
                have hl0 : ls = [] := List.eq_nil_of_length_eq_zero HLN.out
                subst hl0
                have hz0 : z = ⟨#[]⟩ := by
                  rw [← arr_data z, HZ.out]; rfl
                subst hz0
                have HJ : Hid (((⟨#[]⟩ : ByteArray) ++ a).data.toList = jn 46 ([] ++ [a])) := by
                  show _ = _
                  rw [jn_one]
                  simp
                have hzs : ((⟨#[]⟩ : ByteArray) ++ a).size = a.size := by
                  rw [ByteArray.size_append]; exact Nat.zero_add _
                have hov' : ¬ 253 < ((((⟨#[]⟩ : ByteArray) ++ a).size : Nat) : Int) := by omega
                go_wp2_with fail
                refine (CT.out _).mono ?_
                rintro e wb ⟨rfl, bb⟩
                have b2 := hbel.trans (bb.mono hsz)
                have o2 := own_below ow bb
                clear hbel bb ow
                go_wp2_with fail
                go_roundw
                case rel => exact ⟨0 + 1, [] ++ [a], _, by omega, by go_num, HTA.out, rfl, HJ.out, by omega, o2, b2⟩
                case measure => simp [intOf]; omega
          · have hks : k = f0.length := by omega
            have HF : Hid (ansS (nameL s) = .tuple #[.string z, .bool true]) := by
              have h := HLS.out
              rw [hks, List.take_length] at h
              have h2 : (jn 46 ls).length ≤ 253 := by
                rw [← HZ.out]
                have e := len_data z
                omega
              have h3 := name_ans_yes (HNM.out.trans (namesL_yes h h2))
              rw [← HZ.out, arr_data] at h3
              exact h3
            subst hks
            go_wp2_with fail
            go_ret2
            exact ⟨by rw [HF.out]; rfl, hbel⟩
end Go.Proofs.YtamnhegianpedaaGreatDoor

namespace Go.Proofs.YtamnhegianpedaaGreatDoor
open Go.RowKit

/-- What 'each' of ToAscii answers. -/
def eachAns (w w' : World) (r : Option (List ByteArray)) (e : Ending) : Prop := match r with
  | some ls => ∃ v, e = .returned (.tuple #[v, .bool true]) ∧ w'.ownsRow w.heap.size 9 1 v ls.length (scells ls)
  | none => ∃ v, e = .returned (.tuple #[v, .bool false])

set_option maxHeartbeats 4000000 in
theorem implEach (fs : List ByteArray) (B : Nat) (v : Value) (w : World) (hpos : 0 < fs.length) (hlen : fs.length ≤ 1048577) (hsz : ∀ x ∈ fs, x.size ≤ 1048576) (hT : Lib.Utf8Tabs 2 3 w)
    (hown : w.ownsRow B 9 1 v fs.length (scells fs)) :
    Calls Tryz.prog 97 #[v, .func (.func 98) #[] #[]] w fun e w' => eachAns w w' (ascs fs) e ∧ Below w.heap.size w w' := by
  obtain ⟨i0, hi, hz0, hz1, hz2⟩ := info_parts Tryz.infoStr
  have HSZ : Hid (∀ x ∈ fs, x.size ≤ 1048576) := hsz
  have HT : Hid (Lib.Utf8Tabs 2 3 w) := hT
  clear hsz hT
  rcases own_shape hown with ⟨h, _⟩ | ⟨_, g, cap, rfl⟩
  · omega
  · have HOW : Hid (w.ownsRow B 9 1 (.slice (some ⟨g, 0, none⟩) fs.length cap) fs.length (scells fs)) := hown
    clear hown
    go_enter Tryz.func97, Tryz.ntmps97
    go_wp2_with (at_make; refine wpList_make_own _ rfl _ _ 102 rfl w.heap.size 9 i0 (.string ⟨#[]⟩) 1 Tryz.underlying102 hi hz0 hz1 _ _ _ fs.length rfl rfl (by omega) (by rw [hz2]; omega) (by unfold maxLen; omega) (Nat.le_refl _) ?_)
    intro wm hmo hgm
    have Bm : Below w.heap.size w wm := (Below.refl _ _).grown hgm (Nat.le_refl _) (fun k hk => by cases hk)
    have om : wm.ownsRow w.heap.size 9 1 (.slice (some ⟨w.heap.size, 0, none⟩) 0 fs.length) 0 [] := hmo
    clear hmo hgm
    go_wp2_with fail
    go_loopw [6, 16] (fun m i wr => ∃ (k : Nat) (ls : List ByteArray), k ≤ fs.length ∧ i = .int .i64 k ∧ ascs (fs.take k) = some ls ∧ wr.ownsRow w.heap.size 9 1 m ls.length (scells ls) ∧ Below w.heap.size w wr)
      (fun _ i _ => fs.length - (intOf i).toNat)
    case atStart => exact ⟨0, [], Nat.zero_le _, rfl, rfl, om, Bm⟩
    case round =>
      obtain ⟨k, ls, hk, rfl, hls, ow, hbel⟩ := hrel
      clear om Bm
      have HLS : Hid (ascs (fs.take k) = some ls) := hls
      have hln : ls.length = k := by rw [ascs_len hls, List.length_take]; omega
      clear hls
      have hsz := hbel.size
      by_cases hlt : k < fs.length
      · have hc := scell_at (own_below HOW.out hbel) k hlt
        have hTA := take_ascs hlt HLS.out
        have CT : Hid (∀ W, Lib.Utf8Tabs 2 3 W → Calls Tryz.prog 98 #[.string (fs.getD k ByteArray.empty)] W fun e w' => e = .returned (ansS (ascL (fs.getD k ByteArray.empty).data.toList)) ∧ Below W.heap.size W w') := fun W hT => implToAscii _ W (HSZ.out _ (by rw [List.getD_eq_getElem?_getD, List.getElem?_eq_getElem hlt]; exact List.getElem_mem hlt)) hT
        have HTW : Hid (Lib.Utf8Tabs 2 3 wr) := tabs_below HT.out hbel
        rw [ansS_asc] at CT
        generalize fs.getD k ByteArray.empty = y at hc hTA CT
        have hkl : (k : Int) < fs.length := by omega
        cases ha : ascB y with
        | none =>
          rw [ha] at CT hTA
          have HF : Hid (ascs fs = none) := ascs_none_of hTA
          clear ha hTA
          go_wp2_with fail
          refine (CT.out _ HTW.out).mono ?_
          rintro e wb ⟨rfl, bb⟩
          have b2 := hbel.trans (bb.mono hsz)
          clear hbel bb ow
          go_wp2_with fail
          go_ret2
          rw [HF.out]
          exact ⟨⟨_, rfl⟩, b2⟩
        | some a =>
          rw [ha] at CT hTA
          have HTA : Hid (ascs (fs.take (k + 1)) = some (ls ++ [a])) := hTA
          clear ha hTA
          go_wp2_with fail
          refine (CT.out _ HTW.out).mono ?_
          rintro e wb ⟨rfl, bb⟩
          have b2 := hbel.trans (bb.mono hsz)
          have o2 := own_below ow bb
          have z2 := b2.size
          clear hbel bb ow HTW CT
          go_wp2_with (at_builtin; refine wpList_append_new _ rfl _ _ 102 rfl w.heap.size 9 (.string ⟨#[]⟩) 16 Tryz.underlying102 Tryz.infoStr rfl _ _ _ rfl o2 #[.string a] 1 rfl rfl (str_one _) (by omega) (by unfold maxLen; omega) z2 ?_)
          intro v' w1 ow' hb1
          have R : w1.ownsRow w.heap.size 9 1 v' (ls ++ [a]).length (scells (ls ++ [a])) := by
            rw [scells_snoc, List.length_append, hln]
            exact ow'
          have B1 : Below w.heap.size w w1 := b2.trans hb1
          clear ow' hb1 o2 b2
          go_wp2_with fail
          go_roundw
          case rel => exact ⟨k + 1, ls ++ [a], by omega, by go_num, HTA.out, R, B1⟩
          case measure => simp [intOf]; omega
      · have hks : k = fs.length := by omega
        have HF : Hid (ascs fs = some ls) := by
          have h := HLS.out
          rw [hks, List.take_length] at h
          exact h
        go_wp2_with fail
        go_ret2
        rw [HF.out]
        exact ⟨⟨_, rfl, ow⟩, hbel⟩

set_option maxHeartbeats 2000000 in
theorem implNameOf (s : ByteArray) (w : World) (hs : s.size ≤ 1048576) (hT : Lib.Utf8Tabs 2 3 w) :
    Calls Tryz.prog 77 #[.string s] w fun e w' => e = .returned (ansS (nameL s)) ∧ Below w.heap.size w w' := by
  have CF : Hid (Calls Tryz.prog 95 #[.string s, .int .u8 46] w fun e w' => ∃ v, e = .returned v ∧ w'.ownsRow w.heap.size 9 1 v (fieldsL s 46).length (scells (fieldsL s 46)) ∧ Below w.heap.size w w') := implFields s 46 w hs
  have hpos : 0 < (fieldsL s 46).length := by simp [fieldsL]
  have hlen : (fieldsL s 46).length ≤ 1048577 := by
    have := (fieldsTo_le s 46 s.size).2
    simp [fieldsL]; omega
  have HSZ : Hid (∀ x ∈ dropE (fieldsL s 46), x.size ≤ 1048576) := dropE_sizes (fields_sizes46 s hs)
  have HNM : Hid (nameL s = namesL (dropE (fieldsL s 46))) := rfl
  have hp2 := dropE_pos hpos
  have hl2 : (dropE (fieldsL s 46)).length ≤ 1048577 := Nat.le_trans (dropE_le _) hlen
  have HT : Hid (Lib.Utf8Tabs 2 3 w) := hT
  have CW : Hid (∀ (W : World) (v : Value) (B : Nat), W.ownsRow B 9 1 v (fieldsL s 46).length (scells (fieldsL s 46)) → Calls Tryz.prog 96 #[v] W fun e w' => ∃ v', e = .returned v' ∧ W.ownsRow B 9 1 v' (dropE (fieldsL s 46)).length (scells (dropE (fieldsL s 46))) ∧ W = w') :=
    fun W v B h => implWithout _ B v W hpos hlen h
  clear hT
  generalize dropE (fieldsL s 46) = fs at CW HSZ HNM hp2 hl2
  go_enter Tryz.func77, Tryz.ntmps77
  go_wp2_with fail
  refine CF.out.mono ?_
  rintro e wa ⟨va, rfl, oa, ba⟩
  go_wp2_with fail
  refine (CW.out _ _ _ oa).mono ?_
  rintro e wb ⟨vb, rfl, ob, rfl⟩
  clear oa CW CF hpos hlen
  have za := ba.size
  have CE : Hid (Calls Tryz.prog 97 #[vb, .func (.func 98) #[] #[]] wa fun e w' => eachAns wa w' (ascs fs) e ∧ Below wa.heap.size wa w') := implEach fs _ vb wa hp2 hl2 HSZ.out (tabs_below HT.out ba) ob
  clear ob
  cases hr : ascs fs with
  | none =>
    have HF : Hid (ansS (nameL s) = .tuple #[.string ⟨#[]⟩, .bool false]) := name_ans_no (HNM.out.trans (namesL_no hr))
    rw [hr] at CE
    clear hr
    go_wp2_with fail
    refine CE.out.mono ?_
    rintro e wc ⟨⟨vc, rfl⟩, bc⟩
    have b2 := ba.trans (bc.mono za)
    clear ba bc
    go_wp2_with fail
    go_ret2
    exact ⟨by rw [HF.out]; rfl, b2⟩
  | some ls =>
    have hll : ls.length = fs.length := ascs_len hr
    have hjb := jn_bound 46 ls (labs_size (ascs_labs hr))
    rw [hr] at CE
    have HR : Hid (ascs fs = some ls) := hr
    clear hr
    go_wp2_with fail
    refine CE.out.mono ?_
    rintro e wc ⟨⟨vc, rfl, oc⟩, bc⟩
    have b2 := ba.trans (bc.mono za)
    clear ba bc
    rcases own_shape oc with ⟨h, _⟩ | ⟨_, g, cap, rfl⟩
    · omega
    · have CJ := Tryz.strings_Join g 0 cap ls ⟨#[46]⟩ wc (fun j x hj => by
          have hjl : j < ls.length := (List.getElem?_eq_some_iff.1 hj).1
          rw [Nat.zero_add, scell_at oc j hjl, List.getD_eq_getElem?_getD, hj]
          rfl) (oc.lt g rfl).2 (by omega) (own_cap oc) (by
          rw [show (⟨#[46]⟩ : ByteArray).data.toList = [46] from rfl, jn_join]; omega)
      rw [show (⟨#[46]⟩ : ByteArray).data.toList = [46] from rfl, jn_join] at CJ
      have CJ : Hid (Calls Tryz.prog 99 #[.slice (some ⟨g, 0, none⟩) ls.length cap, .string ⟨#[46]⟩] wc fun e w' => e = .returned (.string ⟨(jn 46 ls).toArray⟩) ∧ Below wc.heap.size wc w') := CJ
      have hsz : (⟨(jn 46 ls).toArray⟩ : ByteArray).size = (jn 46 ls).length := by
        show (jn 46 ls).toArray.size = _
        exact List.size_toArray
      clear oc hll
      by_cases hov : (jn 46 ls).length ≤ 253
      · have HF : Hid (ansS (nameL s) = .tuple #[.string ⟨(jn 46 ls).toArray⟩, .bool true]) := name_ans_yes (HNM.out.trans (namesL_yes HR.out hov))
        generalize (⟨(jn 46 ls).toArray⟩ : ByteArray) = T at CJ hsz HF
        have hov' : ¬ 253 < (T.size : Int) := by omega
        clear hsz
        go_wp2_with fail
        refine CJ.out.mono ?_
        rintro e wd ⟨rfl, bd⟩
        have b3 := b2.trans (bd.mono b2.size)
        clear b2 bd
        go_wp2_with fail
        go_ret2
        exact ⟨by rw [HF.out]; rfl, b3⟩
      · have HF : Hid (ansS (nameL s) = .tuple #[.string ⟨#[]⟩, .bool false]) := name_ans_no (HNM.out.trans (namesL_big HR.out hov))
        generalize (⟨(jn 46 ls).toArray⟩ : ByteArray) = T at CJ hsz
        have hov' : 253 < (T.size : Int) := by omega
        clear hsz
        go_wp2_with fail
        refine CJ.out.mono ?_
        rintro e wd ⟨rfl, bd⟩
        have b3 := b2.trans (bd.mono b2.size)
        clear b2 bd
        go_wp2_with fail
        go_ret2
        exact ⟨by rw [HF.out]; rfl, b3⟩
end Go.Proofs.YtamnhegianpedaaGreatDoor

namespace Go.Proofs.YtamnhegianpedaaGreatDoor
open Go.RowKit

def partsL (s : ByteArray) : List ByteArray := if s.size = 0 then [] else (fieldsL s 46).reverse

theorem scells_enc (fs : List ByteArray) : scells fs = (fs.map (·.data.toList)).map Go.Proofs.encStr := by
  unfold scells
  rw [List.map_map]
  exact List.map_congr_left fun b _ => rfl

theorem enc_one : OneCell Go.Proofs.encStr := fun _ => rfl

theorem fieldsL_pos (s : ByteArray) (b : Int) : 0 < (fieldsL s b).length := by simp [fieldsL]

theorem fields_le (s : ByteArray) (b : Int) : (fieldsL s b).length ≤ s.size + 1 := by
  have := (fieldsTo_le s b s.size).2
  simp [fieldsL]; omega

theorem parts_empty_yes {u : ByteArray} (h : u.size = 0) : u.toList.isEmpty = true := by
  rw [ByteArray.toList_eq, List.isEmpty_iff_length_eq_zero]
  simpa using h
theorem parts_empty_no {u : ByteArray} (h : 0 < u.size) : u.toList.isEmpty = false := by
  cases he : u.toList.isEmpty with
  | false => rfl
  | true =>
    rw [ByteArray.toList_eq, List.isEmpty_iff_length_eq_zero] at he
    have : u.size = 0 := by simpa using he
    omega

theorem rev_step (l : List ByteArray) (k : Nat) (h : k < l.length) : l.reverse.take (l.length - k) = l.reverse.take (l.length - (k + 1)) ++ [l.getD k ByteArray.empty] := by
  have e : l.length - k = l.length - (k + 1) + 1 := by omega
  have hk : l.length - (k + 1) < l.reverse.length := by rw [List.length_reverse]; omega
  rw [e, List.take_succ_eq_append_getElem hk, List.getElem_reverse]
  have e2 : l.length - 1 - (l.length - (k + 1)) = k := by omega
  simp only [e2]
  rw [List.getD_eq_getElem?_getD, List.getElem?_eq_getElem h]
  rfl

end Go.Proofs.YtamnhegianpedaaGreatDoor

namespace Go.Proofs.YtamnhegianpedaaGreatDoor
open Go.RowKit

def noDot (l : List UInt8) : Prop := ∀ c ∈ l, c ≠ 46

theorem cut_eq : ∀ {a b r q : List UInt8}, noDot a → noDot b → (r = [] ∨ ∃ t, r = 46 :: t) → (q = [] ∨ ∃ t, q = 46 :: t) → a ++ r = b ++ q → a = b ∧ r = q
  | [], [], r, q, _, _, _, _, h => ⟨rfl, h⟩
  | [], y :: b, r, q, _, hb, hr, _, h => by
    exfalso
    rcases hr with rfl | ⟨t, rfl⟩
    · simp at h
    · simp at h
      exact hb y List.mem_cons_self h.1.symm
  | x :: a, [], r, q, ha, _, _, hq, h => by
    exfalso
    rcases hq with rfl | ⟨t, rfl⟩
    · simp at h
    · simp at h
      exact ha x List.mem_cons_self h.1
  | x :: a, y :: b, r, q, ha, hb, hr, hq, h => by
    simp only [List.cons_append, List.cons.injEq] at h
    obtain ⟨h1, h2⟩ := cut_eq (fun c hc => ha c (List.mem_cons_of_mem _ hc)) (fun c hc => hb c (List.mem_cons_of_mem _ hc)) hr hq h.2
    exact ⟨by rw [h.1, h1], h2⟩

theorem jn_cons (x y : ByteArray) (r : List ByteArray) : jn 46 (x :: y :: r) = x.data.toList ++ 46 :: jn 46 (y :: r) := by
  simp [jn]

theorem data_inj {x y : ByteArray} (h : x.data.toList = y.data.toList) : x = y := by
  apply ByteArray.ext
  exact Array.toList_inj.1 h

theorem jn_inj : ∀ {xs ys : List ByteArray}, xs ≠ [] → ys ≠ [] → (∀ x ∈ xs, noDot x.data.toList) → (∀ y ∈ ys, noDot y.data.toList) → jn 46 xs = jn 46 ys → xs = ys
  | [], _, h, _, _, _, _ => absurd rfl h
  | _ :: _, [], _, h, _, _, _ => absurd rfl h
  | [x], [y], _, _, _, _, h => by
    simp only [jn, List.flatMap_nil, List.append_nil] at h
    rw [data_inj h]
  | [x], y :: z :: r, _, _, hx, hy, h => by
    exfalso
    rw [jn_cons] at h
    have h' : x.data.toList ++ [] = y.data.toList ++ 46 :: jn 46 (z :: r) := by rw [← h]; simp [jn]
    obtain ⟨_, h2⟩ := cut_eq (hx x List.mem_cons_self) (hy y List.mem_cons_self) (.inl rfl) (.inr ⟨_, rfl⟩) h'
    cases h2
  | x :: z :: r, [y], _, _, hx, hy, h => by
    exfalso
    rw [jn_cons] at h
    have h' : x.data.toList ++ 46 :: jn 46 (z :: r) = y.data.toList ++ [] := by rw [h]; simp [jn]
    obtain ⟨_, h2⟩ := cut_eq (hx x List.mem_cons_self) (hy y List.mem_cons_self) (.inr ⟨_, rfl⟩) (.inl rfl) h'
    cases h2
  | x :: z :: r, y :: u :: q, _, _, hx, hy, h => by
    rw [jn_cons, jn_cons] at h
    obtain ⟨h1, h2⟩ := cut_eq (hx x List.mem_cons_self) (hy y List.mem_cons_self) (.inr ⟨_, rfl⟩) (.inr ⟨_, rfl⟩) h
    have h3 : jn 46 (z :: r) = jn 46 (u :: q) := by simpa using h2
    have h4 := jn_inj (by simp) (by simp) (fun a ha => hx a (List.mem_cons_of_mem _ ha)) (fun a ha => hy a (List.mem_cons_of_mem _ ha)) h3
    rw [data_inj h1, h4]

theorem fields_noDot (s : ByteArray) : ∀ k, k ≤ s.size → (fieldsTo s 46 k).2 ≤ k ∧ (∀ x ∈ (fieldsTo s 46 k).1, noDot x.data.toList) ∧ noDot ((s.data.toList.take k).drop (fieldsTo s 46 k).2)
  | 0, _ => by simp [fieldsTo, noDot]
  | k + 1, hk => by
    obtain ⟨h0, h1, h2⟩ := fields_noDot s k (by omega)
    by_cases e : (s[k].toNat : Int) = 46
    · rw [fieldsTo_hit s 46 k (by omega) e]
      refine ⟨Nat.le_refl _, fun x hx => ?_, ?_⟩
      · rcases List.mem_append.1 hx with h | h
        · exact h1 x h
        · rw [List.mem_singleton.1 h, extract_list]
          exact h2
      · simp only
        rw [List.drop_of_length_le (by rw [List.length_take]; omega)]
        intro c hc
        simp at hc
    · rw [fieldsTo_miss s 46 k (by omega) e]
      refine ⟨by omega, h1, ?_⟩
      rw [take_snoc s k (by omega), List.drop_append_of_le_length (by rw [List.length_take]; simp; omega)]
      intro c hc
      rcases List.mem_append.1 hc with h | h
      · exact h2 c h
      · rw [List.mem_singleton.1 h]
        intro h3
        apply e
        rw [h3]
        rfl

theorem fieldsL_noDot (s : ByteArray) : ∀ x ∈ fieldsL s 46, noDot x.data.toList := by
  obtain ⟨_, h1, h2⟩ := fields_noDot s s.size (Nat.le_refl _)
  intro x hx
  unfold fieldsL at hx
  rcases List.mem_append.1 hx with h | h
  · exact h1 x h
  · rw [List.mem_singleton.1 h, extract_list]
    exact h2

theorem lab_noDot {l : List UInt8} (h : labL l = true) : noDot l := fun c hc he => by
  have := labB_parts ((labL_parts h).2.2.2.2 c hc)
  rw [he] at this
  revert this
  decide

theorem fields_jn {ls : List ByteArray} (hne : ls ≠ []) (h : ∀ a ∈ ls, labL a.data.toList = true) : fieldsL ⟨(jn 46 ls).toArray⟩ 46 = ls := by
  refine jn_inj (by intro h0; have := fieldsL_pos ⟨(jn 46 ls).toArray⟩ 46; rw [h0] at this; simp at this) hne (fieldsL_noDot _) (fun x hx => lab_noDot (h x hx)) ?_
  exact fieldsL_join ⟨(jn 46 ls).toArray⟩ 46 (by decide) (by decide)

theorem dropE_labs {ls : List ByteArray} (h : ∀ a ∈ ls, labL a.data.toList = true) : dropE ls = ls := by
  unfold dropE
  refine if_neg fun hh => ?_
  have hl : ls.length - 1 < ls.length := by omega
  have hm : ls.getD (ls.length - 1) ByteArray.empty ∈ ls := by
    rw [List.getD_eq_getElem?_getD, List.getElem?_eq_getElem hl]
    exact List.getElem_mem hl
  have := (labL_parts (h _ hm)).1
  have e : (ls.getD (ls.length - 1) ByteArray.empty).data.toList.length = (ls.getD (ls.length - 1) ByteArray.empty).size := by simp
  omega

/-- What a right name is made of. -/
theorem name_back {s : ByteArray} {n : List UInt8} (h : nameL s = some n) : ∃ ls : List ByteArray, ls ≠ [] ∧ ls.length ≤ 253 ∧ n.length ≤ 253 ∧ (∀ a ∈ ls, labL a.data.toList = true ∧ a.size ≤ 63) ∧ n = jn 46 ls ∧
    nameL ⟨n.toArray⟩ = some n ∧ partsL ⟨n.toArray⟩ = ls.reverse ∧ 0 < n.length := by
  unfold nameL at h
  have hp := dropE_pos (fieldsL_pos s 46)
  generalize dropE (fieldsL s 46) = fs at h hp
  unfold namesL at h
  cases hr : ascs fs with
  | none => rw [hr] at h; cases h
  | some ls =>
    rw [hr] at h
    simp only at h
    split at h
    · rename_i hle
      cases h
      have hl := ascs_len hr
      have hne : ls ≠ [] := by intro h0; rw [h0] at hl; simp at hl; omega
      have hlab := ascs_labs hr
      have hlab1 : ∀ a ∈ ls, labL a.data.toList = true := fun a ha => (hlab a ha).1
      have hf := fields_jn hne hlab1
      have hpos : 0 < (jn 46 ls).length ∧ ls.length ≤ (jn 46 ls).length := by
        have key : ∀ ms : List ByteArray, ms.length ≤ (ms.flatMap fun y => (46 : UInt8) :: y.data.toList).length := by
          intro ms
          induction ms with
          | nil => simp
          | cons m ms ih => rw [List.flatMap_cons, List.length_append, List.length_cons, List.length_cons]; omega
        match ls, hne, hlab1 with
        | x :: xs, _, h1 =>
          have h2 := (labL_parts (h1 x List.mem_cons_self)).1
          have h3 := key xs
          unfold jn
          rw [List.length_append, List.length_cons]
          omega
      refine ⟨ls, hne, by omega, hle, fun a ha => ⟨hlab1 a ha, labs_size hlab a ha⟩, rfl, ?_, ?_, hpos.1⟩
      · unfold nameL
        rw [hf, dropE_labs hlab1]
        exact namesL_yes (ascs_self fun a ha => (hlab a ha).2) hle
      · unfold partsL
        rw [hf, if_neg]
        show ¬ (jn 46 ls).toArray.size = 0
        rw [List.size_toArray]
        omega
    · cases h

/-- One part more ahead. -/
theorem jn_part (ls : List ByteArray) (k : Nat) (hk : k < ls.length) : jn 46 (ls.drop (ls.length - (k + 1))) = (ls.reverse.getD k ByteArray.empty).data.toList ++ (if 0 < k then 46 :: jn 46 (ls.drop (ls.length - k)) else []) := by
  have hi : ls.length - (k + 1) < ls.length := by omega
  have e : ls.reverse.getD k ByteArray.empty = ls[ls.length - (k + 1)] := by
    rw [List.getD_eq_getElem?_getD, List.getElem?_eq_getElem (by rw [List.length_reverse]; exact hk), List.getElem_reverse]
    simp only [Option.getD_some]
    congr 1
    omega
  rw [List.drop_eq_getElem_cons hi, e]
  have e2 : ls.length - (k + 1) + 1 = ls.length - k := by omega
  rw [e2]
  by_cases h0 : 0 < k
  · rw [if_pos h0]
    have hj : ls.length - k < ls.length := by omega
    rw [List.drop_eq_getElem_cons hj, jn_cons]
  · rw [if_neg h0]
    have : k = 0 := by omega
    subst this
    simp [jn]
end Go.Proofs.YtamnhegianpedaaGreatDoor

namespace Go.Proofs.YtamnhegianpedaaGreatDoor
open Go.RowKit

theorem below_drewN {B : Nat} {w w' : World} (h : Below B w w') (n : Nat) : Below B w (w'.drewN n) := ⟨h.os, h.tape, h.output, h.size, h.block⟩

theorem pctAt_not {s : ByteArray} {k : Nat} (h : k + 2 < s.size) (h1 : s[k].toNat ≠ 37) : pctAt s k = -1 := by
  rw [pctAt_in s k h]
  unfold pctV
  rw [if_neg (fun h => h1 h.1)]
theorem pctAt_hex {s : ByteArray} {k d1 d2 : Nat} (h : k + 2 < s.size) (h1 : s[k].toNat = 37) (e1 : s[k + 1].toNat = d1) (e2 : s[k + 2].toNat = d2) : pctAt s k = if 0 ≤ hexN d1 ∧ 0 ≤ hexN d2 then hexN d1 * 16 + hexN d2 else -1 := by
  rw [pctAt_in s k h, e1, e2]
  unfold pctV
  simp [h1]

theorem run_at (P : Program) (t : TypeId) (h : P.underlying t = some .string) (s : ByteArray) (i : Int) (j d : Nat) (hj : j < s.size) (hi : i = (j : Int)) (hd : s[j].toNat = d) (W : World) :
    (Instr.index t (.string s) (.int .i64 i)).run P W = .ok (.int .u8 (d : Int)) W := by
  subst hi
  rw [run_index_string W t s .i64 _ h, dif_pos (by omega)]
  simp [hd]

set_option maxHeartbeats 2000000 in
theorem implPctAt (s : ByteArray) (k : Nat) (w : World) (hk : k < s.size) (hs : s.size ≤ 1099511627776) :
    Calls Tryz.prog 100 #[.string s, .int .i64 (k : Int)] w fun e w' => e = .returned (.int .i64 (pctAt s k)) ∧ Below w.heap.size w w' := by
  have hki : (k : Int) ≤ 1099511627776 := by omega
  have hk0 : 0 ≤ (k : Int) := by omega
  have hw1 : IntKind.i64.wrap ((k : Int) + 1) = ((k + 1 : Nat) : Int) := by rw [IntKind.wrap_i64]; omega
  have hw2 : IntKind.i64.wrap ((k : Int) + 2) = ((k + 2 : Nat) : Int) := by rw [IntKind.wrap_i64]; omega
  by_cases h2 : k + 2 < s.size
  · have h2i : ¬ (s.size : Int) ≤ (k : Int) + 2 := by omega
    by_cases h37 : s[k].toNat = 37
    · obtain ⟨d1, e1⟩ : ∃ d : Nat, s[k + 1].toNat = d := ⟨_, rfl⟩
      obtain ⟨d2, e2⟩ : ∃ d : Nat, s[k + 2].toNat = d := ⟨_, rfl⟩
      have i1 := run_at Tryz.prog 9 Tryz.underlying9 s ((k : Int) + 1) (k + 1) d1 (by omega) (by omega) e1
      have i2 := run_at Tryz.prog 9 Tryz.underlying9 s ((k : Int) + 2) (k + 2) d2 (by omega) (by omega) e2
      have b1 : d1 ≤ 255 := by have := s[k + 1].toNat_lt; omega
      have b2 : d2 ≤ 255 := by have := s[k + 2].toNat_lt; omega
      have HV : Hid (pctAt s k = if 0 ≤ hexN d1 ∧ 0 ≤ hexN d2 then hexN d1 * 16 + hexN d2 else -1) := pctAt_hex h2 h37 e1 e2
      have c1 := fun n : Nat => Calls.quiet_of_same (w := w) (n := n) (v := .int .i64 (hexN d1)) ((implHex d1 (w.drewN n) b1).mono fun _ _ ⟨a, b⟩ => ⟨a, b.symm⟩)
      have c2 := fun n : Nat => Calls.quiet_of_same (w := w) (n := n) (v := .int .i64 (hexN d2)) ((implHex d2 (w.drewN n) b2).mono fun _ _ ⟨a, b⟩ => ⟨a, b.symm⟩)
      have l1 := hexN_le d1
      have l2 := hexN_le d2
      generalize hexN d1 = x at HV c1 l1
      generalize hexN d2 = y at HV c2 l2
      have C1 : Hid (∀ n, Calls Tryz.prog 122 #[.int .u8 (d1 : Int)] (w.drewN n) fun e w'' => e = .returned (.int .i64 x) ∧ ∃ m, w'' = w.drewN m) := c1
      have C2 : Hid (∀ n, Calls Tryz.prog 122 #[.int .u8 (d2 : Int)] (w.drewN n) fun e w'' => e = .returned (.int .i64 y) ∧ ∃ m, w'' = w.drewN m) := c2
      clear c1 c2
      obtain ⟨l1a, l1b⟩ := l1
      obtain ⟨l2a, l2b⟩ := l2
      by_cases hx : 0 ≤ x
      · by_cases hy : 0 ≤ y
        · go_enter Tryz.func100, Tryz.ntmps100
          go_wp2_with fail
          go_quiet ((go_at_call 122; first | with_reducible exact C1.out _ | with_reducible exact C2.out _))
          go_wp2
          go_ret
          exact ⟨ret_int (by rw [HV.out, if_pos ⟨hx, hy⟩]), below_drewN (Below.refl _ _) _⟩
        · go_enter Tryz.func100, Tryz.ntmps100
          go_wp2_with fail
          go_quiet ((go_at_call 122; first | with_reducible exact C1.out _ | with_reducible exact C2.out _))
          go_wp2
          go_ret
          exact ⟨ret_int (by rw [HV.out, if_neg (by omega)]), below_drewN (Below.refl _ _) _⟩
      · go_enter Tryz.func100, Tryz.ntmps100
        go_wp2_with fail
        go_quiet ((go_at_call 122; first | with_reducible exact C1.out _ | with_reducible exact C2.out _))
        go_wp2
        go_ret
        exact ⟨ret_int (by rw [HV.out, if_neg (by omega)]), below_drewN (Below.refl _ _) _⟩
    · have HV : Hid (pctAt s k = -1) := pctAt_not h2 h37
      obtain ⟨d0, e0⟩ : ∃ d : Nat, s[k].toNat = d := ⟨_, rfl⟩
      have hne : ¬ (d0 : Int) = 37 := by omega
      clear h37
      go_enter Tryz.func100, Tryz.ntmps100
      go_wp2
      go_ret
      exact ⟨ret_int (by rw [HV.out]), Below.refl _ _⟩
  · have h2i : (s.size : Int) ≤ (k : Int) + 2 := by omega
    have HV : Hid (pctAt s k = -1) := pctAt_out s k (by omega)
    go_enter Tryz.func100, Tryz.ntmps100
    go_wp2
    go_ret
    exact ⟨ret_int (by rw [HV.out]), Below.refl _ _⟩

set_option maxHeartbeats 2000000 in
theorem specByte (s : ByteArray) (k : Nat) (w : World) (hk : k < s.size) (hs : s.size ≤ 1099511627776) :
    Calls Tryz.prog 54 #[.string s, .int .i64 (k : Int)] w fun e w' => e = .returned (.int .i64 (pctAt s k)) ∧ Below w.heap.size w w' := by
  have hki : (k : Int) ≤ 1099511627776 := by omega
  have hk0 : 0 ≤ (k : Int) := by omega
  have hw1 : IntKind.i64.wrap ((k : Int) + 1) = ((k + 1 : Nat) : Int) := by rw [IntKind.wrap_i64]; omega
  have hw2 : IntKind.i64.wrap ((k : Int) + 2) = ((k + 2 : Nat) : Int) := by rw [IntKind.wrap_i64]; omega
  by_cases h2 : k + 2 < s.size
  · have h2i : ¬ (s.size : Int) ≤ (k : Int) + 2 := by omega
    by_cases h37 : s[k].toNat = 37
    · obtain ⟨d1, e1⟩ : ∃ d : Nat, s[k + 1].toNat = d := ⟨_, rfl⟩
      obtain ⟨d2, e2⟩ : ∃ d : Nat, s[k + 2].toNat = d := ⟨_, rfl⟩
      have i1 := run_at Tryz.prog 9 Tryz.underlying9 s ((k : Int) + 1) (k + 1) d1 (by omega) (by omega) e1
      have i2 := run_at Tryz.prog 9 Tryz.underlying9 s ((k : Int) + 2) (k + 2) d2 (by omega) (by omega) e2
      have b1 : d1 ≤ 255 := by have := s[k + 1].toNat_lt; omega
      have b2 : d2 ≤ 255 := by have := s[k + 2].toNat_lt; omega
      have HV : Hid (pctAt s k = if 0 ≤ hexN d1 ∧ 0 ≤ hexN d2 then hexN d1 * 16 + hexN d2 else -1) := pctAt_hex h2 h37 e1 e2
      have c1 := fun n : Nat => Calls.quiet_of_same (w := w) (n := n) (v := .int .i64 (hexN d1)) ((specHex d1 (w.drewN n) (by omega)).mono fun _ _ ⟨a, b⟩ => ⟨a, b.symm⟩)
      have c2 := fun n : Nat => Calls.quiet_of_same (w := w) (n := n) (v := .int .i64 (hexN d2)) ((specHex d2 (w.drewN n) (by omega)).mono fun _ _ ⟨a, b⟩ => ⟨a, b.symm⟩)
      have q1 := fun W : World => specHex d1 W (by omega)
      have q2 := fun W : World => specHex d2 W (by omega)
      have l1 := hexN_le d1
      have l2 := hexN_le d2
      generalize hexN d1 = x at HV c1 l1 q1
      generalize hexN d2 = y at HV c2 l2 q2
      have C1 : Hid (∀ n, Calls Tryz.prog 74 #[.int .u8 (d1 : Int)] (w.drewN n) fun e w'' => e = .returned (.int .i64 x) ∧ ∃ m, w'' = w.drewN m) := c1
      have C2 : Hid (∀ n, Calls Tryz.prog 74 #[.int .u8 (d2 : Int)] (w.drewN n) fun e w'' => e = .returned (.int .i64 y) ∧ ∃ m, w'' = w.drewN m) := c2
      have D1 : Hid (∀ W, Calls Tryz.prog 74 #[.int .u8 (d1 : Int)] W fun e w' => e = .returned (.int .i64 x) ∧ W = w') := q1
      have D2 : Hid (∀ W, Calls Tryz.prog 74 #[.int .u8 (d2 : Int)] W fun e w' => e = .returned (.int .i64 y) ∧ W = w') := q2
      clear c1 c2 q1 q2
      obtain ⟨l1a, l1b⟩ := l1
      obtain ⟨l2a, l2b⟩ := l2
      by_cases hx : 0 ≤ x
      · by_cases hy : 0 ≤ y
        · go_enter Tryz.func54, Tryz.ntmps54
          go_wp2_with fail
          refine (D1.out _).mono ?_
          rintro e w' ⟨rfl, rfl⟩
          go_wp2_with fail
          refine (D2.out _).mono ?_
          rintro e w' ⟨rfl, rfl⟩
          go_wp2_with fail
          go_quiet ((go_at_call 74; first | with_reducible exact C1.out _ | with_reducible exact C2.out _))
          go_wp2
          go_ret
          exact ⟨ret_int (by rw [HV.out, if_pos ⟨hx, hy⟩]), below_drewN (Below.refl _ _) _⟩
        · go_enter Tryz.func54, Tryz.ntmps54
          go_wp2_with fail
          refine (D1.out _).mono ?_
          rintro e w' ⟨rfl, rfl⟩
          go_wp2_with fail
          refine (D2.out _).mono ?_
          rintro e w' ⟨rfl, rfl⟩
          go_wp2
          go_ret
          exact ⟨ret_int (by rw [HV.out, if_neg (by omega)]), Below.refl _ _⟩
      · go_enter Tryz.func54, Tryz.ntmps54
        go_wp2_with fail
        refine (D1.out _).mono ?_
        rintro e w' ⟨rfl, rfl⟩
        go_wp2
        go_ret
        exact ⟨ret_int (by rw [HV.out, if_neg (by omega)]), Below.refl _ _⟩
    · have HV : Hid (pctAt s k = -1) := pctAt_not h2 h37
      obtain ⟨d0, e0⟩ : ∃ d : Nat, s[k].toNat = d := ⟨_, rfl⟩
      have hne : ¬ (d0 : Int) = 37 := by omega
      clear h37
      go_enter Tryz.func54, Tryz.ntmps54
      go_wp2
      go_ret
      exact ⟨ret_int (by rw [HV.out]), Below.refl _ _⟩
  · have h2i : (s.size : Int) ≤ (k : Int) + 2 := by omega
    have HV : Hid (pctAt s k = -1) := pctAt_out s k (by omega)
    go_enter Tryz.func54, Tryz.ntmps54
    go_wp2
    go_ret
    exact ⟨ret_int (by rw [HV.out]), Below.refl _ _⟩
end Go.Proofs.YtamnhegianpedaaGreatDoor

namespace Go.Proofs.YtamnhegianpedaaGreatDoor
open Go.RowKit

theorem own_byte {w1 : World} {B : Nat} {e : TypeId} {v : Value} {o : List UInt8} {x : Int} (c : UInt8) (hx : x = (c.toNat : Int))
    (h : w1.ownsRow B e 1 v (o.length + 1) (bcells o ++ #[Value.int .u8 x].toList)) : w1.ownsRow B e 1 v (o ++ [c]).length (bcells (o ++ [c])) := by
  subst hx
  rw [bcells_snoc, List.length_append]
  exact h
theorem byte_one (x : Int) : ∀ u ∈ #[Value.int .u8 x].toList, u.oneCell' = true := by
  intro u hu; simp at hu; subst hu; rfl
theorem ofNat_pct {c : Int} (h0 : 0 ≤ c) (h1 : c ≤ 255) : c = ((UInt8.ofNat c.toNat).toNat : Int) := by
  have : (UInt8.ofNat c.toNat).toNat = c.toNat % 256 := by simp
  omega

theorem un_hit (s : ByteArray) (k : Nat) (o : List UInt8) (h : 0 ≤ pctAt s k) (he : o ++ unL (s.data.toList.drop k) = unL s.data.toList) :
    (o ++ [UInt8.ofNat (pctAt s k).toNat]) ++ unL (s.data.toList.drop (k + 3)) = unL s.data.toList := by
  rw [← he]
  unfold unL
  rw [tok_hit _ _ s k h]
  simp
theorem un_miss (s : ByteArray) (k : Nat) (hk : k < s.size) (o : List UInt8) (h : pctAt s k < 0) (he : o ++ unL (s.data.toList.drop k) = unL s.data.toList) :
    (o ++ [s[k]]) ++ unL (s.data.toList.drop (k + 1)) = unL s.data.toList := by
  rw [← he]
  unfold unL
  rw [tok_miss _ _ s k hk h]
  simp
theorem un_end (s : ByteArray) (k : Nat) (hk : s.size ≤ k) (o : List UInt8) (he : o ++ unL (s.data.toList.drop k) = unL s.data.toList) : o = unL s.data.toList := by
  rw [← he]
  unfold unL
  rw [tok_end _ _ s k hk]
  simp

set_option maxHeartbeats 2000000 in
theorem specUnpercent (s : ByteArray) (w : World) (hs : s.size ≤ 1099511627776) :
    Calls Tryz.prog 30 #[.string s] w fun e w' => e = .returned (.string ⟨(unL s.data.toList).toArray⟩) ∧ Below w.heap.size w w' := by
  go_enter Tryz.func30, Tryz.ntmps30
  go_wp2
  go_loopw [3, 4] (fun v i wr => ∃ (k : Nat) (o : List UInt8), k ≤ s.size ∧ i = .int .i64 k ∧ o.length ≤ k ∧ wr.ownsRow w.heap.size 5 1 v o.length (bcells o) ∧ o ++ unL (s.data.toList.drop k) = unL s.data.toList ∧ Below w.heap.size w wr)
    (fun _ i _ => s.size - (intOf i).toNat)
  case atStart => exact ⟨0, [], Nat.zero_le _, rfl, Nat.zero_le _, World.ownsRow_lit w #[] 0 (Nat.le_refl _) (by decide) rfl, rfl, (Below.refl _ _).alloc (Nat.le_refl _) _⟩
  case round =>
    obtain ⟨k, o, hk, rfl, hol, hown, he, hbel⟩ := hrel
    have HE : Hid (o ++ unL (s.data.toList.drop k) = unL s.data.toList) := he
    clear he
    have hsz := hbel.size
    by_cases hlt : k < s.size
    · have hct := fun W => specByte s k W hlt hs
      have hcl := pctAt_le s k
      by_cases hc : 0 ≤ pctAt s k
      · have HN : Hid ((o ++ [UInt8.ofNat (pctAt s k).toNat]) ++ unL (s.data.toList.drop (k + 3)) = unL s.data.toList) := un_hit s k o hc HE.out
        have hk3 := pctAt_lt hc
        generalize pctAt s k = c at hct hcl hc HN
        obtain ⟨hc0, hc1⟩ := hcl
        have HC : Hid (∀ W, Calls Tryz.prog 54 #[.string s, .int .i64 (k : Int)] W fun e w' => e = .returned (.int .i64 c) ∧ Below W.heap.size W w') := hct
        clear hct
        go_wp2_with fail
        refine (HC.out _).mono ?_
        rintro e wb ⟨rfl, bb⟩
        have ob := own_below hown bb
        have hsb := bb.size
        go_wp2_with (at_builtin; refine wpList_append_new _ rfl _ _ 22 rfl w.heap.size 5 (.int .u8 0) 1 Tryz.underlying22 Tryz.info5 rfl _ _ _ rfl ob #[.int .u8 c] 1 rfl rfl (byte_one _) (by omega) (by unfold maxLen; omega) (by omega) ?_)
        intro v' w1 hown' hb1
        have R := own_byte _ (ofNat_pct hc hc1) hown'
        have B1 : Below w.heap.size w w1 := (hbel.trans (bb.mono hsz)).trans hb1
        clear hown' hb1 hown hbel ob bb
        go_wp2
        go_roundw
        case rel => exact ⟨k + 3, _, by omega, by go_num, by simp; omega, R, HN.out, B1⟩
        case measure => simp [intOf]; omega
      · have HN : Hid ((o ++ [s[k]]) ++ unL (s.data.toList.drop (k + 1)) = unL s.data.toList) := un_miss s k hlt o (by omega) HE.out
        generalize pctAt s k = c at hct hcl hc
        obtain ⟨hc0, hc1⟩ := hcl
        have HC : Hid (∀ W, Calls Tryz.prog 54 #[.string s, .int .i64 (k : Int)] W fun e w' => e = .returned (.int .i64 c) ∧ Below W.heap.size W w') := hct
        clear hct
        go_wp2_with fail
        refine (HC.out _).mono ?_
        rintro e wb ⟨rfl, bb⟩
        have ob := own_below hown bb
        have hsb := bb.size
        go_wp2_with (at_builtin; refine wpList_append_new _ rfl _ _ 22 rfl w.heap.size 5 (.int .u8 0) 1 Tryz.underlying22 Tryz.info5 rfl _ _ _ rfl ob #[.int .u8 (s[k].toNat : Int)] 1 rfl rfl (byte_one _) (by omega) (by unfold maxLen; omega) (by omega) ?_)
        intro v' w1 hown' hb1
        have R := own_byte s[k] rfl hown'
        have B1 : Below w.heap.size w w1 := (hbel.trans (bb.mono hsz)).trans hb1
        clear hown' hb1 hown hbel ob bb
        go_wp2
        go_roundw
        case rel => exact ⟨k + 1, _, by omega, by go_num, by simp; omega, R, HN.out, B1⟩
        case measure => simp [intOf]; omega
    · have HO := run_string_own (P := Tryz.prog) wr 22 9 5 Tryz.underlying22 Tryz.underlying5 Tryz.underlying9 hown
      go_wp2
      go_ret
      exact ⟨ret_str (un_end s k (by omega) o HE.out), hbel⟩

set_option maxHeartbeats 2000000 in
theorem implUnpercent (s : ByteArray) (w : World) (hs : s.size ≤ 1099511627776) :
    Calls Tryz.prog 78 #[.string s] w fun e w' => e = .returned (.string ⟨(unL s.data.toList).toArray⟩) ∧ Below w.heap.size w w' := by
  obtain ⟨i0, hi, hz0, hz1, hz2⟩ := info_parts Tryz.info5
  go_enter Tryz.func78, Tryz.ntmps78
  go_wp2_with (at_make; refine wpList_make_own _ rfl _ _ 22 rfl w.heap.size 5 i0 (.int .u8 0) 1 Tryz.underlying22 hi hz0 hz1 _ _ _ s.size rfl rfl (by omega) (by rw [hz2]; omega) (by unfold maxLen; omega) (Nat.le_refl _) ?_)
  intro wm hmo hgm
  have Bm : Below w.heap.size w wm := (Below.refl _ _).grown hgm (Nat.le_refl _) (fun k hk => by cases hk)
  clear hgm
  go_wp2
  go_loopw [3, 4] (fun v i wr => ∃ (k : Nat) (o : List UInt8), k ≤ s.size ∧ i = .int .i64 k ∧ o.length ≤ k ∧ wr.ownsRow w.heap.size 5 1 v o.length (bcells o) ∧ o ++ unL (s.data.toList.drop k) = unL s.data.toList ∧ Below w.heap.size w wr)
    (fun _ i _ => s.size - (intOf i).toNat)
  case atStart => exact ⟨0, [], Nat.zero_le _, rfl, Nat.zero_le _, hmo, rfl, Bm⟩
  case round =>
    clear hmo Bm hi hz0 hz1 hz2
    obtain ⟨k, o, hk, rfl, hol, hown, he, hbel⟩ := hrel
    have HE : Hid (o ++ unL (s.data.toList.drop k) = unL s.data.toList) := he
    clear he
    have hsz := hbel.size
    by_cases hlt : k < s.size
    · have hct := fun W => implPctAt s k W hlt hs
      have hcl := pctAt_le s k
      by_cases hc : 0 ≤ pctAt s k
      · have HN : Hid ((o ++ [UInt8.ofNat (pctAt s k).toNat]) ++ unL (s.data.toList.drop (k + 3)) = unL s.data.toList) := un_hit s k o hc HE.out
        have hk3 := pctAt_lt hc
        generalize pctAt s k = c at hct hcl hc HN
        obtain ⟨hc0, hc1⟩ := hcl
        have HC : Hid (∀ W, Calls Tryz.prog 100 #[.string s, .int .i64 (k : Int)] W fun e w' => e = .returned (.int .i64 c) ∧ Below W.heap.size W w') := hct
        clear hct
        go_wp2_with fail
        refine (HC.out _).mono ?_
        rintro e wb ⟨rfl, bb⟩
        have ob := own_below hown bb
        have hsb := bb.size
        go_wp2_with (at_builtin; refine wpList_append_new _ rfl _ _ 22 rfl w.heap.size 5 (.int .u8 0) 1 Tryz.underlying22 Tryz.info5 rfl _ _ _ rfl ob #[.int .u8 c] 1 rfl rfl (byte_one _) (by omega) (by unfold maxLen; omega) (by omega) ?_)
        intro v' w1 hown' hb1
        have R := own_byte _ (ofNat_pct hc hc1) hown'
        have B1 : Below w.heap.size w w1 := (hbel.trans (bb.mono hsz)).trans hb1
        clear hown' hb1 hown hbel ob bb
        go_wp2
        go_roundw
        case rel => exact ⟨k + 3, _, by omega, by go_num, by simp; omega, R, HN.out, B1⟩
        case measure => simp [intOf]; omega
      · have HN : Hid ((o ++ [s[k]]) ++ unL (s.data.toList.drop (k + 1)) = unL s.data.toList) := un_miss s k hlt o (by omega) HE.out
        generalize pctAt s k = c at hct hcl hc
        obtain ⟨hc0, hc1⟩ := hcl
        have HC : Hid (∀ W, Calls Tryz.prog 100 #[.string s, .int .i64 (k : Int)] W fun e w' => e = .returned (.int .i64 c) ∧ Below W.heap.size W w') := hct
        clear hct
        go_wp2_with fail
        refine (HC.out _).mono ?_
        rintro e wb ⟨rfl, bb⟩
        have ob := own_below hown bb
        have hsb := bb.size
        go_wp2_with (at_builtin; refine wpList_append_new _ rfl _ _ 22 rfl w.heap.size 5 (.int .u8 0) 1 Tryz.underlying22 Tryz.info5 rfl _ _ _ rfl ob #[.int .u8 (s[k].toNat : Int)] 1 rfl rfl (byte_one _) (by omega) (by unfold maxLen; omega) (by omega) ?_)
        intro v' w1 hown' hb1
        have R := own_byte s[k] rfl hown'
        have B1 : Below w.heap.size w w1 := (hbel.trans (bb.mono hsz)).trans hb1
        clear hown' hb1 hown hbel ob bb
        go_wp2
        go_roundw
        case rel => exact ⟨k + 1, _, by omega, by go_num, by simp; omega, R, HN.out, B1⟩
        case measure => simp [intOf]; omega
    · have HO := run_string_own (P := Tryz.prog) wr 22 9 5 Tryz.underlying22 Tryz.underlying5 Tryz.underlying9 hown
      go_wp2
      go_ret
      exact ⟨ret_str (un_end s k (by omega) o HE.out), hbel⟩
end Go.Proofs.YtamnhegianpedaaGreatDoor

namespace Go.Proofs.YtamnhegianpedaaGreatDoor
open Go.RowKit

/-- Is a field a number, of digits or of 0x and hex digits? -/
def endT (s : ByteArray) : Bool := if hxA s = true then alD 16 (s.extract 2 s.size).data.toList else if s.size = 0 then false else alD 10 s.data.toList
def lastF (s : ByteArray) : ByteArray := s.extract (fieldsTo s 46 s.size).2 s.size
def endL (s : ByteArray) : Bool := endT (lastF s)

theorem lastF_size (s : ByteArray) : (lastF s).size ≤ s.size := by
  unfold lastF
  rw [ByteArray.size_extract]
  omega
theorem lastF_at (s : ByteArray) : (fieldsL s 46).getD ((fieldsL s 46).length - 1) ByteArray.empty = lastF s := by
  unfold fieldsL
  rw [List.length_append, List.length_singleton, Nat.add_sub_cancel, List.getD_eq_getElem?_getD, List.getElem?_append_right (Nat.le_refl _)]
  simp [lastF]

theorem lastF_spl (s : ByteArray) (p tl : List UInt8) (h : s.data.toList = p ++ tl) (hp : p = [] ∨ ∃ q, p = q ++ [46]) (ht : ∀ c ∈ tl, c ≠ 46) : (lastF s).data.toList = tl := by
  have h1 := fieldsL_46 s
  have h2 : ∃ xs, spl 46 s.data.toList = xs ++ [tl] := by
    rw [h]
    rcases hp with rfl | ⟨q, rfl⟩
    · exact ⟨[], by rw [List.nil_append, spl_none 46 ht]; rfl⟩
    · refine ⟨spl 46 q, ?_⟩
      rw [List.append_assoc, List.singleton_append, spl_app, spl_none 46 ht]
  obtain ⟨xs, h2⟩ := h2
  rw [h2] at h1
  unfold fieldsL at h1
  rw [List.map_append, List.map_cons, List.map_nil] at h1
  have h3 := (List.append_inj' h1 rfl).2
  exact (List.cons.inj h3).1

theorem last_dot (s : ByteArray) : ∃ b : Nat, b ≤ s.size ∧ Lib.lastIndexByte s 46 + 1 = (b : Int) ∧ s.extract b s.size = lastF s := by
  have key : ∃ b : Nat, b ≤ s.size ∧ Lib.lastIndexByte s 46 + 1 = (b : Int) ∧ (s.data.toList.take b = [] ∨ ∃ q, s.data.toList.take b = q ++ [46]) ∧ ∀ c ∈ s.data.toList.drop b, c ≠ 46 := by
    rcases Lib.lastIndexByte_spec s 46 with ⟨h1, h2⟩ | ⟨i, h0, h1, h2, h3⟩
    · refine ⟨0, Nat.zero_le _, by rw [h1]; rfl, .inl (by simp), ?_⟩
      intro c hc e
      rw [List.drop_zero] at hc
      obtain ⟨j, hj, rfl⟩ := List.getElem_of_mem hc
      have hj' : j < s.size := by simpa using hj
      apply h2 j hj'
      rw [getElem!_pos s.data j hj']
      have : s.data[j] = 46 := by simpa using e
      rw [this]; rfl
    · refine ⟨i + 1, h0, by rw [h1]; simp, .inr ⟨s.data.toList.take i, ?_⟩, ?_⟩
      · rw [take_snoc s i h0]
        congr 2
        apply u8_is
        rw [getElem!_pos s.data i h0] at h2
        show s.data[i].toNat = 46
        omega
      · intro c hc e
        obtain ⟨j, hj, rfl⟩ := List.getElem_of_mem hc
        rw [List.length_drop] at hj
        have hj' : i + 1 + j < s.size := by simp at hj; omega
        apply h3 (i + 1 + j) (by omega) hj'
        rw [getElem!_pos s.data _ hj']
        have : s.data[i + 1 + j] = 46 := by simpa using e
        rw [this]; rfl
  obtain ⟨b, h1, h2, h3, h4⟩ := key
  refine ⟨b, h1, h2, toL_inj ?_⟩
  show (s.extract b s.size).data.toList = (lastF s).data.toList
  rw [lastF_spl s _ _ (List.take_append_drop b _).symm h3 h4, extract_list, take_all s s.size (Nat.le_refl _)]

set_option maxHeartbeats 1000000 in
theorem implEndsInNumber (s : ByteArray) (w : World) (hs : s.size ≤ 1048576) :
    Calls Tryz.prog 79 #[.string s] w fun e w' => e = .returned (.bool (endL s)) ∧ w = w' := by
  obtain ⟨b, hb, hlb, he⟩ := last_dot s
  have CL : Hid (∀ W, Calls Tryz.prog 101 #[.string s, .int .u8 46] W fun e w' => e = .returned (.int .i64 (Lib.lastIndexByte s 46)) ∧ W = w') := fun W => (Tryz.strings_LastIndexByte s 46 (by omega) W).mono fun e w' h => ⟨h.1, h.2.symm⟩
  have hl0 : Lib.lastIndexByte s 46 = (b : Int) - 1 := by omega
  rw [hl0] at CL
  have hbi : (b : Int) ≤ (s.size : Int) := by omega
  have HT : Hid (endL s = endT (s.extract b s.size)) := by
    show _ = _
    rw [he]
    rfl
  have hts : (s.extract b s.size).size ≤ 1048576 := by rw [ByteArray.size_extract]; omega
  clear hlb hl0 he
  go_enter Tryz.func79, Tryz.ntmps79
  go_wp2_with fail
  refine (CL.out _).mono ?_
  rintro e w' ⟨rfl, rfl⟩
  go_wp2_with fail
  generalize s.extract b s.size = t at HT hts ⊢
  have CP : Hid (∀ W, Calls Tryz.prog 102 #[.string t] W fun e w' => e = .returned (.bool (hxA t)) ∧ W = w') := fun W => implHexAhead t W
  cases hx : hxA t with
  | true =>
    have h2 : 1 < t.size := by
      have h := of_decide_eq_true hx
      exact h.1
    have HZ : Hid (endT t = alD 16 (t.extract 2 t.size).data.toList) := by
      show _ = _
      unfold endT
      rw [if_pos hx]
    have CD : Hid (∀ W, Calls Tryz.prog 103 #[.string (t.extract 2 t.size), .int .i64 16] W fun e w' => e = .returned (.bool (alD 16 (t.extract 2 t.size).data.toList)) ∧ W = w') := fun W => implDigitsAlone _ 16 W (by rw [ByteArray.size_extract]; omega)
    generalize alD 16 (t.extract 2 t.size).data.toList = R at HZ CD
    rw [hx] at CP
    clear hx
    refine (CP.out _).mono ?_
    rintro e w' ⟨rfl, rfl⟩
    go_wp2_with fail
    refine (CD.out _).mono ?_
    rintro e w' ⟨rfl, rfl⟩
    go_wp2_with fail
    go_ret
    exact ⟨by rw [HT.out, HZ.out]; rfl, rfl⟩
  | false =>
    rw [hx] at CP
    by_cases h0 : t.size = 0
    · have HZ : Hid (endT t = false) := by
        show _ = _
        unfold endT
        rw [hx, if_neg (by decide), if_pos h0]
      have hem := empty_yes h0
      clear hx h0
      refine (CP.out _).mono ?_
      rintro e w' ⟨rfl, rfl⟩
      go_wp2_with fail
      go_ret
      exact ⟨by rw [HT.out, HZ.out]; rfl, rfl⟩
    · have HZ : Hid (endT t = alD 10 t.data.toList) := by
        show _ = _
        unfold endT
        rw [hx, if_neg (by decide), if_neg h0]
      have hem := empty_no (by omega : 0 < t.size)
      have CD : Hid (∀ W, Calls Tryz.prog 103 #[.string t, .int .i64 10] W fun e w' => e = .returned (.bool (alD 10 t.data.toList)) ∧ W = w') := fun W => implDigitsAlone _ 10 W hts
      clear hx h0
      refine (CP.out _).mono ?_
      rintro e w' ⟨rfl, rfl⟩
      go_wp2_with fail
      refine (CD.out _).mono ?_
      rintro e w' ⟨rfl, rfl⟩
      go_wp2_with fail
      go_ret
      exact ⟨by rw [HT.out, HZ.out]; rfl, rfl⟩

theorem alD16_drop (s : ByteArray) (k : Nat) (h : k < s.size) : alD 16 (s.data.toList.drop k) = (decide (0 ≤ hexN s[k].toNat) && alD 16 (s.data.toList.drop (k + 1))) := by
  rw [alD_drop s k h]
  congr 1
  have := (hexN_le s[k].toNat).2
  refine decide_eq_decide.2 ⟨fun h => h.1, fun h => ⟨h, ?_⟩⟩
  omega

set_option maxHeartbeats 1000000 in
theorem specAll6 (s : ByteArray) (w : World) (hs : s.size ≤ 1048576) :
    Calls Tryz.prog 44 #[.string s] w fun e w' => e = .returned (.bool (alD 16 s.data.toList)) ∧ w = w' := by
  go_enter Tryz.func44, Tryz.ntmps44
  go_wp2
  go_loop [3] (fun i => ∃ k : Nat, k ≤ s.size ∧ i = .int .i64 k ∧ alD 16 (s.data.toList.drop k) = alD 16 s.data.toList) (fun i => s.size - (intOf i).toNat)
  case atStart => exact ⟨0, Nat.zero_le _, rfl, rfl⟩
  case round =>
    obtain ⟨k, hk, rfl, hf⟩ := hrel
    have HR : Hid (alD 16 (s.data.toList.drop k) = alD 16 s.data.toList) := hf
    clear hf
    by_cases hlt : k < s.size
    · obtain ⟨d, hd⟩ : ∃ d : Nat, s[k].toNat = d := ⟨_, rfl⟩
      have hd1 : (d : Int) ≤ 255 := by have := s[k].toNat_lt; omega
      have HD : Hid (alD 16 (s.data.toList.drop k) = (decide (0 ≤ hexN d) && alD 16 (s.data.toList.drop (k + 1)))) := by
        show _ = _
        rw [alD16_drop s k hlt, hd]
      obtain ⟨hx1, hx2⟩ := hexN_le d
      have CH : Hid (∀ W, Calls Tryz.prog 74 #[.int .u8 (d : Int)] W fun e w' => e = .returned (.int .i64 (hexN d)) ∧ W = w') := fun W => specHex d W hd1
      generalize hexN d = x at HD CH hx1 hx2
      have hki : (k : Int) < (s.size : Int) := by omega
      by_cases hx0 : x < 0
      · have HZ : Hid (alD 16 s.data.toList = false) := by
          show _ = _
          rw [← HR.out, HD.out, decide_eq_false (by omega)]
          rfl
        go_wp2_with fail
        refine (CH.out _).mono ?_
        rintro e w' ⟨rfl, rfl⟩
        go_wp2_with fail
        go_ret
        exact ⟨by rw [HZ.out]; rfl, rfl⟩
      · have HZ : Hid (alD 16 (s.data.toList.drop (k + 1)) = alD 16 s.data.toList) := by
          show _ = _
          rw [← HR.out, HD.out, decide_eq_true (by omega)]
          rfl
        go_wp2_with fail
        refine (CH.out _).mono ?_
        rintro e w' ⟨rfl, rfl⟩
        go_wp2_with fail
        go_round
        case rel => exact ⟨k + 1, by omega, by go_num, HZ.out⟩
        case measure => simp [intOf]; omega
    · have HZ : Hid (alD 16 s.data.toList = true) := by
        show _ = _
        rw [← HR.out, List.drop_of_length_le (by simp; omega)]
        rfl
      have hki : ¬ (k : Int) < (s.size : Int) := by omega
      go_wp2_with fail
      go_ret
      exact ⟨by rw [HZ.out]; rfl, rfl⟩
theorem alD10_drop (s : ByteArray) (k : Nat) (h : k < s.size) : alD 10 (s.data.toList.drop k) = (decide (48 ≤ s[k].toNat ∧ s[k].toNat ≤ 57) && alD 10 (s.data.toList.drop (k + 1))) := by
  rw [alD_drop s k h]
  congr 1
  have := s[k].toNat_lt
  generalize s[k].toNat = c at this
  refine decide_eq_decide.2 ?_
  unfold hexN
  split
  · omega
  · split
    · omega
    · split <;> omega


set_option maxHeartbeats 2000000 in
theorem specEndsInNumber (s : ByteArray) (w : World) (hs : s.size ≤ 1048576) :
    Calls Tryz.prog 23 #[.string s] w fun e w' => e = .returned (.bool (endL s)) ∧ Below w.heap.size w w' := by
  have CF : Hid (Calls Tryz.prog 42 #[.string s, .int .u8 46] w fun e w' => ∃ v, e = .returned v ∧ w'.ownsRow w.heap.size 9 1 v (fieldsL s 46).length (scells (fieldsL s 46)) ∧ Below w.heap.size w w') := specFields s 46 w hs
  have hpos : 0 < (fieldsL s 46).length := by simp [fieldsL]
  have hlen : (fieldsL s 46).length ≤ 1048577 := by
    have := (fieldsTo_le s 46 s.size).2
    simp [fieldsL]; omega
  have hL : (fieldsL s 46).getD ((fieldsL s 46).length - 1) ByteArray.empty = lastF s := lastF_at s
  have hts : (lastF s).size ≤ 1048576 := Nat.le_trans (lastF_size s) hs
  have HT : Hid (endL s = endT (lastF s)) := rfl
  generalize lastF s = t at hL hts HT
  generalize fieldsL s 46 = fs at CF hpos hlen hL
  go_enter Tryz.func23, Tryz.ntmps23
  go_wp2_with fail
  refine CF.out.mono ?_
  rintro e wa ⟨va, rfl, oa, ba⟩
  rcases own_shape oa with ⟨h, _⟩ | ⟨_, g, cap, rfl⟩
  · omega
  · have hc := scell_at oa (fs.length - 1) (by omega)
    rw [hL] at hc
    have hi : ((fs.length : Int) - 1) = ((fs.length - 1 : Nat) : Int) := by omega
    clear oa hL
    cases hx : hxA t with
    | true =>
      obtain ⟨h2, h48, hxx⟩ := of_decide_eq_true hx
      have HZ : Hid (endT t = alD 16 (t.extract 2 t.size).data.toList) := by
        show _ = _
        unfold endT
        rw [if_pos hx]
      have CD : Hid (∀ W, Calls Tryz.prog 44 #[.string (t.extract 2 t.size)] W fun e w' => e = .returned (.bool (alD 16 (t.extract 2 t.size).data.toList)) ∧ W = w') := fun W => specAll6 _ W (by rw [ByteArray.size_extract]; omega)
      generalize alD 16 (t.extract 2 t.size).data.toList = R at HZ CD
      have h1' : 1 < (t.size : Int) := by omega
      obtain ⟨c, hcc⟩ : ∃ c : Nat, t[1].toNat = c := ⟨_, rfl⟩
      rw [hcc] at hxx
      clear hx
      rcases hxx with rfl | rfl
      · go_wp2_with fail
        refine (CD.out _).mono ?_
        rintro e w' ⟨rfl, rfl⟩
        go_wp2_with fail
        go_ret
        exact ⟨by rw [HT.out, HZ.out]; rfl, ba⟩
      · go_wp2_with fail
        refine (CD.out _).mono ?_
        rintro e w' ⟨rfl, rfl⟩
        go_wp2_with fail
        go_ret
        exact ⟨by rw [HT.out, HZ.out]; rfl, ba⟩
    | false =>
      have HZ : Hid (endT t = if t.size = 0 then false else alD 10 t.data.toList) := by
        show _ = _
        unfold endT
        rw [hx, if_neg (by decide)]
      have hno := of_decide_eq_false hx
      clear hx
      by_cases h2 : 1 < t.size
      · have h1' : 1 < (t.size : Int) := by omega
        obtain ⟨d, hd⟩ : ∃ d : Nat, t[0].toNat = d := ⟨_, rfl⟩
        by_cases hd0 : d = 48
        · obtain ⟨c, hcc⟩ : ∃ c : Nat, t[1].toNat = c := ⟨_, rfl⟩
          have q1 : ((c : Int) == 120) = false := beq_eq_false_iff_ne.2 (fun e => hno ⟨h2, by omega, .inl (by omega)⟩)
          have q2 : ((c : Int) == 88) = false := beq_eq_false_iff_ne.2 (fun e => hno ⟨h2, by omega, .inr (by omega)⟩)
          subst hd0
          clear hno
          go_wp2_with fail
          clear q1 q2 hd hcc hc hi
          go_loop [5] (fun i => ∃ k : Nat, k ≤ t.size ∧ i = .int .i64 k ∧ alD 10 (t.data.toList.drop k) = alD 10 t.data.toList) (fun i => t.size - (intOf i).toNat)
          case atStart => exact ⟨0, Nat.zero_le _, rfl, rfl⟩
          case round =>
            obtain ⟨k, hk, rfl, hf⟩ := hrel
            have HR : Hid (alD 10 (t.data.toList.drop k) = alD 10 t.data.toList) := hf
            clear hf
            by_cases hlt : k < t.size
            · obtain ⟨y, hy⟩ : ∃ y : Nat, t[k].toNat = y := ⟨_, rfl⟩
              have hy1 : (y : Int) ≤ 255 := by have := t[k].toNat_lt; omega
              have HD : Hid (alD 10 (t.data.toList.drop k) = (decide (48 ≤ y ∧ y ≤ 57) && alD 10 (t.data.toList.drop (k + 1)))) := by
                show _ = _
                rw [alD10_drop t k hlt, hy]
              have hki : (k : Int) < (t.size : Int) := by omega
              by_cases hin : 48 ≤ y ∧ y ≤ 57
              · have CI : Hid (∀ W, Calls Tryz.prog 24 #[.int .i64 (y : Int), .int .i64 48, .int .i64 57] W fun e w' => e = .returned (.bool true) ∧ W = w') := fun W => labIn_yes _ _ _ W (by omega) (by omega)
                have HZ2 : Hid (alD 10 (t.data.toList.drop (k + 1)) = alD 10 t.data.toList) := by
                  show _ = _
                  rw [← HR.out, HD.out, decide_eq_true hin]
                  rfl
                clear hin
                go_wp2_with fail
                refine (CI.out _).mono ?_
                rintro e w' ⟨rfl, rfl⟩
                go_wp2_with fail
                go_round
                case rel => exact ⟨k + 1, by omega, by go_num, HZ2.out⟩
                case measure => simp [intOf]; omega
              · have CI : Hid (∀ W, Calls Tryz.prog 24 #[.int .i64 (y : Int), .int .i64 48, .int .i64 57] W fun e w' => e = .returned (.bool false) ∧ W = w') := fun W => labIn_no _ _ _ W (by omega)
                have HZ2 : Hid (alD 10 t.data.toList = false) := by
                  show _ = _
                  rw [← HR.out, HD.out, decide_eq_false hin]
                  rfl
                have hne : ¬ t.size = 0 := by omega
                clear hin
                go_wp2_with fail
                refine (CI.out _).mono ?_
                rintro e w' ⟨rfl, rfl⟩
                go_wp2_with fail
                go_ret
                exact ⟨by rw [HT.out, HZ.out, if_neg hne, HZ2.out]; rfl, ba⟩
            · have HZ2 : Hid (alD 10 t.data.toList = true) := by
                show _ = _
                rw [← HR.out, List.drop_of_length_le (by simp; omega)]
                rfl
              have hki : ¬ (k : Int) < (t.size : Int) := by omega
              by_cases h00 : t.size = 0
              · have HE : Hid (t.size = 0) := h00
                have hem := empty_yes h00
                clear h00
                go_wp2_with fail
                go_ret
                exact ⟨by rw [HT.out, HZ.out, if_pos HE.out]; rfl, ba⟩
              · have HE : Hid (¬ t.size = 0) := h00
                have hem := empty_no (by omega : 0 < t.size)
                clear h00
                go_wp2_with fail
                go_ret
                exact ⟨by rw [HT.out, HZ.out, if_neg HE.out, HZ2.out]; rfl, ba⟩
        · have q0 : ((d : Int) == 48) = false := beq_eq_false_iff_ne.2 (by omega)
          clear hno hd0
          go_wp2_with fail
          clear q0 hd hc hi
          go_loop [5] (fun i => ∃ k : Nat, k ≤ t.size ∧ i = .int .i64 k ∧ alD 10 (t.data.toList.drop k) = alD 10 t.data.toList) (fun i => t.size - (intOf i).toNat)
          case atStart => exact ⟨0, Nat.zero_le _, rfl, rfl⟩
          case round =>
            obtain ⟨k, hk, rfl, hf⟩ := hrel
            have HR : Hid (alD 10 (t.data.toList.drop k) = alD 10 t.data.toList) := hf
            clear hf
            by_cases hlt : k < t.size
            · obtain ⟨y, hy⟩ : ∃ y : Nat, t[k].toNat = y := ⟨_, rfl⟩
              have hy1 : (y : Int) ≤ 255 := by have := t[k].toNat_lt; omega
              have HD : Hid (alD 10 (t.data.toList.drop k) = (decide (48 ≤ y ∧ y ≤ 57) && alD 10 (t.data.toList.drop (k + 1)))) := by
                show _ = _
                rw [alD10_drop t k hlt, hy]
              have hki : (k : Int) < (t.size : Int) := by omega
              by_cases hin : 48 ≤ y ∧ y ≤ 57
              · have CI : Hid (∀ W, Calls Tryz.prog 24 #[.int .i64 (y : Int), .int .i64 48, .int .i64 57] W fun e w' => e = .returned (.bool true) ∧ W = w') := fun W => labIn_yes _ _ _ W (by omega) (by omega)
                have HZ2 : Hid (alD 10 (t.data.toList.drop (k + 1)) = alD 10 t.data.toList) := by
                  show _ = _
                  rw [← HR.out, HD.out, decide_eq_true hin]
                  rfl
                clear hin
                go_wp2_with fail
                refine (CI.out _).mono ?_
                rintro e w' ⟨rfl, rfl⟩
                go_wp2_with fail
                go_round
                case rel => exact ⟨k + 1, by omega, by go_num, HZ2.out⟩
                case measure => simp [intOf]; omega
              · have CI : Hid (∀ W, Calls Tryz.prog 24 #[.int .i64 (y : Int), .int .i64 48, .int .i64 57] W fun e w' => e = .returned (.bool false) ∧ W = w') := fun W => labIn_no _ _ _ W (by omega)
                have HZ2 : Hid (alD 10 t.data.toList = false) := by
                  show _ = _
                  rw [← HR.out, HD.out, decide_eq_false hin]
                  rfl
                have hne : ¬ t.size = 0 := by omega
                clear hin
                go_wp2_with fail
                refine (CI.out _).mono ?_
                rintro e w' ⟨rfl, rfl⟩
                go_wp2_with fail
                go_ret
                exact ⟨by rw [HT.out, HZ.out, if_neg hne, HZ2.out]; rfl, ba⟩
            · have HZ2 : Hid (alD 10 t.data.toList = true) := by
                show _ = _
                rw [← HR.out, List.drop_of_length_le (by simp; omega)]
                rfl
              have hki : ¬ (k : Int) < (t.size : Int) := by omega
              by_cases h00 : t.size = 0
              · have HE : Hid (t.size = 0) := h00
                have hem := empty_yes h00
                clear h00
                go_wp2_with fail
                go_ret
                exact ⟨by rw [HT.out, HZ.out, if_pos HE.out]; rfl, ba⟩
              · have HE : Hid (¬ t.size = 0) := h00
                have hem := empty_no (by omega : 0 < t.size)
                clear h00
                go_wp2_with fail
                go_ret
                exact ⟨by rw [HT.out, HZ.out, if_neg HE.out, HZ2.out]; rfl, ba⟩
      · have h1' : ¬ 1 < (t.size : Int) := by omega
        clear hno
        go_wp2_with fail
        clear hc hi
        go_loop [5] (fun i => ∃ k : Nat, k ≤ t.size ∧ i = .int .i64 k ∧ alD 10 (t.data.toList.drop k) = alD 10 t.data.toList) (fun i => t.size - (intOf i).toNat)
        case atStart => exact ⟨0, Nat.zero_le _, rfl, rfl⟩
        case round =>
          obtain ⟨k, hk, rfl, hf⟩ := hrel
          have HR : Hid (alD 10 (t.data.toList.drop k) = alD 10 t.data.toList) := hf
          clear hf
          by_cases hlt : k < t.size
          · obtain ⟨y, hy⟩ : ∃ y : Nat, t[k].toNat = y := ⟨_, rfl⟩
            have hy1 : (y : Int) ≤ 255 := by have := t[k].toNat_lt; omega
            have HD : Hid (alD 10 (t.data.toList.drop k) = (decide (48 ≤ y ∧ y ≤ 57) && alD 10 (t.data.toList.drop (k + 1)))) := by
              show _ = _
              rw [alD10_drop t k hlt, hy]
            have hki : (k : Int) < (t.size : Int) := by omega
            by_cases hin : 48 ≤ y ∧ y ≤ 57
            · have CI : Hid (∀ W, Calls Tryz.prog 24 #[.int .i64 (y : Int), .int .i64 48, .int .i64 57] W fun e w' => e = .returned (.bool true) ∧ W = w') := fun W => labIn_yes _ _ _ W (by omega) (by omega)
              have HZ2 : Hid (alD 10 (t.data.toList.drop (k + 1)) = alD 10 t.data.toList) := by
                show _ = _
                rw [← HR.out, HD.out, decide_eq_true hin]
                rfl
              clear hin
              go_wp2_with fail
              refine (CI.out _).mono ?_
              rintro e w' ⟨rfl, rfl⟩
              go_wp2_with fail
              go_round
              case rel => exact ⟨k + 1, by omega, by go_num, HZ2.out⟩
              case measure => simp [intOf]; omega
            · have CI : Hid (∀ W, Calls Tryz.prog 24 #[.int .i64 (y : Int), .int .i64 48, .int .i64 57] W fun e w' => e = .returned (.bool false) ∧ W = w') := fun W => labIn_no _ _ _ W (by omega)
              have HZ2 : Hid (alD 10 t.data.toList = false) := by
                show _ = _
                rw [← HR.out, HD.out, decide_eq_false hin]
                rfl
              have hne : ¬ t.size = 0 := by omega
              clear hin
              go_wp2_with fail
              refine (CI.out _).mono ?_
              rintro e w' ⟨rfl, rfl⟩
              go_wp2_with fail
              go_ret
              exact ⟨by rw [HT.out, HZ.out, if_neg hne, HZ2.out]; rfl, ba⟩
          · have HZ2 : Hid (alD 10 t.data.toList = true) := by
              show _ = _
              rw [← HR.out, List.drop_of_length_le (by simp; omega)]
              rfl
            have hki : ¬ (k : Int) < (t.size : Int) := by omega
            by_cases h00 : t.size = 0
            · have HE : Hid (t.size = 0) := h00
              have hem := empty_yes h00
              clear h00
              go_wp2_with fail
              go_ret
              exact ⟨by rw [HT.out, HZ.out, if_pos HE.out]; rfl, ba⟩
            · have HE : Hid (¬ t.size = 0) := h00
              have hem := empty_no (by omega : 0 < t.size)
              clear h00
              go_wp2_with fail
              go_ret
              exact ⟨by rw [HT.out, HZ.out, if_neg HE.out, HZ2.out]; rfl, ba⟩
end Go.Proofs.YtamnhegianpedaaGreatDoor
