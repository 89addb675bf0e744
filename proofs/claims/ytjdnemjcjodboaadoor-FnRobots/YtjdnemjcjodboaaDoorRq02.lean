/- HexWalk, LetWalk, KeepWalk, LaidMarks, Shelf, MaxLaid, LaidRob. -/
import Derived.Test.YtjdnemjcjodboaaDoorRq01
import Derived.BigQuiet
import Derived.Lib.LaidIn
import Derived.Lib.LaidU8
import Derived.Deep.DeepHandedRow
import Derived.Deep.DeepWitnessRowRef
import Derived.OpenVars
import Derived.ProofKit
import Derived.Shelf.Strings.SlTrimAscii
import Derived.Shelf.Strings.Builder1
import Derived.Shelf.Strings.Builder2
import Derived.Shelf.Strings.Trim
import Derived.Shelf.Small.Utf8
import Derived.Shelf.Small.Strs
import Derived.Shelf.Strings.BuilderF
import Derived.Shelf.Strings.BuilderK
import Derived.Shelf.LaysM
import Derived.Shelf.Strconv.Clone
import Derived.Shelf.Strings.Search1
import Derived.Shelf.Strings.Search2
import Derived.Shelf.Strings.Search3
import Derived.Shelf.Strings.Cut
import Derived.Shelf.Strings.Count
import Derived.Shelf.Strings.Shaped
import Derived.Shelf.Strings.Prefix
import Derived.Shelf.Strings.Split
import Derived.Shelf.Strings.Replace
import Derived.Shelf.Strings.Runes
import Derived.Shelf.Strings.AsciiSet
import Derived.Shelf.Unicode.DecodeSlow
import Derived.Test.YtjdnemjcjodboaaDoorProg
import Derived.Lib.LaidU8T
set_option maxHeartbeats 2000000
set_option maxRecDepth 20000
namespace Go.Proofs.YtjdnemjcjodboaaDoor
open Go.RowKit
theorem specL1In (x a b : Int) (w : World) :
  Calls Tryd.prog 68 #[.int .i64 x, .int .i64 a, .int .i64 b] w fun e w' => e = .returned (.bool (decide (a ≤ x ∧ x ≤ b))) ∧ w = w' := by
 by_cases h : a ≤ x ∧ x ≤ b
 ·rw [decide_eq_true h]; exact specL1In_yes x a b w h.1 h.2
 rw [decide_eq_false h]; exact specL1In_no x a b w (by omega)
theorem hexN_09 {c : Nat} (h1 : 48 ≤ (c : Int)) (h2 : (c : Int) ≤ 57) : hexN c = (c : Int) - 48 := by unfold hexN; rw [if_pos (by omega)]
theorem hexN_az {c : Nat} (h1 : 97 ≤ (c : Int)) (h2 : (c : Int) ≤ 102) : hexN c = (c : Int) - 87 := by unfold hexN; rw [if_neg (by omega), if_pos (by omega)]
theorem hexN_AZ {c : Nat} (h1 : 65 ≤ (c : Int)) (h2 : (c : Int) ≤ 70) : hexN c = (c : Int) - 55 := by unfold hexN; rw [if_neg (by omega), if_neg (by omega), if_pos (by omega)]
theorem hexN_no {c : Nat} (h1 : ¬ (48 ≤ (c : Int) ∧ (c : Int) ≤ 57)) (h2 : ¬ (97 ≤ (c : Int) ∧ (c : Int) ≤ 102)) (h3 : ¬ (65 ≤ (c : Int) ∧ (c : Int) ≤ 70)) : hexN c = -1 := by unfold hexN; rw [if_neg (by omega), if_neg (by omega), if_neg (by omega)]
theorem implIsDigit (c : Nat) (w : World) (hc : c ≤ 255) :
  Calls Tryd.prog 78 #[.int .u8 (c : Int)] w fun e w' => e = .returned (.bool (decide (48 ≤ (c : Int) ∧ (c : Int) ≤ 57))) ∧ w = w' := by
 by_cases h1 : 48 ≤ (c : Int)
 ·go_enter Tryd.func78, Tryd.ntmps78
  go_wp2
  go_ret
  exact ⟨ret_bool (by simp [h1] <;> omega), rfl⟩
 go_enter Tryd.func78, Tryd.ntmps78
 go_wp2
 go_ret
 exact ⟨ret_bool (by simp <;> omega), rfl⟩
theorem implHex (c : Nat) (w : World) (hc : c ≤ 255) :
  Calls Tryd.prog 76 #[.int .u8 (c : Int)] w fun e w' => e = .returned (.int .i64 (hexN c)) ∧ w = w' := by
 by_cases h1 : 48 ≤ (c : Int) ∧ (c : Int) ≤ 57
 ·obtain ⟨a1, a2⟩ := h1
  go_enter Tryd.func76, Tryd.ntmps76
  go_wp2_with fail
  refine (implIsDigit c _ hc).mono ?_
  rintro e w' ⟨rfl, rfl⟩
  rw [decide_eq_true (show 48 ≤ (c : Int) ∧ (c : Int) ≤ 57 from ⟨a1, a2⟩)]
  go_wp2
  go_ret
  exact ⟨ret_int (by rw [hexN_09 a1 a2]), rfl⟩
 by_cases h2 : 97 ≤ (c : Int) ∧ (c : Int) ≤ 102
 ·obtain ⟨a1, a2⟩ := h2
  have H1 : Hid (¬ (48 ≤ (c : Int) ∧ (c : Int) ≤ 57)) := h1
  clear h1
  go_enter Tryd.func76, Tryd.ntmps76
  go_wp2_with fail
  refine (implIsDigit c _ hc).mono ?_
  rintro e w' ⟨rfl, rfl⟩
  rw [decide_eq_false H1.out]
  go_wp2
  go_ret
  exact ⟨ret_int (by rw [hexN_az a1 a2] <;> omega), rfl⟩
 by_cases h3 : 65 ≤ (c : Int) ∧ (c : Int) ≤ 70
 ·obtain ⟨a1, a2⟩ := h3
  have H1 : Hid (¬ (48 ≤ (c : Int) ∧ (c : Int) ≤ 57)) := h1
  clear h1 h2
  have h4 : ¬ 97 ≤ (c : Int) := by omega
  go_enter Tryd.func76, Tryd.ntmps76
  go_wp2_with fail
  refine (implIsDigit c _ hc).mono ?_
  rintro e w' ⟨rfl, rfl⟩
  rw [decide_eq_false H1.out]
  go_wp2
  go_ret
  exact ⟨ret_int (by rw [hexN_AZ a1 a2] <;> omega), rfl⟩
 have H1 : Hid (¬ (48 ≤ (c : Int) ∧ (c : Int) ≤ 57)) := h1
 have H0 : Hid (hexN c = -1) := hexN_no h1 h2 h3
 clear h1
 rcases Int.lt_or_le (c : Int) 97 with h4 | h4
 ·rcases Int.lt_or_le (c : Int) 65 with h5 | h5
  ·clear h2 h3
   go_enter Tryd.func76, Tryd.ntmps76
   go_wp2_with fail
   refine (implIsDigit c _ hc).mono ?_
   rintro e w' ⟨rfl, rfl⟩
   rw [decide_eq_false H1.out]
   go_wp2
   go_ret
   exact ⟨ret_int (by rw [H0.out]), rfl⟩
  have h6 : ¬ (c : Int) ≤ 70 := by omega
  clear h2 h3
  go_enter Tryd.func76, Tryd.ntmps76
  go_wp2_with fail
  refine (implIsDigit c _ hc).mono ?_
  rintro e w' ⟨rfl, rfl⟩
  rw [decide_eq_false H1.out]
  go_wp2
  go_ret
  exact ⟨ret_int (by rw [H0.out]), rfl⟩
 have h6 : ¬ (c : Int) ≤ 102 := by omega
 have h7 : ¬ (c : Int) ≤ 70 := by omega
 have h8 : 65 ≤ (c : Int) := by omega
 clear h2 h3
 go_enter Tryd.func76, Tryd.ntmps76
 go_wp2_with fail
 refine (implIsDigit c _ hc).mono ?_
 rintro e w' ⟨rfl, rfl⟩
 rw [decide_eq_false H1.out]
 go_wp2
 go_ret
 exact ⟨ret_int (by rw [H0.out]), rfl⟩
theorem specHex (c : Nat) (w : World) (hc : (c : Int) ≤ 255) :
  Calls Tryd.prog 67 #[.int .u8 (c : Int)] w fun e w' => e = .returned (.int .i64 (hexN c)) ∧ w = w' := by
 by_cases h1 : 48 ≤ (c : Int) ∧ (c : Int) ≤ 57
 ·obtain ⟨a1, a2⟩ := h1
  go_enter Tryd.func67, Tryd.ntmps67
  go_wp2_with (go_at_call 68; refine (specL1In_yes _ _ _ _ a1 a2).mono ?_; rintro e w' ⟨rfl, rfl⟩)
  go_ret
  exact ⟨ret_int (by rw [hexN_09 a1 a2]), rfl⟩
 have g1 : (c : Int) < 48 ∨ 57 < (c : Int) := by omega
 by_cases h2 : 97 ≤ (c : Int) ∧ (c : Int) ≤ 102
 ·obtain ⟨a1, a2⟩ := h2
  clear h1
  have H1 : Hid ((c : Int) < 48 ∨ 57 < (c : Int)) := g1
  clear g1
  go_enter Tryd.func67, Tryd.ntmps67
  go_wp2_with fail
  refine (specL1In_no _ _ _ _ H1.out).mono ?_
  rintro e w' ⟨rfl, rfl⟩
  go_wp2_with fail
  refine (specL1In_yes _ _ _ _ a1 a2).mono ?_
  rintro e w' ⟨rfl, rfl⟩
  go_wp2
  go_ret
  exact ⟨ret_int (by rw [hexN_az a1 a2] <;> omega), rfl⟩
 have g2 : (c : Int) < 97 ∨ 102 < (c : Int) := by omega
 have H1 : Hid ((c : Int) < 48 ∨ 57 < (c : Int)) := g1
 have H2 : Hid ((c : Int) < 97 ∨ 102 < (c : Int)) := g2
 by_cases h3 : 65 ≤ (c : Int) ∧ (c : Int) ≤ 70
 ·obtain ⟨a1, a2⟩ := h3
  clear h1 h2 g1 g2
  go_enter Tryd.func67, Tryd.ntmps67
  go_wp2_with fail
  refine (specL1In_no _ _ _ _ H1.out).mono ?_
  rintro e w' ⟨rfl, rfl⟩
  go_wp2_with fail
  refine (specL1In_no _ _ _ _ H2.out).mono ?_
  rintro e w' ⟨rfl, rfl⟩
  go_wp2_with fail
  refine (specL1In_yes _ _ _ _ a1 a2).mono ?_
  rintro e w' ⟨rfl, rfl⟩
  go_wp2
  go_ret
  exact ⟨ret_int (by rw [hexN_AZ a1 a2] <;> omega), rfl⟩
 have H0 : Hid (hexN c = -1) := hexN_no h1 h2 h3
 have H3 : Hid ((c : Int) < 65 ∨ 70 < (c : Int)) := by show _ ∨ _; omega
 clear h1 h2 h3 g1 g2
 go_enter Tryd.func67, Tryd.ntmps67
 go_wp2_with fail
 refine (specL1In_no _ _ _ _ H1.out).mono ?_
 rintro e w' ⟨rfl, rfl⟩
 go_wp2_with fail
 refine (specL1In_no _ _ _ _ H2.out).mono ?_
 rintro e w' ⟨rfl, rfl⟩
 go_wp2_with fail
 refine (specL1In_no _ _ _ _ H3.out).mono ?_
 rintro e w' ⟨rfl, rfl⟩
 go_wp2
 go_ret
 exact ⟨ret_int (by rw [H0.out]), rfl⟩
theorem implIsLetter (c : Nat) (w : World) (hc : (c : Int) ≤ 255) :
  Calls Tryd.prog 56 #[.int .u8 (c : Int)] w fun e w' => e = .returned (.bool (letterN c)) ∧ w = w' := by
 by_cases h1 : 97 ≤ (c : Int)
 ·by_cases h2 : (c : Int) ≤ 122
  ·have HV : Hid (letterN c = true) := by show _ = _; unfold letterN; simp; omega
   go_enter Tryd.func56, Tryd.ntmps56
   go_wp2
   go_ret
   exact ⟨ret_bool (by rw [HV.out] <;> first | rfl | (simp <;> omega)), rfl⟩
  have HV : Hid (letterN c = false) := by show _ = _; unfold letterN; simp; omega
  have h3 : 65 ≤ (c : Int) := by omega
  have h4 : ¬ (c : Int) ≤ 90 := by omega
  go_enter Tryd.func56, Tryd.ntmps56
  go_wp2
  go_ret
  exact ⟨ret_bool (by rw [HV.out] <;> first | rfl | (simp <;> omega)), rfl⟩
 by_cases h3 : 65 ≤ (c : Int)
 ·by_cases h4 : (c : Int) ≤ 90
  ·have HV : Hid (letterN c = true) := by show _ = _; unfold letterN; simp; omega
   go_enter Tryd.func56, Tryd.ntmps56
   go_wp2
   go_ret
   exact ⟨ret_bool (by rw [HV.out] <;> first | rfl | (simp <;> omega)), rfl⟩
  have HV : Hid (letterN c = false) := by show _ = _; unfold letterN; simp; omega
  go_enter Tryd.func56, Tryd.ntmps56
  go_wp2
  go_ret
  exact ⟨ret_bool (by rw [HV.out] <;> first | rfl | (simp <;> omega)), rfl⟩
 have HV : Hid (letterN c = false) := by show _ = _; unfold letterN; simp; omega
 go_enter Tryd.func56, Tryd.ntmps56
 go_wp2
 go_ret
 exact ⟨ret_bool (by rw [HV.out] <;> first | rfl | (simp <;> omega)), rfl⟩
def amongL (l : List UInt8) (c : Int) : Bool := l.any fun b => decide ((b.toNat : Int) = c)
theorem specAmong (s : ByteArray) (c : Int) (w : World) (hs : s.size ≤ 1048576) :
  Calls Tryd.prog 69 #[.string s, .int .i64 c] w fun e w' => e = .returned (.bool (amongL s.data.toList c)) ∧ w = w' := by
 go_enter Tryd.func69, Tryd.ntmps69
 go_wp2
 go_loop [5] (fun i => ∃ k : Nat, k ≤ s.size ∧ i = .int .i64 k ∧ amongL (s.data.toList.take k) c = false) (fun i => s.size - (intOf i).toNat)
 case atStart => exact ⟨0, Nat.zero_le _, rfl, rfl⟩
 obtain ⟨k, hk, rfl, hno⟩ := hrel
 have HN : Hid (amongL (s.data.toList.take k) c = false) := hno
 clear hno
 by_cases hlt : k < s.size
 ·obtain ⟨d, hd⟩ : ∃ d : Nat, s[k].toNat = d := ⟨_, rfl⟩
  have hd1 : (d : Int) ≤ 255 := by have := s[k].toNat_lt; omega
  by_cases he : (d : Int) = c
  ·have HV : Hid (amongL s.data.toList c = true) := by
    show _ = _
    unfold amongL
    refine List.any_eq_true.2 ⟨s[k], ?_, by rw [hd]; exact decide_eq_true he⟩
    have : s[k] ∈ s.data := Array.getElem_mem _
    simpa using this
   go_wp2
   go_ret
   exact ⟨ret_bool (by rw [HV.out]), rfl⟩
  have HN2 : Hid (amongL (s.data.toList.take (k + 1)) c = false) := by
   show _ = _
   have h := HN.out
   unfold amongL at h ⊢
   rw [take_snoc s k hlt, List.any_append, h]
   simp [hd, he]
  go_wp2
  go_round
  case rel => exact ⟨k + 1, by omega, by go_num, HN2.out⟩
  case measure => simp [intOf]; omega
 have HV : Hid (amongL s.data.toList c = false) := by
  show _ = _
  have h := HN.out
  rw [take_all s k (by omega)] at h
  exact h
 go_wp2
 go_ret
 exact ⟨ret_bool (by rw [HV.out]), rfl⟩
def letterZ (c : Int) : Bool := decide (97 ≤ c ∧ c ≤ 122) || decide (65 ≤ c ∧ c ≤ 90)
theorem specLetter (c : Int) (w : World) : Calls Tryd.prog 61 #[.int .i64 c] w fun e w' => e = .returned (.bool (letterZ c)) ∧ w = w' := by
 by_cases h1 : 97 ≤ c ∧ c ≤ 122
 ·have HV : Hid (letterZ c = true) := by show _ = _; unfold letterZ; rw [decide_eq_true h1]; rfl
  have H1 : Hid (97 ≤ c ∧ c ≤ 122) := h1
  clear h1
  go_enter Tryd.func61, Tryd.ntmps61
  go_wp2_with fail
  refine (specL1In_yes _ _ _ _ H1.out.1 H1.out.2).mono ?_
  rintro e w' ⟨rfl, rfl⟩
  go_wp2
  go_ret
  exact ⟨ret_bool (by rw [HV.out]), rfl⟩
 have HV : Hid (letterZ c = decide (65 ≤ c ∧ c ≤ 90)) := by show _ = _; unfold letterZ; rw [decide_eq_false h1]; rfl
 have H1 : Hid (c < 97 ∨ 122 < c) := by show _ ∨ _; omega
 clear h1
 go_enter Tryd.func61, Tryd.ntmps61
 go_wp2_with fail
 refine (specL1In_no _ _ _ _ H1.out).mono ?_
 rintro e w' ⟨rfl, rfl⟩
 go_wp2_with fail
 refine (specL1In _ _ _ _).mono ?_
 rintro e w' ⟨rfl, rfl⟩
 generalize decide (65 ≤ c ∧ c ≤ 90) = b at HV
 go_wp2
 go_ret
 exact ⟨ret_bool (by rw [HV.out]), rfl⟩
def Marks (w : World) : Prop := ∀ c : Nat, c < 128 → w.cell? ⟨0, c, none⟩ = some (.bool (plainT c)) ∧ w.cell? ⟨1, c, none⟩ = some (.bool (markN c))
theorem Marks.later {w w' : World} (h : Marks w) (hb : Below w.heap.size w w') : Marks w' := fun c hc =>
 ⟨(World.cell?_of_block (w := w) (a := ⟨0, c, none⟩) (hb.block _ (World.block_lt_of_cell? w _ (h c hc).1))).trans (h c hc).1,
  (World.cell?_of_block (w := w) (a := ⟨1, c, none⟩) (hb.block _ (World.block_lt_of_cell? w _ (h c hc).2))).trans (h c hc).2⟩
theorem digit_eq (c : Nat) : decide (48 ≤ (c : Int) ∧ (c : Int) ≤ 57) = digitN c := by
 unfold digitN
 exact decide_eq_decide.2 (by omega)
theorem implIsPlain (c : Nat) (w : World) (hM : Marks w) (hc : (c : Int) ≤ 255) :
  Calls Tryd.prog 53 #[.int .u8 (c : Int)] w fun e w' => e = .returned (.bool (freeN c)) ∧ w = w' := by
 have hc0 : 0 ≤ (c : Int) := by omega
 cases hl : letterN c with
 | true =>
  have HL : Hid (letterN c = true) := hl
  have HV : Hid (freeN c = true) := by show _ = _; unfold freeN; rw [hl]; rfl
  clear hl hM
  go_enter Tryd.func53, Tryd.ntmps53
  go_wp2_with fail
  refine (implIsLetter c _ hc).mono ?_
  rintro e w' ⟨rfl, rfl⟩
  rw [HL.out]
  go_wp2
  go_ret
  exact ⟨ret_bool (by rw [HV.out]), rfl⟩
 | false =>
  have HL : Hid (letterN c = false) := hl
  cases hg : digitN c with
  | true =>
   have HG : Hid (digitN c = true) := hg
   have HV : Hid (freeN c = true) := by show _ = _; unfold freeN; rw [hl, hg]; rfl
   clear hl hg hM
   go_enter Tryd.func53, Tryd.ntmps53
   go_wp2_with fail
   refine (implIsLetter c _ hc).mono ?_
   rintro e w' ⟨rfl, rfl⟩
   rw [HL.out]
   go_wp2_with fail
   refine (implIsDigit c _ (by omega)).mono ?_
   rintro e w' ⟨rfl, rfl⟩
   rw [digit_eq, HG.out]
   go_wp2
   go_ret
   exact ⟨ret_bool (by rw [HV.out]), rfl⟩
  | false =>
   have HG : Hid (digitN c = false) := hg
   by_cases h128 : (c : Int) < 128
   ·have hcell := (hM c (by omega)).1
    have HV : Hid (freeN c = plainT c) := by show _ = _; unfold freeN; rw [hl, hg]; rfl
    generalize plainT c = b at hcell HV
    clear hl hg hM
    go_enter Tryd.func53, Tryd.ntmps53
    go_wp2_with fail
    refine (implIsLetter c _ hc).mono ?_
    rintro e w' ⟨rfl, rfl⟩
    rw [HL.out]
    go_wp2_with fail
    refine (implIsDigit c _ (by omega)).mono ?_
    rintro e w' ⟨rfl, rfl⟩
    rw [digit_eq, HG.out]
    go_wp2
    go_ret
    exact ⟨ret_bool (by rw [HV.out]), rfl⟩
   have HV : Hid (freeN c = false) := by
    show _ = _
    cases hx : freeN c with
    | false => rfl
    | true => have := free_lt hx; omega
   have h129 : 128 ≤ (c : Int) := by omega
   clear hl hg hM h128
   go_enter Tryd.func53, Tryd.ntmps53
   go_wp2_with fail
   refine (implIsLetter c _ hc).mono ?_
   rintro e w' ⟨rfl, rfl⟩
   rw [HL.out]
   go_wp2_with fail
   refine (implIsDigit c _ (by omega)).mono ?_
   rintro e w' ⟨rfl, rfl⟩
   rw [digit_eq, HG.out]
   go_wp2
   go_ret
   exact ⟨ret_bool (by rw [HV.out]), rfl⟩
theorem keepZ_out {set : Int} (c : Int) (h : ¬ (1 ≤ set ∧ set ≤ 3)) : keepZ set c = false := by
 unfold keepZ
 rw [keep_out h]
 simp
theorem keepZ_neg (set : Int) {c : Int} (h : c < 0) : keepZ set c = false := by
 unfold keepZ
 rw [decide_eq_false (by omega)]
 rfl
theorem keepZ_big (set : Int) {c : Int} (h : 128 ≤ c) : keepZ set c = false := by
 unfold keepZ
 cases hx : keepN set c.toNat with
 | false => simp
 | true => have := keep_lt hx; omega
theorem keepZ_nat (set : Int) (n : Nat) : keepZ set (n : Int) = keepN set n := by simp [keepZ]
theorem keepN_slash {set : Int} (h : 1 ≤ set ∧ set ≤ 3) : keepN set 47 = decide (set ≠ 3) := by simp [keepN, h, freeN, letterN, digitN, plainT, markN]
theorem keepN_quest {set : Int} (h : 1 ≤ set ∧ set ≤ 3) : keepN set 63 = decide (set = 2) := by simp [keepN, h, freeN, letterN, digitN, plainT, markN]
theorem keepN_else {set : Int} {n : Nat} (h : 1 ≤ set ∧ set ≤ 3) (h1 : n ≠ 47) (h2 : n ≠ 63) : keepN set n = (markN n || freeN n) := by
 simp [keepN, h, h1, h2, Bool.or_comm]
theorem implKeeps (set c : Int) (w : World) (hM : Marks w) :
  Calls Tryd.prog 77 #[.int .i64 set, .int .i64 c] w fun e w' => e = .returned (.bool (keepZ set c)) ∧ w = w' := by
 by_cases h1 : set < 1
 ·have HV : Hid (keepZ set c = false) := keepZ_out c (by omega)
  clear hM
  go_enter Tryd.func77, Tryd.ntmps77
  go_wp2
  go_ret
  exact ⟨ret_bool (by rw [HV.out]), rfl⟩
 by_cases h3 : 3 < set
 ·have HV : Hid (keepZ set c = false) := keepZ_out c (by omega)
  clear hM
  go_enter Tryd.func77, Tryd.ntmps77
  go_wp2
  go_ret
  exact ⟨ret_bool (by rw [HV.out]), rfl⟩
 by_cases hc0 : c < 0
 ·have HV : Hid (keepZ set c = false) := keepZ_neg set hc0
  clear hM
  go_enter Tryd.func77, Tryd.ntmps77
  go_wp2
  go_ret
  exact ⟨ret_bool (by rw [HV.out]), rfl⟩
 by_cases hc1 : 128 ≤ c
 ·have HV : Hid (keepZ set c = false) := keepZ_big set hc1
  clear hM
  go_enter Tryd.func77, Tryd.ntmps77
  go_wp2
  go_ret
  exact ⟨ret_bool (by rw [HV.out]), rfl⟩
 have hv : 1 ≤ set ∧ set ≤ 3 := by omega
 obtain ⟨n, rfl⟩ := Int.eq_ofNat_of_zero_le (show 0 ≤ c by omega)
 rw [keepZ_nat]
 have hc2 : (n : Int) < 128 := by omega
 have hc3 : 0 ≤ (n : Int) := by omega
 clear hc0 hc1
 by_cases hs : n = 47
 ·subst hs
  have HV : Hid (keepN set 47 = decide (set ≠ 3)) := keepN_slash hv
  clear hM
  by_cases he : set = 3
  ·go_enter Tryd.func77, Tryd.ntmps77
   go_wp2
   go_ret
   exact ⟨ret_bool (by first | (rw [HV.out]; simp [he]) | decide), rfl⟩
  go_enter Tryd.func77, Tryd.ntmps77
  go_wp2
  go_ret
  exact ⟨ret_bool (by first | (rw [HV.out]; simp [he]) | decide), rfl⟩
 by_cases hq : n = 63
 ·subst hq
  have HV : Hid (keepN set 63 = decide (set = 2)) := keepN_quest hv
  clear hM
  by_cases he : set = 2
  ·go_enter Tryd.func77, Tryd.ntmps77
   go_wp2
   go_ret
   exact ⟨ret_bool (by first | (rw [HV.out]; simp [he]) | decide), rfl⟩
  go_enter Tryd.func77, Tryd.ntmps77
  go_wp2
  go_ret
  exact ⟨ret_bool (by first | (rw [HV.out]; simp [he]) | decide), rfl⟩
 have HV : Hid (keepN set n = (markN n || freeN n)) := keepN_else hv hs hq
 have hs' : ¬ (n : Int) = 47 := by omega
 have hq' : ¬ (n : Int) = 63 := by omega
 have hcell := (hM n (by omega)).2
 have HM : Hid (Marks w) := hM
 clear hM hs hq hv
 generalize markN n = b at hcell HV
 cases b with
 | true =>
  go_enter Tryd.func77, Tryd.ntmps77
  go_wp2
  go_ret
  exact ⟨ret_bool (by rw [HV.out]; rfl), rfl⟩
 | false =>
  go_enter Tryd.func77, Tryd.ntmps77
  go_wp2_with fail
  refine (implIsPlain n _ HM.out (by omega)).mono ?_
  rintro e w' ⟨rfl, rfl⟩
  go_wp2
  go_ret
  exact ⟨ret_bool (by rw [HV.out]; rfl), rfl⟩
end Go.Proofs.YtjdnemjcjodboaaDoor
namespace Go.Proofs.YtjdnemjcjodboaaDoor
open Go.ChangeShapes Go.WideShapes Go.ChangeAt Go.RowKit Go.Lib
theorem ownMarks : ownKnob Tryd.prog.godebug = none := by kernel_rfl
theorem laidOutMarks : laidOutB Tryd.prog = true := by kernel_rfl
def boolsData (f : Nat → Bool) : DataW Unit := .agg ((List.range 128).map fun i => .lit (.bool (f i)))
theorem plain_data : (Rows.laid_loop_example_g00191_impl_plainMarks : DataW Unit) = boolsData plainT := by kernel_rfl
theorem kept_data : (Rows.laid_loop_example_g00191_impl_keptMarks : DataW Unit) = boolsData markN := by kernel_rfl
theorem bools_of_reads {P : Program} {w : World} {name : String} {g : Nat} {t e : TypeId} {f : Nat → Bool} (hn : P.globalNamed name = some g) (hy : (P.globals[g]?).map (·.type) = some t) (ht : P.underlying t = some (.array 128 e)) (he : P.underlying e = some .bool) (hce : P.cellsOf e = 1)
  (h : VarReads P w name (boolsData f)) : ∀ c, c < 128 → w.cell? ⟨g, c, none⟩ = some (.bool (f c)) := by
 intro c hc
 obtain ⟨g', t', cs, fuel, p, hg, hty, hvar, hd⟩ := h
 obtain rfl := Option.some.inj (hn.symm.trans hg)
 obtain rfl := Option.some.inj (hy.symm.trans hty)
 unfold boolsData at hd
 obtain ⟨fuel', d, q, hdi, hx⟩ := array_elem ht hd c hc
 simp only [List.getElem?_map, List.getElem?_range hc, Option.map_some, Option.some.injEq] at hdi
 subst hdi
 rw [hce] at hx
 obtain ⟨b, hb, hxx⟩ := DataW.trod_bool he hx
 have hfb : f c = b := by simpa using congrArg Prod.fst hxx
 have e0 := congrArg (·[0]?) hb
 simp only [List.getElem?_take, List.getElem?_drop] at e0
 rw [World.var?_cell hg hvar c, ← Array.getElem?_toList, hfb]
 simpa using e0
theorem vars_two {H : Type} {enc : TypeId × Value → H} {P : Program} {w : World} {sp : Nat → Bool} {n0 n1 : String} {gs : List (DataW H)} {ps : List MemPlace} (h : DataW.TrodVars enc P w sp [n0, n1] gs ps) : ∃ g0 g1, gs = [g0, g1] := by
 match gs, h with
 | [], h => exact h.elim
 | [_], ⟨_, _, _, _, _, _, _, _, _, _, h, _⟩ => exact h.elim
 | [a, b], _ => exact ⟨a, b, rfl⟩
 | _ :: _ :: _ :: _, ⟨_, _, _, _, _, _, _, _, _, _, h, _⟩ =>
  obtain ⟨_, _, _, _, _, _, _, _, _, _, h2, _⟩ := h
  exact h2.elim
def putBools (f : Nat → Bool) : Obj → Obj
 | .cells _ t frozen => .cells ((List.range 128).map fun i => Value.bool (f i)).toArray t frozen
 | o => o
def marksHeap (h : Array Obj) : Array Obj := (h.modify 0 (putBools plainT)).modify 1 (putBools markN)
end Go.Proofs.YtjdnemjcjodboaaDoor
namespace Go.Proofs
open Go.Shelf
def Tryd.lays169_ren : Go.Shelf.Ren := ⟨fun | 169 => 26 | n => n, fun | 70 => 48 | 9 => 9 | 0 => 0 | 72 => 50 | 37 => 22 | 127 => 76 | 3 => 3 | 5 => 5 | n => n, fun | n => n⟩
theorem Tryd.lays169 : Go.Proofs.Lays.n169 Tryd.prog Tryd.lays169_ren := by constructor <;> first | kernel_rfl | (intro _; kernel_rfl)
theorem Tryd.Builder_Extra_169 : Builder.Extra Tryd.prog Tryd.lays169_ren := {
 sizeBuilder := by kernel_rfl
 liesBuilder := by kernel_rfl
 t5 := Tryd.underlying5
 a5 := Tryd.isAgg5
 z5 := Tryd.sizeOf5
 v5 := Tryd.zeroValue5
 infoByte := by kernel_rfl
 cellsByte := by kernel_rfl
 sizeByte := by kernel_rfl
 neB5 := by decide }
def Tryd.lays160_ren : Go.Shelf.Ren := ⟨fun | 160 => 73 | 232 => 90 | 231 => 89 | 227 => 91 | 234 => 93 | 233 => 92 | 236 => 95 | 235 => 94 | 228 => 105 | 271 => 107 | 151 => 106 | 197 => 87 | 120 => 112 | 152 => 111 | 260 => 100 | 137 => 113 | 119 => 114 | 224 => 103 | 225 => 102 | 217 => 101 | 266 => 109 | n => n, fun | 9 => 9 | 4 => 4 | 3 => 3 | 5 => 5 | 117 => 102 | 116 => 101 | 0 => 0 | 124 => 105 | 21 => 21 | 105 => 97 | 46 => 86 | 119 => 112 | 139 => 115 | 138 => 114 | n => n, fun | 3 => 3 | 4 => 4 | n => n⟩
theorem Tryd.lays160 : Go.Proofs.Lays.n160 Tryd.prog Tryd.lays160_ren := by constructor <;> first | kernel_rfl | (intro _; kernel_rfl)
open Go.RowKit in
theorem Tryd.Builder_String_any_f (B b : Nat) (l : List UInt8) (w : World) (h : Lib.IsBuilderF 50 5 B b (Lib.byteCells l) w) (hBw : B ≤ w.heap.size) :
  Calls Tryd.prog 26 #[.pointer (some ⟨b, 0, none⟩)] w fun e w' => e = .returned (.string ⟨l.toArray⟩) ∧ (Lib.IsBuilderF 50 5 B b (Lib.byteCells l) w' ∧ Below B w w') := Any.Builder_String_any_f Tryd.lays169 Tryd.Builder_Extra_169 B b l w h hBw
def Tryd.laysM316_ren : Go.Shelf.Ren := ⟨fun | 316 => 83 | n => n, fun | 9 => 9 | 3 => 3 | 4 => 4 | 37 => 22 | 0 => 0 | 127 => 76 | 5 => 5 | n => n, fun | n => n⟩
theorem Tryd.laysM316 : Go.Proofs.LaysM.n316 Tryd.prog Tryd.laysM316_ren := {
 mixed := by kernel_rfl
 f316 := Tryd.func83.trans (congrArg some (by kernel_rfl))
 t0 := Tryd.underlying0
 a0 := Tryd.isAgg0
 z0 := Tryd.sizeOf0
 v0 := Tryd.zeroValue0
 t3 := Tryd.underlying3
 a3 := Tryd.isAgg3
 z3 := Tryd.sizeOf3
 v3 := Tryd.zeroValue3
 t4 := Tryd.underlying4
 a4 := Tryd.isAgg4
 z4 := Tryd.sizeOf4
 v4 := Tryd.zeroValue4
 t9 := Tryd.underlying9
 a9 := Tryd.isAgg9
 z9 := Tryd.sizeOf9
 v9 := Tryd.zeroValue9
 t37 := Tryd.underlying22
 a37 := Tryd.isAgg22
 z37 := Tryd.sizeOf22
 v37 := Tryd.zeroValue22
 t127 := Tryd.underlying76
 a127 := Tryd.isAgg76
 z127 := Tryd.sizeOf76
 v127 := Tryd.zeroValue76
 t5 := Tryd.underlying5
 a5 := Tryd.isAgg5
 z5 := Tryd.sizeOf5
 v5 := Tryd.zeroValue5
 i0 := by kernel_rfl
 i3 := by kernel_rfl
 i4 := by kernel_rfl
 i5 := by kernel_rfl
 i9 := by kernel_rfl
 i37 := by kernel_rfl
 i127 := by kernel_rfl }
open Go.RowKit in
theorem Tryd.stringslite_Clone (s : ByteArray) (w : World) (hlim : s.size ≤ 281474976710656) :
  Calls Tryd.prog 83 #[.string s] w fun e w' => e = .returned (.string s) ∧ Below w.heap.size w w' := Any.stringslite_Clone Tryd.laysM316 s w hlim
def Tryd.lays219_ren : Go.Shelf.Ren := ⟨fun | 219 => 88 | 217 => 101 | 225 => 102 | 224 => 103 | 267 => 104 | 266 => 109 | 314 => 110 | n => n, fun | 9 => 9 | 3 => 3 | 4 => 4 | 5 => 5 | 46 => 86 | 146 => 117 | 51 => 116 | n => n, fun | 1 => 2 | n => n⟩
theorem Tryd.lays219 : Go.Proofs.Lays.n219 Tryd.prog Tryd.lays219_ren := by constructor <;> first | kernel_rfl | (intro _; kernel_rfl)
open Go.RowKit Go.Lib in
theorem Tryd.stringslite_Index_one (s : ByteArray) (c : UInt8) (w : World) :
  Calls Tryd.prog 88 #[.string s, .string ⟨#[c]⟩] w fun e w' => e = .returned (.int .i64 (Lib.indexByte s.data.toList c)) ∧ w' = w := Any.stringslite_Index_one Tryd.lays219 s c w
def Tryd.laysM145_ren : Go.Shelf.Ren := ⟨fun | 145 => 43 | 220 => 72 | 219 => 88 | 217 => 101 | 225 => 102 | 224 => 103 | 267 => 104 | 266 => 109 | 314 => 110 | n => n, fun | 9 => 9 | 4 => 4 | 59 => 41 | 3 => 3 | 5 => 5 | 46 => 86 | 146 => 117 | 51 => 116 | n => n, fun | 1 => 2 | n => n⟩
theorem Tryd.laysM145 : Go.Proofs.LaysM.n145 Tryd.prog Tryd.laysM145_ren := {
 mixed := by kernel_rfl
 f145 := Tryd.func43.trans (congrArg some (by kernel_rfl))
 f217 := Tryd.func101.trans (congrArg some (by kernel_rfl))
 f219 := Tryd.func88.trans (congrArg some (by kernel_rfl))
 f220 := Tryd.func72.trans (congrArg some (by kernel_rfl))
 f224 := Tryd.func103.trans (congrArg some (by kernel_rfl))
 f225 := Tryd.func102.trans (congrArg some (by kernel_rfl))
 f266 := Tryd.func109.trans (congrArg some (by kernel_rfl))
 f267 := Tryd.func104.trans (congrArg some (by kernel_rfl))
 f314 := Tryd.func110.trans (congrArg some (by kernel_rfl))
 t3 := Tryd.underlying3
 a3 := Tryd.isAgg3
 z3 := Tryd.sizeOf3
 v3 := Tryd.zeroValue3
 t4 := Tryd.underlying4
 a4 := Tryd.isAgg4
 z4 := Tryd.sizeOf4
 v4 := Tryd.zeroValue4
 t5 := Tryd.underlying5
 a5 := Tryd.isAgg5
 z5 := Tryd.sizeOf5
 v5 := Tryd.zeroValue5
 t9 := Tryd.underlying9
 a9 := Tryd.isAgg9
 z9 := Tryd.sizeOf9
 v9 := Tryd.zeroValue9
 t46 := Tryd.underlying86
 a46 := Tryd.isAgg86
 z46 := Tryd.sizeOf86
 v46 := Tryd.zeroValue86
 t51 := Tryd.underlying116
 a51 := Tryd.isAgg116
 z51 := Tryd.sizeOf116
 v51 := Tryd.zeroValue116
 t59 := Tryd.underlying41
 a59 := Tryd.isAgg41
 z59 := Tryd.sizeOf41
 v59 := Tryd.zeroValue41
 t146 := Tryd.underlying117
 a146 := Tryd.isAgg117
 z146 := Tryd.sizeOf117
 v146 := Tryd.zeroValue117
 g1 := by kernel_rfl
 i3 := by kernel_rfl
 i4 := by kernel_rfl
 i5 := by kernel_rfl
 i9 := by kernel_rfl
 i46 := by kernel_rfl
 i51 := by kernel_rfl
 i59 := by kernel_rfl
 i146 := by kernel_rfl
 m1 := by kernel_rfl
 s1_3 := fun w h => Go.Proofs.cell_of_shapedOpen_int (zero := #[.int .i64 0]) (t := 3) h (of_decide_eq_true (by kernel_rfl)) (by kernel_rfl) rfl (by kernel_rfl) (by kernel_rfl) Tryd.underlying3 }
def Tryd.lays99_ren : Go.Shelf.Ren := ⟨fun | 99 => 28 | 206 => 55 | n => n, fun | 9 => 9 | 4 => 4 | 3 => 3 | n => n, fun | n => n⟩
theorem Tryd.lays99 : Go.Proofs.Lays.n99 Tryd.prog Tryd.lays99_ren := by constructor <;> first | kernel_rfl | (intro _; kernel_rfl)
open Go.RowKit Go.Lib in
theorem Tryd.strings_HasPrefix (s p : ByteArray) (w : World) :
  Calls Tryd.prog 28 #[.string s, .string p] w fun e w' => e = .returned (.bool (Lib.hasPrefix s.data.toList p.data.toList)) ∧ w' = w := Any.strings_HasPrefix Tryd.lays99 s p w
def Tryd.lays155_ren : Go.Shelf.Ren := ⟨fun | 155 => 42 | 154 => 71 | 138 => 84 | 165 => 85 | 143 => 86 | 166 => 23 | 197 => 87 | 169 => 26 | 195 => 97 | 218 => 98 | 240 => 50 | 241 => 99 | 219 => 88 | 260 => 100 | 276 => 75 | 277 => 108 | 217 => 101 | 225 => 102 | 224 => 103 | 267 => 104 | 266 => 109 | 314 => 110 | n => n, fun | 9 => 9 | 3 => 3 | 4 => 4 | 72 => 50 | 0 => 0 | 76 => 53 | 105 => 97 | 21 => 21 | 5 => 5 | 70 => 48 | 20 => 20 | 37 => 22 | 75 => 52 | 127 => 76 | 164 => 89 | 46 => 86 | 119 => 112 | 139 => 115 | 138 => 114 | 146 => 117 | 51 => 116 | 80 => 57 | n => n, fun | 1 => 2 | 3 => 3 | 4 => 4 | n => n⟩
theorem Tryd.lays155 : Go.Proofs.Lays.n155 Tryd.prog Tryd.lays155_ren := by constructor <;> first | kernel_rfl | (intro _; kernel_rfl)
theorem Tryd.Builder_Extra_155 : Builder.Extra Tryd.prog Tryd.lays155_ren := {
 sizeBuilder := by kernel_rfl
 liesBuilder := by kernel_rfl
 t5 := Tryd.underlying5
 a5 := Tryd.isAgg5
 z5 := Tryd.sizeOf5
 v5 := Tryd.zeroValue5
 infoByte := by kernel_rfl
 cellsByte := by kernel_rfl
 sizeByte := by kernel_rfl
 neB5 := by decide }
open Go.RowKit Go.Lib in
theorem Tryd.strings_ReplaceAll (s old new : ByteArray) (m : Int) (w : World) (hs : s.size < 4294967281) (hm : w.cell? ⟨2, 0, none⟩ = some (.int .i64 m)) (h1 : 1 ≤ old.size) (hlen : s.size + Lib.countB s old * new.size ≤ 140737488355328) :
  Calls Tryd.prog 42 #[.string s, .string old, .string new] w fun e w' =>
   e = .returned (.string ⟨(Lib.replaceAll s.data.toList old.data.toList new.data.toList).toArray⟩) ∧ Below w.heap.size w w' := Any.strings_ReplaceAll Tryd.lays155 Tryd.Builder_Extra_155 s old new m w hs hm h1 hlen
end Go.Proofs
namespace Go.Proofs.YtjdnemjcjodboaaDoor
open Go.RowKit
def MaxI (w : World) : Prop := ∃ m, w.cell? ⟨2, 0, none⟩ = some (.int .i64 m)
theorem max_shaped {w : World} (h : w.ShapedOpen Tryd.prog) : MaxI w := Tryd.laysM145.s1_3 w h
theorem max_below {w w' : World} (h : MaxI w) (hb : Below w.heap.size w w') : MaxI w' := by
 obtain ⟨m, hm⟩ := h
 exact ⟨m, cell_later hb hm⟩
end Go.Proofs.YtjdnemjcjodboaaDoor
namespace Go.Proofs.YtjdnemjcjodboaaDoor
open Go.ChangeShapes Go.WideShapes Go.ChangeAt Go.RowKit Go.Lib
def laidRob : List (String × DataW Unit) := [("unicode/utf8.acceptRanges", Rows.laid_unicode_utf8_acceptRanges), ("loop.example/g00191/impl.plainMarks", Rows.laid_loop_example_g00191_impl_plainMarks), ("loop.example/g00191/impl.keptMarks", Rows.laid_loop_example_g00191_impl_keptMarks), ("unicode/utf8.first", Rows.laid_unicode_utf8_first)]
theorem rob_marks {W : World} (hL : laidMet Tryd.prog laidRob W) : Marks W := by
 unfold laidRob at hL
 rw [plain_data, kept_data] at hL
 have h1 := bools_of_reads (P := Tryd.prog) (g := 0) (t := 91) (e := 4) (by kernel_rfl) (by kernel_rfl) (by kernel_rfl) (by kernel_rfl) (by kernel_rfl) (Lib.laidMet.reads hL (.tail _ (.head _)))
 have h2 := bools_of_reads (P := Tryd.prog) (g := 1) (t := 91) (e := 4) (by kernel_rfl) (by kernel_rfl) (by kernel_rfl) (by kernel_rfl) (by kernel_rfl) (Lib.laidMet.reads hL (.tail _ (.tail _ (.head _))))
 exact fun c hc => ⟨h1 c hc, h2 c hc⟩
def putCells4 (cs : Array Value) : Obj → Obj
 | .cells _ t frozen => .cells cs t frozen
 | o => o
def robHeap (h : Array Obj) : Array Obj :=
 ((marksHeap h).modify 3 (putCells4 (Lib.firstTab.map fun z => Value.int .u8 z).toArray)).modify 4 (putCells4 ((List.range 16).flatMap fun i => [Value.int .u8 (Lib.accLo i), Value.int .u8 (Lib.accHi i)]).toArray)
theorem rob_met (os : Os) (args : Array Value) : laidMet Tryd.prog laidRob (({ World.holding Tryd.prog os ⟨#[], #[], []⟩ with heap := robHeap (World.holding Tryd.prog os ⟨#[], #[], []⟩).heap } : World).forCall (fun _ _ => 0) ⟨#[], args, []⟩).memory :=
 (LaidIn.of_run (l := laidRob) [4, 0, 1, 3] 8 (by kernel_rfl) (by kernel_rfl) (by kernel_rfl) (by kernel_rfl)).met
end Go.Proofs.YtjdnemjcjodboaaDoor
