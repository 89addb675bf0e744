/- Contracts of a part of an address of four that is read loosely: spec.l5Loose and impl.loosePart. -/
import Derived.Test.YtamnhegianpedaaGreatDoorRows
import Derived.Test.YtamnhegianpedaaGreatDoorNumWalk
import Derived.Test.YtamnhegianpedaaGreatDoorRowMore
import Derived.Test.YtamnhegianpedaaGreatDoorJoinPlain
import Derived.Test.YtamnhegianpedaaGreatDoorShelf
namespace Go.Proofs.YtamnhegianpedaaGreatDoor
open Go.RowKit

theorem toL_one (s : ByteArray) (h : 0 < s.size) : s.data.toList = s[0] :: (s.extract 1 s.size).data.toList := by
  rw [extract_list, take_all s s.size (Nat.le_refl _)]
  exact (List.drop_zero (l := s.data.toList)).symm.trans (List.drop_eq_getElem_cons (by simpa using h))
theorem toL_two (s : ByteArray) (h : 1 < s.size) : s.data.toList = s[0] :: s[1] :: (s.extract 2 s.size).data.toList := by
  rw [extract_list, take_all s s.size (Nat.le_refl _)]
  have h1 : s.data.toList.drop 0 = s[0] :: s.data.toList.drop (0 + 1) := List.drop_eq_getElem_cons (by simp; omega)
  have h2 : s.data.toList.drop 1 = s[1] :: s.data.toList.drop (1 + 1) := List.drop_eq_getElem_cons (by simpa using h)
  rw [List.drop_zero] at h1
  rw [show 0 + 1 = 1 from rfl, h2] at h1
  exact h1
theorem u8_is {c d : UInt8} (h : c.toNat = d.toNat) : c = d := UInt8.toNat_inj.1 h
theorem u8_not {c d : UInt8} (h : ¬ c.toNat = d.toNat) : c ≠ d := fun e => h (by rw [e])

theorem loose_nil {s : ByteArray} (h : s.size = 0) : looseP s.data.toList = none := by
  have : s.data.toList = [] := List.eq_nil_of_length_eq_zero (by simpa using h)
  rw [this]; rfl
theorem loose_x {s : ByteArray} (h : 1 < s.size) (h0 : s[0].toNat = 48) (h1 : s[1].toNat = 120 ∨ s[1].toNat = 88) : looseP s.data.toList = numL 16 8 (s.extract 2 s.size).data.toList := by
  rw [toL_two s h, looseP, if_pos (u8_is h0), loose0, if_pos]
  rcases h1 with h1 | h1
  · exact .inl (u8_is h1)
  · exact .inr (u8_is h1)
theorem loose_8 {s : ByteArray} (h : 0 < s.size) (h0 : s[0].toNat = 48) (h1 : ¬ ∃ h1 : 1 < s.size, s[1].toNat = 120 ∨ s[1].toNat = 88) : looseP s.data.toList = numL 8 11 (s.extract 1 s.size).data.toList := by
  rw [toL_one s h, looseP, if_pos (u8_is h0)]
  by_cases h2 : 1 < s.size
  · have e := toL_two s h2
    rw [toL_one s h] at e
    have e' : (s.extract 1 s.size).data.toList = s[1] :: (s.extract 2 s.size).data.toList := (List.cons.inj e).2
    rw [e', loose0, if_neg]
    rintro (e | e)
    · exact h1 ⟨h2, .inl (by rw [e]; rfl)⟩
    · exact h1 ⟨h2, .inr (by rw [e]; rfl)⟩
  · have : (s.extract 1 s.size).data.toList = [] := List.eq_nil_of_length_eq_zero (by simp; omega)
    rw [this]; rfl
theorem loose_10 {s : ByteArray} (h : 0 < s.size) (h0 : ¬ s[0].toNat = 48) : looseP s.data.toList = numL 10 10 s.data.toList := by
  have e := toL_one s h
  rw [e, looseP, if_neg (u8_not h0)]

set_option maxHeartbeats 1000000 in
theorem specLoose (s : ByteArray) (w : World) (hs : s.size ≤ 1048576) :
    Calls Tryz.prog 55 #[.string s] w fun e w' => e = .returned (.int .i64 (numZ (looseP s.data.toList))) ∧ w = w' := by
  by_cases h : s.size = 0
  · have HL : Hid (looseP s.data.toList = none) := loose_nil h
    have hem := empty_yes h
    clear h
    go_enter Tryz.func55, Tryz.ntmps55
    go_wp2_with fail
    go_ret
    exact ⟨by rw [HL.out]; rfl, rfl⟩
  · have hpos : 0 < s.size := by omega
    have hem := empty_no hpos
    clear h
    obtain ⟨d, hd⟩ : ∃ d : Nat, s[0].toNat = d := ⟨_, rfl⟩
    by_cases h0 : d = 48
    · subst h0
      by_cases h1 : ∃ h1 : 1 < s.size, s[1].toNat = 120 ∨ s[1].toNat = 88
      · obtain ⟨h1, hx⟩ := h1
        have HL : Hid (looseP s.data.toList = numL 16 8 (s.extract 2 s.size).data.toList) := loose_x h1 hd hx
        have CN : Hid (∀ W, Calls Tryz.prog 82 #[.string (s.extract 2 s.size), .int .i64 16, .int .i64 8] W fun e w' => e = .returned (.int .i64 (numZ (numL 16 8 (s.extract 2 s.size).data.toList))) ∧ W = w') := fun W => spec5Number (s.extract 2 s.size) 16 8 W (by omega) (by omega)
        generalize numL 16 8 (s.extract 2 s.size).data.toList = R at HL CN
        have h1' : 1 < (s.size : Int) := by omega
        obtain ⟨c, hc⟩ : ∃ c : Nat, s[1].toNat = c := ⟨_, rfl⟩
        rw [hc] at hx
        rcases hx with rfl | rfl
        · go_enter Tryz.func55, Tryz.ntmps55
          go_wp2_with fail
          refine (CN.out _).mono ?_
          rintro e w' ⟨rfl, rfl⟩
          go_wp2_with fail
          go_ret
          exact ⟨by rw [HL.out]; rfl, rfl⟩
        · go_enter Tryz.func55, Tryz.ntmps55
          go_wp2_with fail
          refine (CN.out _).mono ?_
          rintro e w' ⟨rfl, rfl⟩
          go_wp2_with fail
          go_ret
          exact ⟨by rw [HL.out]; rfl, rfl⟩
      · have HL : Hid (looseP s.data.toList = numL 8 11 (s.extract 1 s.size).data.toList) := loose_8 hpos hd h1
        have CN : Hid (∀ W, Calls Tryz.prog 82 #[.string (s.extract 1 s.size), .int .i64 8, .int .i64 11] W fun e w' => e = .returned (.int .i64 (numZ (numL 8 11 (s.extract 1 s.size).data.toList))) ∧ W = w') := fun W => spec5Number (s.extract 1 s.size) 8 11 W (by omega) (by omega)
        generalize numL 8 11 (s.extract 1 s.size).data.toList = R at HL CN
        by_cases h2 : 1 < s.size
        · obtain ⟨c, hc⟩ : ∃ c : Nat, s[1].toNat = c := ⟨_, rfl⟩
          have q1 : ((c : Int) == 120) = false := beq_eq_false_iff_ne.2 (fun e => h1 ⟨h2, .inl (by omega)⟩)
          have q2 : ((c : Int) == 88) = false := beq_eq_false_iff_ne.2 (fun e => h1 ⟨h2, .inr (by omega)⟩)
          have h2' : 1 < (s.size : Int) := by omega
          clear h1
          go_enter Tryz.func55, Tryz.ntmps55
          go_wp2_with fail
          refine (CN.out _).mono ?_
          rintro e w' ⟨rfl, rfl⟩
          go_wp2_with fail
          go_ret
          exact ⟨by rw [HL.out]; rfl, rfl⟩
        · have h2' : ¬ 1 < (s.size : Int) := by omega
          clear h1
          go_enter Tryz.func55, Tryz.ntmps55
          go_wp2_with fail
          refine (CN.out _).mono ?_
          rintro e w' ⟨rfl, rfl⟩
          go_wp2_with fail
          go_ret
          exact ⟨by rw [HL.out]; rfl, rfl⟩
    · have HL : Hid (looseP s.data.toList = numL 10 10 s.data.toList) := loose_10 hpos (by rw [hd]; exact h0)
      have CN : Hid (∀ W, Calls Tryz.prog 82 #[.string s, .int .i64 10, .int .i64 10] W fun e w' => e = .returned (.int .i64 (numZ (numL 10 10 s.data.toList))) ∧ W = w') := fun W => spec5Number s 10 10 W (by omega) (by omega)
      generalize numL 10 10 s.data.toList = R at HL CN
      have q0 : ((d : Int) == 48) = false := beq_eq_false_iff_ne.2 (by omega)
      clear h0
      by_cases h2 : 1 < (s.size : Int)
      · go_enter Tryz.func55, Tryz.ntmps55
        go_wp2_with fail
        refine (CN.out _).mono ?_
        rintro e w' ⟨rfl, rfl⟩
        go_wp2_with fail
        go_ret
        exact ⟨by rw [HL.out]; rfl, rfl⟩
      · go_enter Tryz.func55, Tryz.ntmps55
        go_wp2_with fail
        refine (CN.out _).mono ?_
        rintro e w' ⟨rfl, rfl⟩
        go_wp2_with fail
        go_ret
        exact ⟨by rw [HL.out]; rfl, rfl⟩

theorem pre_two (s : ByteArray) (c : UInt8) : Lib.hasPrefix s.data.toList [48, c] = decide (∃ h : 1 < s.size, s[0] = 48 ∧ s[1] = c) := by
  unfold Lib.hasPrefix
  by_cases h : 1 < s.size
  · rw [toL_two s h]
    generalize (s.extract 2 s.size).data.toList = r
    by_cases h1 : s[0] = 48 ∧ s[1] = c
    · rw [decide_eq_true ⟨h, h1⟩, h1.1, h1.2]
      simp [List.isPrefixOf]
    · rw [decide_eq_false (fun ⟨_, e⟩ => h1 e)]
      simp only [List.isPrefixOf, Bool.and_eq_false_iff, beq_eq_false_iff_ne]
      by_cases h2 : s[0] = 48
      · exact .inr (.inl fun e => h1 ⟨h2, e.symm⟩)
      · exact .inl fun e => h2 e.symm
  · rw [decide_eq_false (fun ⟨e, _⟩ => h e)]
    match hl : s.data.toList with
    | [] => rfl
    | [a] => simp [List.isPrefixOf]
    | a :: b :: r =>
      have : s.data.toList.length = s.size := by simp
      rw [hl] at this
      simp at this
      omega

/-- Does it begin with 0x or 0X? -/
def hxA (s : ByteArray) : Bool := decide (∃ h : 1 < s.size, s[0].toNat = 48 ∧ (s[1].toNat = 120 ∨ s[1].toNat = 88))
set_option maxHeartbeats 1000000 in
theorem implHexAhead (s : ByteArray) (w : World) :
    Calls Tryz.prog 102 #[.string s] w fun e w' => e = .returned (.bool (hxA s)) ∧ w = w' := by
  have CP : Hid (∀ W (c : UInt8) (b : Bool), (decide (∃ h : 1 < s.size, s[0] = 48 ∧ s[1] = c)) = b → Calls Tryz.prog 124 #[.string s, .string ⟨#[48, c]⟩] W fun e w' => e = .returned (.bool b) ∧ W = w') := fun W c b hb =>
    (Tryz.strings_HasPrefix s ⟨#[48, c]⟩ W).mono fun e w' h => ⟨by rw [h.1, ← hb, ← pre_two s c], h.2.symm⟩
  by_cases h1 : ∃ h : 1 < s.size, s[0] = 48 ∧ s[1] = 120
  · have HP : Hid (decide (∃ h : 1 < s.size, s[0] = 48 ∧ s[1] = 120) = true) := decide_eq_true h1
    have HZ : Hid (hxA s = true) := decide_eq_true (by obtain ⟨a, b, c⟩ := h1; exact ⟨a, by rw [b]; rfl, .inl (by rw [c]; rfl)⟩)
    clear h1
    go_enter Tryz.func102, Tryz.ntmps102
    go_wp2_with fail
    refine (CP.out _ _ _ HP.out).mono ?_
    rintro e w' ⟨rfl, rfl⟩
    go_wp2_with fail
    go_ret
    exact ⟨by rw [HZ.out]; rfl, rfl⟩
  · have HP : Hid (decide (∃ h : 1 < s.size, s[0] = 48 ∧ s[1] = 120) = false) := decide_eq_false h1
    have HZ : Hid (hxA s = decide (∃ h : 1 < s.size, s[0] = 48 ∧ s[1] = 88)) := by
      show _ = _
      unfold hxA
      refine decide_eq_decide.2 ⟨?_, ?_⟩
      · rintro ⟨a, b, c | c⟩
        · exact absurd ⟨a, u8_is b, u8_is c⟩ h1
        · exact ⟨a, u8_is b, u8_is c⟩
      · rintro ⟨a, b, c⟩
        exact ⟨a, by rw [b]; rfl, .inr (by rw [c]; rfl)⟩
    clear h1
    generalize hb : decide (∃ h : 1 < s.size, s[0] = 48 ∧ s[1] = 88) = b at HZ
    have HB : Hid (decide (∃ h : 1 < s.size, s[0] = 48 ∧ s[1] = 88) = b) := hb
    clear hb
    go_enter Tryz.func102, Tryz.ntmps102
    go_wp2_with fail
    refine (CP.out _ _ _ HP.out).mono ?_
    rintro e w' ⟨rfl, rfl⟩
    go_wp2_with fail
    refine (CP.out _ _ _ HB.out).mono ?_
    rintro e w' ⟨rfl, rfl⟩
    go_wp2_with fail
    go_ret
    exact ⟨by rw [HZ.out]; rfl, rfl⟩

set_option maxHeartbeats 1000000 in
theorem implLoose (s : ByteArray) (w : World) (hs : s.size ≤ 1048576) :
    Calls Tryz.prog 104 #[.string s] w fun e w' => e = .returned (numA (looseP s.data.toList)) ∧ w = w' := by
  have CP : Hid (∀ W (b : Bool), hxA s = b → Calls Tryz.prog 102 #[.string s] W fun e w' => e = .returned (.bool b) ∧ W = w') := fun W b hb => by
    rw [← hb]
    exact implHexAhead s W
  by_cases h : s.size = 0
  · have HL : Hid (looseP s.data.toList = none) := loose_nil h
    have hem := empty_yes h
    clear h
    go_enter Tryz.func104, Tryz.ntmps104
    go_wp2_with fail
    go_ret2
    exact ⟨by rw [HL.out]; rfl, rfl⟩
  · have hpos : 0 < s.size := by omega
    have hem := empty_no hpos
    clear h
    obtain ⟨d, hd⟩ : ∃ d : Nat, s[0].toNat = d := ⟨_, rfl⟩
    by_cases h0 : d = 48
    · subst h0
      by_cases h1 : ∃ h1 : 1 < s.size, s[1].toNat = 120 ∨ s[1].toNat = 88
      · obtain ⟨h1, hx⟩ := h1
        have HL : Hid (looseP s.data.toList = numL 16 8 (s.extract 2 s.size).data.toList) := loose_x h1 hd hx
        have CN : Hid (∀ W, Calls Tryz.prog 113 #[.string (s.extract 2 s.size), .int .i64 16, .int .i64 8] W fun e w' => e = .returned (numA (numL 16 8 (s.extract 2 s.size).data.toList)) ∧ W = w') := fun W => implDigits (s.extract 2 s.size) 16 8 W (by omega) (by omega)
        generalize numL 16 8 (s.extract 2 s.size).data.toList = R at HL CN
        have HP : Hid (hxA s = true) := decide_eq_true ⟨h1, hd, hx⟩
        clear hx
        go_enter Tryz.func104, Tryz.ntmps104
        go_wp2_with fail
        refine (CP.out _ _ HP.out).mono ?_
        rintro e w' ⟨rfl, rfl⟩
        go_wp2_with fail
        refine (CN.out _).mono ?_
        rintro e w' ⟨rfl, rfl⟩
        cases R <;> (simp only [numA] at HL ⊢; go_wp2_with fail; go_ret2; exact ⟨by rw [HL.out]; rfl, rfl⟩)
      · have HL : Hid (looseP s.data.toList = numL 8 11 (s.extract 1 s.size).data.toList) := loose_8 hpos hd h1
        have CN : Hid (∀ W, Calls Tryz.prog 113 #[.string (s.extract 1 s.size), .int .i64 8, .int .i64 11] W fun e w' => e = .returned (numA (numL 8 11 (s.extract 1 s.size).data.toList)) ∧ W = w') := fun W => implDigits (s.extract 1 s.size) 8 11 W (by omega) (by omega)
        generalize numL 8 11 (s.extract 1 s.size).data.toList = R at HL CN
        have HP : Hid (hxA s = false) := decide_eq_false (fun ⟨h, _, e⟩ => h1 ⟨h, e⟩)
        clear h1
        go_enter Tryz.func104, Tryz.ntmps104
        go_wp2_with fail
        refine (CP.out _ _ HP.out).mono ?_
        rintro e w' ⟨rfl, rfl⟩
        go_wp2_with fail
        refine (CN.out _).mono ?_
        rintro e w' ⟨rfl, rfl⟩
        cases R <;> (simp only [numA] at HL ⊢; go_wp2_with fail; go_ret2; exact ⟨by rw [HL.out]; rfl, rfl⟩)
    · have HL : Hid (looseP s.data.toList = numL 10 10 s.data.toList) := loose_10 hpos (by rw [hd]; exact h0)
      have CN : Hid (∀ W, Calls Tryz.prog 113 #[.string s, .int .i64 10, .int .i64 10] W fun e w' => e = .returned (numA (numL 10 10 s.data.toList)) ∧ W = w') := fun W => implDigits s 10 10 W (by omega) (by omega)
      generalize numL 10 10 s.data.toList = R at HL CN
      have HP : Hid (hxA s = false) := decide_eq_false (fun ⟨h, e, _⟩ => h0 (by rw [← hd, e]))
      have q0 : ((d : Int) == 48) = false := beq_eq_false_iff_ne.2 (by omega)
      clear h0
      go_enter Tryz.func104, Tryz.ntmps104
      go_wp2_with fail
      refine (CP.out _ _ HP.out).mono ?_
      rintro e w' ⟨rfl, rfl⟩
      go_wp2_with fail
      refine (CN.out _).mono ?_
      rintro e w' ⟨rfl, rfl⟩
      cases R <;> (simp only [numA] at HL ⊢; go_wp2_with fail; go_ret2; exact ⟨by rw [HL.out]; rfl, rfl⟩)
end Go.Proofs.YtamnhegianpedaaGreatDoor
