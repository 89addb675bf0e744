/- SchemeOf of both sides. -/
import Derived.Test.YtgcbaphbiaimoaaRows
import Derived.Test.YtgcbaphbiaimoaaUntilWalk
import Derived.Test.YtgcbaphbiaimoaaCutOne
namespace Go.Proofs.Ytgcbaphbiaimoaa
open Go.RowKit

/-- A byte of a scheme's name. -/
def schC (n : Nat) : Bool := letterN n || (digitN n || (decide (n = 43) || decide (n = 45) || decide (n = 46)))
def schOk (l : List UInt8) : Bool := letterN (l.headD 0).toNat && l.all fun c => schC c.toNat
/-- The scheme of a text. -/
def schL (l : List UInt8) : List UInt8 := if l.contains 58 = true ∧ schOk (upB 58 l) = true then lowerL (upB 58 l) else []

theorem sch_among : ∀ n : Nat, n < 256 → amongL [43, 45, 46] (n : Int) = (decide (n = 43) || decide (n = 45) || decide (n = 46)) := by decide +kernel
theorem sch_colon (c : UInt8) : amongL (⟨#[58]⟩ : ByteArray).data.toList (c.toNat : Int) = !(c != 58) := by
  have h : ∀ n : Nat, n < 256 → amongL [58] (n : Int) = !(UInt8.ofNat n != 58) := by decide +kernel
  have := h c.toNat c.toNat_lt
  simpa using this
theorem sch_none {l : List UInt8} (h : l.contains 58 = false) : schL l = [] := by unfold schL; rw [if_neg (fun x => by rw [h] at x; exact absurd x.1 (by decide))]
theorem sch_bad {l : List UInt8} (h : schOk (upB 58 l) = false) : schL l = [] := by unfold schL; rw [if_neg (fun x => by rw [h] at x; exact absurd x.2 (by decide))]
theorem sch_good {l : List UInt8} (h1 : l.contains 58 = true) (h : schOk (upB 58 l) = true) : schL l = lowerL (upB 58 l) := by unfold schL; rw [if_pos ⟨h1, h⟩]
theorem drop_colon (l : List UInt8) : (l.dropWhile fun x => x != 58).isEmpty = !l.contains 58 := by
  induction l with
  | nil => rfl
  | cons b l ih =>
    by_cases h : b = 58
    · subst h; simp
    · have h3 : (b != 58) = true := bne_iff_ne.2 h
      have h2 : (b :: l).contains 58 = l.contains 58 := by simp [Ne.symm h]
      rw [h2, List.dropWhile_cons, h3, if_pos rfl, ih]
theorem mk_empty (l : List UInt8) : (⟨l.toArray⟩ : ByteArray).toList.isEmpty = l.isEmpty := by rw [ByteArray.toList_eq]
theorem sch_head {H : ByteArray} (h : 0 < H.size) : H.data.toList.headD 0 = H[0] := by
  have := drop_at H 0 h
  rw [List.drop_zero] at this
  rw [this]
  rfl

set_option maxHeartbeats 4000000 in
theorem specSchemeOf (s : ByteArray) (w : World) (hs : s.size ≤ 1048576) :
    Calls Try.prog 4 #[.string s] w fun e w' => e = .returned (.string ⟨(schL s.data.toList).toArray⟩) ∧ Below w.heap.size w w' := by
  obtain ⟨H, hH⟩ : ∃ H : ByteArray, H = ⟨(upB 58 s.data.toList).toArray⟩ := ⟨_, rfl⟩
  obtain ⟨R, hR⟩ : ∃ R : ByteArray, R = ⟨(s.data.toList.dropWhile fun x => x != 58).toArray⟩ := ⟨_, rfl⟩
  have CU : Hid (∀ W, Calls Try.prog 6 #[.string s, .string ⟨#[58]⟩] W fun e w' => e = .returned (.tuple #[.string H, .string R]) ∧ Below W.heap.size W w') := fun W => by
    rw [hH, hR]; exact specUntil (fun c => c != 58) ⟨#[58]⟩ s W (by decide) sch_colon (by omega)
  have eH : H.data.toList = upB 58 s.data.toList := by rw [hH]
  have hsz : H.size ≤ 1048576 := by
    have h1 : H.data.toList.length ≤ s.data.toList.length := by rw [eH]; exact (List.takeWhile_sublist _).length_le
    have h2 : H.data.toList.length = H.size := by simp
    have h3 : s.data.toList.length = s.size := by simp
    omega
  have eR : R.toList.isEmpty = !s.data.toList.contains 58 := by rw [hR, mk_empty, drop_colon]
  have CLo : Hid (∀ W, Calls Try.prog 10 #[.string H] W fun e w' => e = .returned (.string ⟨(lowerL H.data.toList).toArray⟩) ∧ Below W.heap.size W w') := fun W => specLower H W hsz
  have HEH : Hid (H.data.toList = upB 58 s.data.toList) := eH
  clear hH hR eH
  cases hc : s.data.toList.contains 58 with
  | false =>
    have HV : Hid (schL s.data.toList = []) := sch_none hc
    rw [hc] at eR
    clear hc
    go_enter Try.func4, Try.ntmps4
    go_wp2_with fail
    refine (CU.out _).mono ?_
    rintro e w1 ⟨rfl, b1⟩
    go_wp2
    go_ret
    exact ⟨by rw [HV.out]; rfl, b1⟩
  | true =>
    have HC : Hid (s.data.toList.contains 58 = true) := hc
    rw [hc] at eR
    clear hc
    by_cases hz : H = ⟨#[]⟩
    · have HV : Hid (schL s.data.toList = []) := sch_bad (by rw [← HEH.out, hz]; rfl)
      have eE : H.toList.isEmpty = true := by rw [hz, ByteArray.toList_eq]; rfl
      clear hz
      go_enter Try.func4, Try.ntmps4
      go_wp2_with fail
      refine (CU.out _).mono ?_
      rintro e w1 ⟨rfl, b1⟩
      go_wp2
      go_ret
      exact ⟨by rw [HV.out]; rfl, b1⟩
    · have hr1 : 0 < H.size := by
        apply Nat.pos_of_ne_zero
        intro h
        exact hz (ByteArray.ext (Array.eq_empty_of_size_eq_zero h))
      have eE : H.toList.isEmpty = false := by
        cases he : H.toList.isEmpty with
        | false => rfl
        | true =>
          rw [ByteArray.toList_eq, List.isEmpty_iff_length_eq_zero] at he
          have : H.size = 0 := by simpa using he
          omega
      have hh := sch_head hr1
      clear hz
      obtain ⟨d, hd⟩ : ∃ d : Nat, H[0].toNat = d := ⟨_, rfl⟩
      have hd1 : (d : Int) ≤ 255 := by have := H[0].toNat_lt; omega
      have CT : Hid (∀ W, Calls Try.prog 7 #[.int .i64 (d : Int)] W fun e w' => e = .returned (.bool (letterN d)) ∧ W = w') := fun W => by
        have h := specLetter (d : Int) W
        have e : letterZ (d : Int) = letterN d := by unfold letterZ letterN; rw [Bool.eq_iff_iff]; simp; omega
        rw [e] at h
        exact h
      cases hl : letterN d with
      | false =>
        have HV : Hid (schL s.data.toList = []) := sch_bad (by rw [← HEH.out]; unfold schOk; rw [hh, hd, hl]; rfl)
        rw [hl] at CT
        clear hl hh
        go_enter Try.func4, Try.ntmps4
        go_wp2_with fail
        refine (CU.out _).mono ?_
        rintro e w1 ⟨rfl, b1⟩
        go_wp2_with fail
        refine (CT.out _).mono ?_
        rintro e w' ⟨rfl, rfl⟩
        go_wp2
        go_ret
        exact ⟨by rw [HV.out]; rfl, b1⟩
      | true =>
        have HL : Hid (letterN (H.data.toList.headD 0).toNat = true) := by show _ = _; rw [hh, hd, hl]
        rw [hl] at CT
        clear hl hh
        go_enter Try.func4, Try.ntmps4
        go_wp2_with fail
        refine (CU.out _).mono ?_
        rintro e w1 ⟨rfl, b1⟩
        go_wp2_with fail
        refine (CT.out _).mono ?_
        rintro e w' ⟨rfl, rfl⟩
        clear CT CU eR eE hd hd1
        go_wp2_with fail
        go_loop [5] (fun i => ∃ k : Nat, k ≤ H.size ∧ i = .int .i64 k ∧ (H.data.toList.take k).all (fun c => schC c.toNat) = true) (fun i => H.size - (intOf i).toNat)
        case atStart => exact ⟨0, Nat.zero_le _, rfl, rfl⟩
        case round =>
          obtain ⟨k, hk, rfl, hall⟩ := hrel
          have HA : Hid ((H.data.toList.take k).all (fun c => schC c.toNat) = true) := hall
          clear hall
          by_cases hlt : k < H.size
          · have htk := take_snoc H k hlt
            obtain ⟨y, hy⟩ : ∃ y : Nat, H[k].toNat = y := ⟨_, rfl⟩
            have hy1 : (y : Int) ≤ 255 := by have := H[k].toNat_lt; omega
            have C1 : Hid (∀ W, Calls Try.prog 7 #[.int .i64 (y : Int)] W fun e w' => e = .returned (.bool (letterN y)) ∧ W = w') := fun W => by
              have h := specLetter (y : Int) W
              have e : letterZ (y : Int) = letterN y := by unfold letterZ letterN; rw [Bool.eq_iff_iff]; simp; omega
              rw [e] at h
              exact h
            have C2 : Hid (∀ W, Calls Try.prog 8 #[.int .i64 (y : Int), .int .i64 48, .int .i64 57] W fun e w' => e = .returned (.bool (digitN y)) ∧ W = w') := fun W => by
              have h := specL1In (y : Int) 48 57 W
              have e : decide (48 ≤ (y : Int) ∧ (y : Int) ≤ 57) = digitN y := by unfold digitN; exact decide_eq_decide.2 (by omega)
              rw [e] at h
              exact h
            have C3 : Hid (∀ W, Calls Try.prog 9 #[.string ⟨#[43, 45, 46]⟩, .int .i64 (y : Int)] W fun e w' => e = .returned (.bool (decide (y = 43) || decide (y = 45) || decide (y = 46))) ∧ W = w') := fun W => by
              have h := specAmong ⟨#[43, 45, 46]⟩ (y : Int) W (by decide)
              rw [show (⟨#[43, 45, 46]⟩ : ByteArray).data.toList = [43, 45, 46] from rfl, sch_among y (by omega)] at h
              exact h
            have HX : Hid (schC y = true → (H.data.toList.take (k + 1)).all (fun c => schC c.toNat) = true) := fun h => by rw [htk, List.all_append, HA.out]; simp [hy, h]
            have HB : Hid (schC y = false → schL s.data.toList = []) := fun h => sch_bad (by
              rw [← HEH.out]
              unfold schOk
              have : H.data.toList.all (fun c => schC c.toNat) = false := by
                rw [List.all_eq_false]
                refine ⟨H[k], ?_, by rw [hy, h]; decide⟩
                have : H[k] ∈ H.data := Array.getElem_mem _
                simpa using this
              rw [this, Bool.and_false])
            clear htk
            have HS : Hid (schC y = (letterN y || (digitN y || (decide (y = 43) || decide (y = 45) || decide (y = 46))))) := rfl
            generalize letterN y = t1 at C1 HS
            generalize digitN y = t2 at C2 HS
            generalize (decide (y = 43) || decide (y = 45) || decide (y = 46)) = t3 at C3 HS
            cases t1 with
            | true =>
              go_wp2_with fail
              refine (C1.out _).mono ?_
              rintro e w' ⟨rfl, rfl⟩
              go_wp2_with fail
              go_round
              case rel => exact ⟨k + 1, by omega, by go_num, HX.out HS.out⟩
              case measure => simp [intOf]; omega
            | false =>
              cases t2 with
              | true =>
                go_wp2_with fail
                refine (C1.out _).mono ?_
                rintro e w' ⟨rfl, rfl⟩
                go_wp2_with fail
                refine (C2.out _).mono ?_
                rintro e w' ⟨rfl, rfl⟩
                go_wp2_with fail
                go_round
                case rel => exact ⟨k + 1, by omega, by go_num, HX.out HS.out⟩
                case measure => simp [intOf]; omega
              | false =>
                cases t3 with
                | true =>
                  go_wp2_with fail
                  refine (C1.out _).mono ?_
                  rintro e w' ⟨rfl, rfl⟩
                  go_wp2_with fail
                  refine (C2.out _).mono ?_
                  rintro e w' ⟨rfl, rfl⟩
                  go_wp2_with fail
                  refine (C3.out _).mono ?_
                  rintro e w' ⟨rfl, rfl⟩
                  go_wp2_with fail
                  go_round
                  case rel => exact ⟨k + 1, by omega, by go_num, HX.out HS.out⟩
                  case measure => simp [intOf]; omega
                | false =>
                  go_wp2_with fail
                  refine (C1.out _).mono ?_
                  rintro e w' ⟨rfl, rfl⟩
                  go_wp2_with fail
                  refine (C2.out _).mono ?_
                  rintro e w' ⟨rfl, rfl⟩
                  go_wp2_with fail
                  refine (C3.out _).mono ?_
                  rintro e w' ⟨rfl, rfl⟩
                  go_wp2_with fail
                  go_ret
                  exact ⟨by rw [HB.out HS.out]; rfl, b1⟩
          · have HV : Hid (schL s.data.toList = lowerL H.data.toList) := by
              show _ = _
              rw [HEH.out]
              refine sch_good HC.out ?_
              rw [← HEH.out]
              unfold schOk
              have h := HA.out
              rw [take_all H k (by omega)] at h
              rw [HL.out, h]
              rfl
            go_wp2_with fail
            refine (CLo.out _).mono ?_
            rintro e w2 ⟨rfl, b2⟩
            go_wp2_with fail
            go_ret
            exact ⟨by rw [HV.out]; rfl, b1.trans (b2.mono b1.size)⟩

theorem sch_ix : ∀ n : Nat, n < 256 → ((0 ≤ Lib.indexByte [43, 45, 46] (UInt8.ofNat n)) ↔ (decide (n = 43) || decide (n = 45) || decide (n = 46)) = true) := by decide +kernel
set_option maxHeartbeats 1000000 in
theorem implIsSchemeByte (d : Nat) (w : World) (hd : (d : Int) ≤ 255) :
    Calls Try.prog 16 #[.int .u8 (d : Int)] w fun e w' => e = .returned (.bool (schC d)) ∧ w = w' := by
  have C1 : Hid (∀ W, Calls Try.prog 15 #[.int .u8 (d : Int)] W fun e w' => e = .returned (.bool (letterN d)) ∧ W = w') := fun W => implIsLetter d W hd
  have C2 : Hid (∀ W, Calls Try.prog 18 #[.int .u8 (d : Int)] W fun e w' => e = .returned (.bool (digitN d)) ∧ W = w') := fun W => by
    have h := implIsDigit d W (by omega)
    have e : decide (48 ≤ (d : Int) ∧ (d : Int) ≤ 57) = digitN d := by unfold digitN; exact decide_eq_decide.2 (by omega)
    rw [e] at h
    exact h
  have C3 : Hid (∀ W, Calls Try.prog 19 #[.string ⟨#[43, 45, 46]⟩, .int .u8 (d : Int)] W fun e w' => e = .returned (.int .i64 (Lib.indexByte [43, 45, 46] (UInt8.ofNat d))) ∧ W = w') := fun W => by
    have h := Try.strings_IndexByte ⟨#[43, 45, 46]⟩ (d : Int) W
    rw [show ((d : Int)).toNat.toUInt8 = UInt8.ofNat d by simp] at h
    exact h.mono fun e w' h => ⟨h.1, h.2.symm⟩
  have HS : Hid (schC d = (letterN d || (digitN d || (decide (d = 43) || decide (d = 45) || decide (d = 46))))) := rfl
  have HX := sch_ix d (by omega)
  generalize letterN d = t1 at C1 HS
  generalize digitN d = t2 at C2 HS
  generalize (decide (d = 43) || decide (d = 45) || decide (d = 46)) = t3 at HS HX
  generalize Lib.indexByte [43, 45, 46] (UInt8.ofNat d) = z at C3 HX
  cases t1 with
  | true =>
    go_enter Try.func16, Try.ntmps16
    go_wp2_with fail
    refine (C1.out _).mono ?_
    rintro e w' ⟨rfl, rfl⟩
    go_wp2_with fail
    go_ret
    exact ⟨ret_bool (by rw [HS.out]; rfl), rfl⟩
  | false =>
    cases t2 with
    | true =>
      go_enter Try.func16, Try.ntmps16
      go_wp2_with fail
      refine (C1.out _).mono ?_
      rintro e w' ⟨rfl, rfl⟩
      go_wp2_with fail
      refine (C2.out _).mono ?_
      rintro e w' ⟨rfl, rfl⟩
      go_wp2_with fail
      go_ret
      exact ⟨ret_bool (by rw [HS.out]; rfl), rfl⟩
    | false =>
      have HZ : Hid (decide (0 ≤ z) = schC d) := by
        show _ = _
        rw [HS.out]
        cases t3 with
        | true => simpa using HX
        | false => simpa using HX
      clear HX HS
      go_enter Try.func16, Try.ntmps16
      go_wp2_with fail
      refine (C1.out _).mono ?_
      rintro e w' ⟨rfl, rfl⟩
      go_wp2_with fail
      refine (C2.out _).mono ?_
      rintro e w' ⟨rfl, rfl⟩
      go_wp2_with fail
      refine (C3.out _).mono ?_
      rintro e w' ⟨rfl, rfl⟩
      go_wp2_with fail
      go_ret
      exact ⟨ret_bool HZ.out, rfl⟩

set_option maxHeartbeats 1000000 in
theorem implSchemeOk (s : ByteArray) (w : World) (hs : s.size ≤ 1048576) :
    Calls Try.prog 12 #[.string s] w fun e w' => e = .returned (.bool (schOk s.data.toList)) ∧ w = w' := by
  have HV : Hid (∀ b : Bool, schOk s.data.toList = b → (.returned (.bool b) : Ending) = .returned (.bool (schOk s.data.toList))) := fun b h => by rw [h]
  by_cases hz : s = ⟨#[]⟩
  · have HF : Hid (schOk s.data.toList = false) := by subst hz; show _ = _; rfl
    subst hz
    go_enter Try.func12, Try.ntmps12
    go_wp2_with fail
    go_ret
    exact ⟨HV.out _ HF.out, rfl⟩
  · have hr1 : 0 < s.size := by
      apply Nat.pos_of_ne_zero
      intro h
      exact hz (ByteArray.ext (Array.eq_empty_of_size_eq_zero h))
    have eE : s.toList.isEmpty = false := by
      cases he : s.toList.isEmpty with
      | false => rfl
      | true =>
        rw [ByteArray.toList_eq, List.isEmpty_iff_length_eq_zero] at he
        have : s.size = 0 := by simpa using he
        omega
    have hh := sch_head hr1
    clear hz
    obtain ⟨d, hd⟩ : ∃ d : Nat, s[0].toNat = d := ⟨_, rfl⟩
    have hd1 : (d : Int) ≤ 255 := by have := s[0].toNat_lt; omega
    have CT : Hid (∀ W, Calls Try.prog 15 #[.int .u8 (d : Int)] W fun e w' => e = .returned (.bool (letterN d)) ∧ W = w') := fun W => implIsLetter d W hd1
    cases hl : letterN d with
    | false =>
      have HF : Hid (schOk s.data.toList = false) := by show _ = _; unfold schOk; rw [hh, hd, hl]; rfl
      rw [hl] at CT
      clear hl hh
      go_enter Try.func12, Try.ntmps12
      go_wp2_with fail
      refine (CT.out _).mono ?_
      rintro e w' ⟨rfl, rfl⟩
      go_wp2_with fail
      go_ret
      exact ⟨HV.out _ HF.out, rfl⟩
    | true =>
      have HL : Hid (letterN (s.data.toList.headD 0).toNat = true) := by show _ = _; rw [hh, hd, hl]
      rw [hl] at CT
      clear hl hh
      go_enter Try.func12, Try.ntmps12
      go_wp2_with fail
      refine (CT.out _).mono ?_
      rintro e w' ⟨rfl, rfl⟩
      clear CT eE hd hd1
      go_wp2_with fail
      go_loop [14] (fun i => ∃ k : Nat, k ≤ s.size ∧ i = .int .i64 k ∧ (s.data.toList.take k).all (fun c => schC c.toNat) = true) (fun i => s.size - (intOf i).toNat)
      case atStart => exact ⟨0, Nat.zero_le _, rfl, rfl⟩
      case round =>
        obtain ⟨k, hk, rfl, hall⟩ := hrel
        have HA : Hid ((s.data.toList.take k).all (fun c => schC c.toNat) = true) := hall
        clear hall
        by_cases hlt : k < s.size
        · have htk := take_snoc s k hlt
          obtain ⟨y, hy⟩ : ∃ y : Nat, s[k].toNat = y := ⟨_, rfl⟩
          have hy1 : (y : Int) ≤ 255 := by have := s[k].toNat_lt; omega
          have CB : Hid (∀ W, Calls Try.prog 16 #[.int .u8 (y : Int)] W fun e w' => e = .returned (.bool (schC y)) ∧ W = w') := fun W => implIsSchemeByte y W hy1
          cases hc : schC y with
          | true =>
            have HX : Hid ((s.data.toList.take (k + 1)).all (fun c => schC c.toNat) = true) := by show _ = _; rw [htk, List.all_append, HA.out]; simp [hy, hc]
            rw [hc] at CB
            clear hc htk
            go_wp2_with fail
            refine (CB.out _).mono ?_
            rintro e w' ⟨rfl, rfl⟩
            go_wp2_with fail
            go_round
            case rel => exact ⟨k + 1, by omega, by go_num, HX.out⟩
            case measure => simp [intOf]; omega
          | false =>
            have HF : Hid (schOk s.data.toList = false) := by
              show _ = _
              unfold schOk
              have : s.data.toList.all (fun c => schC c.toNat) = false := by
                rw [List.all_eq_false]
                refine ⟨s[k], ?_, by rw [hy, hc]; decide⟩
                have : s[k] ∈ s.data := Array.getElem_mem _
                simpa using this
              rw [this, Bool.and_false]
            rw [hc] at CB
            clear hc htk
            go_wp2_with fail
            refine (CB.out _).mono ?_
            rintro e w' ⟨rfl, rfl⟩
            go_wp2_with fail
            go_ret
            exact ⟨HV.out _ HF.out, rfl⟩
        · have HT : Hid (schOk s.data.toList = true) := by
            show _ = _
            unfold schOk
            have h := HA.out
            rw [take_all s k (by omega)] at h
            rw [HL.out, h]
            rfl
          go_wp2_with fail
          go_ret
          exact ⟨HV.out _ HT.out, rfl⟩

set_option maxHeartbeats 1000000 in
theorem implSchemeOf (s : ByteArray) (w : World) (hs : s.size ≤ 1048576) :
    Calls Try.prog 5 #[.string s] w fun e w' => e = .returned (.string ⟨(schL s.data.toList).toArray⟩) ∧ Below w.heap.size w w' := by
  have CC : Hid (Calls Try.prog 11 #[.string s, .string ⟨#[58]⟩] w fun e w' => e = .returned (.tuple #[.string ⟨(upB 58 s.data.toList).toArray⟩, .string ⟨(behB 58 s.data.toList).toArray⟩, .bool (s.data.toList.contains 58)]) ∧ Below w.heap.size w w') := implCutFree 58 s w (by omega)
  obtain ⟨H, hH⟩ : ∃ H : ByteArray, H = ⟨(upB 58 s.data.toList).toArray⟩ := ⟨_, rfl⟩
  rw [← hH] at CC
  have eH : H.data.toList = upB 58 s.data.toList := by rw [hH]
  have hsz : H.size ≤ 1048576 := by
    have h1 : H.data.toList.length ≤ s.data.toList.length := by rw [eH]; exact (List.takeWhile_sublist _).length_le
    have h2 : H.data.toList.length = H.size := by simp
    have h3 : s.data.toList.length = s.size := by simp
    omega
  have CO : Hid (∀ W, Calls Try.prog 12 #[.string H] W fun e w' => e = .returned (.bool (schOk H.data.toList)) ∧ W = w') := fun W => implSchemeOk H W hsz
  have CLo : Hid (∀ W, Calls Try.prog 13 #[.string H] W fun e w' => e = .returned (.string ⟨(lowerL H.data.toList).toArray⟩) ∧ Below W.heap.size W w') := fun W => implLower H W hsz
  have HEH : Hid (H.data.toList = upB 58 s.data.toList) := eH
  have HV : Hid (schL s.data.toList = if s.data.toList.contains 58 = true ∧ schOk H.data.toList = true then lowerL H.data.toList else []) := by show _ = _; rw [eH]; rfl
  clear hH eH
  generalize behB 58 s.data.toList = bb at CC
  generalize s.data.toList.contains 58 = t1 at CC HV
  generalize schOk H.data.toList = t2 at CO HV
  cases t1 with
  | false =>
    go_enter Try.func5, Try.ntmps5
    go_wp2_with fail
    refine CC.out.mono ?_
    rintro e w1 ⟨rfl, b1⟩
    go_wp2_with fail
    go_ret
    exact ⟨by rw [HV.out]; rfl, b1⟩
  | true =>
    cases t2 with
    | false =>
      go_enter Try.func5, Try.ntmps5
      go_wp2_with fail
      refine CC.out.mono ?_
      rintro e w1 ⟨rfl, b1⟩
      go_wp2_with fail
      refine (CO.out _).mono ?_
      rintro e w' ⟨rfl, rfl⟩
      go_wp2_with fail
      go_ret
      exact ⟨by rw [HV.out]; rfl, b1⟩
    | true =>
      go_enter Try.func5, Try.ntmps5
      go_wp2_with fail
      refine CC.out.mono ?_
      rintro e w1 ⟨rfl, b1⟩
      go_wp2_with fail
      refine (CO.out _).mono ?_
      rintro e w' ⟨rfl, rfl⟩
      go_wp2_with fail
      refine (CLo.out _).mono ?_
      rintro e w2 ⟨rfl, b2⟩
      go_wp2_with fail
      go_ret
      exact ⟨by rw [HV.out]; rfl, b1.trans (b2.mono b1.size)⟩
end Go.Proofs.Ytgcbaphbiaimoaa
