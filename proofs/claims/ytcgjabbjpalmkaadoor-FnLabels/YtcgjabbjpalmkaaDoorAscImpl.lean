/- Contract of impl.ToAscii. -/
import Derived.Test.YtcgjabbjpalmkaaDoorRows
import Derived.Test.YtcgjabbjpalmkaaDoorAscBase
import Derived.Test.YtcgjabbjpalmkaaDoorLabWalk
import Derived.Test.YtcgjabbjpalmkaaDoorLaidBase
namespace Go.Proofs.YtcgjabbjpalmkaaDoor
open Go.RowKit

theorem okA_code (t : List UInt8) : okA t = (labL t && (!(isXn t) || (codeR t).isSome)) := by
  unfold okA codeR
  cases isXn t <;> simp

theorem ans_yes {o : Option (List UInt8)} {t : List UInt8} (h : o = if okA t = true then some t else none) (h1 : okA t = true) : ansS o = .tuple #[.string ⟨t.toArray⟩, .bool true] := by
  rw [h, if_pos h1]; rfl
theorem ans_no {o : Option (List UInt8)} {t : List UInt8} (h : o = if okA t = true then some t else none) (h1 : okA t = false) : ansS o = .tuple #[.string ⟨#[]⟩, .bool false] := by
  rw [h, if_neg (by rw [h1]; decide)]; rfl


set_option maxHeartbeats 1000000 in
theorem implToAscii (s : ByteArray) (w : World) (hs : s.size ≤ 1048576) (hT : Lib.Utf8Tabs 0 1 w) :
    Calls Tryd.prog 10 #[.string s] w fun e w' => e = .returned (ansS (ascL s.data.toList)) ∧ Below w.heap.size w w' := by
  have CLo : Hid (Calls Tryd.prog 21 #[.string s] w fun e w' => e = .returned (.string ⟨(lowerL s.data.toList).toArray⟩) ∧ Below w.heap.size w w') := implLower s w hs
  have hls := low_size s
  have HLS : Hid ((⟨(lowerL s.data.toList).toArray⟩ : ByteArray).size ≤ 1048576) := by show _ ≤ _; omega
  have HTT : Hid (Lib.Utf8Tabs 0 1 w) := hT
  have HM : Hid (ByteArray.size ⟨(lowerL s.data.toList).toArray⟩ ≤ maxLen) := by show _ ≤ _; unfold maxLen; omega
  have CA : Hid (∀ W, Calls Tryd.prog 22 #[.string ⟨(lowerL s.data.toList).toArray⟩] W fun e w' => e = .returned (.bool (asciiB s.data.toList)) ∧ W = w') := fun W => by
    have h := implAscii ⟨(lowerL s.data.toList).toArray⟩ W HM.out
    rw [show asciiB (⟨(lowerL s.data.toList).toArray⟩ : ByteArray).data.toList = asciiB (lowerL s.data.toList) from rfl, lower_ascii] at h
    exact h
  clear hT hls
  cases ha : asciiB s.data.toList with
  | true =>
    rw [ha] at CA
    have HAS : Hid (ascL s.data.toList = if okA (lowerL s.data.toList) = true then some (lowerL s.data.toList) else none) := asc1_ascii ha
    clear ha
    generalize lowerL s.data.toList = t at CLo CA HAS HM HLS
    go_enter Tryd.func10, Tryd.ntmps10
    go_wp2_with fail
    refine CLo.out.mono ?_
    rintro e wa ⟨rfl, ba⟩
    go_wp2_with fail
    refine (CA.out _).mono ?_
    rintro e w' ⟨rfl, rfl⟩
    have HK := okA_code t
    have hzz : (⟨t.toArray⟩ : ByteArray).size ≤ maxLen := HM.out
    cases hl : labL t with
    | false =>
      have HF : Hid (ansS (ascL s.data.toList) = .tuple #[.string ⟨#[]⟩, .bool false]) := ans_no HAS.out (by rw [HK, hl]; rfl)
      have CL : Hid (∀ W, Calls Tryd.prog 13 #[.string ⟨t.toArray⟩] W fun e w' => e = .returned (.bool false) ∧ W = w') := fun W => by
        have h := implLabelOk ⟨t.toArray⟩ W hzz
        rw [show labL (⟨t.toArray⟩ : ByteArray).data.toList = labL t from rfl, hl] at h
        exact h
      clear HK hl hzz
      go_wp2_with fail
      refine (CL.out _).mono ?_
      rintro e w' ⟨rfl, rfl⟩
      go_wp2_with fail
      go_ret2
      exact ⟨by rw [HF.out]; rfl, ba⟩
    | true =>
      have CL : Hid (∀ W, Calls Tryd.prog 13 #[.string ⟨t.toArray⟩] W fun e w' => e = .returned (.bool true) ∧ W = w') := fun W => by
        have h := implLabelOk ⟨t.toArray⟩ W hzz
        rw [show labL (⟨t.toArray⟩ : ByteArray).data.toList = labL t from rfl, hl] at h
        exact h
      have CC := fun W => implCodeOk ⟨t.toArray⟩ W
      have CK : Hid (∀ W, Calls Tryd.prog 24 #[.string ⟨t.toArray⟩] W fun e w' => e = .returned (.bool (okA t)) ∧ Below W.heap.size W w') := fun W => by
        rw [HK, hl]
        exact CC W
      clear HK hl hzz CC
      cases ho : okA t with
      | false =>
        have HF : Hid (ansS (ascL s.data.toList) = .tuple #[.string ⟨#[]⟩, .bool false]) := ans_no HAS.out ho
        rw [ho] at CK
        clear ho
        go_wp2_with fail
        refine (CL.out _).mono ?_
        rintro e w' ⟨rfl, rfl⟩
        go_wp2_with fail
        refine (CK.out _).mono ?_
        rintro e wz ⟨rfl, bz⟩
        have B := ba.trans (bz.mono ba.size)
        clear bz
        go_wp2_with fail
        go_ret2
        exact ⟨by rw [HF.out]; rfl, B⟩
      | true =>
        have HF : Hid (ansS (ascL s.data.toList) = .tuple #[.string ⟨t.toArray⟩, .bool true]) := ans_yes HAS.out ho
        rw [ho] at CK
        clear ho
        go_wp2_with fail
        refine (CL.out _).mono ?_
        rintro e w' ⟨rfl, rfl⟩
        go_wp2_with fail
        refine (CK.out _).mono ?_
        rintro e wz ⟨rfl, bz⟩
        have B := ba.trans (bz.mono ba.size)
        clear bz
        go_wp2_with fail
        go_ret2
        exact ⟨by rw [HF.out]; rfl, B⟩
  | false =>
    rw [ha] at CA
    by_cases hy : (finR ⟨(lowerL s.data.toList).toArray⟩).1 = s.data.toList.length ∧ (finR ⟨(lowerL s.data.toList).toArray⟩).2.length ≤ 60
    · have hz : (⟨(lowerL s.data.toList).toArray⟩ : ByteArray).size = s.data.toList.length := by rw [low_size]; simp
      have hy1 : (finR ⟨(lowerL s.data.toList).toArray⟩).1 = (⟨(lowerL s.data.toList).toArray⟩ : ByteArray).size := hy.1.trans hz.symm
      have CC : Hid (∀ W, Lib.Utf8Tabs 0 1 W → Calls Tryd.prog 23 #[.string ⟨(lowerL s.data.toList).toArray⟩] W fun e w' => e = .returned (.tuple #[.string ⟨(xn ++ b8 (encC ((finR ⟨(lowerL s.data.toList).toArray⟩).2.map Int.toNat))).toArray⟩, .bool true]) ∧ Below W.heap.size W w') :=
        fun W hT => implCodeLabel_yes _ W HLS.out hT hy1 hy.2
      have HAS := asc1_yes ha hy
      have HN : (xn ++ b8 (encC ((finR ⟨(lowerL s.data.toList).toArray⟩).2.map Int.toNat))).length ≤ 604 := by
        rw [List.length_append, b8_length]
        have := encC_600 (encOk_yes (fin_allOk _ hy1) hy.2)
        simp [xn]
        omega
      generalize xn ++ b8 (encC ((finR ⟨(lowerL s.data.toList).toArray⟩).2.map Int.toNat)) = t at CC HAS HN
      have HAS : Hid (ascL s.data.toList = if okA t = true then some t else none) := HAS
      have HM2 : Hid (ByteArray.size ⟨t.toArray⟩ ≤ maxLen) := by
        show t.toArray.size ≤ maxLen
        rw [List.size_toArray]
        unfold maxLen
        omega
      clear ha hy hy1 hz HN
      go_enter Tryd.func10, Tryd.ntmps10
      go_wp2_with fail
      refine CLo.out.mono ?_
      rintro e wa ⟨rfl, ba⟩
      go_wp2_with fail
      refine (CA.out _).mono ?_
      rintro e w' ⟨rfl, rfl⟩
      go_wp2_with fail
      refine (CC.out _ (tabs_below HTT.out ba)).mono ?_
      rintro e wb ⟨rfl, bb⟩
      have b2 := ba.trans (bb.mono ba.size)
      clear ba bb
      have HK := okA_code t
      have hzz : (⟨t.toArray⟩ : ByteArray).size ≤ maxLen := HM2.out
      cases hl : labL t with
      | false =>
        have HF : Hid (ansS (ascL s.data.toList) = .tuple #[.string ⟨#[]⟩, .bool false]) := ans_no HAS.out (by rw [HK, hl]; rfl)
        have CL : Hid (∀ W, Calls Tryd.prog 13 #[.string ⟨t.toArray⟩] W fun e w' => e = .returned (.bool false) ∧ W = w') := fun W => by
          have h := implLabelOk ⟨t.toArray⟩ W hzz
          rw [show labL (⟨t.toArray⟩ : ByteArray).data.toList = labL t from rfl, hl] at h
          exact h
        clear HK hl hzz
        go_wp2_with fail
        refine (CL.out _).mono ?_
        rintro e w' ⟨rfl, rfl⟩
        go_wp2_with fail
        go_ret2
        exact ⟨by rw [HF.out]; rfl, b2⟩
      | true =>
        have CL : Hid (∀ W, Calls Tryd.prog 13 #[.string ⟨t.toArray⟩] W fun e w' => e = .returned (.bool true) ∧ W = w') := fun W => by
          have h := implLabelOk ⟨t.toArray⟩ W hzz
          rw [show labL (⟨t.toArray⟩ : ByteArray).data.toList = labL t from rfl, hl] at h
          exact h
        have CC := fun W => implCodeOk ⟨t.toArray⟩ W
        have CK : Hid (∀ W, Calls Tryd.prog 24 #[.string ⟨t.toArray⟩] W fun e w' => e = .returned (.bool (okA t)) ∧ Below W.heap.size W w') := fun W => by
          rw [HK, hl]
          exact CC W
        clear HK hl hzz CC
        cases ho : okA t with
        | false =>
          have HF : Hid (ansS (ascL s.data.toList) = .tuple #[.string ⟨#[]⟩, .bool false]) := ans_no HAS.out ho
          rw [ho] at CK
          clear ho
          go_wp2_with fail
          refine (CL.out _).mono ?_
          rintro e w' ⟨rfl, rfl⟩
          go_wp2_with fail
          refine (CK.out _).mono ?_
          rintro e wz ⟨rfl, bz⟩
          have B := b2.trans (bz.mono b2.size)
          clear bz
          go_wp2_with fail
          go_ret2
          exact ⟨by rw [HF.out]; rfl, B⟩
        | true =>
          have HF : Hid (ansS (ascL s.data.toList) = .tuple #[.string ⟨t.toArray⟩, .bool true]) := ans_yes HAS.out ho
          rw [ho] at CK
          clear ho
          go_wp2_with fail
          refine (CL.out _).mono ?_
          rintro e w' ⟨rfl, rfl⟩
          go_wp2_with fail
          refine (CK.out _).mono ?_
          rintro e wz ⟨rfl, bz⟩
          have B := b2.trans (bz.mono b2.size)
          clear bz
          go_wp2_with fail
          go_ret2
          exact ⟨by rw [HF.out]; rfl, B⟩
    · have hz : (⟨(lowerL s.data.toList).toArray⟩ : ByteArray).size = s.data.toList.length := by rw [low_size]; simp
      have CC : Hid (∀ W, Lib.Utf8Tabs 0 1 W → Calls Tryd.prog 23 #[.string ⟨(lowerL s.data.toList).toArray⟩] W fun e w' => (∃ t : ByteArray, e = .returned (.tuple #[.string t, .bool false])) ∧ Below W.heap.size W w') :=
        fun W hT => implCodeLabel_no _ W HLS.out hT (by rw [hz]; exact hy)
      have HF : Hid (ansS (ascL s.data.toList) = .tuple #[.string ⟨#[]⟩, .bool false]) := by show _ = _; rw [asc1_no ha hy]; rfl
      clear ha hy hz
      go_enter Tryd.func10, Tryd.ntmps10
      go_wp2_with fail
      refine CLo.out.mono ?_
      rintro e wa ⟨rfl, ba⟩
      go_wp2_with fail
      refine (CA.out _).mono ?_
      rintro e w' ⟨rfl, rfl⟩
      go_wp2_with fail
      refine (CC.out _ (tabs_below HTT.out ba)).mono ?_
      rintro e wb ⟨⟨t, rfl⟩, bb⟩
      have b2 := ba.trans (bb.mono ba.size)
      clear ba bb
      go_wp2_with fail
      go_ret2
      exact ⟨by rw [HF.out]; rfl, b2⟩
end Go.Proofs.YtcgjabbjpalmkaaDoor
