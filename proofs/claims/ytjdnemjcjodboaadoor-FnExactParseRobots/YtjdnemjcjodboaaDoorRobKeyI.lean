/- The contracts of the code's robotsLines and keyAndValue. -/
import Derived.Test.YtjdnemjcjodboaaDoorRows
import Derived.Test.YtjdnemjcjodboaaDoorRobStep
import Derived.Test.YtjdnemjcjodboaaDoorRepOne
import Derived.Test.YtjdnemjcjodboaaDoorCutOne
import Derived.Test.YtjdnemjcjodboaaDoorMaxLaid
import Derived.Test.YtjdnemjcjodboaaDoorTrimWalk
import Derived.Test.YtjdnemjcjodboaaDoorLowerWalk
import Derived.OwnWalk
namespace Go.Proofs.YtjdnemjcjodboaaDoor
open Go.RowKit
set_option linter.unusedVariables false

theorem count_13 (s : ByteArray) : Lib.countB s ⟨#[13]⟩ ≤ s.size := by
  unfold Lib.countB
  rw [show (⟨#[13]⟩ : ByteArray).data.toList = [13] from rfl]
  unfold Lib.count
  rw [countFrom_one 13 _ _ (by omega)]
  have := List.count_le_length (a := (13 : UInt8)) (l := s.data.toList)
  have e : s.data.toList.length = s.size := by simp
  omega
set_option maxHeartbeats 2000000 in
theorem implRobLines (s : ByteArray) (w : World) (hs : s.size ≤ 1048576) (hM : MaxI w) :
    Calls Tryd.prog 17 #[.string s] w fun e w' => ∃ v, e = .returned v ∧ w'.ownsRow w.heap.size 9 1 v (fieldsL (crS (cutS s)) 10).length (scells (fieldsL (crS (cutS s)) 10)) ∧ Below w.heap.size w w' := by
  have hcs := cutS_size s
  have CR : Hid (Calls Tryd.prog 42 #[.string (cutS s), .string ⟨#[13]⟩, .string ⟨#[10]⟩] w fun e w' => e = .returned (.string (crS (cutS s))) ∧ Below w.heap.size w w') := by
    obtain ⟨m, hm⟩ := hM
    have hc := count_13 (cutS s)
    have h := Tryd.strings_ReplaceAll (cutS s) ⟨#[13]⟩ ⟨#[10]⟩ m w (by omega) hm (by decide) (by
      rw [show (⟨#[10]⟩ : ByteArray).size = 1 from rfl]
      omega)
    rw [show (⟨#[13]⟩ : ByteArray).data.toList = [13] from rfl, show (⟨#[10]⟩ : ByteArray).data.toList = [10] from rfl, replace_one (by decide)] at h
    exact h
  have CF : Hid (∀ W, Calls Tryd.prog 41 #[.string (crS (cutS s)), .int .u8 10] W fun e w' => ∃ v, e = .returned v ∧ w'.ownsRow W.heap.size 9 1 v (fieldsL (crS (cutS s)) 10).length (scells (fieldsL (crS (cutS s)) 10)) ∧ Below W.heap.size W w') := fun W => implFields (crS (cutS s)) 10 W (by rw [crS_size]; omega)
  clear hM
  have HT : Hid (s.extract 0 (min (s.size : Int) 20000).toNat = cutS s) := by
    refine ba_eq.2 ?_
    by_cases hb : s.size ≤ 20000
    · rw [cutS_small hb, extract_list, List.drop_zero, take_all s _ (by omega)]
    · rw [show (min (s.size : Int) 20000).toNat = 20000 by omega]
      rfl
  have CR2 : Hid (Calls Tryd.prog 42 #[.string (s.extract 0 (min (s.size : Int) 20000).toNat), .string ⟨#[13]⟩, .string ⟨#[10]⟩] w fun e w' => e = .returned (.string (crS (cutS s))) ∧ Below w.heap.size w w') := by rw [HT.out]; exact CR
  clear HT CR
  generalize crS (cutS s) = T at *
  go_enter Tryd.func17, Tryd.ntmps17
  go_wp2_with fail
  refine CR2.out.mono ?_
  rintro e wa ⟨rfl, ba⟩
  go_wp2_with fail
  refine (CF.out _).mono ?_
  rintro e wb ⟨v, rfl, ob, bb⟩
  have B2 := ba.trans (bb.mono ba.size)
  have OB : Hid (wb.ownsRow w.heap.size 9 1 v (fieldsL T 10).length (scells (fieldsL T 10))) := ⟨ob.1, ob.2.imp id fun ⟨g, cap, cur, h1, h2, h3⟩ => ⟨g, cap, cur, h1, Nat.le_trans ba.size h2, h3⟩⟩
  clear ob bb ba
  go_wp2_with fail
  go_ret
  exact ⟨_, rfl, OB.out, B2⟩
theorem contains_rest (c : UInt8) : ∀ l : List UInt8, l.contains c = !(restC c l).isEmpty
  | [] => rfl
  | x :: l => by
    have ih := contains_rest c l
    unfold restC notB at ih ⊢
    rw [List.dropWhile_cons, List.contains_cons]
    by_cases h : x = c
    · subst h; simp
    · have h1 : (c == x) = false := beq_eq_false_iff_ne.2 (Ne.symm h)
      have h2 : (x != c) = true := by simp [h]
      rw [h1, Bool.false_or, ih, if_pos h2]
set_option maxHeartbeats 2000000 in
theorem implKeyValue (s : ByteArray) (w : World) (hs : s.size ≤ 1048576) :
    Calls Tryd.prog 18 #[.string s] w fun e w' => e = .returned (.tuple #[.string (keyV s), .string (valV s), .bool (hasK s.data.toList)]) ∧ Below w.heap.size w w' := by
  obtain ⟨T, hT⟩ : ∃ T : ByteArray, T = ⟨(headC 35 s.data.toList).toArray⟩ := ⟨_, rfl⟩
  obtain ⟨H, hH⟩ : ∃ H : ByteArray, H = ⟨(headC 58 T.data.toList).toArray⟩ := ⟨_, rfl⟩
  obtain ⟨R, hR⟩ : ∃ R : ByteArray, R = ⟨(restC 58 T.data.toList).tail.toArray⟩ := ⟨_, rfl⟩
  have hTl : T.data.toList = headC 35 s.data.toList := by rw [hT]
  have hHl : H.data.toList = headC 58 (headC 35 s.data.toList) := by rw [hH, ← hTl]
  have hRl : R.data.toList = (restC 58 (headC 35 s.data.toList)).tail := by rw [hR, ← hTl]
  have sz : ∀ x : ByteArray, x.data.toList.length = x.size := fun x => by simp
  have hTs : T.size ≤ 1048576 := by
    have h1 := (List.takeWhile_prefix (notB 35) (l := s.data.toList)).length_le
    have h2 := congrArg List.length hTl
    unfold headC at h2
    rw [sz] at h1 h2
    omega
  have hHs : H.size ≤ 1048576 := by
    have h1 := (List.takeWhile_prefix (notB 58) (l := T.data.toList)).length_le
    have h2 := congrArg List.length hHl
    rw [← hTl] at h2
    unfold headC at h2
    rw [sz] at h1 h2
    omega
  have hRs : R.size ≤ 1048576 := by
    have h1 := (List.dropWhile_suffix (notB 58) (l := T.data.toList)).length_le
    have h2 := congrArg List.length hRl
    rw [← hTl] at h2
    unfold restC at h2
    rw [List.length_tail] at h2
    rw [sz] at h1 h2
    omega
  have CU1 : Hid (∀ W, Calls Tryd.prog 43 #[.string s, .string ⟨#[35]⟩] W fun e w' => ∃ Y t, e = .returned (.tuple #[.string T, .string Y, .bool t]) ∧ Below W.heap.size W w') := fun W => (implCutFree 35 s W (by omega)).mono fun e w' h => ⟨⟨(behB 35 s.data.toList).toArray⟩, s.data.toList.contains 35, by rw [hT]; exact h.1, h.2⟩
  have CU2 : Hid (∀ W, Calls Tryd.prog 43 #[.string T, .string ⟨#[58]⟩] W fun e w' => e = .returned (.tuple #[.string H, .string R, .bool (hasK s.data.toList)]) ∧ Below W.heap.size W w') := fun W => (implCutFree 58 T W (by omega)).mono fun e w' h => ⟨by
    rw [h.1, hH, hR, contains_rest, hTl]
    unfold behB hasK
    rw [List.drop_one]
    rfl, h.2⟩
  have hTr : (trV H).size ≤ 1048576 := by
    have h1 : (trV H).size = (Lib.trimS H.data.toList blanks4).length := List.size_toArray
    have h2 := trimS_le H.data.toList blanks4
    rw [sz] at h2
    omega
  have HKV : Hid (keyV s = ⟨(lowerL (trV H).data.toList).toArray⟩) := by
    show _ = _
    unfold keyV keyL trV
    rw [hHl]
  have HVV : Hid (trV R = valV s) := by
    show _ = _
    unfold valV valL trV
    rw [hRl]
  have CT1 : Hid (∀ W, Calls Tryd.prog 44 #[.string H] W fun e w' => e = .returned (.string (trV H)) ∧ Below W.heap.size W w') := fun W => implTrim H W (by omega)
  have CT2 : Hid (∀ W, Calls Tryd.prog 44 #[.string R] W fun e w' => e = .returned (.string (valV s)) ∧ Below W.heap.size W w') := fun W => by rw [← HVV.out]; exact implTrim R W (by omega)
  have CL : Hid (∀ W, Calls Tryd.prog 30 #[.string (trV H)] W fun e w' => e = .returned (.string (keyV s)) ∧ Below W.heap.size W w') := fun W => by rw [HKV.out]; exact implLower _ W hTr
  clear hT hH hR hTl hHl hRl sz HKV HVV hTr
  generalize trV H = TR at *
  generalize keyV s = KV at *
  generalize valV s = VV at *
  generalize hasK s.data.toList = HK at *
  go_enter Tryd.func18, Tryd.ntmps18
  go_wp2_with fail
  refine (CU1.out _).mono ?_
  rintro e w1 ⟨Y, t, rfl, b1⟩
  go_wp2_with fail
  refine (CU2.out _).mono ?_
  rintro e w2 ⟨rfl, b2⟩
  have B2 := b1.trans (b2.mono b1.size)
  clear b1 b2 CU1 CU2
  go_wp2_with fail
  refine (CT1.out _).mono ?_
  rintro e w3 ⟨rfl, b3⟩
  go_wp2_with fail
  refine (CL.out _).mono ?_
  rintro e w4 ⟨rfl, b4⟩
  go_wp2_with fail
  refine (CT2.out _).mono ?_
  rintro e w5 ⟨rfl, b5⟩
  have B5 := ((B2.trans (b3.mono B2.size)).trans (b4.mono (B2.trans (b3.mono B2.size)).size))
  have B6 := B5.trans (b5.mono B5.size)
  go_wp2_with fail
  go_ret3
  exact ⟨rfl, B6⟩
end Go.Proofs.YtjdnemjcjodboaaDoor
