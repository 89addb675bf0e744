/- Contracts of ToUnicode, of the specification and of the program. -/
import Derived.Test.YtcgjabbjpalmkaaDoorRows
import Derived.Test.YtcgjabbjpalmkaaDoorAscSpec
import Derived.Test.YtcgjabbjpalmkaaDoorPutRunesWalk
namespace Go.Proofs.YtcgjabbjpalmkaaDoor
open Go.RowKit

theorem arr_of {s : ByteArray} {t : List UInt8} (h : t = s.data.toList) : (⟨t.toArray⟩ : ByteArray) = s := by
  subst h
  apply ByteArray.ext
  apply Array.toList_inj.1
  rfl

theorem uni_no {s : List UInt8} (h : ¬ ascL s = some s) : ansS (uniL s) = .tuple #[.string ⟨#[]⟩, .bool false] := by
  unfold uniL
  rw [if_neg h]
  rfl
theorem uni_plain {s : ByteArray} (h : ascL s.data.toList = some s.data.toList) (hx : isXn s.data.toList = false) : ansS (uniL s.data.toList) = .tuple #[.string s, .bool true] := by
  unfold uniL
  rw [if_pos h, if_neg (by rw [hx]; decide)]
  show Value.tuple #[.string ⟨s.data.toList.toArray⟩, .bool true] = _
  rw [arr_of rfl]
theorem uni_coded {s : List UInt8} {l : List Nat} (h : ascL s = some s) (hr : codeR s = some l) : ansS (uniL s) = .tuple #[.string ⟨(encAll (l.map fun (c : Nat) => (c : Int))).toArray⟩, .bool true] := by
  have hx : isXn s = true := by
    cases hh : isXn s with
    | true => rfl
    | false => unfold codeR at hr; rw [hh] at hr; cases hr
  unfold uniL
  rw [if_pos h, if_pos hx, ← codeR_xn hx, hr]
  rfl
theorem code_some {s : List UInt8} (h : ascL s = some s) (hx : isXn s = true) : ∃ l, codeR s = some l := by
  have := ascL_ok h
  rw [okA_code, hx] at this
  simp only [Bool.and_eq_true, Bool.not_true, Bool.false_or] at this
  exact Option.isSome_iff_exists.1 this.2
theorem code_okZ {s : List UInt8} {l : List Nat} (hr : codeR s = some l) : allOk (l.map fun (c : Nat) => (c : Int)) ∧ l.length ≤ 60 := by
  unfold codeR at hr
  split at hr
  · have := ((dec_iff _ _).1 hr).1
    exact ⟨encOk_Zall this, (encOk_parts this).1⟩
  · cases hr


set_option maxHeartbeats 2000000 in
theorem specToUnicode (s : ByteArray) (w : World) (hs : s.size ≤ 1048576) :
    Calls Tryd.prog 18 #[.string s] w fun e w' => e = .returned (ansS (uniL s.data.toList)) ∧ Below w.heap.size w w' := by
  have CT : Hid (Calls Tryd.prog 11 #[.string s] w fun e w' => e = .returned (ansS (ascL s.data.toList)) ∧ Below w.heap.size w w') := specToAscii s w hs
  by_cases ha : ascL s.data.toList = some s.data.toList
  · rw [ha] at CT
    unfold ansS at CT
    simp only [arr_of rfl] at CT
    have CC : Hid (∀ W, Calls Tryd.prog 30 #[.string s] W fun e w' => decAns W w' (codeR s.data.toList) e ∧ Below W.heap.size W w') := fun W => specL4Coded s W hs (ascL_lab ha)
    have hst := str_eq (rfl : s = s)
    cases hr : codeR s.data.toList with
    | none =>
      have hx : isXn s.data.toList = false := by
        cases hh : isXn s.data.toList with
        | false => rfl
        | true =>
          obtain ⟨l, hl⟩ := code_some ha hh
          rw [hl] at hr
          cases hr
      have HF : Hid (ansS (uniL s.data.toList) = .tuple #[.string s, .bool true]) := uni_plain ha hx
      rw [hr] at CC
      clear ha hr hx
      go_enter Tryd.func18, Tryd.ntmps18
      go_wp2_with fail
      refine CT.out.mono ?_
      rintro e wa ⟨rfl, ba⟩
      go_wp2_with fail
      refine (CC.out _).mono ?_
      rintro e wb ⟨⟨v, rfl, _⟩, bb⟩
      have b2 := ba.trans (bb.mono ba.size)
      clear ba bb
      go_wp2_with fail
      go_ret2
      exact ⟨by rw [HF.out]; rfl, b2⟩
    | some l =>
      have HF : Hid (ansS (uniL s.data.toList) = .tuple #[.string ⟨(encAll (l.map fun (c : Nat) => (c : Int))).toArray⟩, .bool true]) := uni_coded ha hr
      have HOK := code_okZ hr
      have HQ : Hid (l.length ≤ 1048576) := by have := HOK.2; show _ ≤ _; omega
      have HZ : Hid (allOk (l.map fun (c : Nat) => (c : Int))) := HOK.1
      clear HOK
      rw [hr] at CC
      clear ha hr
      go_enter Tryd.func18, Tryd.ntmps18
      go_wp2_with fail
      refine CT.out.mono ?_
      rintro e wa ⟨rfl, ba⟩
      go_wp2_with fail
      refine (CC.out _).mono ?_
      rintro e wb ⟨⟨v, rfl, ov⟩, bb⟩
      have b2 := ba.trans (bb.mono ba.size)
      clear ba bb
      go_wp2_with fail
      refine (specPutRunes_ok _ _ _ _ _ HQ.out HZ.out ov).mono ?_
      rintro e wc ⟨rfl, bc⟩
      have b3 := b2.trans (bc.mono b2.size)
      clear b2 bc ov
      go_wp2_with fail
      go_ret2
      exact ⟨by rw [HF.out]; rfl, b3⟩
  · have HF : Hid (ansS (uniL s.data.toList) = .tuple #[.string ⟨#[]⟩, .bool false]) := uni_no ha
    cases hr : ascL s.data.toList with
    | none =>
      rw [hr] at CT
      unfold ansS at CT
      clear ha hr
      go_enter Tryd.func18, Tryd.ntmps18
      go_wp2_with fail
      refine CT.out.mono ?_
      rintro e wa ⟨rfl, ba⟩
      go_wp2_with fail
      go_ret2
      exact ⟨by rw [HF.out]; rfl, ba⟩
    | some t =>
      have hne : ¬ (⟨t.toArray⟩ : ByteArray) = s := by
        intro h
        apply ha
        rw [hr, ← h]
      have hst := str_ne hne
      rw [hr] at CT
      unfold ansS at CT
      simp only at CT
      generalize (⟨t.toArray⟩ : ByteArray) = T at CT hst
      clear ha hr hne
      go_enter Tryd.func18, Tryd.ntmps18
      go_wp2_with fail
      refine CT.out.mono ?_
      rintro e wa ⟨rfl, ba⟩
      go_wp2_with fail
      go_ret2
      exact ⟨by rw [HF.out]; rfl, ba⟩

set_option maxHeartbeats 2000000 in
theorem implToUnicode (s : ByteArray) (w : World) (hs : s.size ≤ 1048576) (hT : Lib.Utf8Tabs 0 1 w) :
    Calls Tryd.prog 12 #[.string s] w fun e w' => e = .returned (ansS (uniL s.data.toList)) ∧ Below w.heap.size w w' := by
  have CT : Hid (Calls Tryd.prog 10 #[.string s] w fun e w' => e = .returned (ansS (ascL s.data.toList)) ∧ Below w.heap.size w w') := implToAscii s w hs hT
  have CP : Hid (∀ W, Calls Tryd.prog 31 #[.string s, .string ⟨#[120, 110, 45, 45]⟩] W fun e w' => e = .returned (.tuple #[.string ⟨(Lib.trimPrefix s.data.toList xn).toArray⟩, .bool (isXn s.data.toList)]) ∧ w' = W) := fun W => Tryd.strings_CutPrefix s ⟨#[120, 110, 45, 45]⟩ W
  clear hT
  by_cases ha : ascL s.data.toList = some s.data.toList
  · rw [ha] at CT
    unfold ansS at CT
    simp only [arr_of rfl] at CT
    have hst := str_eq (rfl : s = s)
    cases hx : isXn s.data.toList with
    | false =>
      have HF : Hid (ansS (uniL s.data.toList) = .tuple #[.string s, .bool true]) := uni_plain ha hx
      rw [hx, trim_no hx] at CP
      clear ha hx
      go_enter Tryd.func12, Tryd.ntmps12
      go_wp2_with fail
      refine CT.out.mono ?_
      rintro e wa ⟨rfl, ba⟩
      go_wp2_with fail
      refine (CP.out _).mono ?_
      rintro e wb ⟨rfl, rfl⟩
      go_wp2_with fail
      go_ret2
      exact ⟨by rw [HF.out]; rfl, ba⟩
    | true =>
      obtain ⟨l, hr⟩ := code_some ha hx
      have HF : Hid (ansS (uniL s.data.toList) = .tuple #[.string ⟨(encAll (l.map fun (c : Nat) => (c : Int))).toArray⟩, .bool true]) := uni_coded ha hr
      have CD : Hid (∀ W, Calls Tryd.prog 32 #[.string ⟨(s.data.toList.drop 4).toArray⟩] W fun e w' => decAns W w' (some l) e ∧ Below W.heap.size W w') := fun W => by
        have h := implDecAll ⟨(s.data.toList.drop 4).toArray⟩ W
        have e : decC (sN ⟨(s.data.toList.drop 4).toArray⟩) = some l := by
          rw [← hr]
          unfold codeR
          rw [if_pos hx]
          rfl
        rw [e] at h
        exact h
      have HOK := code_okZ hr
      have HQ : Hid (l.length ≤ 1048576) := by have := HOK.2; show _ ≤ _; omega
      have HZ : Hid (allOk (l.map fun (c : Nat) => (c : Int))) := HOK.1
      clear HOK
      rw [hx, trim_xn hx] at CP
      clear ha hr hx
      go_enter Tryd.func12, Tryd.ntmps12
      go_wp2_with fail
      refine CT.out.mono ?_
      rintro e wa ⟨rfl, ba⟩
      go_wp2_with fail
      refine (CP.out _).mono ?_
      rintro e wb ⟨rfl, rfl⟩
      go_wp2_with fail
      refine (CD.out _).mono ?_
      rintro e wb ⟨⟨v, rfl, ov⟩, bb⟩
      have b2 := ba.trans (bb.mono ba.size)
      clear ba bb
      go_wp2_with fail
      refine (implPutRunes_ok _ _ _ _ _ HQ.out HZ.out ov).mono ?_
      rintro e wc ⟨rfl, bc⟩
      have b3 := b2.trans (bc.mono b2.size)
      clear b2 bc ov
      go_wp2_with fail
      go_ret2
      exact ⟨by rw [HF.out]; rfl, b3⟩
  · have HF : Hid (ansS (uniL s.data.toList) = .tuple #[.string ⟨#[]⟩, .bool false]) := uni_no ha
    cases hr : ascL s.data.toList with
    | none =>
      rw [hr] at CT
      unfold ansS at CT
      clear ha hr
      go_enter Tryd.func12, Tryd.ntmps12
      go_wp2_with fail
      refine CT.out.mono ?_
      rintro e wa ⟨rfl, ba⟩
      go_wp2_with fail
      go_ret2
      exact ⟨by rw [HF.out]; rfl, ba⟩
    | some t =>
      have hne : ¬ (⟨t.toArray⟩ : ByteArray) = s := by
        intro h
        apply ha
        rw [hr, ← h]
      have hst := str_ne hne
      rw [hr] at CT
      unfold ansS at CT
      simp only at CT
      generalize (⟨t.toArray⟩ : ByteArray) = T at CT hst
      clear ha hr hne
      go_enter Tryd.func12, Tryd.ntmps12
      go_wp2_with fail
      refine CT.out.mono ?_
      rintro e wa ⟨rfl, ba⟩
      go_wp2_with fail
      go_ret2
      exact ⟨by rw [HF.out]; rfl, ba⟩
end Go.Proofs.YtcgjabbjpalmkaaDoor
