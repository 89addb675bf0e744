/- PunyEncode of runes and PunyDecode of whatever text, of both sides, in one form for chapter 4. -/
import Derived.Test.YtcgjabbjpalmkaaDoorRows
import Derived.Test.YtcgjabbjpalmkaaDoorNamePlain
import Derived.Test.YtcgjabbjpalmkaaDoorEncBoth
import Derived.Test.YtcgjabbjpalmkaaDoorDecImpl
import Derived.Test.YtcgjabbjpalmkaaDoorRunesWalk
import Derived.Test.YtcgjabbjpalmkaaDoorShelf
namespace Go.Proofs.YtcgjabbjpalmkaaDoor
open Go.RowKit

theorem decC_big (s : ByteArray) (h : 600 < (s.size : Int)) : decC (sN s) = none := by
  cases hd : decC (sN s) with
  | none => rfl
  | some l =>
    obtain ⟨hok, he⟩ := (dec_iff _ _).1 hd
    have := encC_600 hok
    rw [he, sN_length] at this
    omega

theorem specDecBig (s : ByteArray) (w : World) (h : 600 < (s.size : Int)) :
    Calls Tryd.prog 55 #[.string s] w fun e w' => decAns w w' none e ∧ Below w.heap.size w w' := by
  go_enter Tryd.func55, Tryd.ntmps55
  go_wp2
  go_ret2
  exact ⟨decAns_none rfl (World.ownsRow_lit w #[] 0 (Nat.le_refl _) (by decide) rfl) rfl, (Below.refl _ _).alloc (Nat.le_refl _) _⟩

theorem specDecAll (s : ByteArray) (w : World) : Calls Tryd.prog 55 #[.string s] w fun e w' => decAns w w' (decC (sN s)) e ∧ Below w.heap.size w w' := by
  by_cases h : (s.size : Int) ≤ 600
  · exact specPunyDecode s w h
  · rw [decC_big s (by omega)]
    exact specDecBig s w (by omega)
theorem implDecAll (s : ByteArray) (w : World) : Calls Tryd.prog 32 #[.string s] w fun e w' => decAns w w' (decC (sN s)) e ∧ Below w.heap.size w w' := by
  by_cases h : (s.size : Int) ≤ 600
  · exact implPunyDecode s w h
  · rw [decC_big s (by omega)]
    exact implPunyDecode_big s w (by omega)

theorem nats_runes {zl : List Int} (h : allOk zl) : zl = (zl.map Int.toNat).map (fun (c : Nat) => (c : Int)) := by
  rw [List.map_map]
  refine (List.map_id zl).symm.trans (List.map_congr_left fun z hz => ?_)
  have := (h z hz).1
  show z = ((z.toNat : Nat) : Int)
  omega
theorem encOk_yes {zl : List Int} (h : allOk zl) (h2 : zl.length ≤ 60) : encOk (zl.map Int.toNat) = true := by
  rw [encOk_Z, ← nats_runes h]
  exact ⟨h2, h⟩
theorem encOk_no {zl : List Int} (h2 : ¬ zl.length ≤ 60) : encOk (zl.map Int.toNat) = false := by
  unfold encOk
  rw [List.length_map, decide_eq_false h2]
  rfl

/-- What PunyEncode answers of right runes. -/
def encAns (zl : List Int) : Value := if zl.length ≤ 60 then .tuple #[.string ⟨(b8 (encC (zl.map Int.toNat))).toArray⟩, .bool true] else .tuple #[.string ⟨#[]⟩, .bool false]

theorem specEncRunes (zl : List Int) (v : Value) (B : Nat) (w : World) (hk : allOk zl) (hl : zl.length ≤ 1048576) (h : w.ownsRow B 3 1 v zl.length (icells zl)) :
    Calls Tryd.prog 28 #[v] w fun e w' => e = .returned (encAns zl) ∧ Below w.heap.size w w' := by
  by_cases h2 : zl.length ≤ 60
  · have e : encAns zl = .tuple #[.string ⟨(b8 (encC (zl.map Int.toNat))).toArray⟩, .bool true] := if_pos h2
    rw [e]
    refine specEncAll (zl.map Int.toNat) v B w (encOk_yes hk h2) ?_
    unfold icN
    rw [← nats_runes hk, List.length_map]
    exact h
  · have e : encAns zl = .tuple #[.string ⟨#[]⟩, .bool false] := if_neg h2
    rw [e]
    rcases own_shape h with ⟨h0, _⟩ | ⟨_, g, cap, rfl⟩
    · omega
    · exact specPunyEncode_no zl zl.length g cap B w (fun hh => h2 hh.1) rfl hl h
theorem implEncRunes (zl : List Int) (v : Value) (B : Nat) (w : World) (hk : allOk zl) (hl : zl.length ≤ 1048576) (h : w.ownsRow B 3 1 v zl.length (icells zl)) :
    Calls Tryd.prog 48 #[v] w fun e w' => e = .returned (encAns zl) ∧ Below w.heap.size w w' := by
  have hr : w.ownsRow B 3 1 v (zl.map Int.toNat).length (icN (zl.map Int.toNat)) := by
    unfold icN
    rw [← nats_runes hk, List.length_map]
    exact h
  have hc := implEncAll (zl.map Int.toNat) v B w (by rw [List.length_map]; exact hl) hr
  by_cases h2 : zl.length ≤ 60
  · have e : encAns zl = .tuple #[.string ⟨(b8 (encC (zl.map Int.toNat))).toArray⟩, .bool true] := if_pos h2
    rw [e]
    rw [encOk_yes hk h2, if_pos rfl] at hc
    exact hc
  · have e : encAns zl = .tuple #[.string ⟨#[]⟩, .bool false] := if_neg h2
    rw [e]
    rw [encOk_no h2, if_neg (by decide)] at hc
    exact hc

/-- The runes of a text of runes are right ones. -/
theorem fin_allOk (s : ByteArray) (h : (finR s).1 = s.size) : allOk (finR s).2 := (fin_back s h).1
theorem fin_len (s : ByteArray) : (finR s).2.length ≤ s.size := stR_len s s.size

theorem isXn_cut (s : ByteArray) : Lib.hasPrefix s.data.toList xn = isXn s.data.toList := rfl
theorem trim_xn {l : List UInt8} (h : isXn l = true) : Lib.trimPrefix l xn = l.drop 4 := by
  have h' : Lib.hasPrefix l xn = true := h
  unfold Lib.trimPrefix
  rw [if_pos h']
  rfl
theorem trim_no {l : List UInt8} (h : isXn l = false) : Lib.trimPrefix l xn = l := by
  have h' : Lib.hasPrefix l xn = false := h
  unfold Lib.trimPrefix
  rw [if_neg (by rw [h']; decide)]

/-- The runes of a coded label. -/
def codeR (l : List UInt8) : Option (List Nat) := if isXn l = true then decC (nat8 (l.drop 4)) else none

theorem implCodeOk (s : ByteArray) (w : World) :
    Calls Tryd.prog 24 #[.string s] w fun e w' => e = .returned (.bool (!(isXn s.data.toList) || (codeR s.data.toList).isSome)) ∧ Below w.heap.size w w' := by
  have CP := Tryd.strings_CutPrefix s ⟨#[120, 110, 45, 45]⟩ w
  have CP' : Hid (Calls Tryd.prog 31 #[.string s, .string ⟨#[120, 110, 45, 45]⟩] w fun e w' => e = .returned (.tuple #[.string ⟨(Lib.trimPrefix s.data.toList xn).toArray⟩, .bool (isXn s.data.toList)]) ∧ w' = w) := CP
  clear CP
  cases hx : isXn s.data.toList with
  | false =>
    rw [hx, trim_no hx] at CP'
    clear hx
    go_enter Tryd.func24, Tryd.ntmps24
    go_wp2_with fail
    refine CP'.out.mono ?_
    rintro e w' ⟨rfl, rfl⟩
    go_wp2_with fail
    go_ret
    exact ⟨rfl, Below.refl _ _⟩
  | true =>
    rw [hx, trim_xn hx] at CP'
    have CD : Hid (∀ W, Calls Tryd.prog 32 #[.string ⟨(s.data.toList.drop 4).toArray⟩] W fun e w' => decAns W w' (codeR s.data.toList) e ∧ Below W.heap.size W w') := fun W => by
      have h := implDecAll ⟨(s.data.toList.drop 4).toArray⟩ W
      have e : decC (sN ⟨(s.data.toList.drop 4).toArray⟩) = codeR s.data.toList := by
        unfold codeR
        rw [if_pos hx]
        rfl
      rw [e] at h
      exact h
    clear hx
    go_enter Tryd.func24, Tryd.ntmps24
    go_wp2_with fail
    refine CP'.out.mono ?_
    rintro e w' ⟨rfl, rfl⟩
    go_wp2_with fail
    refine (CD.out _).mono ?_
    rintro e wa ⟨hd, ba⟩
    cases hr : codeR s.data.toList with
    | some l =>
      rw [hr] at hd
      obtain ⟨v, rfl, _⟩ := hd
      have HR : Hid (codeR s.data.toList = some l) := hr
      clear hr CD CP'
      go_wp2_with fail
      go_ret
      exact ⟨ret_bool (by rw [HR.out]; rfl), ba⟩
    | none =>
      rw [hr] at hd
      obtain ⟨v, rfl, _⟩ := hd
      have HR : Hid (codeR s.data.toList = none) := hr
      clear hr CD CP'
      go_wp2_with fail
      go_ret
      exact ⟨ret_bool (by rw [HR.out]; rfl), ba⟩

/-- Of a text of at most sixty runes. -/
theorem implCodeLabel_yes (s : ByteArray) (w : World) (hs : s.size ≤ 1048576) (hT : Lib.Utf8Tabs 0 1 w) (h1 : (finR s).1 = s.size) (h2 : (finR s).2.length ≤ 60) :
    Calls Tryd.prog 23 #[.string s] w fun e w' => e = .returned (.tuple #[.string ⟨(xn ++ b8 (encC ((finR s).2.map Int.toNat))).toArray⟩, .bool true]) ∧ Below w.heap.size w w' := by
  have CR : Hid (Calls Tryd.prog 47 #[.string s] w fun e w' => RunesPost s w e w') := implRunes s w hs hT
  have HA : Hid (allOk (finR s).2) := fin_allOk s h1
  have HL : Hid ((finR s).2.length ≤ 1048576) := by have := fin_len s; show _ ≤ _; omega
  have HE : Hid (encAns (finR s).2 = .tuple #[.string ⟨(b8 (encC ((finR s).2.map Int.toNat))).toArray⟩, .bool true]) := if_pos h2
  have HX : Hid ((⟨#[120, 110, 45, 45]⟩ : ByteArray) ++ ⟨(b8 (encC ((finR s).2.map Int.toNat))).toArray⟩ = ⟨(xn ++ b8 (encC ((finR s).2.map Int.toNat))).toArray⟩) := by
    show _ = _
    apply ByteArray.ext
    rw [ByteArray.data_append]
    apply Array.toList_inj.1
    simp [xn]
  have hz : (⟨(b8 (encC ((finR s).2.map Int.toNat))).toArray⟩ : ByteArray).size ≤ 600 := by
    show (b8 (encC ((finR s).2.map Int.toNat))).toArray.size ≤ 600
    rw [List.size_toArray, b8_length]
    exact encC_600 (encOk_yes HA.out h2)
  obtain ⟨T, hTT⟩ : ∃ T : ByteArray, ⟨(b8 (encC ((finR s).2.map Int.toNat))).toArray⟩ = T := ⟨_, rfl⟩
  rw [hTT] at HE HX hz
  clear hT h2 hTT
  go_enter Tryd.func23, Tryd.ntmps23
  go_wp2_with fail
  refine CR.out.mono ?_
  rintro e wa (⟨_, va, rfl, oa, ba⟩ | ⟨hn, _⟩)
  · go_wp2_with fail
    refine (implEncRunes _ _ _ _ HA.out HL.out oa).mono ?_
    rintro e wb ⟨rfl, bb⟩
    rw [HE.out]
    have B := ba.trans (bb.mono ba.size)
    clear oa ba bb CR
    go_wp2_with fail
    go_ret2
    refine ⟨?_, B⟩
    rw [← HX.out]
    rfl
  · exact absurd h1 hn

theorem implCodeLabel_no (s : ByteArray) (w : World) (hs : s.size ≤ 1048576) (hT : Lib.Utf8Tabs 0 1 w) (h : ¬ ((finR s).1 = s.size ∧ (finR s).2.length ≤ 60)) :
    Calls Tryd.prog 23 #[.string s] w fun e w' => (∃ t : ByteArray, e = .returned (.tuple #[.string t, .bool false])) ∧ Below w.heap.size w w' := by
  have CR : Hid (Calls Tryd.prog 47 #[.string s] w fun e w' => RunesPost s w e w') := implRunes s w hs hT
  have HA : Hid ((finR s).1 = s.size → allOk (finR s).2) := fun h1 => fin_allOk s h1
  have HL : Hid ((finR s).2.length ≤ 1048576) := by have := fin_len s; show _ ≤ _; omega
  have HE : Hid ((finR s).1 = s.size → encAns (finR s).2 = .tuple #[.string ⟨#[]⟩, .bool false]) := fun h1 => if_neg (fun h2 => h ⟨h1, h2⟩)
  clear hT h
  go_enter Tryd.func23, Tryd.ntmps23
  go_wp2_with fail
  refine CR.out.mono ?_
  rintro e wa (⟨h1, va, rfl, oa, ba⟩ | ⟨_, va, rfl, _, ba⟩)
  · go_wp2_with fail
    refine (implEncRunes _ _ _ _ (HA.out h1) HL.out oa).mono ?_
    rintro e wb ⟨rfl, bb⟩
    rw [HE.out h1]
    have B := ba.trans (bb.mono ba.size)
    clear oa ba bb CR
    go_wp2_with fail
    go_ret2
    exact ⟨⟨_, rfl⟩, B⟩
  · clear CR
    go_wp2_with fail
    go_ret2
    exact ⟨⟨_, rfl⟩, ba⟩
end Go.Proofs.YtcgjabbjpalmkaaDoor
