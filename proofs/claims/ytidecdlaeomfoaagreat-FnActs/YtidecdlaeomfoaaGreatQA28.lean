/- RunesWalk, AscBase, LabWalk, LaidBase, AscImpl, AscSpec. -/
import Derived.Test.YtidecdlaeomfoaaGreatQA27
import Derived.Lib.OthersKept
import Derived.Lib.LaidU8T
import Derived.Shelf.Unicode.DecodeSlow
set_option maxHeartbeats 2000000
namespace Go.Proofs.YtidecdlaeomfoaaGreat
open Go.RowKit
theorem int_one (x : Int) : ∀ u ∈ #[Value.int .i64 x].toList, u.oneCell' = true := by
 intro u hu; simp at hu; subst hu; rfl
def RunesPost (s : ByteArray) (w : World) (e : Ending) (w' : World) : Prop :=
 ((finR s).1 = s.size ∧ ∃ v, e = .returned (.tuple #[v, .bool true]) ∧ w'.ownsRow w.heap.size 3 1 v (finR s).2.length (icells (finR s).2) ∧ Below w.heap.size w w') ∨
 ((finR s).1 ≠ s.size ∧ ∃ v, e = .returned (.tuple #[v, .bool false]) ∧ w'.ownsRow w.heap.size 3 1 v 0 (icells []) ∧ Below w.heap.size w w')
theorem runes_step (s : ByteArray) (k : Nat) (h1 : (stR s k).1 < s.size) (h2 : okAt s (stR s k).1) {w1 : World} {B : Nat} {v : Value} {e : TypeId} {x : Int} (hx : x = ((Utf8.decode s (stR s k).1).1 : Int))
  (hown : w1.ownsRow B e 1 v ((stR s k).2.length + 1) (icells (stR s k).2 ++ [.int .i64 x])) :
  w1.ownsRow B e 1 v (stR s (k + 1)).2.length (icells (stR s (k + 1)).2) := by
 subst hx
 rw [stR_step s k h1 h2]
 simp only
 rw [icells_snoc, List.length_append]
 exact hown
theorem specRunes (s : ByteArray) (w : World) (hs : s.size ≤ 1048576) :
  Calls Tryz.prog 87 #[.string s] w fun e w' => RunesPost s w e w' := by
 go_enter Tryz.func87, Tryz.ntmps87
 go_wp2
 go_loopw [4, 5] (fun v i wr => ∃ k : Nat, i = .int .i64 ((stR s k).1 : Int) ∧ wr.ownsRow w.heap.size 3 1 v (stR s k).2.length (icells (stR s k).2) ∧ Below w.heap.size w wr)
  (fun _ i _ => s.size - (intOf i).toNat)
 case atStart => exact ⟨0, rfl, World.ownsRow_lit w #[] 0 (Nat.le_refl _) (by decide) rfl, (Below.refl _ _).alloc (Nat.le_refl _) _⟩
 obtain ⟨k, rfl, hown, hbel⟩ := hrel
 have hsz := hbel.size
 have hl := stR_len' s k
 have hle := stR_le s k
 have HS1 : Hid (∀ (h1 : (stR s k).1 < s.size) (h2 : okAt s (stR s k).1), (stR s (k + 1)).1 = (stR s k).1 + (Utf8.decode s (stR s k).1).2) := fun h1 h2 => by rw [stR_step s k h1 h2]
 have HST : Hid (¬ ((stR s k).1 < s.size ∧ okAt s (stR s k).1) → stR s k = finR s) := fun h => stR_fin s k h
 have HSP : Hid (∀ (h1 : (stR s k).1 < s.size) (h2 : okAt s (stR s k).1) (w1 : World) (v : Value) (x : Int) (hx : x = ((Utf8.decode s (stR s k).1).1 : Int)),
  w1.ownsRow w.heap.size 3 1 v ((stR s k).2.length + 1) (icells (stR s k).2 ++ [.int .i64 x]) → w1.ownsRow w.heap.size 3 1 v (stR s (k + 1)).2.length (icells (stR s (k + 1)).2)) :=
  fun h1 h2 w1 v x hx h => runes_step s k h1 h2 hx h
 have HP : Hid ((stR s k).1 = (stR s k).1) := rfl
 by_cases hlt : (stR s k).1 < s.size
 ·have hw := Lib.decode_width_pos s (stR s k).1 hlt
  by_cases hok : okAt s (stR s k).1
  ·have hr : runeAt s (stR s k).1 = (((Utf8.decode s (stR s k).1).1 : Int), ((Utf8.decode s (stR s k).1).2 : Int)) := by unfold runeAt; rw [if_pos hok]
   have hw4 : (stR s k).1 + (Utf8.decode s (stR s k).1).2 ≤ s.size := by rw [← HS1.out hlt hok]; exact stR_le s (k + 1)
   have HOK : Hid (okAt s (stR s k).1) := hok
   have cr := specL1Rune s (stR s k).1
   rw [hr] at cr
   have CR : Hid (∀ (W : World) (_ : (stR s k).1 < s.size) (_ : s.size ≤ 1099511627776), CB 95 #[.string s, .int .i64 ((stR s k).1 : Int)] W (.tuple #[.int .i64 ((Utf8.decode s (stR s k).1).1 : Int), .int .i64 ((Utf8.decode s (stR s k).1).2 : Int)])) := cr
   clear hok hr cr HST
   have H1 : Hid ((stR s (k + 1)).1 = (stR s k).1 + (Utf8.decode s (stR s k).1).2) := HS1.out hlt HOK.out
   have H2 : Hid (∀ (w1 : World) (v : Value), w1.ownsRow w.heap.size 3 1 v ((stR s k).2.length + 1) (icells (stR s k).2 ++ [.int .i64 ((Utf8.decode s (stR s k).1).1 : Int)]) → w1.ownsRow w.heap.size 3 1 v (stR s (k + 1)).2.length (icells (stR s (k + 1)).2)) :=
    fun w1 v h => HSP.out hlt HOK.out w1 v _ rfl h
   clear HS1 HSP HP
   generalize (Utf8.decode s (stR s k).1).1 = R at *
   generalize (Utf8.decode s (stR s k).1).2 = W at *
   generalize hp : (stR s k).1 = p at *
   generalize (stR s k).2 = l at *
   have HPP : Hid ((stR s k).1 = p) := hp
   clear hp
   have hne : ((W : Int) == 0) = false := by simp; omega
   go_wp2_with fail
   refine (CR.out _ hlt (by omega)).mono ?_
   rintro e wc ⟨rfl, hbc⟩
   have hown2 := own_below hown hbc
   have hsc := hbc.size
   go_wp2_with (at_builtin; refine wpList_append_new _ rfl _ _ 57 rfl w.heap.size 3 (.int .i64 0) 8 Tryz.underlying57 Tryz.infoInt rfl _ _ _ rfl hown2 #[.int .i64 (R : Int)] 1 rfl rfl (int_one _) (by omega) (by unfold maxLen; omega) (by omega) ?_)
   intro v' w1 hown' hb1
   have R1 := H2.out w1 v' hown'
   have B1 : Below w.heap.size w w1 := (hbel.trans (hbc.mono hsz)).trans hb1
   clear hown' hb1 hown hbel hown2 hbc
   go_wp2
   go_roundw
   case rel => exact ⟨k + 1, by rw [H1.out]; go_num, R1, B1⟩
   case measure => simp [intOf]; omega
  have hr : runeAt s (stR s k).1 = (0, 0) := by unfold runeAt; rw [if_neg hok]
  have HF : Hid (stR s k = finR s) := HST.out (fun h => hok h.2)
  have cr := specL1Rune s (stR s k).1
  rw [hr] at cr
  have CR : Hid (∀ (W : World) (_ : (stR s k).1 < s.size) (_ : s.size ≤ 1099511627776), CB 95 #[.string s, .int .i64 ((stR s k).1 : Int)] W (.tuple #[.int .i64 0, .int .i64 0])) := cr
  clear hok hr cr HST HS1 HSP HP hw
  have HN : Hid ((finR s).1 ≠ s.size) := by show _ ≠ _; rw [← HF.out]; omega
  generalize (stR s k).1 = p at *
  clear HF
  go_wp2_with fail
  refine (CR.out _ hlt (by omega)).mono ?_
  rintro e wc ⟨rfl, hbc⟩
  have hsc := hbc.size
  have B1 : Below w.heap.size w (wc.alloc (.cells #[] 3)) := (hbel.trans (hbc.mono hsz)).alloc (by omega) _
  have O1 : (wc.alloc (.cells #[] 3)).ownsRow w.heap.size 3 1 (.slice (some ⟨wc.heap.size, 0, none⟩) 0 0) 0 (icells []) := World.ownsRow_lit wc #[] 0 (by omega) (by decide) rfl
  go_wp2
  go_ret2
  exact .inr ⟨HN.out, _, rfl, O1, B1⟩
 have HF : Hid (stR s k = finR s) := HST.out (fun h => hlt h.1)
 have HN : Hid ((finR s).1 = s.size) := by show _ = _; rw [← HF.out]; omega
 have O1 : wr.ownsRow w.heap.size 3 1 u4 (finR s).2.length (icells (finR s).2) := by rw [← HF.out]; exact hown
 clear HF HST HS1 HSP HP hown
 generalize (stR s k).1 = p at *
 go_wp2
 go_ret2
 exact .inl ⟨HN.out, _, rfl, O1, hbel⟩
theorem decC_big (s : ByteArray) (h : 600 < (s.size : Int)) : decC (sN s) = none := by
 cases hd : decC (sN s) with
 | none => rfl
 | some l =>
  obtain ⟨hok, he⟩ := (dec_iff _ _).1 hd
  have := encC_600 hok
  rw [he, sN_length] at this
  omega
theorem specDecBig (s : ByteArray) (w : World) (h : 600 < (s.size : Int)) :
  Calls Tryz.prog 100 #[.string s] w fun e w' => decAns w w' none e ∧ Below w.heap.size w w' := by
 go_enter Tryz.func100, Tryz.ntmps100
 go_wp2
 go_ret2
 exact ⟨decAns_none rfl (World.ownsRow_lit w #[] 0 (Nat.le_refl _) (by decide) rfl) rfl, (Below.refl _ _).alloc (Nat.le_refl _) _⟩
theorem specDecAll (s : ByteArray) (w : World) : Calls Tryz.prog 100 #[.string s] w fun e w' => decAns w w' (decC (sN s)) e ∧ Below w.heap.size w w' := by
 by_cases h : (s.size : Int) ≤ 600
 ·exact specPunyDecode s w h
 rw [decC_big s (by omega)]
 exact specDecBig s w (by omega)
theorem nats_runes {zl : List Int} (h : allOk zl) : zl = (zl.map Int.toNat).map (fun (c : Nat) => (c : Int)) := by
 rw [List.map_map]
 refine (List.map_id zl).symm.trans (List.map_congr_left fun z hz => ?_)
 have := (h z hz).1
 show z = ((z.toNat : Nat) : Int)
 omega
theorem encOk_yes {zl : List Int} (h : allOk zl) (h2 : zl.length ≤ 60) : encOk (zl.map Int.toNat) = true := by
 rw [encOk_Z, ← nats_runes h]
 exact ⟨h2, h⟩
def encAns (zl : List Int) : Value := if zl.length ≤ 60 then .tuple #[.string ⟨(b8 (encC (zl.map Int.toNat))).toArray⟩, .bool true] else .tuple #[.string ⟨#[]⟩, .bool false]
theorem specEncRunes (zl : List Int) (v : Value) (B : Nat) (w : World) (hk : allOk zl) (hl : zl.length ≤ 1048576) (h : w.ownsRow B 3 1 v zl.length (icells zl)) :
  Calls Tryz.prog 88 #[v] w fun e w' => e = .returned (encAns zl) ∧ Below w.heap.size w w' := by
 by_cases h2 : zl.length ≤ 60
 ·have e : encAns zl = .tuple #[.string ⟨(b8 (encC (zl.map Int.toNat))).toArray⟩, .bool true] := if_pos h2
  rw [e]
  refine specEncAll (zl.map Int.toNat) v B w (encOk_yes hk h2) ?_
  unfold icN
  rw [← nats_runes hk, List.length_map]
  exact h
 have e : encAns zl = .tuple #[.string ⟨#[]⟩, .bool false] := if_neg h2
 rw [e]
 rcases own_shape h with ⟨h0, _⟩ | ⟨_, g, cap, rfl⟩
 ·omega
 exact specPunyEncode_no zl zl.length g cap B w (fun hh => h2 hh.1) rfl hl h
theorem fin_allOk (s : ByteArray) (h : (finR s).1 = s.size) : allOk (finR s).2 := (fin_back s h).1
theorem fin_len (s : ByteArray) : (finR s).2.length ≤ s.size := stR_len s s.size
def codeR (l : List UInt8) : Option (List Nat) := if isXn l = true then decC (nat8 (l.drop 4)) else none
theorem specLabelOk (s : ByteArray) (w : World) (hs : s.size ≤ maxLen) :
  Calls Tryz.prog 89 #[.string s] w fun e w' => e = .returned (.bool (labL s.data.toList)) ∧ w = w' := by
 unfold maxLen at hs
 have HV : Hid (∀ b : Bool, labL s.data.toList = b → (.returned (.bool b) : Ending) = .returned (.bool (labL s.data.toList))) := fun b h => by rw [h]
 by_cases hr : 1 ≤ s.size ∧ s.size ≤ 63
 ·have hr1 : 1 ≤ (s.size : Int) := by omega
  have hr2 : (s.size : Int) ≤ 63 := by omega
  by_cases h0 : (s[0]'(by omega)).toNat = 45
  ·have HF : Hid (labL s.data.toList = false) := lab_head s (by omega) h0
   go_enter Tryz.func89, Tryz.ntmps89
   go_wp2_with fail
   refine (labIn_yes _ _ _ _ hr1 hr2).mono ?_
   rintro e w' ⟨rfl, rfl⟩
   go_wp2_with fail
   go_ret
   exact ⟨HV.out _ HF.out, rfl⟩
  by_cases h1 : (s[s.size - 1]'(by omega)).toNat = 45
  ·have HF : Hid (labL s.data.toList = false) := lab_last s (by omega) h1
   go_enter Tryz.func89, Tryz.ntmps89
   go_wp2_with fail
   refine (labIn_yes _ _ _ _ hr1 hr2).mono ?_
   rintro e w' ⟨rfl, rfl⟩
   go_wp2_with fail
   go_ret
   exact ⟨HV.out _ HF.out, rfl⟩
  have q0 : (((s[0]'(by omega)).toNat : Int) == 45) = false := beq_eq_false_iff_ne.2 (by omega)
  have q1 : (((s[s.size - 1]'(by omega)).toNat : Int) == 45) = false := beq_eq_false_iff_ne.2 (by omega)
  have HY : Hid ((∀ c ∈ s.data.toList.take s.size, labB c = true) → labL s.data.toList = true) := lab_yes s hr h0 h1
  clear h0 h1
  go_enter Tryz.func89, Tryz.ntmps89
  go_wp2_with fail
  refine (labIn_yes _ _ _ _ hr1 hr2).mono ?_
  rintro e w' ⟨rfl, rfl⟩
  go_wp2_with fail
  go_loop [4] (fun i => ∃ k : Nat, k ≤ s.size ∧ i = .int .i64 k ∧ ∀ c ∈ s.data.toList.take k, labB c = true) (fun i => s.size - (intOf i).toNat)
  case atStart => exact ⟨0, Nat.zero_le _, rfl, fun c h => by simp at h⟩
  obtain ⟨k, hk, rfl, hall⟩ := hrel
  have HA : Hid (∀ c ∈ s.data.toList.take k, labB c = true) := hall
  clear hall
  by_cases hlt : k < s.size
  ·obtain ⟨d, hd⟩ : ∃ d : Nat, s[k].toNat = d := ⟨_, rfl⟩
   have hd1 : (d : Int) ≤ 255 := by have := s[k].toNat_lt; omega
   have HS : Hid ((97 ≤ d ∧ d ≤ 122) ∨ (48 ≤ d ∧ d ≤ 57) ∨ d = 45 → ∀ c ∈ s.data.toList.take (k + 1), labB c = true) := fun hc => lab_take s k hlt d hd hc HA.out
   have HN : Hid (¬ ((97 ≤ d ∧ d ≤ 122) ∨ (48 ≤ d ∧ d ≤ 57) ∨ d = 45) → labL s.data.toList = false) := fun hc => lab_byte s k hlt (by rw [hd]; exact hc)
   by_cases ha : 97 ≤ d ∧ d ≤ 122
   ·go_wp2_with fail
    refine (labIn_yes _ _ _ _ (by omega) (by omega)).mono ?_
    rintro e w' ⟨rfl, rfl⟩
    go_wp2_with fail
    go_round
    case rel => exact ⟨k + 1, by omega, by go_num, HS.out (by omega)⟩
    case measure => simp [intOf]; omega
   by_cases hn : 48 ≤ d ∧ d ≤ 57
   ·go_wp2_with fail
    refine (labIn_no _ _ _ _ (by omega)).mono ?_
    rintro e w' ⟨rfl, rfl⟩
    go_wp2_with fail
    refine (labIn_yes _ _ _ _ (by omega) (by omega)).mono ?_
    rintro e w' ⟨rfl, rfl⟩
    go_wp2_with fail
    go_round
    case rel => exact ⟨k + 1, by omega, by go_num, HS.out (by omega)⟩
    case measure => simp [intOf]; omega
   by_cases hm : d = 45
   ·subst hm
    clear hn ha
    go_wp2_with fail
    refine (labIn_no _ _ _ _ (by omega)).mono ?_
    rintro e w' ⟨rfl, rfl⟩
    go_wp2_with fail
    refine (labIn_no _ _ _ _ (by omega)).mono ?_
    rintro e w' ⟨rfl, rfl⟩
    go_wp2_with fail
    go_round
    case rel => exact ⟨k + 1, by omega, by go_num, HS.out (.inr (.inr trivial))⟩
    case measure => simp [intOf]; omega
   have hm' : ¬ (d : Int) = 45 := by omega
   go_wp2_with fail
   refine (labIn_no _ _ _ _ (by omega)).mono ?_
   rintro e w' ⟨rfl, rfl⟩
   go_wp2_with fail
   refine (labIn_no _ _ _ _ (by omega)).mono ?_
   rintro e w' ⟨rfl, rfl⟩
   go_wp2_with fail
   go_ret
   exact ⟨HV.out _ (HN.out (by omega)), rfl⟩
  have hks : k = s.size := by omega
  subst hks
  go_wp2_with fail
  go_ret
  exact ⟨HV.out _ (HY.out HA.out), rfl⟩
 have HF : Hid (labL s.data.toList = false) := lab_size s hr
 have hr1 : (s.size : Int) < 1 ∨ 63 < (s.size : Int) := by omega
 go_enter Tryz.func89, Tryz.ntmps89
 go_wp2_with fail
 refine (labIn_no _ _ _ _ hr1).mono ?_
 rintro e w' ⟨rfl, rfl⟩
 go_wp2_with fail
 go_ret
 exact ⟨HV.out _ HF.out, rfl⟩
end Go.Proofs.YtidecdlaeomfoaaGreat
namespace Go.Proofs.YtidecdlaeomfoaaGreat
open Go.ChangeShapes Go.WideShapes Go.ChangeAt Go.RowKit Go.Lib
theorem own : ownKnob Tryz.prog.godebug = none := by kernel_rfl
end Go.Proofs.YtidecdlaeomfoaaGreat
namespace Go.Proofs.YtidecdlaeomfoaaGreat
open Go.RowKit
theorem okA_code (t : List UInt8) : okA t = (labL t && (!(isXn t) || (codeR t).isSome)) := by
 unfold okA codeR
 cases isXn t <;> simp
theorem ans_yes {o : Option (List UInt8)} {t : List UInt8} (h : o = if okA t = true then some t else none) (h1 : okA t = true) : ansS o = .tuple #[.string ⟨t.toArray⟩, .bool true] := by
 rw [h, if_pos h1]; rfl
theorem ans_no {o : Option (List UInt8)} {t : List UInt8} (h : o = if okA t = true then some t else none) (h1 : okA t = false) : ansS o = .tuple #[.string ⟨#[]⟩, .bool false] := by
 rw [h, if_neg (by rw [h1]; decide)]; rfl
theorem ext4 (s : ByteArray) : (s.extract 0 4).data.toList = s.data.toList.take 4 := by
 rw [ByteArray.data_extract, Array.toList_extract]
 simp
theorem ext_from (s : ByteArray) : s.extract 4 s.size = ⟨(s.data.toList.drop 4).toArray⟩ := by
 apply ByteArray.ext
 apply Array.toList_inj.1
 rw [ByteArray.data_extract, Array.toList_extract]
 simp
 exact List.take_of_length_le (by simp)
theorem xn_eq (s : ByteArray) (h : 4 ≤ s.size) : ((s.extract 0 4).toList == [120, 110, 45, 45]) = isXn s.data.toList := by
 rw [ByteArray.toList_eq, ext4]
 have hl : 4 ≤ s.data.toList.length := by simpa using h
 generalize s.data.toList = l at hl
 match l, hl with
 | a :: b :: c :: d :: r, _ =>
  unfold isXn xn
  simp [List.isPrefixOf]
  rw [Bool.eq_iff_iff]
  simp
  constructor
  ·rintro ⟨rfl, rfl, rfl, rfl⟩; exact ⟨rfl, rfl, rfl, rfl⟩
  rintro ⟨h1, h2, h3, h4⟩; exact ⟨h1.symm, h2.symm, h3.symm, h4.symm⟩
theorem xn_short (s : ByteArray) (h : s.size < 4) : isXn s.data.toList = false := by
 cases hx : isXn s.data.toList with
 | false => rfl
 | true =>
  have := congrArg List.length (xn_prefix hx)
  rw [List.length_append] at this
  have hl : s.data.toList.length = s.size := by simp
  simp [xn] at this
  omega
theorem codeR_xn {l : List UInt8} (h : isXn l = true) : codeR l = decC (nat8 (l.drop 4)) := if_pos h
theorem all_take (l : List Nat) (k : Nat) (h : k < l.length) : (l.take (k + 1)).all (fun c => decide (c < 128)) = ((l.take k).all (fun c => decide (c < 128)) && decide (l.getD k 0 < 128)) := by
 rw [List.take_succ_eq_append_getElem h, List.all_append]
 simp [List.getD, h]
theorem specL4Coded (s : ByteArray) (w : World) (hs : s.size ≤ 1048576) (hlab : labL s.data.toList = true) :
  Calls Tryz.prog 90 #[.string s] w fun e w' => decAns w w' (codeR s.data.toList) e ∧ Below w.heap.size w w' := by
 have HO : Hid (∀ W : World, (W.alloc (.cells #[] 3)).ownsRow W.heap.size 3 1 (.slice (some ⟨W.heap.size, 0, none⟩) 0 0) 0 []) := fun W => World.ownsRow_lit W #[] 0 (Nat.le_refl _) (by decide) rfl
 have hs' : (s.size : Int) ≤ 1048576 := by omega
 by_cases h4 : s.size < 4
 ·have h4' : (s.size : Int) < 4 := by omega
  have HR : Hid (codeR s.data.toList = none) := if_neg (by rw [xn_short s h4]; decide)
  go_enter Tryz.func90, Tryz.ntmps90
  go_wp2_with fail
  go_ret2
  rw [HR.out]
  exact ⟨⟨_, rfl, HO.out w⟩, (Below.refl _ _).alloc (Nat.le_refl _) _⟩
 have h4' : ¬ (s.size : Int) < 4 := by omega
 have h4n : 4 ≤ s.size := by omega
 have hxe := xn_eq s h4n
 cases hx : isXn s.data.toList with
 | false =>
  rw [hx] at hxe
  have HR : Hid (codeR s.data.toList = none) := if_neg (by rw [hx]; decide)
  clear hx
  go_enter Tryz.func90, Tryz.ntmps90
  go_wp2_with fail
  go_ret2
  rw [HR.out]
  exact ⟨⟨_, rfl, HO.out w⟩, (Below.refl _ _).alloc (Nat.le_refl _) _⟩
 | true =>
  rw [hx] at hxe
  have HD := fun l => @dec_lab s.data.toList l hx hlab
  rw [← codeR_xn hx] at HD
  have HD : Hid (∀ l, codeR s.data.toList = some l → (∃ x ∈ l, 128 ≤ x) ∧ ∀ x ∈ l, ¬ (65 ≤ x ∧ x ≤ 90)) := HD
  have CD : Hid (∀ W, Calls Tryz.prog 100 #[.string (s.extract 4 s.size)] W fun e w' => decAns W w' (codeR s.data.toList) e ∧ Below W.heap.size W w') := fun W => by
   rw [ext_from s, codeR_xn hx]
   exact specDecAll ⟨(s.data.toList.drop 4).toArray⟩ W
  clear hx
  go_enter Tryz.func90, Tryz.ntmps90
  go_wp2_with fail
  refine (CD.out _).mono ?_
  rintro e wa ⟨hd, ba⟩
  have hsz := ba.size
  cases hr : codeR s.data.toList with
  | none =>
   rw [hr] at hd
   obtain ⟨v, rfl, ov⟩ := hd
   have HR : Hid (codeR s.data.toList = none) := hr
   clear hr HD CD
   rcases own_shape ov with ⟨_, _, ao, cap, rfl⟩ | ⟨h, _⟩
   ·go_wp2_with fail
    go_loop [6, 7] (fun p i => p = .bool true ∧ i = .int .i64 0) (fun _ _ => 0)
    case atStart => exact ⟨rfl, rfl⟩
    obtain ⟨rfl, rfl⟩ := hrel
    go_wp2_with fail
    go_ret2
    rw [HR.out]
    exact ⟨⟨_, rfl, own_base (HO.out wa) hsz⟩, ba.alloc hsz _⟩
   omega
  | some l =>
   rw [hr] at hd
   obtain ⟨v, rfl, ov⟩ := hd
   obtain ⟨hx1, hx2⟩ := HD.out l hr
   have HR : Hid (codeR s.data.toList = some l) := hr
   have HX : Hid (∀ x ∈ l, ¬ (65 ≤ x ∧ x ≤ 90)) := hx2
   have HP : Hid (l.all (fun c => decide (c < 128)) = false) := by
    obtain ⟨x, hx, h128⟩ := hx1
    show _ = _
    rw [List.all_eq_false]
    exact ⟨x, hx, by simpa using h128⟩
   clear hr HD CD hx2
   rcases own_shape ov with ⟨h0, _⟩ | ⟨_, g, cap, rfl⟩
   ·obtain ⟨x, hx, _⟩ := hx1
    have : l = [] := List.eq_nil_of_length_eq_zero h0
    rw [this] at hx
    simp at hx
   clear hx1
   have hll : l.length ≤ 1048576 := by
    obtain ⟨hok, _⟩ := (dec_iff _ _).1 ((codeR_xn (by cases h : isXn s.data.toList with | true => rfl | false => have h2 := HR.out; unfold codeR at h2; rw [h] at h2; simp at h2)).symm.trans HR.out)
    have := (encOk_parts hok).1
    omega
   have HC : Hid (∀ j, j < l.length → wa.cell? ⟨g, j, none⟩ = some (.int .i64 (l.getD j 0 : Nat))) := fun j hj => icN_at ov j hj
   have HV : Hid (wa.ownsRow w.heap.size 3 1 (.slice (some ⟨g, 0, none⟩) l.length cap) l.length (icN l)) := ov
   clear ov
   go_wp2_with fail
   go_loop [6, 7] (fun p i => ∃ k : Nat, k ≤ l.length ∧ p = .bool ((l.take k).all (fun c => decide (c < 128))) ∧ i = .int .i64 k) (fun _ i => l.length - (intOf i).toNat)
   case atStart => exact ⟨0, Nat.zero_le _, rfl, rfl⟩
   obtain ⟨k, hk, rfl, rfl⟩ := hrel
   by_cases hlt : k < l.length
   ·have hc := HC.out k hlt
    have HS : Hid ((l.take (k + 1)).all (fun c => decide (c < 128)) = ((l.take k).all (fun c => decide (c < 128)) && decide (l.getD k 0 < 128))) := all_take l k hlt
    have HN : Hid (¬ (65 ≤ l.getD k 0 ∧ l.getD k 0 ≤ 90)) := HX.out _ (by rw [List.getD_eq_getElem?_getD, List.getElem?_eq_getElem hlt]; exact List.getElem_mem hlt)
    obtain ⟨y, hy⟩ : ∃ y, l.getD k 0 = y := ⟨_, rfl⟩
    rw [hy] at hc HS HN
    generalize (l.take k).all (fun c => decide (c < 128)) = b at HS
    have hkl : (k : Int) < l.length := by omega
    clear hy
    have CI : Hid (∀ W, CS 18 #[.int .i64 (y : Int), .int .i64 65, .int .i64 90] W (.bool false)) := fun W => labIn_no _ _ _ W (by have := HN.out; omega)
    cases b with
    | false =>
     go_wp2_with fail
     refine (CI.out _).mono ?_
     rintro e w' ⟨rfl, rfl⟩
     go_wp2_with fail
     go_round
     case rel => exact ⟨k + 1, by omega, by rw [HS.out]; rfl, by go_num⟩
     case measure => simp [intOf]; omega
    | true =>
     go_wp2_with fail
     refine (CI.out _).mono ?_
     rintro e w' ⟨rfl, rfl⟩
     go_wp2_with fail
     go_round
     case rel => exact ⟨k + 1, by omega, by rw [HS.out]; simp; omega, by go_num⟩
     case measure => simp [intOf]; omega
   have hks : k = l.length := by omega
   have HB : (l.take k).all (fun c => decide (c < 128)) = false := by rw [hks, List.take_length]; exact HP.out
   rw [HB]
   clear HB
   subst hks
   go_wp2_with fail
   go_ret2
   rw [HR.out]
   exact ⟨⟨_, rfl, HV.out⟩, ba⟩
theorem specToAscii (s : ByteArray) (w : World) (hs : s.size ≤ 1048576) :
  Calls Tryz.prog 75 #[.string s] w fun e w' => e = .returned (ansS (ascL s.data.toList)) ∧ Below w.heap.size w w' := by
 have CLo : Hid (CB 44 #[.string s] w (.string ⟨(lowerL s.data.toList).toArray⟩)) := specLower s w hs
 have hls := low_size s
 have HLS : Hid ((⟨(lowerL s.data.toList).toArray⟩ : ByteArray).size ≤ 1048576) := by show _ ≤ _; omega
 have CA : Hid (∀ W, CS 86 #[.string s] W (.bool (asciiB s.data.toList))) := fun W => specAscii s W (by unfold maxLen; omega)
 cases ha : asciiB s.data.toList with
 | true =>
  rw [ha] at CA
  have HAS : Hid (ascL s.data.toList = if okA (lowerL s.data.toList) = true then some (lowerL s.data.toList) else none) := asc1_ascii ha
  clear ha hls
  generalize lowerL s.data.toList = t at CLo HAS HLS
  go_enter Tryz.func75, Tryz.ntmps75
  go_wp2_with fail
  refine CLo.out.mono ?_
  rintro e wa ⟨rfl, ba⟩
  go_wp2_with fail
  refine (CA.out _).mono ?_
  rintro e w' ⟨rfl, rfl⟩
  have HK := okA_code t
  have hzm : (⟨t.toArray⟩ : ByteArray).size ≤ 1048576 := HLS.out
  obtain ⟨S, hS⟩ : ∃ S : ByteArray, S = ⟨t.toArray⟩ := ⟨_, rfl⟩
  have hSt : S.data.toList = t := by rw [hS]
  rw [← hS] at hzm
  rw [← hSt] at HK
  have HSS : Hid (S = ⟨t.toArray⟩) := hS
  have HST : Hid (S.data.toList = t) := hSt
  rw [← hS]
  clear hS hSt
  cases hl : labL S.data.toList with
  | false =>
   have HF : Hid (ansS (ascL s.data.toList) = .tuple #[.string ⟨#[]⟩, .bool false]) := ans_no HAS.out (by rw [← HST.out, HK, hl]; rfl)
   have CL : Hid (∀ W, CS 89 #[.string S] W (.bool false)) := fun W => by
    have h := specLabelOk S W (by unfold maxLen; omega)
    rw [hl] at h
    exact h
   clear HK hl
   try go_wp2_with fail
   refine (CL.out _).mono ?_
   rintro e w' ⟨rfl, rfl⟩
   go_wp2_with fail
   go_ret2
   exact ⟨by rw [HF.out]; rfl, ba⟩
  | true =>
   have CL : Hid (∀ W, CS 89 #[.string S] W (.bool true)) := fun W => by
    have h := specLabelOk S W (by unfold maxLen; omega)
    rw [hl] at h
    exact h
   have CK : Hid (∀ W, Calls Tryz.prog 90 #[.string S] W fun e w' => decAns W w' (codeR S.data.toList) e ∧ Below W.heap.size W w') := fun W => specL4Coded S W hzm hl
   rw [hl] at HK
   by_cases h4 : S.size < 4
   ·have h4' : ¬ 4 ≤ (S.size : Int) := by omega
    have HF : Hid (ansS (ascL s.data.toList) = .tuple #[.string S, .bool true]) := by
     show _ = _
     rw [HSS.out]
     exact ans_yes HAS.out (by rw [← HST.out, HK, xn_short S h4]; rfl)
    clear HK hl
    try go_wp2_with fail
    refine (CL.out _).mono ?_
    rintro e w' ⟨rfl, rfl⟩
    go_wp2_with fail
    go_ret2
    exact ⟨by rw [HF.out]; rfl, ba⟩
   have h4' : 4 ≤ (S.size : Int) := by omega
   have hxe := xn_eq S (by omega)
   cases hx : isXn S.data.toList with
   | false =>
    rw [hx] at hxe
    have HF : Hid (ansS (ascL s.data.toList) = .tuple #[.string S, .bool true]) := by
     show _ = _
     rw [HSS.out]
     exact ans_yes HAS.out (by rw [← HST.out, HK, hx]; rfl)
    clear HK hl hx
    try go_wp2_with fail
    refine (CL.out _).mono ?_
    rintro e w' ⟨rfl, rfl⟩
    go_wp2_with fail
    go_ret2
    exact ⟨by rw [HF.out]; rfl, ba⟩
   | true =>
    rw [hx] at hxe
    cases hr : codeR S.data.toList with
    | none =>
     have HF : Hid (ansS (ascL s.data.toList) = .tuple #[.string ⟨#[]⟩, .bool false]) := ans_no HAS.out (by rw [← HST.out, HK, hx, hr]; rfl)
     rw [hr] at CK
     clear HK hl hx hr
     try go_wp2_with fail
     refine (CL.out _).mono ?_
     rintro e w' ⟨rfl, rfl⟩
     go_wp2_with fail
     refine (CK.out _).mono ?_
     rintro e wz ⟨⟨v, rfl, _⟩, bz⟩
     have B := ba.trans (bz.mono ba.size)
     clear bz
     go_wp2_with fail
     go_ret2
     exact ⟨by rw [HF.out]; rfl, B⟩
    | some l =>
     have HF : Hid (ansS (ascL s.data.toList) = .tuple #[.string S, .bool true]) := by
      show _ = _
      rw [HSS.out]
      exact ans_yes HAS.out (by rw [← HST.out, HK, hx, hr]; rfl)
     rw [hr] at CK
     clear HK hl hx hr
     try go_wp2_with fail
     refine (CL.out _).mono ?_
     rintro e w' ⟨rfl, rfl⟩
     go_wp2_with fail
     refine (CK.out _).mono ?_
     rintro e wz ⟨⟨v, rfl, _⟩, bz⟩
     have B := ba.trans (bz.mono ba.size)
     clear bz
     go_wp2_with fail
     go_ret2
     exact ⟨by rw [HF.out]; rfl, B⟩
 | false =>
  rw [ha] at CA
  have hz : (⟨(lowerL s.data.toList).toArray⟩ : ByteArray).size = s.data.toList.length := by rw [low_size]; simp
  have CR : Hid (∀ W, Calls Tryz.prog 87 #[.string ⟨(lowerL s.data.toList).toArray⟩] W fun e w' => RunesPost ⟨(lowerL s.data.toList).toArray⟩ W e w') := fun W => specRunes _ W HLS.out
  by_cases hy1 : (finR ⟨(lowerL s.data.toList).toArray⟩).1 = (⟨(lowerL s.data.toList).toArray⟩ : ByteArray).size
  ·have HAO := fin_allOk _ hy1
   have hfl := fin_len ⟨(lowerL s.data.toList).toArray⟩
   have HEN : Hid (∀ (W : World) (v : Value) (B : Nat), W.ownsRow B 3 1 v (finR ⟨(lowerL s.data.toList).toArray⟩).2.length (icells (finR ⟨(lowerL s.data.toList).toArray⟩).2) → CB 88 #[v] W (encAns (finR ⟨(lowerL s.data.toList).toArray⟩).2)) :=
    fun W v B h => specEncRunes _ v B W HAO (by omega) h
   by_cases hy2 : (finR ⟨(lowerL s.data.toList).toArray⟩).2.length ≤ 60
   ·have HAS0 := asc1_yes ha ⟨hy1.trans hz, hy2⟩
    have e1 : encAns (finR ⟨(lowerL s.data.toList).toArray⟩).2 = .tuple #[.string ⟨(b8 (encC ((finR ⟨(lowerL s.data.toList).toArray⟩).2.map Int.toNat))).toArray⟩, .bool true] := if_pos hy2
    rw [e1] at HEN
    have HN := encC_600 (encOk_yes HAO hy2)
    generalize encC ((finR ⟨(lowerL s.data.toList).toArray⟩).2.map Int.toNat) = q at HAS0 HEN HN
    have HX : Hid ((⟨#[120, 110, 45, 45]⟩ : ByteArray) ++ ⟨(b8 q).toArray⟩ = ⟨(xn ++ b8 q).toArray⟩) := by
     show _ = _
     apply ByteArray.ext
     rw [ByteArray.data_append]
     apply Array.toList_inj.1
     simp [xn]
    have hzq : (⟨(b8 q).toArray⟩ : ByteArray).size ≤ 600 := by
     show (b8 q).toArray.size ≤ 600
     rw [List.size_toArray, b8_length]
     exact HN
    obtain ⟨T, hTT⟩ : ∃ T : ByteArray, ⟨(b8 q).toArray⟩ = T := ⟨_, rfl⟩
    have HM2 : Hid (ByteArray.size ⟨(xn ++ b8 q).toArray⟩ ≤ 1048576) := by
     show (xn ++ b8 q).toArray.size ≤ 1048576
     rw [List.size_toArray, List.length_append, b8_length]
     simp [xn]
     omega
    have HAS : Hid (ascL s.data.toList = if okA (xn ++ b8 q) = true then some (xn ++ b8 q) else none) := HAS0
    clear HAS0
    generalize xn ++ b8 q = t at HAS HM2 HX
    rw [hTT] at HEN HX hzq
    have HY1 : Hid ((finR ⟨(lowerL s.data.toList).toArray⟩).1 = (⟨(lowerL s.data.toList).toArray⟩ : ByteArray).size) := hy1
    clear ha hy1 hy2 hz HN HAO hfl hls e1 hTT
    go_enter Tryz.func75, Tryz.ntmps75
    go_wp2_with fail
    refine CLo.out.mono ?_
    rintro e wa ⟨rfl, ba⟩
    go_wp2_with fail
    refine (CA.out _).mono ?_
    rintro e w' ⟨rfl, rfl⟩
    go_wp2_with fail
    refine (CR.out _).mono ?_
    rintro e wb (⟨_, vb, rfl, ob, bb⟩ | ⟨hn, _⟩)
    ·go_wp2_with fail
     refine (HEN.out _ _ _ ob).mono ?_
     rintro e wc ⟨rfl, bc⟩
     have b2 := ba.trans (bb.mono ba.size)
     have b3 := b2.trans (bc.mono b2.size)
     clear ba bb ob b2 bc
     go_wp2_with fail
     rw [HX.out]
     have HK := okA_code t
     have hzm : (⟨t.toArray⟩ : ByteArray).size ≤ 1048576 := HM2.out
     obtain ⟨S, hS⟩ : ∃ S : ByteArray, S = ⟨t.toArray⟩ := ⟨_, rfl⟩
     have hSt : S.data.toList = t := by rw [hS]
     rw [← hS] at hzm
     rw [← hSt] at HK
     have HSS : Hid (S = ⟨t.toArray⟩) := hS
     have HST : Hid (S.data.toList = t) := hSt
     rw [← hS]
     clear hS hSt
     cases hl : labL S.data.toList with
     | false =>
      have HF : Hid (ansS (ascL s.data.toList) = .tuple #[.string ⟨#[]⟩, .bool false]) := ans_no HAS.out (by rw [← HST.out, HK, hl]; rfl)
      have CL : Hid (∀ W, CS 89 #[.string S] W (.bool false)) := fun W => by
       have h := specLabelOk S W (by unfold maxLen; omega)
       rw [hl] at h
       exact h
      clear HK hl
      try go_wp2_with fail
      refine (CL.out _).mono ?_
      rintro e w' ⟨rfl, rfl⟩
      go_wp2_with fail
      go_ret2
      exact ⟨by rw [HF.out]; rfl, b3⟩
     | true =>
      have CL : Hid (∀ W, CS 89 #[.string S] W (.bool true)) := fun W => by
       have h := specLabelOk S W (by unfold maxLen; omega)
       rw [hl] at h
       exact h
      have CK : Hid (∀ W, Calls Tryz.prog 90 #[.string S] W fun e w' => decAns W w' (codeR S.data.toList) e ∧ Below W.heap.size W w') := fun W => specL4Coded S W hzm hl
      rw [hl] at HK
      by_cases h4 : S.size < 4
      ·have h4' : ¬ 4 ≤ (S.size : Int) := by omega
       have HF : Hid (ansS (ascL s.data.toList) = .tuple #[.string S, .bool true]) := by
        show _ = _
        rw [HSS.out]
        exact ans_yes HAS.out (by rw [← HST.out, HK, xn_short S h4]; rfl)
       clear HK hl
       try go_wp2_with fail
       refine (CL.out _).mono ?_
       rintro e w' ⟨rfl, rfl⟩
       go_wp2_with fail
       go_ret2
       exact ⟨by rw [HF.out]; rfl, b3⟩
      have h4' : 4 ≤ (S.size : Int) := by omega
      have hxe := xn_eq S (by omega)
      cases hx : isXn S.data.toList with
      | false =>
       rw [hx] at hxe
       have HF : Hid (ansS (ascL s.data.toList) = .tuple #[.string S, .bool true]) := by
        show _ = _
        rw [HSS.out]
        exact ans_yes HAS.out (by rw [← HST.out, HK, hx]; rfl)
       clear HK hl hx
       try go_wp2_with fail
       refine (CL.out _).mono ?_
       rintro e w' ⟨rfl, rfl⟩
       go_wp2_with fail
       go_ret2
       exact ⟨by rw [HF.out]; rfl, b3⟩
      | true =>
       rw [hx] at hxe
       cases hr : codeR S.data.toList with
       | none =>
        have HF : Hid (ansS (ascL s.data.toList) = .tuple #[.string ⟨#[]⟩, .bool false]) := ans_no HAS.out (by rw [← HST.out, HK, hx, hr]; rfl)
        rw [hr] at CK
        clear HK hl hx hr
        try go_wp2_with fail
        refine (CL.out _).mono ?_
        rintro e w' ⟨rfl, rfl⟩
        go_wp2_with fail
        refine (CK.out _).mono ?_
        rintro e wz ⟨⟨v, rfl, _⟩, bz⟩
        have B := b3.trans (bz.mono b3.size)
        clear bz
        go_wp2_with fail
        go_ret2
        exact ⟨by rw [HF.out]; rfl, B⟩
       | some l =>
        have HF : Hid (ansS (ascL s.data.toList) = .tuple #[.string S, .bool true]) := by
         show _ = _
         rw [HSS.out]
         exact ans_yes HAS.out (by rw [← HST.out, HK, hx, hr]; rfl)
        rw [hr] at CK
        clear HK hl hx hr
        try go_wp2_with fail
        refine (CL.out _).mono ?_
        rintro e w' ⟨rfl, rfl⟩
        go_wp2_with fail
        refine (CK.out _).mono ?_
        rintro e wz ⟨⟨v, rfl, _⟩, bz⟩
        have B := b3.trans (bz.mono b3.size)
        clear bz
        go_wp2_with fail
        go_ret2
        exact ⟨by rw [HF.out]; rfl, B⟩
    exact absurd HY1.out hn
   have HF : Hid (ansS (ascL s.data.toList) = .tuple #[.string ⟨#[]⟩, .bool false]) := by show _ = _; rw [asc1_no ha (fun h => hy2 h.2)]; rfl
   have e1 : encAns (finR ⟨(lowerL s.data.toList).toArray⟩).2 = .tuple #[.string ⟨#[]⟩, .bool false] := if_neg hy2
   rw [e1] at HEN
   have HY1 : Hid ((finR ⟨(lowerL s.data.toList).toArray⟩).1 = (⟨(lowerL s.data.toList).toArray⟩ : ByteArray).size) := hy1
   clear ha hy1 hy2 hz HAO hfl hls e1
   go_enter Tryz.func75, Tryz.ntmps75
   go_wp2_with fail
   refine CLo.out.mono ?_
   rintro e wa ⟨rfl, ba⟩
   go_wp2_with fail
   refine (CA.out _).mono ?_
   rintro e w' ⟨rfl, rfl⟩
   go_wp2_with fail
   refine (CR.out _).mono ?_
   rintro e wb (⟨_, vb, rfl, ob, bb⟩ | ⟨hn, _⟩)
   ·go_wp2_with fail
    refine (HEN.out _ _ _ ob).mono ?_
    rintro e wc ⟨rfl, bc⟩
    have b2 := ba.trans (bb.mono ba.size)
    have b3 := b2.trans (bc.mono b2.size)
    clear ba bb ob b2 bc
    go_wp2_with fail
    go_ret2
    exact ⟨by rw [HF.out]; rfl, b3⟩
   exact absurd HY1.out hn
  have HF : Hid (ansS (ascL s.data.toList) = .tuple #[.string ⟨#[]⟩, .bool false]) := by show _ = _; rw [asc1_no ha (fun h => hy1 (h.1.trans hz.symm))]; rfl
  have HEN : Hid (∀ (W : World) (v : Value) (B : Nat), W.ownsRow B 3 1 v 0 (icells []) → CB 88 #[v] W (.tuple #[.string ⟨(b8 (encC [])).toArray⟩, .bool true])) :=
   fun W v B h => specEncRunes [] v B W (fun r hr => by simp at hr) (by decide) h
  have HY1 : Hid (¬ (finR ⟨(lowerL s.data.toList).toArray⟩).1 = (⟨(lowerL s.data.toList).toArray⟩ : ByteArray).size) := hy1
  clear ha hy1 hz hls
  go_enter Tryz.func75, Tryz.ntmps75
  go_wp2_with fail
  refine CLo.out.mono ?_
  rintro e wa ⟨rfl, ba⟩
  go_wp2_with fail
  refine (CA.out _).mono ?_
  rintro e w' ⟨rfl, rfl⟩
  go_wp2_with fail
  refine (CR.out _).mono ?_
  rintro e wb (⟨hn, _⟩ | ⟨_, vb, rfl, ob, bb⟩)
  ·exact absurd hn HY1.out
  go_wp2_with fail
  refine (HEN.out _ _ _ ob).mono ?_
  rintro e wc ⟨rfl, bc⟩
  have b2 := ba.trans (bb.mono ba.size)
  have b3 := b2.trans (bc.mono b2.size)
  clear ba bb ob b2 bc
  go_wp2_with fail
  go_ret2
  exact ⟨by rw [HF.out]; rfl, b3⟩
end Go.Proofs.YtidecdlaeomfoaaGreat
