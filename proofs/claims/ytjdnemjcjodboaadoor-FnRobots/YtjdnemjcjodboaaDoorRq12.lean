/- CutWay, RepOne, CutOne, RobKeyI, PatSpec, AppAt. -/
import Derived.Lib.IndexMore
import Derived.Lib.Replace
import Derived.Lib.IndexBytes
import Derived.Test.YtjdnemjcjodboaaDoorRq09
set_option maxHeartbeats 4000000
namespace Go.Proofs.YtjdnemjcjodboaaDoor
open Go.RowKit
def upB (c : UInt8) (l : List UInt8) : List UInt8 := l.takeWhile fun x => x != c
def behB (c : UInt8) (l : List UInt8) : List UInt8 := (l.dropWhile fun x => x != c).drop 1
theorem index_while (c : UInt8) : ∀ l : List UInt8, Lib.index l [c] = if l.contains c then ((upB c l).length : Int) else -1
 | [] => rfl
 | b :: l => by
  have ih := index_while c l
  unfold upB at ih ⊢
  unfold Lib.index
  by_cases h : b = c
  ·subst h
   simp
  have h1 : ([c].isPrefixOf (b :: l)) = false := by
   simp [List.isPrefixOf, Ne.symm h]
  have h2 : (b :: l).contains c = l.contains c := by
   simp [Ne.symm h]
  have h3 : (b != c) = true := bne_iff_ne.2 h
  rw [h1, h2, ih, List.takeWhile_cons, h3]
  cases hc : l.contains c
  ·simp
  have h4 : (((List.takeWhile (fun x => x != c) l).length : Int) == -1) = false := beq_eq_false_iff_ne.2 (by omega)
  simp [h4]
theorem up_beh (c : UInt8) (l : List UInt8) : (l.contains c = true → l = upB c l ++ c :: behB c l) ∧ (l.contains c = false → upB c l = l ∧ behB c l = []) ∧ c ∉ upB c l := by
 unfold upB behB
 induction l with
 | nil => simp
 | cons b l ih =>
  by_cases h : b = c
  ·subst h; simp
  have h3 : (b != c) = true := bne_iff_ne.2 h
  have h2 : (b :: l).contains c = l.contains c := by simp [Ne.symm h]
  rw [h2, List.takeWhile_cons, List.dropWhile_cons, h3]
  refine ⟨fun hc => ?_, fun hc => ?_, ?_⟩
  ·have := ih.1 hc
   simp only [if_true, List.cons_append, List.cons.injEq, true_and]
   exact this
  ·have := ih.2.1 hc
   simp only [if_true, this.1, this.2, and_self]
  simp only [if_true, List.mem_cons, not_or]
  exact ⟨Ne.symm h, ih.2.2⟩
end Go.Proofs.YtjdnemjcjodboaaDoor
namespace Go.Proofs.YtjdnemjcjodboaaDoor
open Go.RowKit
set_option linter.unusedVariables false
theorem countFrom_one (c : UInt8) : ∀ (n : Nat) (l : List UInt8), l.length < n → Lib.countFrom [c] n l = l.count c
 | 0, l, h => by omega
 | n + 1, l, h => by
  have hu := up_beh c l
  rw [Lib.countFrom, index_while]
  cases hc : l.contains c with
  | false =>
   have : l.count c = 0 := List.count_eq_zero.2 (fun hm => by rw [List.contains_iff_mem.2 hm] at hc; cases hc)
   rw [this]; rfl
  | true =>
   have e := hu.1 hc
   have h0 : (((upB c l).length : Int) == -1) = false := beq_eq_false_iff_ne.2 (by omega)
   simp only [if_true, h0]
   have e1 : ((upB c l).length : Int).toNat + [c].length = (upB c l ++ [c]).length := by simp
   have e2 : l.drop ((upB c l).length + 1) = behB c l := by
    conv => lhs; arg 2; rw [e]
    rw [show (upB c l).length + 1 = (upB c l ++ [c]).length by simp, show upB c l ++ c :: behB c l = (upB c l ++ [c]) ++ behB c l by simp, List.drop_left']
    rfl
   have hl : (behB c l).length < n := by
    have := congrArg List.length e
    rw [List.length_append, List.length_cons] at this
    omega
   have e3 : ((upB c l).length : Int).toNat + [c].length = (upB c l).length + 1 := by simp
   rw [e3, e2, countFrom_one c n _ hl]
   conv => rhs; rw [e]
   rw [List.count_append, List.count_cons_self, List.count_eq_zero.2 hu.2.2]
   simp only [Bool.false_eq_true, if_false]
   omega
theorem map_no {a b : UInt8} {l : List UInt8} (h : a ∉ l) : (l.map fun x => if x = a then b else x) = l := by
 conv => rhs; rw [← List.map_id l]
 refine List.map_congr_left fun x hx => ?_
 by_cases e : x = a
 ·exact absurd (e ▸ hx) h
 rw [if_neg e]
 rfl
theorem replaceK_one (a b : UInt8) : ∀ (k : Nat) (l : List UInt8), l.count a ≤ k → Lib.replaceK [a] [b] k l = l.map fun x => if x = a then b else x
 | 0, l, h => by
  rw [Lib.replaceK, map_no (fun hm => by have := List.count_pos_iff.2 hm; omega)]
 | k + 1, l, h => by
  have hu := up_beh a l
  cases hc : l.contains a with
  | false =>
   rw [Lib.replaceK, index_while, hc, map_no (fun hm => by rw [List.contains_iff_mem.2 hm] at hc; cases hc)]
   rfl
  | true =>
   have e := hu.1 hc
   have hi : Lib.index l [a] = ((upB a l).length : Int) := by rw [index_while, hc]; rfl
   rw [Lib.replaceK_hit [a] [b] k l _ hi]
   have e2 : l.drop ((upB a l).length + [a].length) = behB a l := by
    conv => lhs; arg 2; rw [e]
    rw [show (upB a l).length + [a].length = (upB a l ++ [a]).length by simp, show upB a l ++ a :: behB a l = (upB a l ++ [a]) ++ behB a l by simp, List.drop_left']
    rfl
   have e3 : l.take (upB a l).length = upB a l := by
    conv => lhs; arg 2; rw [e]
    rw [List.take_left']
    rfl
   have hk : (behB a l).count a ≤ k := by
    have := congrArg (List.count a) e
    rw [List.count_append, List.count_cons_self] at this
    omega
   rw [e2, e3, replaceK_one a b k _ hk]
   conv => rhs; rw [e]
   rw [List.map_append, List.map_cons, if_pos rfl, map_no hu.2.2]
   simp
theorem replace_one {a b : UInt8} (h : a ≠ b) (l : List UInt8) : Lib.replaceAll l [a] [b] = l.map fun x => if x = a then b else x := by
 unfold Lib.replaceAll Lib.replace Lib.replaceNum Lib.count
 have h1 : (([a] : List UInt8) == [b]) = false := by simp [h]
 rw [h1, if_neg (by decide), if_pos (.inl (by decide)), countFrom_one a _ l (by omega), replaceK_one a b _ l (Nat.le_refl _)]
end Go.Proofs.YtjdnemjcjodboaaDoor
namespace Go.Proofs.YtjdnemjcjodboaaDoor
open Go.RowKit
theorem liteCut (c : UInt8) (s : ByteArray) (w : World) (hs : s.size ≤ 16777216) :
  Calls Tryd.prog 72 #[.string s, .string ⟨#[c]⟩] w fun e w' => e = .returned (.tuple #[.string ⟨(upB c s.data.toList).toArray⟩, .string ⟨(behB c s.data.toList).toArray⟩, .bool (s.data.toList.contains c)]) ∧ Below w.heap.size w w' := by
 have hi : Lib.indexByte s.data.toList c = if s.data.toList.contains c then ((upB c s.data.toList).length : Int) else -1 := by rw [← Lib.index_one, index_while]
 have CI : Hid (∀ W, CS 88 #[.string s, .string ⟨#[c]⟩] W (.int .i64 (Lib.indexByte s.data.toList c))) := fun W => (Tryd.stringslite_Index_one s c W).mono fun e w' h => ⟨h.1, h.2.symm⟩
 obtain ⟨h1, h2, _⟩ := up_beh c s.data.toList
 have hsl : s.data.toList.length = s.size := by simp
 cases hc : s.data.toList.contains c with
 | false =>
  obtain ⟨e1, e2⟩ := h2 hc
  rw [hi, hc] at CI
  rw [e1, e2, mk_data]
  clear hi h1 h2 e1 e2 hc hsl
  go_enter Tryd.func72, Tryd.ntmps72
  go_wp2_with fail
  refine (CI.out _).mono ?_
  rintro e w' ⟨rfl, rfl⟩
  go_wp2
  go_ret3
  exact ⟨rfl, Below.refl _ _⟩
 | true =>
  have e := h1 hc
  rw [hi, hc] at CI
  obtain ⟨k, hk⟩ : ∃ k, (upB c s.data.toList).length = k := ⟨_, rfl⟩
  have hlt : k + 1 ≤ s.size := by
   have := congrArg List.length e
   rw [List.length_append, List.length_cons, hk] at this
   omega
  have H1 : Hid (s.extract 0 k = ⟨(upB c s.data.toList).toArray⟩) := by
   show _ = _
   have : s.data.toList.take k = upB c s.data.toList := by
    conv => lhs; arg 2; rw [e]
    rw [← hk, List.take_left']
    rfl
   rw [← this, ← take_data, mk_data]
  have H2 : Hid (s.extract (k + 1) s.size = ⟨(behB c s.data.toList).toArray⟩) := by
   show _ = _
   have : s.data.toList.drop (k + 1) = behB c s.data.toList := by
    conv => lhs; arg 2; rw [e]
    have h3 : k + 1 = (upB c s.data.toList ++ [c]).length := by simp [hk]
    rw [h3, show upB c s.data.toList ++ c :: behB c s.data.toList = (upB c s.data.toList ++ [c]) ++ behB c s.data.toList by simp, List.drop_left']
    rfl
   rw [← this, ← drop_data, mk_data]
  rw [if_pos rfl, hk] at CI
  clear hi h1 h2 e hk hc hsl
  go_enter Tryd.func72, Tryd.ntmps72
  go_wp2_with fail
  refine (CI.out _).mono ?_
  rintro e w' ⟨rfl, rfl⟩
  go_wp2
  go_region
  all_goals (try go_wp2)
  all_goals go_ret3
  all_goals exact ⟨by rw [← H1.out, ← H2.out]; rfl, (Below.refl _ _).drew⟩
theorem implCutFree (c : UInt8) (s : ByteArray) (w : World) (hs : s.size ≤ 16777216) :
  Calls Tryd.prog 43 #[.string s, .string ⟨#[c]⟩] w fun e w' => e = .returned (.tuple #[.string ⟨(upB c s.data.toList).toArray⟩, .string ⟨(behB c s.data.toList).toArray⟩, .bool (s.data.toList.contains c)]) ∧ Below w.heap.size w w' := by
 have CC : Hid (∀ W, CB 72 #[.string s, .string ⟨#[c]⟩] W (.tuple #[.string ⟨(upB c s.data.toList).toArray⟩, .string ⟨(behB c s.data.toList).toArray⟩, .bool (s.data.toList.contains c)])) := fun W => liteCut c s W hs
 generalize (⟨(upB c s.data.toList).toArray⟩ : ByteArray) = A at CC ⊢
 generalize (⟨(behB c s.data.toList).toArray⟩ : ByteArray) = B at CC ⊢
 generalize s.data.toList.contains c = t at CC ⊢
 go_enter Tryd.func43, Tryd.ntmps43
 go_wp2_with fail
 refine (CC.out _).mono ?_
 rintro e w1 ⟨rfl, b1⟩
 go_wp2
 go_ret3
 exact ⟨rfl, b1⟩
end Go.Proofs.YtjdnemjcjodboaaDoor
namespace Go.Proofs.YtjdnemjcjodboaaDoor
open Go.RowKit
set_option linter.unusedVariables false
theorem count_13 (s : ByteArray) : Lib.countB s ⟨#[13]⟩ ≤ s.size := by
 unfold Lib.countB
 rw [show (⟨#[13]⟩ : ByteArray).data.toList = [13] from rfl]
 unfold Lib.count
 rw [countFrom_one 13 _ _ (by omega)]
 have := List.count_le_length (a := (13 : UInt8)) (l := s.data.toList)
 have e : s.data.toList.length = s.size := by simp
 omega
theorem implRobLines (s : ByteArray) (w : World) (hs : s.size ≤ 1099511627776) (hM : MaxI w) :
  Calls Tryd.prog 17 #[.string s] w fun e w' => ∃ v, e = .returned v ∧ w'.ownsRow w.heap.size 9 1 v (fieldsL (crS (cutS s)) 10).length (scells (fieldsL (crS (cutS s)) 10)) ∧ Below w.heap.size w w' := by
 have hcs := cutS_size s
 have CR : Hid (CB 42 #[.string (cutS s), .string ⟨#[13]⟩, .string ⟨#[10]⟩] w (.string (crS (cutS s)))) := by
  obtain ⟨m, hm⟩ := hM
  have hc := count_13 (cutS s)
  have h := Tryd.strings_ReplaceAll (cutS s) ⟨#[13]⟩ ⟨#[10]⟩ m w (by omega) hm (by decide) (by
   rw [show (⟨#[10]⟩ : ByteArray).size = 1 from rfl]
   omega)
  rw [show (⟨#[13]⟩ : ByteArray).data.toList = [13] from rfl, show (⟨#[10]⟩ : ByteArray).data.toList = [10] from rfl, replace_one (by decide)] at h
  exact h
 have CF : Hid (∀ W, Calls Tryd.prog 41 #[.string (crS (cutS s)), .int .u8 10] W fun e w' => ∃ v, e = .returned v ∧ w'.ownsRow W.heap.size 9 1 v (fieldsL (crS (cutS s)) 10).length (scells (fieldsL (crS (cutS s)) 10)) ∧ Below W.heap.size W w') := fun W => implFields (crS (cutS s)) 10 W (by rw [crS_size]; omega)
 clear hM
 have HT : Hid (s.extract 0 (min (s.size : Int) 20000).toNat = cutS s) := by
  refine ba_eq.2 ?_
  by_cases hb : s.size ≤ 20000
  ·rw [cutS_small hb, extract_list, List.drop_zero, take_all s _ (by omega)]
  rw [show (min (s.size : Int) 20000).toNat = 20000 by omega]
  rfl
 have CR2 : Hid (CB 42 #[.string (s.extract 0 (min (s.size : Int) 20000).toNat), .string ⟨#[13]⟩, .string ⟨#[10]⟩] w (.string (crS (cutS s)))) := by rw [HT.out]; exact CR
 clear HT CR
 generalize crS (cutS s) = T at *
 go_enter Tryd.func17, Tryd.ntmps17
 go_wp2_with fail
 refine CR2.out.mono ?_
 rintro e wa ⟨rfl, ba⟩
 go_wp2_with fail
 refine (CF.out _).mono ?_
 rintro e wb ⟨v, rfl, ob, bb⟩
 have B2 := ba.trans (bb.mono ba.size)
 have OB : Hid (wb.ownsRow w.heap.size 9 1 v (fieldsL T 10).length (scells (fieldsL T 10))) := ⟨ob.1, ob.2.imp id fun ⟨g, cap, cur, h1, h2, h3⟩ => ⟨g, cap, cur, h1, Nat.le_trans ba.size h2, h3⟩⟩
 clear ob bb ba
 go_wp2_with fail
 go_ret
 exact ⟨_, rfl, OB.out, B2⟩
theorem contains_rest (c : UInt8) : ∀ l : List UInt8, l.contains c = !(restC c l).isEmpty
 | [] => rfl
 | x :: l => by
  have ih := contains_rest c l
  unfold restC notB at ih ⊢
  rw [List.dropWhile_cons, List.contains_cons]
  by_cases h : x = c
  ·subst h; simp
  have h1 : (c == x) = false := beq_eq_false_iff_ne.2 (Ne.symm h)
  have h2 : (x != c) = true := by simp [h]
  rw [h1, Bool.false_or, ih, if_pos h2]
theorem implKeyValue (s : ByteArray) (w : World) (hs : s.size ≤ 1048576) :
  Calls Tryd.prog 18 #[.string s] w fun e w' => e = .returned (.tuple #[.string (keyV s), .string (valV s), .bool (hasK s.data.toList)]) ∧ Below w.heap.size w w' := by
 obtain ⟨T, hT⟩ : ∃ T : ByteArray, T = ⟨(headC 35 s.data.toList).toArray⟩ := ⟨_, rfl⟩
 obtain ⟨H, hH⟩ : ∃ H : ByteArray, H = ⟨(headC 58 T.data.toList).toArray⟩ := ⟨_, rfl⟩
 obtain ⟨R, hR⟩ : ∃ R : ByteArray, R = ⟨(restC 58 T.data.toList).tail.toArray⟩ := ⟨_, rfl⟩
 have hTl : T.data.toList = headC 35 s.data.toList := by rw [hT]
 have hHl : H.data.toList = headC 58 (headC 35 s.data.toList) := by rw [hH, ← hTl]
 have hRl : R.data.toList = (restC 58 (headC 35 s.data.toList)).tail := by rw [hR, ← hTl]
 have sz : ∀ x : ByteArray, x.data.toList.length = x.size := fun x => by simp
 have hTs : T.size ≤ 1048576 := by
  have h1 := (List.takeWhile_prefix (notB 35) (l := s.data.toList)).length_le
  have h2 := congrArg List.length hTl
  unfold headC at h2
  rw [sz] at h1 h2
  omega
 have hHs : H.size ≤ 1048576 := by
  have h1 := (List.takeWhile_prefix (notB 58) (l := T.data.toList)).length_le
  have h2 := congrArg List.length hHl
  rw [← hTl] at h2
  unfold headC at h2
  rw [sz] at h1 h2
  omega
 have hRs : R.size ≤ 1048576 := by
  have h1 := (List.dropWhile_suffix (notB 58) (l := T.data.toList)).length_le
  have h2 := congrArg List.length hRl
  rw [← hTl] at h2
  unfold restC at h2
  rw [List.length_tail] at h2
  rw [sz] at h1 h2
  omega
 have CU1 : Hid (∀ W, Calls Tryd.prog 43 #[.string s, .string ⟨#[35]⟩] W fun e w' => ∃ Y t, e = .returned (.tuple #[.string T, .string Y, .bool t]) ∧ Below W.heap.size W w') := fun W => (implCutFree 35 s W (by omega)).mono fun e w' h => ⟨⟨(behB 35 s.data.toList).toArray⟩, s.data.toList.contains 35, by rw [hT]; exact h.1, h.2⟩
 have CU2 : Hid (∀ W, CB 43 #[.string T, .string ⟨#[58]⟩] W (.tuple #[.string H, .string R, .bool (hasK s.data.toList)])) := fun W => (implCutFree 58 T W (by omega)).mono fun e w' h => ⟨by
  rw [h.1, hH, hR, contains_rest, hTl]
  unfold behB hasK
  rw [List.drop_one]
  rfl, h.2⟩
 have hTr : (trV H).size ≤ 1048576 := by
  have h1 : (trV H).size = (Lib.trimS H.data.toList blanks4).length := List.size_toArray
  have h2 := trimS_le H.data.toList blanks4
  rw [sz] at h2
  omega
 have HKV : Hid (keyV s = ⟨(lowerL (trV H).data.toList).toArray⟩) := by
  show _ = _
  unfold keyV keyL trV
  rw [hHl]
 have HVV : Hid (trV R = valV s) := by
  show _ = _
  unfold valV valL trV
  rw [hRl]
 have CT1 : Hid (∀ W, CB 44 #[.string H] W (.string (trV H))) := fun W => implTrim H W (by omega)
 have CT2 : Hid (∀ W, CB 44 #[.string R] W (.string (valV s))) := fun W => by rw [← HVV.out]; exact implTrim R W (by omega)
 have CL : Hid (∀ W, CB 30 #[.string (trV H)] W (.string (keyV s))) := fun W => by rw [HKV.out]; exact implLower _ W hTr
 clear hT hH hR hTl hHl hRl sz HKV HVV hTr
 generalize trV H = TR at *
 generalize keyV s = KV at *
 generalize valV s = VV at *
 generalize hasK s.data.toList = HK at *
 go_enter Tryd.func18, Tryd.ntmps18
 go_wp2_with fail
 refine (CU1.out _).mono ?_
 rintro e w1 ⟨Y, t, rfl, b1⟩
 go_wp2_with fail
 refine (CU2.out _).mono ?_
 rintro e w2 ⟨rfl, b2⟩
 have B2 := b1.trans (b2.mono b1.size)
 clear b1 b2 CU1 CU2
 go_wp2_with fail
 refine (CT1.out _).mono ?_
 rintro e w3 ⟨rfl, b3⟩
 go_wp2_with fail
 refine (CL.out _).mono ?_
 rintro e w4 ⟨rfl, b4⟩
 go_wp2_with fail
 refine (CT2.out _).mono ?_
 rintro e w5 ⟨rfl, b5⟩
 have B5 := ((B2.trans (b3.mono B2.size)).trans (b4.mono (B2.trans (b3.mono B2.size)).size))
 have B6 := B5.trans (b5.mono B5.size)
 go_wp2_with fail
 go_ret3
 exact ⟨rfl, B6⟩
theorem specPatternOf (s : ByteArray) (w : World) (hs : s.size ≤ 4294967296) :
  Calls Tryd.prog 16 #[.string s] w fun e w' => e = .returned (.string ⟨(plL 2 s.data.toList).toArray⟩) ∧ Below w.heap.size w w' := by
 go_enter Tryd.func16, Tryd.ntmps16
 go_wp2
 go_loopw [3, 4] (fun v i wr => ∃ (k : Nat) (o : List UInt8), k ≤ s.size ∧ i = .int .i64 k ∧ o.length ≤ 3 * k ∧ wr.ownsRow w.heap.size 5 1 v o.length (bcells o) ∧ o ++ plL 2 (s.data.toList.drop k) = plL 2 s.data.toList ∧ Below w.heap.size w wr)
  (fun _ i _ => s.size - (intOf i).toNat)
 case atStart => exact ⟨0, [], Nat.zero_le _, rfl, Nat.zero_le _, World.ownsRow_lit w #[] 0 (Nat.le_refl _) (by decide) rfl, rfl, (Below.refl _ _).alloc (Nat.le_refl _) _⟩
 obtain ⟨k, o, hk, rfl, hol, hown, he, hbel⟩ := hrel
 have HE : Hid (o ++ plL 2 (s.data.toList.drop k) = plL 2 s.data.toList) := he
 clear he
 have hsz := hbel.size
 by_cases hlt : k < s.size
 ·have hct := fun W => specByte s k W hlt (by omega)
  have hcl := pctAt_le s k
  by_cases hc : 0 ≤ pctAt s k
  ·obtain ⟨n, hn⟩ := Int.eq_ofNat_of_zero_le hc
   have hk3 := pctAt_lt hc
   have HN : Hid ((o ++ freeB (UInt8.ofNat n)) ++ plL 2 (s.data.toList.drop (k + 3)) = plL 2 s.data.toList) := pl_hit 2 s k n hn o HE.out
   have HT : Hid ((UInt8.ofNat n).toNat = n) := by show _ = _; simp; omega
   have HF : Hid (freeB (UInt8.ofNat n) = if freeN n then [UInt8.ofNat n] else putB (UInt8.ofNat n)) := by show _ = _; unfold freeB; rw [HT.out]
   rw [hn] at hct hcl
   have hn1 : (n : Int) ≤ 255 := hcl.2
   have hn0 : 0 ≤ (n : Int) := by omega
   have HC : Hid (∀ W, CB 37 #[.string s, .int .i64 (k : Int)] W (.int .i64 (n : Int))) := hct
   clear hct hcl hc hn
   cases hf : freeN n with
   | true =>
    rw [hf, if_pos rfl] at HF
    rw [HF.out] at HN
    have ckk := fun (W : World) (_ : Below w.heap.size w W) => specFree (n : Int) W
    simp only [freeZ_nat, hf] at ckk
    have CK : Hid (∀ W, Below w.heap.size w W → CS 38 #[.int .i64 (n : Int)] W (.bool true)) := ckk
    have HX : Hid ((n : Int) = ((UInt8.ofNat n).toNat : Int)) := by show _ = _; rw [HT.out]
    clear ckk hf HF
    generalize UInt8.ofNat n = u at HN HT HX
    go_wp2_with fail
    refine (HC.out _).mono ?_
    rintro e wb ⟨rfl, bb⟩
    have ob := own_below hown bb
    have hsb := bb.size
    have Bb : Below w.heap.size w wb := hbel.trans (bb.mono hsz)
    clear bb hbel hown
    go_wp2_with fail
    refine (CK.out _ Bb).mono ?_
    rintro e w' ⟨rfl, rfl⟩
    go_wp2_with (at_builtin; refine wpList_append_new _ rfl _ _ 22 rfl w.heap.size 5 (.int .u8 0) 1 Tryd.underlying22 Tryd.info5 rfl _ _ _ rfl ob #[.int .u8 (n : Int)] 1 rfl rfl (byte_one _) (by omega) (by unfold maxLen; omega) (by omega) ?_)
    intro v' w1 hown' hb1
    have R := own_byte u HX.out hown'
    have B1 : Below w.heap.size w w1 := Bb.trans hb1
    clear hown' hb1 ob Bb
    go_wp2
    go_roundw
    case rel => exact ⟨k + 3, _, by omega, by go_num, by simp; omega, R, HN.out, B1⟩
    case measure => simp [intOf]; omega
   | false =>
    rw [hf, if_neg (by decide)] at HF
    rw [HF.out] at HN
    have ckk := fun (W : World) (_ : Below w.heap.size w W) => specFree (n : Int) W
    simp only [freeZ_nat, hf] at ckk
    have CK : Hid (∀ W, Below w.heap.size w W → CS 38 #[.int .i64 (n : Int)] W (.bool false)) := ckk
    clear ckk hf HF
    generalize UInt8.ofNat n = u at HN HT
    go_wp2_with fail
    refine (HC.out _).mono ?_
    rintro e wb ⟨rfl, bb⟩
    have ob := own_below hown bb
    have hsb := bb.size
    have Bb : Below w.heap.size w wb := hbel.trans (bb.mono hsz)
    clear bb hbel hown
    go_wp2_with fail
    refine (CK.out _ Bb).mono ?_
    rintro e w' ⟨rfl, rfl⟩
    go_wp2_with fail
    refine (specPut u n HT.out _ o w.heap.size _ ob (by omega) (by omega)).mono ?_
    rintro e w1 ⟨v', rfl, hown', hb1⟩
    have B1 : Below w.heap.size w w1 := Bb.trans hb1
    clear hb1 ob Bb
    go_wp2
    go_roundw
    case rel => exact ⟨k + 3, _, by omega, by go_num, by simp [putB]; omega, hown', HN.out, B1⟩
    case measure => simp [intOf]; omega
  have HN : Hid ((o ++ keptB 2 s[k]) ++ plL 2 (s.data.toList.drop (k + 1)) = plL 2 s.data.toList) := pl_miss 2 s k hlt o (by omega) HE.out
  obtain ⟨d, hd⟩ : ∃ d : Nat, s[k].toNat = d := ⟨_, rfl⟩
  have hd1 : (d : Int) ≤ 255 := by have := s[k].toNat_lt; omega
  have hd0 : 0 ≤ (d : Int) := by omega
  have HD : Hid (s[k].toNat = d) := hd
  have hkl := kept_len 2 s[k]
  generalize pctAt s k = c at hct hcl hc
  obtain ⟨hc0, hc1⟩ := hcl
  have HC : Hid (∀ W, CB 37 #[.string s, .int .i64 (k : Int)] W (.int .i64 c)) := hct
  clear hct
  have ckk := fun W => specKeeps 2 (d : Int) W
  simp only [keepZ_nat] at ckk
  cases hkp : keepN 2 d with
  | true =>
   rw [kept_yes (show keepN 2 s[k].toNat = true by rw [hd]; exact hkp)] at HN hkl
   rw [hkp] at ckk
   have CK : Hid (∀ W, CS 40 #[.int .i64 2, .int .i64 (d : Int)] W (.bool true)) := ckk
   have HX : Hid ((d : Int) = (s[k].toNat : Int)) := by show _ = _; rw [hd]
   clear ckk hkp
   go_wp2_with fail
   refine (HC.out _).mono ?_
   rintro e wb ⟨rfl, bb⟩
   have ob := own_below hown bb
   have hsb := bb.size
   have Bb : Below w.heap.size w wb := hbel.trans (bb.mono hsz)
   clear bb hbel hown
   go_wp2_with fail
   refine (CK.out _).mono ?_
   rintro e w' ⟨rfl, rfl⟩
   go_wp2_with (at_builtin; refine wpList_append_new _ rfl _ _ 22 rfl w.heap.size 5 (.int .u8 0) 1 Tryd.underlying22 Tryd.info5 rfl _ _ _ rfl ob #[.int .u8 (d : Int)] 1 rfl rfl (byte_one _) (by omega) (by unfold maxLen; omega) (by omega) ?_)
   intro v' w1 hown' hb1
   have R := own_byte s[k] HX.out hown'
   have B1 : Below w.heap.size w w1 := Bb.trans hb1
   clear hown' hb1 ob Bb
   go_wp2
   go_roundw
   case rel => exact ⟨k + 1, _, by omega, by go_num, by simp; omega, R, HN.out, B1⟩
   case measure => simp [intOf]; omega
  | false =>
   rw [kept_no (show keepN 2 s[k].toNat = false by rw [hd]; exact hkp)] at HN hkl
   rw [hkp] at ckk
   have CK : Hid (∀ W, CS 40 #[.int .i64 2, .int .i64 (d : Int)] W (.bool false)) := ckk
   clear ckk hkp
   go_wp2_with fail
   refine (HC.out _).mono ?_
   rintro e wb ⟨rfl, bb⟩
   have ob := own_below hown bb
   have hsb := bb.size
   have Bb : Below w.heap.size w wb := hbel.trans (bb.mono hsz)
   clear bb hbel hown
   go_wp2_with fail
   refine (CK.out _).mono ?_
   rintro e w' ⟨rfl, rfl⟩
   go_wp2_with fail
   refine (specPut s[k] d HD.out _ o w.heap.size _ ob (by omega) (by omega)).mono ?_
   rintro e w1 ⟨v', rfl, hown', hb1⟩
   have B1 : Below w.heap.size w w1 := Bb.trans hb1
   clear hb1 ob Bb
   go_wp2
   go_roundw
   case rel => exact ⟨k + 1, _, by omega, by go_num, by simp [putB]; omega, hown', HN.out, B1⟩
   case measure => simp [intOf]; omega
 have HO := run_string_own (P := Tryd.prog) wr 22 9 5 Tryd.underlying22 Tryd.underlying5 Tryd.underlying9 hown
 go_wp2
 go_ret
 exact ⟨ret_str (pl_end 2 s k (by omega) o HE.out), hbel⟩
end Go.Proofs.YtjdnemjcjodboaaDoor
namespace Go.Proofs.YtjdnemjcjodboaaDoor
open Go.RowKit
end Go.Proofs.YtjdnemjcjodboaaDoor
