/- UrlWay, TrimWalk, KeepSpec, PctWalk. -/
import Derived.Test.YtgmfkgeepecknaaGreatDoorQ16
import Derived.Lib.IndexMore
import Derived.Lib.IndexAny
import Derived.Lib.Replace
import Derived.Lib.LastIndexByte
set_option maxHeartbeats 2000000
namespace Go.Proofs.YtgmfkgeepecknaaGreatDoor
open Go.RowKit
set_option linter.unusedVariables false
def upB (c : UInt8) (l : List UInt8) : List UInt8 := l.takeWhile fun x => x != c
def behB (c : UInt8) (l : List UInt8) : List UInt8 := (l.dropWhile fun x => x != c).drop 1
theorem index_while (c : UInt8) : ∀ l : List UInt8, Lib.index l [c] = if l.contains c then ((upB c l).length : Int) else -1
 | [] => rfl
 | b :: l => by
  have ih := index_while c l
  unfold upB at ih ⊢
  unfold Lib.index
  by_cases h : b = c
  ·subst h
   simp
  have h1 : ([c].isPrefixOf (b :: l)) = false := by
   simp [List.isPrefixOf, Ne.symm h]
  have h2 : (b :: l).contains c = l.contains c := by
   simp [Ne.symm h]
  have h3 : (b != c) = true := bne_iff_ne.2 h
  rw [h1, h2, ih, List.takeWhile_cons, h3]
  cases hc : l.contains c
  ·simp
  have h4 : (((List.takeWhile (fun x => x != c) l).length : Int) == -1) = false := beq_eq_false_iff_ne.2 (by omega)
  simp [h4]
theorem up_beh (c : UInt8) (l : List UInt8) : (l.contains c = true → l = upB c l ++ c :: behB c l) ∧ (l.contains c = false → upB c l = l ∧ behB c l = []) ∧ c ∉ upB c l := by
 unfold upB behB
 induction l with
 | nil => simp
 | cons b l ih =>
  by_cases h : b = c
  ·subst h; simp
  have h3 : (b != c) = true := bne_iff_ne.2 h
  have h2 : (b :: l).contains c = l.contains c := by simp [Ne.symm h]
  rw [h2, List.takeWhile_cons, List.dropWhile_cons, h3]
  refine ⟨fun hc => ?_, fun hc => ?_, ?_⟩
  ·have := ih.1 hc
   simp only [if_true, List.cons_append, List.cons.injEq, true_and]
   exact this
  ·have := ih.2.1 hc
   simp only [if_true, this.1, this.2, and_self]
  simp only [if_true, List.mem_cons, not_or]
  exact ⟨Ne.symm h, ih.2.2⟩
theorem cut_one (c : UInt8) (l : List UInt8) : Lib.cut l [c] = (upB c l, behB c l, l.contains c) := by
 have h := up_beh c l
 unfold Lib.cut
 rw [index_while]
 cases hc : l.contains c with
 | false => rw [(h.2.1 hc).1, (h.2.1 hc).2]; rfl
 | true =>
  have e := h.1 hc
  simp only [if_true]
  rw [if_pos (by omega)]
  have e1 : ((upB c l).length : Int).toNat = (upB c l).length := by omega
  rw [e1]
  refine Prod.ext ?_ (Prod.ext ?_ rfl)
  ·show l.take _ = _
   conv => lhs; arg 2; rw [e]
   rw [List.take_left']
   rfl
  show l.drop _ = _
  conv => lhs; arg 2; rw [e]
  have : (upB c l).length + [c].length = (upB c l ++ [c]).length := by simp
  rw [this, show upB c l ++ c :: behB c l = (upB c l ++ [c]) ++ behB c l by simp, List.drop_left']
  rfl
theorem countFrom_one (c : UInt8) : ∀ (n : Nat) (l : List UInt8), l.length < n → Lib.countFrom [c] n l = l.count c
 | 0, l, h => by omega
 | n + 1, l, h => by
  have hu := up_beh c l
  rw [Lib.countFrom, index_while]
  cases hc : l.contains c with
  | false =>
   have : l.count c = 0 := List.count_eq_zero.2 (fun hm => by rw [List.contains_iff_mem.2 hm] at hc; cases hc)
   rw [this]; rfl
  | true =>
   have e := hu.1 hc
   have h0 : (((upB c l).length : Int) == -1) = false := beq_eq_false_iff_ne.2 (by omega)
   simp only [if_true, h0]
   have e1 : ((upB c l).length : Int).toNat + [c].length = (upB c l ++ [c]).length := by simp
   have e2 : l.drop ((upB c l).length + 1) = behB c l := by
    conv => lhs; arg 2; rw [e]
    rw [show (upB c l).length + 1 = (upB c l ++ [c]).length by simp, show upB c l ++ c :: behB c l = (upB c l ++ [c]) ++ behB c l by simp, List.drop_left']
    rfl
   have hl : (behB c l).length < n := by
    have := congrArg List.length e
    rw [List.length_append, List.length_cons] at this
    omega
   have e3 : ((upB c l).length : Int).toNat + [c].length = (upB c l).length + 1 := by simp
   rw [e3, e2, countFrom_one c n _ hl]
   conv => rhs; rw [e]
   rw [List.count_append, List.count_cons_self, List.count_eq_zero.2 hu.2.2]
   simp only [Bool.false_eq_true, if_false]
   omega
theorem map_no {a b : UInt8} {l : List UInt8} (h : a ∉ l) : (l.map fun x => if x = a then b else x) = l := by
 conv => rhs; rw [← List.map_id l]
 refine List.map_congr_left fun x hx => ?_
 by_cases e : x = a
 ·exact absurd (e ▸ hx) h
 rw [if_neg e]
 rfl
theorem replaceK_one (a b : UInt8) : ∀ (k : Nat) (l : List UInt8), l.count a ≤ k → Lib.replaceK [a] [b] k l = l.map fun x => if x = a then b else x
 | 0, l, h => by
  rw [Lib.replaceK, map_no (fun hm => by have := List.count_pos_iff.2 hm; omega)]
 | k + 1, l, h => by
  have hu := up_beh a l
  cases hc : l.contains a with
  | false =>
   rw [Lib.replaceK, index_while, hc, map_no (fun hm => by rw [List.contains_iff_mem.2 hm] at hc; cases hc)]
   rfl
  | true =>
   have e := hu.1 hc
   have hi : Lib.index l [a] = ((upB a l).length : Int) := by rw [index_while, hc]; rfl
   rw [Lib.replaceK_hit [a] [b] k l _ hi]
   have e2 : l.drop ((upB a l).length + [a].length) = behB a l := by
    conv => lhs; arg 2; rw [e]
    rw [show (upB a l).length + [a].length = (upB a l ++ [a]).length by simp, show upB a l ++ a :: behB a l = (upB a l ++ [a]) ++ behB a l by simp, List.drop_left']
    rfl
   have e3 : l.take (upB a l).length = upB a l := by
    conv => lhs; arg 2; rw [e]
    rw [List.take_left']
    rfl
   have hk : (behB a l).count a ≤ k := by
    have := congrArg (List.count a) e
    rw [List.count_append, List.count_cons_self] at this
    omega
   rw [e2, e3, replaceK_one a b k _ hk]
   conv => rhs; rw [e]
   rw [List.map_append, List.map_cons, if_pos rfl, map_no hu.2.2]
   simp
theorem replace_one {a b : UInt8} (h : a ≠ b) (l : List UInt8) : Lib.replaceAll l [a] [b] = l.map fun x => if x = a then b else x := by
 unfold Lib.replaceAll Lib.replace Lib.replaceNum Lib.count
 have h1 : (([a] : List UInt8) == [b]) = false := by simp [h]
 rw [h1, if_neg (by decide), if_pos (.inl (by decide)), countFrom_one a _ l (by omega), replaceK_one a b _ l (Nat.le_refl _)]
theorem any_while (chars : List UInt8) (p : UInt8 → Bool) (hp : ∀ c, chars.contains c = !p c) : ∀ l : List UInt8, Lib.indexAny l chars = if l.all p then -1 else ((l.takeWhile p).length : Int)
 | [] => rfl
 | b :: l => by
  have ih := any_while chars p hp l
  unfold Lib.indexAny
  rw [hp b, List.all_cons, List.takeWhile_cons]
  cases hb : p b with
  | false => rfl
  | true =>
   rw [ih]
   cases hl : l.all p
   ·have h4 : (((l.takeWhile p).length : Int) == -1) = false := beq_eq_false_iff_ne.2 (by omega)
    simp [h4]
   simp
theorem while_take (p : UInt8 → Bool) (l : List UInt8) : l.take (l.takeWhile p).length = l.takeWhile p ∧ l.drop (l.takeWhile p).length = l.dropWhile p := by
 have e := List.takeWhile_append_dropWhile (p := p) (l := l)
 constructor
 ·conv => lhs; arg 2; rw [← e]
  rw [List.take_left']
  rfl
 conv => lhs; arg 2; rw [← e]
 rw [List.drop_left']
 rfl
theorem all_while (p : UInt8 → Bool) : ∀ l : List UInt8, l.all p = true → l.takeWhile p = l ∧ l.dropWhile p = []
 | [], _ => ⟨rfl, rfl⟩
 | b :: l, h => by
  rw [List.all_cons, Bool.and_eq_true] at h
  have ih := all_while p l h.2
  rw [List.takeWhile_cons, List.dropWhile_cons, h.1]
  simp [ih.1, ih.2]
theorem filter_while (p q : UInt8 → Bool) (h : ∀ c, q c = false → p c = true) : ∀ l : List UInt8, (l.filter p).takeWhile q = (l.takeWhile q).filter p
 | [] => rfl
 | b :: l => by
  have ih := filter_while p q h l
  rw [List.filter_cons, List.takeWhile_cons]
  cases hq : q b with
  | false => rw [h b hq]; simp [hq]
  | true =>
   cases hp : p b with
   | false => simp [hp, ih]
   | true => simp [hp, hq, ih]
def brkB (c : UInt8) : Bool := c != 9 && c != 10 && c != 13
theorem clean_way (l : List UInt8) : cleanL l = upB 35 ((Lib.trimS l blanksU).filter brkB) := by
 unfold cleanL upB
 rw [filter_while brkB (fun x => x != 35) (fun c h => by
  have : c = 35 := by simpa using h
  subst this
  decide)]
 rfl
def schNm (l : List UInt8) : Int := if lowerL l = [104, 116, 116, 112] then 1 else if lowerL l = [104, 116, 116, 112, 115] then 2 else 0
theorem low58 (c : UInt8) (h : c ≠ 58) : lowerC c ≠ 58 := by
 have key : ∀ n : Nat, n < 256 → n ≠ 58 → lowerC (UInt8.ofNat n) ≠ 58 := by decide +kernel
 have h1 := key c.toNat c.toNat_lt (fun e => h (UInt8.toNat_inj.1 e))
 simpa using h1
theorem low58' : lowerC 58 = 58 := by decide
theorem low_take {nm be : List UInt8} (hn : 58 ∉ nm) : (((lowerL (nm ++ 58 :: be)).take 5 = httpL) ↔ lowerL nm = [104, 116, 116, 112]) ∧ (((lowerL (nm ++ 58 :: be)).take 6 = httpsL) ↔ lowerL nm = [104, 116, 116, 112, 115]) := by
 have hm : ∀ c ∈ nm, lowerC c ≠ 58 := fun c hc => low58 c (fun e => hn (e ▸ hc))
 unfold lowerL httpL httpsL
 match nm, hm with
 | [], _ => simp [low58']
 | [a], hm => simp [low58']
 | [a, b], hm => simp [low58']
 | [a, b, c], hm => simp [low58']
 | [a, b, c, d], hm =>
  have := hm d (by simp)
  simp [low58']
 | [a, b, c, d, e], hm =>
  have := hm e (by simp)
  simp [low58', this]
 | a :: b :: c :: d :: e :: f :: r, hm =>
  have h1 := hm e (by simp)
  have h2 := hm f (by simp)
  simp [h1, h2]
theorem two_slashes (be : List UInt8) : (2 ≤ be.length - (be.dropWhile slB).length) ↔ (1 < be.length ∧ slB (be.getD 0 0) = true ∧ slB (be.getD 1 0) = true) := by
 have key : ∀ l : List UInt8, (l.dropWhile slB).length ≤ l.length := fun l => (List.dropWhile_suffix slB).length_le
 match be with
 | [] => simp
 | [a] =>
  have h1 : ([a].dropWhile slB).length ≤ 1 := key [a]
  simp
  omega
 | a :: b :: r =>
  have hr := key r
  cases ha : slB a with
  | false => simp [ha]
  | true =>
   cases hb : slB b with
   | false => simp [ha, hb]
   | true => simp [ha, hb]; omega
theorem scheme_way (t : List UInt8) : schemeL t = if schNm (upB 58 t) = 0 ∨ (behB 58 t).length - ((behB 58 t).dropWhile slB).length < 2 then none else some (schNm (upB 58 t), behB 58 t) := by
 have hu := up_beh 58 t
 cases hc : t.contains 58 with
 | false =>
  rw [(hu.2.1 hc).2, if_pos (.inr (by simp))]
  have hn : ∀ k, (58 : UInt8) ∉ (lowerL t).take k := fun k hm => by
   have h1 := List.mem_of_mem_take hm
   unfold lowerL at h1
   obtain ⟨c, h2, h3⟩ := List.mem_map.1 h1
   by_cases h4 : c = 58
   ·subst h4; rw [List.contains_iff_mem.2 h2] at hc; cases hc
   exact low58 c h4 h3
  unfold schemeL
  rw [if_neg (fun h => hn 5 (by rw [h.2.1]; decide)), if_neg (fun h => hn 6 (by rw [h.2.1]; decide))]
 | true =>
  have e := hu.1 hc
  obtain ⟨h5, h6⟩ := low_take (be := behB 58 t) hu.2.2
  rw [← e] at h5 h6
  have hw := two_slashes (behB 58 t)
  generalize upB 58 t = nm at *
  generalize behB 58 t = be at *
  unfold schemeL schNm
  have hlen : (lowerL nm).length = nm.length := by simp [lowerL]
  by_cases g5 : lowerL nm = [104, 116, 116, 112]
  ·have hn4 : nm.length = 4 := by rw [← hlen, g5]; rfl
   have ht : t.length = 5 + be.length := by rw [e, List.length_append, List.length_cons, hn4]; omega
   have hd : t.drop 5 = be := by rw [e, show 5 = (nm ++ [58]).length by simp [hn4], show nm ++ 58 :: be = (nm ++ [58]) ++ be by simp, List.drop_left']; rfl
   have hg : ∀ i, t.getD (5 + i) 0 = be.getD i 0 := fun i => by
    rw [← hd, List.getD_eq_getElem?_getD, List.getD_eq_getElem?_getD, List.getElem?_drop]
   have h0 := hg 0
   have h1 := hg 1
   simp only [Nat.add_zero] at h0 h1
   have hne : ¬ (lowerL t).take 6 = httpsL := fun h => by
    have := h6.1 h
    rw [g5] at this
    cases this
   rw [if_pos g5, h0, show t.getD 6 0 = be.getD 1 0 from h1, ht, hd]
   by_cases hp : 1 < be.length ∧ slB (be.getD 0 0) = true ∧ slB (be.getD 1 0) = true
   ·rw [if_pos ⟨by omega, h5.2 g5, hp.2⟩, if_neg (by have := hw.2 hp; omega)]
   rw [if_neg (fun h => hp ⟨by omega, h.2.2⟩), if_neg (fun h => hne h.2.1), if_pos (.inr (by have := mt hw.1 hp; omega))]
  rw [if_neg g5, if_neg (fun h => g5 (h5.1 h.2.1))]
  by_cases g6 : lowerL nm = [104, 116, 116, 112, 115]
  ·have hn4 : nm.length = 5 := by rw [← hlen, g6]; rfl
   have ht : t.length = 6 + be.length := by rw [e, List.length_append, List.length_cons, hn4]; omega
   have hd : t.drop 6 = be := by rw [e, show 6 = (nm ++ [58]).length by simp [hn4], show nm ++ 58 :: be = (nm ++ [58]) ++ be by simp, List.drop_left']; rfl
   have hg : ∀ i, t.getD (6 + i) 0 = be.getD i 0 := fun i => by
    rw [← hd, List.getD_eq_getElem?_getD, List.getD_eq_getElem?_getD, List.getElem?_drop]
   have h0 := hg 0
   have h1 := hg 1
   simp only [Nat.add_zero] at h0 h1
   rw [if_pos g6, h0, show t.getD 7 0 = be.getD 1 0 from h1, ht, hd]
   by_cases hp : 1 < be.length ∧ slB (be.getD 0 0) = true ∧ slB (be.getD 1 0) = true
   ·rw [if_pos ⟨by omega, h6.2 g6, hp.2⟩, if_neg (by have := hw.2 hp; omega)]
   rw [if_neg (fun h => hp ⟨by omega, h.2.2⟩), if_pos (.inr (by have := mt hw.1 hp; omega))]
  rw [if_neg g6, if_neg (fun h => g6 (h6.1 h.2.1)), if_pos (.inl rfl)]
theorem last_way (A : ByteArray) : ∀ k, k ≤ A.size → (Lib.lastIdx A 93 k = -1 ∧ lastB A.data.toList k = 0) ∨ ∃ i, i < k ∧ Lib.lastIdx A 93 k = (i : Int) ∧ lastB A.data.toList k = i ∧ A.data.toList[i]? = some 93
 | 0, _ => .inl ⟨rfl, rfl⟩
 | k + 1, h => by
  have ih := last_way A k (by omega)
  have hk : k < A.data.size := h
  have e1 : A.data[k]! = A.data.toList.getD k 0 := by
   rw [getElem!_pos A.data k hk, List.getD_eq_getElem?_getD, List.getElem?_eq_getElem (by simpa using hk)]
   simp
  have e2 : A.data.toList[k]? = some (A.data.toList.getD k 0) := by
   rw [List.getD_eq_getElem?_getD, List.getElem?_eq_getElem (by simpa using hk)]
   rfl
  unfold Lib.lastIdx lastB
  rw [e1]
  by_cases h9 : A.data.toList.getD k 0 = 93
  ·rw [if_pos h9, if_pos (by rw [h9]; rfl)]
   exact .inr ⟨k, by omega, rfl, rfl, by rw [e2, h9]⟩
  rw [if_neg h9, if_neg (fun h => h9 (UInt8.toNat_inj.1 (by show _ = 93; omega)))]
  rcases ih with h | ⟨i, h1, h2⟩
  ·exact .inl h
  exact .inr ⟨i, by omega, h2⟩
def frB (A : ByteArray) : Nat := (Lib.lastIndexByte A 93 + 1).toNat
theorem fr_le (A : ByteArray) : frB A ≤ A.size ∧ Lib.lastIndexByte A 93 + 1 = (frB A : Int) := by
 unfold frB Lib.lastIndexByte
 rcases last_way A A.size (Nat.le_refl _) with ⟨h1, _⟩ | ⟨i, h1, h2, _⟩
 ·rw [h1]; exact ⟨by simp, by decide⟩
 rw [h2]; exact ⟨by omega, by omega⟩
theorem col_fr (A : ByteArray) : colI A.data.toList = ((A.data.toList.drop (frB A)).findIdx? fun c => c == 58).map fun k => k + frB A := by
 have hz : A.data.toList.length = A.size := by simp
 unfold colI
 rw [hz]
 rcases last_way A A.size (Nat.le_refl _) with ⟨h1, h2⟩ | ⟨i, h1, h2, h3, h4⟩
 ·have : frB A = 0 := by unfold frB Lib.lastIndexByte; rw [h1]; rfl
  rw [this, h2]
 have hf : frB A = i + 1 := by unfold frB Lib.lastIndexByte; rw [h2]; omega
 have hd : A.data.toList.drop i = 93 :: A.data.toList.drop (i + 1) := by
  have hi : i < A.data.toList.length := by omega
  rw [List.drop_eq_getElem_cons hi]
  rw [List.getElem?_eq_getElem hi] at h4
  injection h4 with h4
  rw [h4]
 rw [h3, hf, hd, List.findIdx?_cons]
 have h9 : ((93 : UInt8) == 58) = false := by decide
 simp only [h9]
 cases (A.data.toList.drop (i + 1)).findIdx? fun c => c == 58 with
 | none => rfl
 | some j => show some (j + 1 + i) = some (j + (i + 1)); congr 1; omega
theorem find_up : ∀ l : List UInt8, (l.findIdx? (fun c => c == 58) = none ∧ upB 58 l = l ∧ behB 58 l = []) ∨ ∃ j, l.findIdx? (fun c => c == 58) = some j ∧ upB 58 l = l.take j ∧ behB 58 l = l.drop (j + 1)
 | [] => .inl ⟨rfl, rfl, rfl⟩
 | b :: l => by
  have ih := find_up l
  unfold upB behB at ih ⊢
  rw [List.findIdx?_cons, List.takeWhile_cons, List.dropWhile_cons]
  by_cases h : b = 58
  ·subst h
   exact .inr ⟨0, by simp⟩
  have h1 : (b == 58) = false := beq_eq_false_iff_ne.2 h
  have h2 : (b != 58) = true := bne_iff_ne.2 h
  rw [h1, h2]
  rcases ih with ⟨h3, h4, h5⟩ | ⟨j, h3, h4, h5⟩
  ·rw [h3]; exact .inl ⟨rfl, by simp [h4], by simpa using h5⟩
  rw [h3]; exact .inr ⟨j + 1, rfl, by simp [h4], by simpa using h5⟩
def hoB (A : ByteArray) : List UInt8 := A.data.toList.take (frB A) ++ upB 58 (A.data.toList.drop (frB A))
def poB (A : ByteArray) : List UInt8 := behB 58 (A.data.toList.drop (frB A))
theorem cut_way {s : Int} (hs : s = 1 ∨ s = 2) (A : ByteArray) (r : List UInt8) : cutU s A.data.toList r = if 1 ≤ portN s (poB A) ∧ portN s (poB A) ≤ 65535 then hostU s (portN s (poB A)) (hoB A) r else (5, noneU) := by
 unfold cutU
 rw [col_fr A]
 unfold poB hoB
 rcases find_up (A.data.toList.drop (frB A)) with ⟨h1, h2, h3⟩ | ⟨j, h1, h2, h3⟩
 ·rw [h1, h2, h3, List.take_append_drop]
  have hd : 1 ≤ portN s [] ∧ portN s [] ≤ 65535 := by rcases hs with rfl | rfl <;> decide
  rw [if_pos hd]
  rfl
 rw [h1, h2, h3]
 have e1 : A.data.toList.take (frB A) ++ (A.data.toList.drop (frB A)).take j = A.data.toList.take (j + frB A) := by rw [Nat.add_comm j, List.take_add]
 have e2 : (A.data.toList.drop (frB A)).drop (j + 1) = A.data.toList.drop (j + frB A + 1) := by rw [List.drop_drop]; congr 1; omega
 rw [e1, e2]
 rfl
theorem plain_ok {set : Int} (h : set = 1 ∨ set = 2) (l : List UInt8) (hp : plL set l = l) : okL set l = true := by
 rw [← hp]
 rcases h with rfl | rfl
 ·exact ok_pl 1 (by decide) l
 exact ok_pl 2 (by decide) l
def paOk (a : ByteArray) : Bool := rooted a && (decide (plB 1 a = a) && decide (dropT a = a))
def quOk (r : ByteArray) (q : Bool) : Bool := decide (plB 2 r = r) && (q || decide (r.size = 0))
theorem plB_eq (set : Int) (a : ByteArray) : (plB set a = a) ↔ plL set (toL a) = toL a := ⟨fun h => congrArg toL h, fun h => toL_inj h⟩
theorem ok_way (u : UV) : uOk u = (decide (dport u.s ≠ 0) && (hOk u.h && (decide (1 ≤ u.p ∧ u.p ≤ 65535) && (paOk u.a && quOk u.r u.q)))) := by
 unfold uOk paOk quOk
 have e1 : decide (plB 1 u.a = u.a) = decide (plL 1 (toL u.a) = toL u.a) := decide_eq_decide.2 (plB_eq 1 u.a)
 have e2 : decide (plB 2 u.r = u.r) = decide (plL 2 (toL u.r) = toL u.r) := decide_eq_decide.2 (plB_eq 2 u.r)
 have e3 : decide (dropT u.a = u.a) = decide (toL (dropT u.a) = toL u.a) := decide_eq_decide.2 ⟨fun h => congrArg toL h, fun h => toL_inj h⟩
 rw [e1, e2, e3]
 by_cases h1 : plL 1 (toL u.a) = toL u.a
 ·by_cases h2 : plL 2 (toL u.r) = toL u.r
  ·rw [plain_ok (.inl rfl) _ h1, plain_ok (.inr rfl) _ h2, decide_eq_true h1, decide_eq_true h2]
   simp only [Bool.and_true, Bool.true_and]
   simp only [Bool.and_assoc]
   congr 1; congr 1; congr 1; congr 1
   rw [Bool.and_comm]
  rw [decide_eq_false h2]; simp
 rw [decide_eq_false h1]; simp
end Go.Proofs.YtgmfkgeepecknaaGreatDoor
namespace Go.Proofs.YtgmfkgeepecknaaGreatDoor
open Go.RowKit
def blanks4 : List UInt8 := [32, 9, 10, 13]
def isBlank (c : UInt8) : Prop := c.toNat = 32 ∨ c.toNat = 9 ∨ c.toNat = 10 ∨ c.toNat = 13
theorem blank_yes {c : UInt8} (h : isBlank c) : blanks4.contains c = true := by
 rcases h with h | h | h | h
 ·rw [show c = 32 from UInt8.toNat_inj.1 (by rw [h]; rfl)]; rfl
 ·rw [show c = 9 from UInt8.toNat_inj.1 (by rw [h]; rfl)]; rfl
 ·rw [show c = 10 from UInt8.toNat_inj.1 (by rw [h]; rfl)]; rfl
 rw [show c = 13 from UInt8.toNat_inj.1 (by rw [h]; rfl)]; rfl
theorem blank_no {c : UInt8} (h : ¬ isBlank c) : blanks4.contains c = false := by
 unfold isBlank at h
 simp only [blanks4, List.contains_cons, List.contains_nil, Bool.or_false, Bool.or_eq_false_iff, beq_eq_false_iff_ne, ne_eq]
 refine ⟨?_, ?_, ?_, ?_⟩ <;> (intro e; subst e; exact h (by decide))
theorem trim_eq (s : ByteArray) (a b : Nat) (hab : a ≤ b) (hb : b ≤ s.size) (h1 : ∀ j, (hj : j < s.size) → j < a → isBlank s[j]) (h2 : ∀ h : a < b, ¬ isBlank s[a]) (h3 : ∀ j, (hj : j < s.size) → b ≤ j → isBlank s[j]) (h4 : ∀ h : a < b, ¬ isBlank s[b - 1]) :
  s.extract a b = ⟨(Lib.trimS s.data.toList blanks4).toArray⟩ := by
 have hlen : s.data.toList.length = s.size := by simp
 have at' : ∀ (j : Nat) x, s.data.toList[j]? = some x → ∃ hj : j < s.size, s[j] = x := by
  intro j x hx
  obtain ⟨hj, he⟩ := List.getElem?_eq_some_iff.1 hx
  exact ⟨by omega, he⟩
 have key : Lib.trimS s.data.toList blanks4 = (s.data.toList.take b).drop a := by
  unfold Lib.trimS
  by_cases hlt : a < b
  ·have e : Lib.trimRightS s.data.toList blanks4 = s.data.toList.take b := by
    refine Lib.trimRightS_take _ _ b (by omega) (fun j x hj hx => ?_) (fun x _ hx => ?_)
    ·obtain ⟨hj', rfl⟩ := at' j x hx
     exact blank_yes (h3 j hj' hj)
    obtain ⟨_, rfl⟩ := at' _ x hx
    exact blank_no (h4 hlt)
   rw [e]
   refine Lib.trimLeftS_drop _ _ a (by rw [List.length_take]; omega) (fun j x hj hx => ?_) (fun x hx => ?_)
   ·rw [List.getElem?_take, if_pos (by omega)] at hx
    obtain ⟨hj', rfl⟩ := at' j x hx
    exact blank_yes (h1 j hj' hj)
   rw [List.getElem?_take, if_pos hlt] at hx
   obtain ⟨_, rfl⟩ := at' a x hx
   exact blank_no (h2 hlt)
  have e : Lib.trimRightS s.data.toList blanks4 = s.data.toList.take 0 := by
   refine Lib.trimRightS_take _ _ 0 (by omega) (fun j x hj hx => ?_) (fun x h _ => by omega)
   obtain ⟨hj', rfl⟩ := at' j x hx
   rcases Nat.lt_or_ge j a with h | h
   ·exact blank_yes (h1 j hj' h)
   exact blank_yes (h3 j hj' (by omega))
  rw [e, List.drop_eq_nil_of_le (by rw [List.length_take]; omega)]
  rfl
 rw [key]
 apply ByteArray.ext
 rw [ByteArray.data_extract]
 apply Array.ext'
 rw [Array.toList_extract, List.drop_take]
theorem l1Blank_yes (c : UInt8) (w : World) (h : isBlank c) :
  Calls Tryz.prog 146 #[.int .u8 (c.toNat : Int)] w fun e w' => e = .returned (.bool true) ∧ w = w' := by
 by_cases a : (c.toNat : Int) = 32
 ·have a' : ((c.toNat : Int) == 32) = true := by simp [a]
  clear a h
  go_enter Tryz.func146, Tryz.ntmps146
  go_wp2
  go_ret
  exact ⟨rfl, rfl⟩
 have a' : ((c.toNat : Int) == 32) = false := by simp [a]
 by_cases b : (c.toNat : Int) = 9
 ·have b' : ((c.toNat : Int) == 9) = true := by simp [b]
  clear a b h
  go_enter Tryz.func146, Tryz.ntmps146
  go_wp2
  go_ret
  exact ⟨rfl, rfl⟩
 have b' : ((c.toNat : Int) == 9) = false := by simp [b]
 by_cases d : (c.toNat : Int) = 10
 ·have d' : ((c.toNat : Int) == 10) = true := by simp [d]
  clear a b d h
  go_enter Tryz.func146, Tryz.ntmps146
  go_wp2
  go_ret
  exact ⟨rfl, rfl⟩
 have d' : ((c.toNat : Int) == 10) = false := by simp [d]
 have e' : ((c.toNat : Int) == 13) = true := by
  unfold isBlank at h
  simp; omega
 clear a b d h
 go_enter Tryz.func146, Tryz.ntmps146
 go_wp2
 go_ret
 exact ⟨rfl, rfl⟩
theorem l1Blank_no (c : UInt8) (w : World) (h : ¬ isBlank c) :
  Calls Tryz.prog 146 #[.int .u8 (c.toNat : Int)] w fun e w' => e = .returned (.bool false) ∧ w = w' := by
 unfold isBlank at h
 have a' : ((c.toNat : Int) == 32) = false := by simp; omega
 have b' : ((c.toNat : Int) == 9) = false := by simp; omega
 have d' : ((c.toNat : Int) == 10) = false := by simp; omega
 have e' : ((c.toNat : Int) == 13) = false := by simp; omega
 clear h
 go_enter Tryz.func146, Tryz.ntmps146
 go_wp2
 go_ret
 exact ⟨rfl, rfl⟩
theorem specTrim (s : ByteArray) (w : World) (hs : s.size ≤ 1099511627776) :
  Calls Tryz.prog 98 #[.string s] w fun e w' => e = .returned (.string ⟨(Lib.trimS s.data.toList blanks4).toArray⟩) ∧ w = w' := by
 go_enter Tryz.func98, Tryz.ntmps98
 go_wp2
 go_loop [3] (fun i => ∃ k : Nat, k ≤ s.size ∧ i = .int .i64 k ∧ ∀ j, (hj : j < s.size) → j < k → isBlank s[j]) (fun i => s.size - (intOf i).toNat)
 case atStart => exact ⟨0, Nat.zero_le _, rfl, fun j _ h => by omega⟩
 obtain ⟨k, hk, rfl, hall⟩ := hrel
 have HA : Hid (∀ j, (hj : j < s.size) → j < k → isBlank s[j]) := hall
 clear hall
 by_cases hlt : k < s.size
 ·by_cases hb : isBlank s[k]
  ·have HB : Hid (isBlank s[k]) := hb
   clear hb
   go_wp2_with (go_at_call 146; refine (l1Blank_yes _ _ HB.out).mono ?_; rintro e w' ⟨rfl, rfl⟩)
   go_round
   case rel =>
    refine ⟨k + 1, by omega, by go_num, fun j hj h => ?_⟩
    by_cases e : j = k
    ·subst e; exact HB.out
    exact HA.out j hj (by omega)
   case measure => simp [intOf]; omega
  have HB : Hid (∀ h : k < s.size, ¬ isBlank s[k]) := fun _ => hb
  have HB1 : Hid (¬ isBlank s[k]) := hb
  clear hb
  go_wp2_with (go_at_call 146; refine (l1Blank_no _ _ HB1.out).mono ?_; rintro e w' ⟨rfl, rfl⟩)
  go_loop [4] (fun i => ∃ m : Nat, k < m ∧ m ≤ s.size ∧ i = .int .i64 m ∧ ∀ j, (hj : j < s.size) → m ≤ j → isBlank s[j]) (fun i => (intOf i).toNat)
  case atStart => exact ⟨s.size, hlt, Nat.le_refl _, rfl, fun j hj h => by omega⟩
  obtain ⟨m, hkm, hm, rfl, hall⟩ := hrel
  have HC : Hid (∀ j, (hj : j < s.size) → m ≤ j → isBlank s[j]) := hall
  clear hall
  have hm1 : m - 1 < s.size := by omega
  have hcast : ((m : Int) - 1) = ((m - 1 : Nat) : Int) := by omega
  by_cases hb : isBlank s[m - 1]
  ·have HD : Hid (isBlank s[m - 1]) := hb
   have hne : k < m - 1 := by
    rcases Nat.lt_or_ge k (m - 1) with h | h
    ·exact h
    have e : m - 1 = k := by omega
    have : isBlank s[k] := by simpa [e] using hb
    exact absurd this HB1.out
   clear hb
   go_wp2_with (go_at_call 146; refine (l1Blank_yes _ _ HD.out).mono ?_; rintro e w' ⟨rfl, rfl⟩)
   go_round
   case rel =>
    refine ⟨m - 1, hne, by omega, by go_num, fun j hj h => ?_⟩
    by_cases e : j = m - 1
    ·subst e; exact HD.out
    exact HC.out j hj (by omega)
   case measure => simp [intOf]; omega
  have HD : Hid (¬ isBlank s[m - 1]) := hb
  clear hb
  go_wp2_with (go_at_call 146; refine (l1Blank_no _ _ HD.out).mono ?_; rintro e w' ⟨rfl, rfl⟩)
  go_ret
  refine ⟨?_, rfl⟩
  exact congrArg (fun b : ByteArray => Ending.returned (.string b)) (trim_eq s k m (by omega) hm HA.out (fun _ => HB1.out) HC.out (fun _ => HD.out))
 have hks : k = s.size := by omega
 have HK : Hid (k = s.size) := hks
 clear hks
 go_wp2
 refine wp_loop_rounds 1 ?_
 rw [rounds_succ]
 go_wp2
 go_ret
 refine ⟨?_, rfl⟩
 exact congrArg (fun b : ByteArray => Ending.returned (.string b)) (trim_eq s k s.size (by omega) (Nat.le_refl _) HA.out (fun h => by omega) (fun j hj h => by omega) (fun h => by omega))
theorem trimS_le (l cs : List UInt8) : (Lib.trimS l cs).length ≤ l.length := by
 have a : ∀ m : List UInt8, (m.dropWhile (cs.contains ·)).length ≤ m.length := fun m => (List.dropWhile_sublist _).length_le
 unfold Lib.trimS Lib.trimLeftS Lib.trimRightS
 refine Nat.le_trans (a _) ?_
 rw [List.length_reverse]
 refine Nat.le_trans (a _) ?_
 rw [List.length_reverse]
 exact Nat.le_refl _
theorem implTrim (s : ByteArray) (w : World) (hs : s.size ≤ 1099511627776) :
  Calls Tryz.prog 128 #[.string s] w fun e w' => e = .returned (.string ⟨(Lib.trimS s.data.toList blanks4).toArray⟩) ∧ Below w.heap.size w w' := by
 have hle : (⟨(Lib.trimS s.data.toList blanks4).toArray⟩ : ByteArray).size ≤ 281474976710656 := by
  have := trimS_le s.data.toList blanks4
  have e : (⟨(Lib.trimS s.data.toList blanks4).toArray⟩ : ByteArray).size = (Lib.trimS s.data.toList blanks4).length := by simp [ByteArray.size]
  have e2 : s.data.toList.length = s.size := by simp
  omega
 have ct := fun W => Any.strings_Trim_laid Tryz.lays160 (by kernel_rfl) s ⟨#[32, 9, 10, 13]⟩ W (by omega) (by decide) (ascii_of_all (by decide))
 have HT : Hid (∀ W, CB 179 #[.string s, .string ⟨#[32, 9, 10, 13]⟩] W (.string ⟨(Lib.trimS s.data.toList blanks4).toArray⟩)) := ct
 clear ct
 go_enter Tryz.func128, Tryz.ntmps128
 go_wp2_with fail
 refine (HT.out _).mono ?_
 rintro e wa ⟨rfl, ba⟩
 go_wp2_with fail
 refine (strClone _ _ hle).mono ?_
 rintro e wb ⟨rfl, bb⟩
 go_wp2
 go_ret
 exact ⟨rfl, ba.trans (bb.mono ba.size)⟩
def amongL (l : List UInt8) (c : Int) : Bool := l.any fun b => decide ((b.toNat : Int) = c)
theorem specAmong (s : ByteArray) (c : Int) (w : World) (hs : s.size ≤ 1048576) :
  Calls Tryz.prog 52 #[.string s, .int .i64 c] w fun e w' => e = .returned (.bool (amongL s.data.toList c)) ∧ w = w' := by
 go_enter Tryz.func52, Tryz.ntmps52
 go_wp2
 go_loop [5] (fun i => ∃ k : Nat, k ≤ s.size ∧ i = .int .i64 k ∧ amongL (s.data.toList.take k) c = false) (fun i => s.size - (intOf i).toNat)
 case atStart => exact ⟨0, Nat.zero_le _, rfl, rfl⟩
 obtain ⟨k, hk, rfl, hno⟩ := hrel
 have HN : Hid (amongL (s.data.toList.take k) c = false) := hno
 clear hno
 by_cases hlt : k < s.size
 ·obtain ⟨d, hd⟩ : ∃ d : Nat, s[k].toNat = d := ⟨_, rfl⟩
  have hd1 : (d : Int) ≤ 255 := by have := s[k].toNat_lt; omega
  by_cases he : (d : Int) = c
  ·have HV : Hid (amongL s.data.toList c = true) := by
    show _ = _
    unfold amongL
    refine List.any_eq_true.2 ⟨s[k], ?_, by rw [hd]; exact decide_eq_true he⟩
    have : s[k] ∈ s.data := Array.getElem_mem _
    simpa using this
   go_wp2
   go_ret
   exact ⟨ret_bool (by rw [HV.out]), rfl⟩
  have HN2 : Hid (amongL (s.data.toList.take (k + 1)) c = false) := by
   show _ = _
   have h := HN.out
   unfold amongL at h ⊢
   rw [take_snoc s k hlt, List.any_append, h]
   simp [hd, he]
  go_wp2
  go_round
  case rel => exact ⟨k + 1, by omega, by go_num, HN2.out⟩
  case measure => simp [intOf]; omega
 have HV : Hid (amongL s.data.toList c = false) := by
  show _ = _
  have h := HN.out
  rw [take_all s k (by omega)] at h
  exact h
 go_wp2
 go_ret
 exact ⟨ret_bool (by rw [HV.out]), rfl⟩
def freeZ (c : Int) : Bool := decide (0 ≤ c) && freeN c.toNat
def letterZ (c : Int) : Bool := decide (97 ≤ c ∧ c ≤ 122) || decide (65 ≤ c ∧ c ≤ 90)
theorem plain_eq (c : Int) : amongL [45, 46, 95, 126] c = (decide (0 ≤ c) && plainT c.toNat) := by
 rw [Bool.eq_iff_iff]
 simp [amongL, plainT]
 omega
theorem mark_eq (c : Int) : amongL [33, 36, 38, 39, 40, 41, 42, 43, 44, 59, 61, 58, 64] c = (decide (0 ≤ c) && markN c.toNat) := by
 rw [Bool.eq_iff_iff]
 simp [amongL, markN]
 omega
theorem free_eq (c : Int) : freeZ c = (letterZ c || decide (48 ≤ c ∧ c ≤ 57) || amongL [45, 46, 95, 126] c) := by
 rw [plain_eq, Bool.eq_iff_iff]
 simp [freeZ, letterZ, freeN, letterN, digitN, plainT]
 omega
theorem specLetter (c : Int) (w : World) : Calls Tryz.prog 120 #[.int .i64 c] w fun e w' => e = .returned (.bool (letterZ c)) ∧ w = w' := by
 by_cases h1 : 97 ≤ c ∧ c ≤ 122
 ·have HV : Hid (letterZ c = true) := by show _ = _; unfold letterZ; rw [decide_eq_true h1]; rfl
  have H1 : Hid (97 ≤ c ∧ c ≤ 122) := h1
  clear h1
  go_enter Tryz.func120, Tryz.ntmps120
  go_wp2_with fail
  refine (specL1In_yes _ _ _ _ H1.out.1 H1.out.2).mono ?_
  rintro e w' ⟨rfl, rfl⟩
  go_wp2
  go_ret
  exact ⟨ret_bool (by rw [HV.out]), rfl⟩
 have HV : Hid (letterZ c = decide (65 ≤ c ∧ c ≤ 90)) := by show _ = _; unfold letterZ; rw [decide_eq_false h1]; rfl
 have H1 : Hid (c < 97 ∨ 122 < c) := by show _ ∨ _; omega
 clear h1
 go_enter Tryz.func120, Tryz.ntmps120
 go_wp2_with fail
 refine (specL1In_no _ _ _ _ H1.out).mono ?_
 rintro e w' ⟨rfl, rfl⟩
 go_wp2_with fail
 refine (specL1In _ _ _ _).mono ?_
 rintro e w' ⟨rfl, rfl⟩
 generalize decide (65 ≤ c ∧ c ≤ 90) = b at HV
 go_wp2
 go_ret
 exact ⟨ret_bool (by rw [HV.out]), rfl⟩
theorem specFree (c : Int) (w : World) : Calls Tryz.prog 77 #[.int .i64 c] w fun e w' => e = .returned (.bool (freeZ c)) ∧ w = w' := by
 have HV : Hid (freeZ c = (letterZ c || decide (48 ≤ c ∧ c ≤ 57) || amongL [45, 46, 95, 126] c)) := free_eq c
 have cl := fun W => specLetter c W
 have ca := fun W => specAmong ⟨#[45, 46, 95, 126]⟩ c W (by decide)
 have CL : Hid (∀ W, CS 120 #[.int .i64 c] W (.bool (letterZ c))) := cl
 have CA : Hid (∀ W, CS 52 #[.string ⟨#[45, 46, 95, 126]⟩, .int .i64 c] W (.bool (amongL [45, 46, 95, 126] c))) := ca
 clear cl ca
 generalize letterZ c = b1 at HV CL
 generalize amongL [45, 46, 95, 126] c = b3 at HV CA
 cases b1 with
 | true =>
  go_enter Tryz.func77, Tryz.ntmps77
  go_wp2_with fail
  refine (CL.out _).mono ?_
  rintro e w' ⟨rfl, rfl⟩
  go_wp2
  go_ret
  exact ⟨ret_bool (by rw [HV.out]; rfl), rfl⟩
 | false =>
  by_cases h2 : 48 ≤ c ∧ c ≤ 57
  ·rw [decide_eq_true h2] at HV
   have H2 : Hid (48 ≤ c ∧ c ≤ 57) := h2
   clear h2
   go_enter Tryz.func77, Tryz.ntmps77
   go_wp2_with fail
   refine (CL.out _).mono ?_
   rintro e w' ⟨rfl, rfl⟩
   go_wp2_with fail
   refine (specL1In_yes _ _ _ _ H2.out.1 H2.out.2).mono ?_
   rintro e w' ⟨rfl, rfl⟩
   go_wp2
   go_ret
   exact ⟨ret_bool (by rw [HV.out]; rfl), rfl⟩
  rw [decide_eq_false h2] at HV
  have H2 : Hid (c < 48 ∨ 57 < c) := by show _ ∨ _; omega
  clear h2
  go_enter Tryz.func77, Tryz.ntmps77
  go_wp2_with fail
  refine (CL.out _).mono ?_
  rintro e w' ⟨rfl, rfl⟩
  go_wp2_with fail
  refine (specL1In_no _ _ _ _ H2.out).mono ?_
  rintro e w' ⟨rfl, rfl⟩
  go_wp2_with fail
  refine (CA.out _).mono ?_
  rintro e w' ⟨rfl, rfl⟩
  go_wp2
  go_ret
  exact ⟨ret_bool (by rw [HV.out]; rfl), rfl⟩
theorem keepZ_eq {set : Int} (h : 1 ≤ set ∧ set ≤ 3) (c : Int) : keepZ set c = (freeZ c || amongL [33, 36, 38, 39, 40, 41, 42, 43, 44, 59, 61, 58, 64] c || (decide (c = 47) && decide (set ≠ 3)) || (decide (c = 63) && decide (set = 2))) := by
 rw [mark_eq]
 unfold keepZ keepN freeZ
 rw [decide_eq_true h]
 by_cases h0 : 0 ≤ c
 ·have e1 : decide (c.toNat = 47) = decide (c = 47) := decide_eq_decide.2 (by omega)
  have e2 : decide (c.toNat = 63) = decide (c = 63) := decide_eq_decide.2 (by omega)
  rw [e1, e2, decide_eq_true h0]
  rfl
 have e1 : decide (c = 47) = false := decide_eq_false (by omega)
 have e2 : decide (c = 63) = false := decide_eq_false (by omega)
 rw [e1, e2, decide_eq_false h0]
 rfl
theorem specKeeps (set c : Int) (w : World) :
  Calls Tryz.prog 76 #[.int .i64 set, .int .i64 c] w fun e w' => e = .returned (.bool (keepZ set c)) ∧ w = w' := by
 by_cases h : 1 ≤ set ∧ set ≤ 3
 ·have HV : Hid (keepZ set c = _) := keepZ_eq h c
  have H1 : Hid (1 ≤ set ∧ set ≤ 3) := h
  clear h
  have cl := fun W => specFree c W
  have ca := fun W => specAmong ⟨#[33, 36, 38, 39, 40, 41, 42, 43, 44, 59, 61, 58, 64]⟩ c W (by decide)
  have CL : Hid (∀ W, CS 77 #[.int .i64 c] W (.bool (freeZ c))) := cl
  have CA : Hid (∀ W, CS 52 #[.string ⟨#[33, 36, 38, 39, 40, 41, 42, 43, 44, 59, 61, 58, 64]⟩, .int .i64 c] W (.bool (amongL [33, 36, 38, 39, 40, 41, 42, 43, 44, 59, 61, 58, 64] c))) := ca
  clear cl ca
  generalize freeZ c = b1 at HV CL
  generalize amongL [33, 36, 38, 39, 40, 41, 42, 43, 44, 59, 61, 58, 64] c = b2 at HV CA
  cases b1 with
  | true =>
   go_enter Tryz.func76, Tryz.ntmps76
   go_wp2_with fail
   refine (specL1In_yes _ _ _ _ H1.out.1 H1.out.2).mono ?_
   rintro e w' ⟨rfl, rfl⟩
   go_wp2_with fail
   refine (CL.out _).mono ?_
   rintro e w' ⟨rfl, rfl⟩
   go_wp2
   go_ret
   exact ⟨ret_bool (by rw [HV.out]; rfl), rfl⟩
  | false =>
   cases b2 with
   | true =>
    go_enter Tryz.func76, Tryz.ntmps76
    go_wp2_with fail
    refine (specL1In_yes _ _ _ _ H1.out.1 H1.out.2).mono ?_
    rintro e w' ⟨rfl, rfl⟩
    go_wp2_with fail
    refine (CL.out _).mono ?_
    rintro e w' ⟨rfl, rfl⟩
    go_wp2_with fail
    refine (CA.out _).mono ?_
    rintro e w' ⟨rfl, rfl⟩
    go_wp2
    go_ret
    exact ⟨ret_bool (by rw [HV.out]; rfl), rfl⟩
   | false =>
    by_cases hs : c = 47
    ·subst hs
     by_cases he : set = 3
     ·subst he
      go_enter Tryz.func76, Tryz.ntmps76
      go_wp2_with fail
      refine (specL1In_yes _ _ _ _ H1.out.1 H1.out.2).mono ?_
      rintro e w' ⟨rfl, rfl⟩
      go_wp2_with fail
      refine (CL.out _).mono ?_
      rintro e w' ⟨rfl, rfl⟩
      go_wp2_with fail
      refine (CA.out _).mono ?_
      rintro e w' ⟨rfl, rfl⟩
      go_wp2
      go_ret
      exact ⟨ret_bool (by first | (rw [HV.out]; simp) | (rw [HV.out]; decide) | decide), rfl⟩
     go_enter Tryz.func76, Tryz.ntmps76
     go_wp2_with fail
     refine (specL1In_yes _ _ _ _ H1.out.1 H1.out.2).mono ?_
     rintro e w' ⟨rfl, rfl⟩
     go_wp2_with fail
     refine (CL.out _).mono ?_
     rintro e w' ⟨rfl, rfl⟩
     go_wp2_with fail
     refine (CA.out _).mono ?_
     rintro e w' ⟨rfl, rfl⟩
     go_wp2
     go_ret
     exact ⟨ret_bool (by first | (rw [HV.out]; simp [he]) | (rw [HV.out]; decide) | decide), rfl⟩
    by_cases hq : c = 63
    ·subst hq
     by_cases he : set = 2
     ·subst he
      go_enter Tryz.func76, Tryz.ntmps76
      go_wp2_with fail
      refine (specL1In_yes _ _ _ _ H1.out.1 H1.out.2).mono ?_
      rintro e w' ⟨rfl, rfl⟩
      go_wp2_with fail
      refine (CL.out _).mono ?_
      rintro e w' ⟨rfl, rfl⟩
      go_wp2_with fail
      refine (CA.out _).mono ?_
      rintro e w' ⟨rfl, rfl⟩
      go_wp2
      go_ret
      exact ⟨ret_bool (by first | (rw [HV.out]; simp) | (rw [HV.out]; decide) | decide), rfl⟩
     go_enter Tryz.func76, Tryz.ntmps76
     go_wp2_with fail
     refine (specL1In_yes _ _ _ _ H1.out.1 H1.out.2).mono ?_
     rintro e w' ⟨rfl, rfl⟩
     go_wp2_with fail
     refine (CL.out _).mono ?_
     rintro e w' ⟨rfl, rfl⟩
     go_wp2_with fail
     refine (CA.out _).mono ?_
     rintro e w' ⟨rfl, rfl⟩
     go_wp2
     go_ret
     exact ⟨ret_bool (by first | (rw [HV.out]; simp [he]) | (rw [HV.out]; decide) | decide), rfl⟩
    go_enter Tryz.func76, Tryz.ntmps76
    go_wp2_with fail
    refine (specL1In_yes _ _ _ _ H1.out.1 H1.out.2).mono ?_
    rintro e w' ⟨rfl, rfl⟩
    go_wp2_with fail
    refine (CL.out _).mono ?_
    rintro e w' ⟨rfl, rfl⟩
    go_wp2_with fail
    refine (CA.out _).mono ?_
    rintro e w' ⟨rfl, rfl⟩
    go_wp2
    go_ret
    exact ⟨ret_bool (by first | (rw [HV.out]; simp [hs, hq]) | (rw [HV.out]; decide) | decide), rfl⟩
 have HV : Hid (keepZ set c = false) := keepZ_out c h
 have H1 : Hid (set < 1 ∨ 3 < set) := by show _ ∨ _; omega
 clear h
 go_enter Tryz.func76, Tryz.ntmps76
 go_wp2_with fail
 refine (specL1In_no _ _ _ _ H1.out).mono ?_
 rintro e w' ⟨rfl, rfl⟩
 go_wp2
 go_ret
 exact ⟨ret_bool (by rw [HV.out]), rfl⟩
theorem below_drewN {B : Nat} {w w' : World} (h : Below B w w') (n : Nat) : Below B w (w'.drewN n) := ⟨h.os, h.tape, h.output, h.size, h.block⟩
theorem pctAt_not {s : ByteArray} {k : Nat} (h : k + 2 < s.size) (h1 : s[k].toNat ≠ 37) : pctAt s k = -1 := by
 rw [pctAt_in s k h]
 unfold pctV
 rw [if_neg (fun h => h1 h.1)]
theorem pctAt_hex {s : ByteArray} {k d1 d2 : Nat} (h : k + 2 < s.size) (h1 : s[k].toNat = 37) (e1 : s[k + 1].toNat = d1) (e2 : s[k + 2].toNat = d2) : pctAt s k = if 0 ≤ hexN d1 ∧ 0 ≤ hexN d2 then hexN d1 * 16 + hexN d2 else -1 := by
 rw [pctAt_in s k h, e1, e2]
 unfold pctV
 simp [h1]
theorem run_at (P : Program) (t : TypeId) (h : P.underlying t = some .string) (s : ByteArray) (i : Int) (j d : Nat) (hj : j < s.size) (hi : i = (j : Int)) (hd : s[j].toNat = d) (W : World) :
  (Instr.index t (.string s) (.int .i64 i)).run P W = .ok (.int .u8 (d : Int)) W := by
 subst hi
 rw [run_index_string W t s .i64 _ h, dif_pos (by omega)]
 simp [hd]
theorem implPctAt (s : ByteArray) (k : Nat) (w : World) (hk : k < s.size) (hs : s.size ≤ 1099511627776) :
  Calls Tryz.prog 136 #[.string s, .int .i64 (k : Int)] w fun e w' => e = .returned (.int .i64 (pctAt s k)) ∧ Below w.heap.size w w' := by
 have hki : (k : Int) ≤ 1099511627776 := by omega
 have hk0 : 0 ≤ (k : Int) := by omega
 have hw1 : IntKind.i64.wrap ((k : Int) + 1) = ((k + 1 : Nat) : Int) := by rw [IntKind.wrap_i64]; omega
 have hw2 : IntKind.i64.wrap ((k : Int) + 2) = ((k + 2 : Nat) : Int) := by rw [IntKind.wrap_i64]; omega
 by_cases h2 : k + 2 < s.size
 ·have h2i : ¬ (s.size : Int) ≤ (k : Int) + 2 := by omega
  by_cases h37 : s[k].toNat = 37
  ·obtain ⟨d1, e1⟩ : ∃ d : Nat, s[k + 1].toNat = d := ⟨_, rfl⟩
   obtain ⟨d2, e2⟩ : ∃ d : Nat, s[k + 2].toNat = d := ⟨_, rfl⟩
   have i1 := run_at Tryz.prog 9 Tryz.underlying9 s ((k : Int) + 1) (k + 1) d1 (by omega) (by omega) e1
   have i2 := run_at Tryz.prog 9 Tryz.underlying9 s ((k : Int) + 2) (k + 2) d2 (by omega) (by omega) e2
   have b1 : d1 ≤ 255 := by have := s[k + 1].toNat_lt; omega
   have b2 : d2 ≤ 255 := by have := s[k + 2].toNat_lt; omega
   have HV : Hid (pctAt s k = if 0 ≤ hexN d1 ∧ 0 ≤ hexN d2 then hexN d1 * 16 + hexN d2 else -1) := pctAt_hex h2 h37 e1 e2
   have c1 := fun n : Nat => Calls.quiet_of_same (w := w) (n := n) (v := .int .i64 (hexN d1)) ((implHex d1 (w.drewN n) b1).mono fun _ _ ⟨a, b⟩ => ⟨a, b.symm⟩)
   have c2 := fun n : Nat => Calls.quiet_of_same (w := w) (n := n) (v := .int .i64 (hexN d2)) ((implHex d2 (w.drewN n) b2).mono fun _ _ ⟨a, b⟩ => ⟨a, b.symm⟩)
   have l1 := hexN_le d1
   have l2 := hexN_le d2
   generalize hexN d1 = x at HV c1 l1
   generalize hexN d2 = y at HV c2 l2
   have C1 : Hid (∀ n, Calls Tryz.prog 189 #[.int .u8 (d1 : Int)] (w.drewN n) fun e w'' => e = .returned (.int .i64 x) ∧ ∃ m, w'' = w.drewN m) := c1
   have C2 : Hid (∀ n, Calls Tryz.prog 189 #[.int .u8 (d2 : Int)] (w.drewN n) fun e w'' => e = .returned (.int .i64 y) ∧ ∃ m, w'' = w.drewN m) := c2
   clear c1 c2
   obtain ⟨l1a, l1b⟩ := l1
   obtain ⟨l2a, l2b⟩ := l2
   by_cases hx : 0 ≤ x
   ·by_cases hy : 0 ≤ y
    ·go_enter Tryz.func136, Tryz.ntmps136
     go_wp2_with fail
     go_quiet ((go_at_call 189; first | with_reducible exact C1.out _ | with_reducible exact C2.out _))
     go_wp2
     go_ret
     exact ⟨ret_int (by rw [HV.out, if_pos ⟨hx, hy⟩]), below_drewN (Below.refl _ _) _⟩
    go_enter Tryz.func136, Tryz.ntmps136
    go_wp2_with fail
    go_quiet ((go_at_call 189; first | with_reducible exact C1.out _ | with_reducible exact C2.out _))
    go_wp2
    go_ret
    exact ⟨ret_int (by rw [HV.out, if_neg (by omega)]), below_drewN (Below.refl _ _) _⟩
   go_enter Tryz.func136, Tryz.ntmps136
   go_wp2_with fail
   go_quiet ((go_at_call 189; first | with_reducible exact C1.out _ | with_reducible exact C2.out _))
   go_wp2
   go_ret
   exact ⟨ret_int (by rw [HV.out, if_neg (by omega)]), below_drewN (Below.refl _ _) _⟩
  have HV : Hid (pctAt s k = -1) := pctAt_not h2 h37
  obtain ⟨d0, e0⟩ : ∃ d : Nat, s[k].toNat = d := ⟨_, rfl⟩
  have hne : ¬ (d0 : Int) = 37 := by omega
  clear h37
  go_enter Tryz.func136, Tryz.ntmps136
  go_wp2
  go_ret
  exact ⟨ret_int (by rw [HV.out]), Below.refl _ _⟩
 have h2i : (s.size : Int) ≤ (k : Int) + 2 := by omega
 have HV : Hid (pctAt s k = -1) := pctAt_out s k (by omega)
 go_enter Tryz.func136, Tryz.ntmps136
 go_wp2
 go_ret
 exact ⟨ret_int (by rw [HV.out]), Below.refl _ _⟩
theorem specByte (s : ByteArray) (k : Nat) (w : World) (hk : k < s.size) (hs : s.size ≤ 1099511627776) :
  Calls Tryz.prog 75 #[.string s, .int .i64 (k : Int)] w fun e w' => e = .returned (.int .i64 (pctAt s k)) ∧ Below w.heap.size w w' := by
 have hki : (k : Int) ≤ 1099511627776 := by omega
 have hk0 : 0 ≤ (k : Int) := by omega
 have hw1 : IntKind.i64.wrap ((k : Int) + 1) = ((k + 1 : Nat) : Int) := by rw [IntKind.wrap_i64]; omega
 have hw2 : IntKind.i64.wrap ((k : Int) + 2) = ((k + 2 : Nat) : Int) := by rw [IntKind.wrap_i64]; omega
 by_cases h2 : k + 2 < s.size
 ·have h2i : ¬ (s.size : Int) ≤ (k : Int) + 2 := by omega
  by_cases h37 : s[k].toNat = 37
  ·obtain ⟨d1, e1⟩ : ∃ d : Nat, s[k + 1].toNat = d := ⟨_, rfl⟩
   obtain ⟨d2, e2⟩ : ∃ d : Nat, s[k + 2].toNat = d := ⟨_, rfl⟩
   have i1 := run_at Tryz.prog 9 Tryz.underlying9 s ((k : Int) + 1) (k + 1) d1 (by omega) (by omega) e1
   have i2 := run_at Tryz.prog 9 Tryz.underlying9 s ((k : Int) + 2) (k + 2) d2 (by omega) (by omega) e2
   have b1 : d1 ≤ 255 := by have := s[k + 1].toNat_lt; omega
   have b2 : d2 ≤ 255 := by have := s[k + 2].toNat_lt; omega
   have HV : Hid (pctAt s k = if 0 ≤ hexN d1 ∧ 0 ≤ hexN d2 then hexN d1 * 16 + hexN d2 else -1) := pctAt_hex h2 h37 e1 e2
   have c1 := fun n : Nat => Calls.quiet_of_same (w := w) (n := n) (v := .int .i64 (hexN d1)) ((specHex d1 (w.drewN n) (by omega)).mono fun _ _ ⟨a, b⟩ => ⟨a, b.symm⟩)
   have c2 := fun n : Nat => Calls.quiet_of_same (w := w) (n := n) (v := .int .i64 (hexN d2)) ((specHex d2 (w.drewN n) (by omega)).mono fun _ _ ⟨a, b⟩ => ⟨a, b.symm⟩)
   have q1 := fun W : World => specHex d1 W (by omega)
   have q2 := fun W : World => specHex d2 W (by omega)
   have l1 := hexN_le d1
   have l2 := hexN_le d2
   generalize hexN d1 = x at HV c1 l1 q1
   generalize hexN d2 = y at HV c2 l2 q2
   have C1 : Hid (∀ n, Calls Tryz.prog 99 #[.int .u8 (d1 : Int)] (w.drewN n) fun e w'' => e = .returned (.int .i64 x) ∧ ∃ m, w'' = w.drewN m) := c1
   have C2 : Hid (∀ n, Calls Tryz.prog 99 #[.int .u8 (d2 : Int)] (w.drewN n) fun e w'' => e = .returned (.int .i64 y) ∧ ∃ m, w'' = w.drewN m) := c2
   have D1 : Hid (∀ W, CS 99 #[.int .u8 (d1 : Int)] W (.int .i64 x)) := q1
   have D2 : Hid (∀ W, CS 99 #[.int .u8 (d2 : Int)] W (.int .i64 y)) := q2
   clear c1 c2 q1 q2
   obtain ⟨l1a, l1b⟩ := l1
   obtain ⟨l2a, l2b⟩ := l2
   by_cases hx : 0 ≤ x
   ·by_cases hy : 0 ≤ y
    ·go_enter Tryz.func75, Tryz.ntmps75
     go_wp2_with fail
     refine (D1.out _).mono ?_
     rintro e w' ⟨rfl, rfl⟩
     go_wp2_with fail
     refine (D2.out _).mono ?_
     rintro e w' ⟨rfl, rfl⟩
     go_wp2_with fail
     go_quiet ((go_at_call 99; first | with_reducible exact C1.out _ | with_reducible exact C2.out _))
     go_wp2
     go_ret
     exact ⟨ret_int (by rw [HV.out, if_pos ⟨hx, hy⟩]), below_drewN (Below.refl _ _) _⟩
    go_enter Tryz.func75, Tryz.ntmps75
    go_wp2_with fail
    refine (D1.out _).mono ?_
    rintro e w' ⟨rfl, rfl⟩
    go_wp2_with fail
    refine (D2.out _).mono ?_
    rintro e w' ⟨rfl, rfl⟩
    go_wp2
    go_ret
    exact ⟨ret_int (by rw [HV.out, if_neg (by omega)]), Below.refl _ _⟩
   go_enter Tryz.func75, Tryz.ntmps75
   go_wp2_with fail
   refine (D1.out _).mono ?_
   rintro e w' ⟨rfl, rfl⟩
   go_wp2
   go_ret
   exact ⟨ret_int (by rw [HV.out, if_neg (by omega)]), Below.refl _ _⟩
  have HV : Hid (pctAt s k = -1) := pctAt_not h2 h37
  obtain ⟨d0, e0⟩ : ∃ d : Nat, s[k].toNat = d := ⟨_, rfl⟩
  have hne : ¬ (d0 : Int) = 37 := by omega
  clear h37
  go_enter Tryz.func75, Tryz.ntmps75
  go_wp2
  go_ret
  exact ⟨ret_int (by rw [HV.out]), Below.refl _ _⟩
 have h2i : (s.size : Int) ≤ (k : Int) + 2 := by omega
 have HV : Hid (pctAt s k = -1) := pctAt_out s k (by omega)
 go_enter Tryz.func75, Tryz.ntmps75
 go_wp2
 go_ret
 exact ⟨ret_int (by rw [HV.out]), Below.refl _ _⟩
end Go.Proofs.YtgmfkgeepecknaaGreatDoor
