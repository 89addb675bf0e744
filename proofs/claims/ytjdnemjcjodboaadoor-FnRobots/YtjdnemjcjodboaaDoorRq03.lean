/- RowStr, CloneWalk, TrimWalk, SplPlain, RobPlain, RobRow. -/
import Derived.Test.YtjdnemjcjodboaaDoorRq02
import Derived.Lib.SlTrimSet
set_option maxHeartbeats 1000000
namespace Go.Proofs.YtjdnemjcjodboaaDoor
open Go.RowKit
theorem ba_eq {a b : ByteArray} : a = b ↔ a.data.toList = b.data.toList := ⟨fun h => by rw [h], fun h => by
 cases a; cases b
 congr
 exact Array.toList_inj.1 h⟩
theorem own_room {w : World} {B : Nat} {e : TypeId} {size g n cap : Nat} {xs : List Value} (h : w.ownsRow B e size (.slice (some ⟨g, 0, none⟩) n cap) n xs) : n ≤ cap := by
 rcases h.2 with ⟨h, _⟩ | ⟨_, _, _, h, _, _, h3, _⟩
 ·cases h
 cases h; exact h3
def StrRow (w : World) (v : Value) (l : List ByteArray) : Prop :=
 (l = [] ∧ ∃ ao cap, v = .slice ao 0 cap) ∨ (0 < l.length ∧ ∃ g off cap, v = .slice (some ⟨g, off, none⟩) l.length (l.length + cap) ∧ g < w.heap.size ∧ ∀ i, i < l.length → w.cell? ⟨g, off + i, none⟩ = some (.string (l.getD i ByteArray.empty)))
theorem StrRow.same {w w' : World} {v : Value} {l : List ByteArray} (h : StrRow w v l) (hs : w.heap.size ≤ w'.heap.size) (hb : ∀ k, k < w.heap.size → w'.heap[k]? = w.heap[k]?) : StrRow w' v l := by
 rcases h with h | ⟨h0, g, off, cap, h1, h2, h3⟩
 ·exact .inl h
 exact .inr ⟨h0, g, off, cap, h1, by omega, fun i hi => (World.cell?_of_block (w := w) (a := ⟨g, off + i, none⟩) (hb g h2)).trans (h3 i hi)⟩
theorem StrRow.below {w w' : World} {v : Value} {l : List ByteArray} (h : StrRow w v l) (hb : Below w.heap.size w w') : StrRow w' v l := h.same hb.size hb.block
theorem StrRow.of_own {w : World} {B : Nat} {e : TypeId} {v : Value} {l : List ByteArray} {n : Nat} (h : w.ownsRow B e 1 v n (scells l)) : StrRow w v l := by
 have hl : l.length = n := by have := h.1; simpa [scells] using this
 subst hl
 rcases own_shape h with ⟨h0, h1, ao, cap, rfl⟩ | ⟨h0, g, cap, rfl⟩
 ·refine .inl ⟨List.eq_nil_of_length_eq_zero h0, ao, cap, ?_⟩
  rfl
 exact .inr ⟨h0, g, 0, cap - l.length, by rw [Nat.add_sub_cancel' (own_room h)], (h.lt g rfl).2, fun i hi => by rw [Nat.zero_add]; exact scell_at h i hi⟩
theorem StrRow.slice {w : World} {v : Value} {l : List ByteArray} (h : StrRow w v l) : ∃ ao cap, v = .slice ao l.length cap := by
 rcases h with ⟨rfl, ao, cap, rfl⟩ | ⟨_, g, off, cap, h1, _⟩
 ·exact ⟨ao, cap, rfl⟩
 exact ⟨_, _, h1⟩
theorem StrRow.nil (w : World) (ao : Option Addr) (cap : Nat) : StrRow w (.slice ao 0 cap) [] := .inl ⟨rfl, ao, cap, rfl⟩
theorem strClone (s : ByteArray) (w : World) (hlim : s.size ≤ 281474976710656) :
  Calls Tryd.prog 70 #[.string s] w fun e w' => e = .returned (.string s) ∧ Below w.heap.size w w' := by
 go_enter Tryd.func70, Tryd.ntmps70
 go_wp2_with (go_at_call 83; refine (Tryd.stringslite_Clone _ _ hlim).mono ?_; rintro e w1 ⟨rfl, hb1⟩)
 go_ret
 exact ⟨rfl, hb1⟩
def blanks4 : List UInt8 := [32, 9, 10, 13]
def isBlank (c : UInt8) : Prop := c.toNat = 32 ∨ c.toNat = 9 ∨ c.toNat = 10 ∨ c.toNat = 13
theorem blank_yes {c : UInt8} (h : isBlank c) : blanks4.contains c = true := by
 rcases h with h | h | h | h
 ·rw [show c = 32 from UInt8.toNat_inj.1 (by rw [h]; rfl)]; rfl
 ·rw [show c = 9 from UInt8.toNat_inj.1 (by rw [h]; rfl)]; rfl
 ·rw [show c = 10 from UInt8.toNat_inj.1 (by rw [h]; rfl)]; rfl
 rw [show c = 13 from UInt8.toNat_inj.1 (by rw [h]; rfl)]; rfl
theorem blank_no {c : UInt8} (h : ¬ isBlank c) : blanks4.contains c = false := by
 unfold isBlank at h
 simp only [blanks4, List.contains_cons, List.contains_nil, Bool.or_false, Bool.or_eq_false_iff, beq_eq_false_iff_ne, ne_eq]
 refine ⟨?_, ?_, ?_, ?_⟩ <;> (intro e; subst e; exact h (by decide))
theorem trim_eq (s : ByteArray) (a b : Nat) (hab : a ≤ b) (hb : b ≤ s.size) (h1 : ∀ j, (hj : j < s.size) → j < a → isBlank s[j]) (h2 : ∀ h : a < b, ¬ isBlank s[a]) (h3 : ∀ j, (hj : j < s.size) → b ≤ j → isBlank s[j]) (h4 : ∀ h : a < b, ¬ isBlank s[b - 1]) :
  s.extract a b = ⟨(Lib.trimS s.data.toList blanks4).toArray⟩ := by
 have hlen : s.data.toList.length = s.size := by simp
 have at' : ∀ (j : Nat) x, s.data.toList[j]? = some x → ∃ hj : j < s.size, s[j] = x := by
  intro j x hx
  obtain ⟨hj, he⟩ := List.getElem?_eq_some_iff.1 hx
  exact ⟨by omega, he⟩
 have key : Lib.trimS s.data.toList blanks4 = (s.data.toList.take b).drop a := by
  unfold Lib.trimS
  by_cases hlt : a < b
  ·have e : Lib.trimRightS s.data.toList blanks4 = s.data.toList.take b := by
    refine Lib.trimRightS_take _ _ b (by omega) (fun j x hj hx => ?_) (fun x _ hx => ?_)
    ·obtain ⟨hj', rfl⟩ := at' j x hx
     exact blank_yes (h3 j hj' hj)
    obtain ⟨_, rfl⟩ := at' _ x hx
    exact blank_no (h4 hlt)
   rw [e]
   refine Lib.trimLeftS_drop _ _ a (by rw [List.length_take]; omega) (fun j x hj hx => ?_) (fun x hx => ?_)
   ·rw [List.getElem?_take, if_pos (by omega)] at hx
    obtain ⟨hj', rfl⟩ := at' j x hx
    exact blank_yes (h1 j hj' hj)
   rw [List.getElem?_take, if_pos hlt] at hx
   obtain ⟨_, rfl⟩ := at' a x hx
   exact blank_no (h2 hlt)
  have e : Lib.trimRightS s.data.toList blanks4 = s.data.toList.take 0 := by
   refine Lib.trimRightS_take _ _ 0 (by omega) (fun j x hj hx => ?_) (fun x h _ => by omega)
   obtain ⟨hj', rfl⟩ := at' j x hx
   rcases Nat.lt_or_ge j a with h | h
   ·exact blank_yes (h1 j hj' h)
   exact blank_yes (h3 j hj' (by omega))
  rw [e, List.drop_eq_nil_of_le (by rw [List.length_take]; omega)]
  rfl
 rw [key]
 apply ByteArray.ext
 rw [ByteArray.data_extract]
 apply Array.ext'
 rw [Array.toList_extract, List.drop_take]
theorem l1Blank_yes (c : UInt8) (w : World) (h : isBlank c) :
  Calls Tryd.prog 79 #[.int .u8 (c.toNat : Int)] w fun e w' => e = .returned (.bool true) ∧ w = w' := by
 by_cases a : (c.toNat : Int) = 32
 ·have a' : ((c.toNat : Int) == 32) = true := by simp [a]
  clear a h
  go_enter Tryd.func79, Tryd.ntmps79
  go_wp2
  go_ret
  exact ⟨rfl, rfl⟩
 have a' : ((c.toNat : Int) == 32) = false := by simp [a]
 by_cases b : (c.toNat : Int) = 9
 ·have b' : ((c.toNat : Int) == 9) = true := by simp [b]
  clear a b h
  go_enter Tryd.func79, Tryd.ntmps79
  go_wp2
  go_ret
  exact ⟨rfl, rfl⟩
 have b' : ((c.toNat : Int) == 9) = false := by simp [b]
 by_cases d : (c.toNat : Int) = 10
 ·have d' : ((c.toNat : Int) == 10) = true := by simp [d]
  clear a b d h
  go_enter Tryd.func79, Tryd.ntmps79
  go_wp2
  go_ret
  exact ⟨rfl, rfl⟩
 have d' : ((c.toNat : Int) == 10) = false := by simp [d]
 have e' : ((c.toNat : Int) == 13) = true := by
  unfold isBlank at h
  simp; omega
 clear a b d h
 go_enter Tryd.func79, Tryd.ntmps79
 go_wp2
 go_ret
 exact ⟨rfl, rfl⟩
theorem l1Blank_no (c : UInt8) (w : World) (h : ¬ isBlank c) :
  Calls Tryd.prog 79 #[.int .u8 (c.toNat : Int)] w fun e w' => e = .returned (.bool false) ∧ w = w' := by
 unfold isBlank at h
 have a' : ((c.toNat : Int) == 32) = false := by simp; omega
 have b' : ((c.toNat : Int) == 9) = false := by simp; omega
 have d' : ((c.toNat : Int) == 10) = false := by simp; omega
 have e' : ((c.toNat : Int) == 13) = false := by simp; omega
 clear h
 go_enter Tryd.func79, Tryd.ntmps79
 go_wp2
 go_ret
 exact ⟨rfl, rfl⟩
theorem specTrim (s : ByteArray) (w : World) (hs : s.size ≤ 1099511627776) :
  Calls Tryd.prog 60 #[.string s] w fun e w' => e = .returned (.string ⟨(Lib.trimS s.data.toList blanks4).toArray⟩) ∧ w = w' := by
 go_enter Tryd.func60, Tryd.ntmps60
 go_wp2
 go_loop [3] (fun i => ∃ k : Nat, k ≤ s.size ∧ i = .int .i64 k ∧ ∀ j, (hj : j < s.size) → j < k → isBlank s[j]) (fun i => s.size - (intOf i).toNat)
 case atStart => exact ⟨0, Nat.zero_le _, rfl, fun j _ h => by omega⟩
 obtain ⟨k, hk, rfl, hall⟩ := hrel
 have HA : Hid (∀ j, (hj : j < s.size) → j < k → isBlank s[j]) := hall
 clear hall
 by_cases hlt : k < s.size
 ·by_cases hb : isBlank s[k]
  ·have HB : Hid (isBlank s[k]) := hb
   clear hb
   go_wp2_with (go_at_call 79; refine (l1Blank_yes _ _ HB.out).mono ?_; rintro e w' ⟨rfl, rfl⟩)
   go_round
   case rel =>
    refine ⟨k + 1, by omega, by go_num, fun j hj h => ?_⟩
    by_cases e : j = k
    ·subst e; exact HB.out
    exact HA.out j hj (by omega)
   case measure => simp [intOf]; omega
  have HB : Hid (∀ h : k < s.size, ¬ isBlank s[k]) := fun _ => hb
  have HB1 : Hid (¬ isBlank s[k]) := hb
  clear hb
  go_wp2_with (go_at_call 79; refine (l1Blank_no _ _ HB1.out).mono ?_; rintro e w' ⟨rfl, rfl⟩)
  go_loop [4] (fun i => ∃ m : Nat, k < m ∧ m ≤ s.size ∧ i = .int .i64 m ∧ ∀ j, (hj : j < s.size) → m ≤ j → isBlank s[j]) (fun i => (intOf i).toNat)
  case atStart => exact ⟨s.size, hlt, Nat.le_refl _, rfl, fun j hj h => by omega⟩
  obtain ⟨m, hkm, hm, rfl, hall⟩ := hrel
  have HC : Hid (∀ j, (hj : j < s.size) → m ≤ j → isBlank s[j]) := hall
  clear hall
  have hm1 : m - 1 < s.size := by omega
  have hcast : ((m : Int) - 1) = ((m - 1 : Nat) : Int) := by omega
  by_cases hb : isBlank s[m - 1]
  ·have HD : Hid (isBlank s[m - 1]) := hb
   have hne : k < m - 1 := by
    rcases Nat.lt_or_ge k (m - 1) with h | h
    ·exact h
    have e : m - 1 = k := by omega
    have : isBlank s[k] := by simpa [e] using hb
    exact absurd this HB1.out
   clear hb
   go_wp2_with (go_at_call 79; refine (l1Blank_yes _ _ HD.out).mono ?_; rintro e w' ⟨rfl, rfl⟩)
   go_round
   case rel =>
    refine ⟨m - 1, hne, by omega, by go_num, fun j hj h => ?_⟩
    by_cases e : j = m - 1
    ·subst e; exact HD.out
    exact HC.out j hj (by omega)
   case measure => simp [intOf]; omega
  have HD : Hid (¬ isBlank s[m - 1]) := hb
  clear hb
  go_wp2_with (go_at_call 79; refine (l1Blank_no _ _ HD.out).mono ?_; rintro e w' ⟨rfl, rfl⟩)
  go_ret
  refine ⟨?_, rfl⟩
  exact congrArg (fun b : ByteArray => Ending.returned (.string b)) (trim_eq s k m (by omega) hm HA.out (fun _ => HB1.out) HC.out (fun _ => HD.out))
 have hks : k = s.size := by omega
 have HK : Hid (k = s.size) := hks
 clear hks
 go_wp2
 refine wp_loop_rounds 1 ?_
 rw [rounds_succ]
 go_wp2
 go_ret
 refine ⟨?_, rfl⟩
 exact congrArg (fun b : ByteArray => Ending.returned (.string b)) (trim_eq s k s.size (by omega) (Nat.le_refl _) HA.out (fun h => by omega) (fun j hj h => by omega) (fun h => by omega))
theorem trimS_le (l cs : List UInt8) : (Lib.trimS l cs).length ≤ l.length := by
 have a : ∀ m : List UInt8, (m.dropWhile (cs.contains ·)).length ≤ m.length := fun m => (List.dropWhile_sublist _).length_le
 unfold Lib.trimS Lib.trimLeftS Lib.trimRightS
 refine Nat.le_trans (a _) ?_
 rw [List.length_reverse]
 refine Nat.le_trans (a _) ?_
 rw [List.length_reverse]
 exact Nat.le_refl _
theorem implTrim (s : ByteArray) (w : World) (hs : s.size ≤ 1099511627776) :
  Calls Tryd.prog 44 #[.string s] w fun e w' => e = .returned (.string ⟨(Lib.trimS s.data.toList blanks4).toArray⟩) ∧ Below w.heap.size w w' := by
 have hle : (⟨(Lib.trimS s.data.toList blanks4).toArray⟩ : ByteArray).size ≤ 281474976710656 := by
  have := trimS_le s.data.toList blanks4
  have e : (⟨(Lib.trimS s.data.toList blanks4).toArray⟩ : ByteArray).size = (Lib.trimS s.data.toList blanks4).length := by simp [ByteArray.size]
  have e2 : s.data.toList.length = s.size := by simp
  omega
 have ct := fun W => Any.strings_Trim_laid Tryd.lays160 (by kernel_rfl) s ⟨#[32, 9, 10, 13]⟩ W (by omega) (by decide) (ascii_of_all (by decide))
 have HT : Hid (∀ W, CB 73 #[.string s, .string ⟨#[32, 9, 10, 13]⟩] W (.string ⟨(Lib.trimS s.data.toList blanks4).toArray⟩)) := ct
 clear ct
 go_enter Tryd.func44, Tryd.ntmps44
 go_wp2_with fail
 refine (HT.out _).mono ?_
 rintro e wa ⟨rfl, ba⟩
 go_wp2_with fail
 refine (strClone _ _ hle).mono ?_
 rintro e wb ⟨rfl, bb⟩
 go_wp2
 go_ret
 exact ⟨rfl, ba.trans (bb.mono ba.size)⟩
def spl (b : UInt8) : List UInt8 → List (List UInt8)
 | [] => [[]]
 | c :: r => if c = b then [] :: spl b r else match spl b r with
  | [] => [[c]]
  | x :: xs => (c :: x) :: xs
theorem spl_snoc (b : UInt8) : ∀ l, ∃ xs y, spl b l = xs ++ [y] ∧ ∀ c, spl b (l ++ [c]) = if c = b then xs ++ [y, []] else xs ++ [y ++ [c]]
 | [] => ⟨[], [], rfl, fun c => by
   by_cases h : c = b
   ·simp [spl, h]
   simp [spl, h]⟩
 | d :: r => by
  obtain ⟨xs, y, h1, h2⟩ := spl_snoc b r
  by_cases hd : d = b
  ·refine ⟨[] :: xs, y, by simp [spl, hd, h1], fun c => ?_⟩
   rw [List.cons_append, spl, if_pos hd, h2 c]
   split <;> simp
  cases xs with
  | nil =>
   refine ⟨[], d :: y, by simp [spl, hd, h1], fun c => ?_⟩
   rw [List.cons_append, spl, if_neg hd, h2 c]
   by_cases hc : c = b <;> simp [hc]
  | cons x xs =>
   refine ⟨(d :: x) :: xs, y, by simp [spl, hd, h1], fun c => ?_⟩
   rw [List.cons_append, spl, if_neg hd, h2 c]
   by_cases hc : c = b <;> simp [hc]
theorem spl_cut (b : UInt8) {l xs : List _} {y : List UInt8} (h : spl b l = xs ++ [y]) (c : UInt8) : spl b (l ++ [c]) = if c = b then xs ++ [y, []] else xs ++ [y ++ [c]] := by
 obtain ⟨xs', y', h1, h2⟩ := spl_snoc b l
 have e := h.symm.trans h1
 obtain ⟨e1, e2⟩ := List.append_inj' e rfl
 cases e2
 subst e1
 exact h2 c
theorem spl_none (b : UInt8) : ∀ {l : List UInt8}, (∀ c ∈ l, c ≠ b) → spl b l = [l]
 | [], _ => rfl
 | c :: r, h => by
  rw [spl, if_neg (h c List.mem_cons_self), spl_none b (fun d hd => h d (List.mem_cons_of_mem _ hd))]
theorem spl_app (b : UInt8) (m : List UInt8) : ∀ l, spl b (l ++ b :: m) = spl b l ++ spl b m
 | [] => by simp [spl]
 | c :: r => by
  rw [List.cons_append, spl, spl, spl_app b m r]
  split
  ·simp
  obtain ⟨xs, y, h, _⟩ := spl_snoc b r
  rw [h]
  cases xs <;> simp
end Go.Proofs.YtjdnemjcjodboaaDoor
namespace Go.Proofs.YtjdnemjcjodboaaDoor
open Go.RowKit
set_option linter.unusedVariables false
def agB (c : UInt8) : Bool := letterN c.toNat || decide (c = 95) || decide (c = 45)
def agL (l : List UInt8) : List UInt8 := if l.head? = some 42 then [42] else lowerL (l.takeWhile agB)
def patL (l : List UInt8) : List UInt8 := plL 2 l
structure LV where
 al : Bool
 pa : ByteArray
structure PT where
 ag : List ByteArray
 ln : List LV
def pt0 : PT := ⟨[], []⟩
def lv0 : LV := ⟨false, ByteArray.empty⟩
def notB (b c : UInt8) : Bool := c != b
def headC (b : UInt8) (l : List UInt8) : List UInt8 := l.takeWhile (notB b)
def restC (b : UInt8) (l : List UInt8) : List UInt8 := l.dropWhile (notB b)
def keyU : List UInt8 := [117, 115, 101, 114, 45, 97, 103, 101, 110, 116]
def keyA : List UInt8 := [97, 108, 108, 111, 119]
def keyD : List UInt8 := [100, 105, 115, 97, 108, 108, 111, 119]
def keyL (l : List UInt8) : List UInt8 := lowerL (Lib.trimS (headC 58 (headC 35 l)) blanks4)
def valL (l : List UInt8) : List UInt8 := Lib.trimS (restC 58 (headC 35 l)).tail blanks4
def hasK (l : List UInt8) : Bool := !(restC 58 (headC 35 l)).isEmpty
def addAg (ps : List PT) (a : List UInt8) : List PT := match ps.getLast? with
 | none => [⟨[⟨a.toArray⟩], []⟩]
 | some p => if p.ln.isEmpty = true then ps.dropLast ++ [⟨p.ag ++ [⟨a.toArray⟩], p.ln⟩] else ps ++ [⟨[⟨a.toArray⟩], []⟩]
def addLn (ps : List PT) (b : Bool) (v : List UInt8) : List PT := match ps.getLast? with
 | none => ps
 | some p => if v.isEmpty = true then ps else ps.dropLast ++ [⟨p.ag, p.ln ++ [⟨b, ⟨(patL v).toArray⟩⟩]⟩]
def stepP (ps : List PT) (l : List UInt8) : List PT :=
 if hasK l = false then ps else if keyL l = keyU then addAg ps (agL (valL l)) else if keyL l = keyA then addLn ps true (valL l) else if keyL l = keyD then addLn ps false (valL l) else ps
def noCr (l : List UInt8) : List UInt8 := l.map fun c => if c = 13 then 10 else c
def robL (l : List UInt8) : List PT := (spl 10 (noCr (l.take 20000))).foldl stepP []
def agT (a : ByteArray) : List UInt8 := keyU ++ [58, 32] ++ a.data.toList
def lnT (x : LV) : List UInt8 := (if x.al = true then keyA else keyD) ++ [58, 32] ++ x.pa.data.toList
def linesP (p : PT) : List (List UInt8) := p.ag.map agT ++ p.ln.map lnT
def robT (ps : List PT) : List UInt8 := (ps.flatMap linesP).flatMap fun x => x ++ [10]
def agOk (a : ByteArray) : Prop := agL a.data.toList = a.data.toList ∧ ∀ c ∈ a.data.toList, c = 42 ∨ agB c = true
def paB (c : UInt8) : Bool := keepN 2 c.toNat || decide (c = 37)
def lnOk (x : LV) : Prop := 0 < x.pa.data.toList.length ∧ patL x.pa.data.toList = x.pa.data.toList ∧ ∀ c ∈ x.pa.data.toList, paB c = true
def ptOk (p : PT) : Prop := p.ag ≠ [] ∧ (∀ a ∈ p.ag, agOk a) ∧ ∀ x ∈ p.ln, lnOk x
def robOk (ps : List PT) : Prop := (∀ p ∈ ps, ptOk p) ∧ ∀ p ∈ ps.dropLast, p.ln ≠ []
theorem ag_chars : ∀ n, n < 256 → (agB (UInt8.ofNat n) = true ∨ n = 42) → n ≠ 10 ∧ n ≠ 13 ∧ n ≠ 32 ∧ n ≠ 9 ∧ n ≠ 35 ∧ n ≠ 58 := by decide +kernel
theorem pa_chars : ∀ n, n < 256 → paB (UInt8.ofNat n) = true → n ≠ 10 ∧ n ≠ 13 ∧ n ≠ 32 ∧ n ≠ 9 ∧ n ≠ 35 := by decide +kernel
theorem low_idem (l : List UInt8) : lowerL (lowerL l) = lowerL l := by
 unfold lowerL
 rw [List.map_map]
 refine List.map_congr_left fun c _ => ?_
 have : ∀ n, n < 256 → lowerC (lowerC (UInt8.ofNat n)) = lowerC (UInt8.ofNat n) := by decide +kernel
 have h := this c.toNat c.toNat_lt
 simpa using h
theorem ag_low : ∀ n, n < 256 → agB (UInt8.ofNat n) = true → agB (lowerC (UInt8.ofNat n)) = true ∧ lowerC (UInt8.ofNat n) ≠ 42 := by decide +kernel
theorem ag_lowB {c : UInt8} (h : agB c = true) : agB (lowerC c) = true ∧ lowerC c ≠ 42 := by
 have := ag_low c.toNat c.toNat_lt (by simpa using h)
 simpa using this
theorem takeWhile_all {f : UInt8 → Bool} : ∀ {l : List UInt8}, (∀ c ∈ l, f c = true) → l.takeWhile f = l
 | [], _ => rfl
 | c :: l, h => by
  rw [List.takeWhile_cons, if_pos (h c (by simp)), takeWhile_all fun x hx => h x (by simp [hx])]
theorem mem_takeWhile {f : UInt8 → Bool} : ∀ {l : List UInt8} {c : UInt8}, c ∈ l.takeWhile f → f c = true
 | [], c, h => by cases h
 | x :: l, c, h => by
  rw [List.takeWhile_cons] at h
  split at h
  ·rename_i hx
   rcases List.mem_cons.1 h with rfl | h
   ·exact hx
   exact mem_takeWhile h
  cases h
theorem ag_ag (l : List UInt8) : agL (agL l) = agL l ∧ ∀ c ∈ agL l, c = 42 ∨ agB c = true := by
 unfold agL
 by_cases h : l.head? = some 42
 ·rw [if_pos h]
  exact ⟨rfl, fun c hc => .inl (by simpa using hc)⟩
 rw [if_neg h]
 have hc : ∀ c ∈ lowerL (l.takeWhile agB), agB c = true ∧ c ≠ 42 := fun c hc => by
  unfold lowerL at hc
  obtain ⟨d, hd, rfl⟩ := List.mem_map.1 hc
  exact ag_lowB (mem_takeWhile hd)
 refine ⟨?_, fun c hc' => .inr (hc c hc').1⟩
 rw [if_neg, takeWhile_all fun c hc' => (hc c hc').1, low_idem]
 intro e
 cases hl : lowerL (l.takeWhile agB) with
 | nil => rw [hl] at e; cases e
 | cons x xs =>
  rw [hl] at e
  injection e with e
  exact (hc x (by rw [hl]; simp)).2 e
theorem put_pa (c : UInt8) : ∀ x ∈ putB c, paB x = true := by
 have hd : ∀ n, n < 16 → paB (digU n) = true := by decide +kernel
 intro x hx
 unfold putB at hx
 simp at hx
 rcases hx with rfl | rfl | rfl
 ·rfl
 ·exact hd _ (by have := c.toNat_lt; omega)
 exact hd _ (by omega)
theorem pat_chars (l : List UInt8) : ∀ c ∈ patL l, paB c = true := by
 unfold patL
 refine tok_ind (fun l => ∀ c ∈ plL 2 l, paB c = true) (fun c hc => by cases hc) ?_ ?_ l
 ·intro a b c r h ih x hx
  rw [pl_pct _ _ _ _ _ h] at hx
  rcases List.mem_append.1 hx with hx | hx
  ·unfold freeB at hx
   split at hx
   ·rename_i hf
    rw [List.mem_singleton.1 hx]
    unfold paB
    rw [keep_free (by decide) hf]
    rfl
   exact put_pa _ x hx
  exact ih x hx
 intro a r h ih x hx
 rw [pl_byte _ _ _ h] at hx
 rcases List.mem_append.1 hx with hx | hx
 ·unfold keptB at hx
  split at hx
  ·rename_i hf
   rw [List.mem_singleton.1 hx]
   unfold paB
   rw [hf]
   rfl
  exact put_pa _ x hx
 exact ih x hx
theorem pat_pat (l : List UInt8) : patL (patL l) = patL l := pl_pl 2 (by decide) l
theorem pat_pos {l : List UInt8} (h : l ≠ []) : 0 < (patL l).length := by
 have key : ∀ l, l = [] ∨ 0 < (plL 2 l).length := by
  refine tok_ind _ (.inl rfl) ?_ ?_
  ·intro a b c r h _
   right
   rw [pl_pct _ _ _ _ _ h, List.length_append]
   have := free_len (UInt8.ofNat (pctV a.toNat b.toNat c.toNat).toNat)
   omega
  intro a r h _
  right
  rw [pl_byte _ _ _ h, List.length_append]
  have := kept_len 2 a
  omega
 exact (key l).resolve_left h
end Go.Proofs.YtjdnemjcjodboaaDoor
namespace Go.Proofs.YtjdnemjcjodboaaDoor
open Go.RowKit
def LineRow (w : World) (v : Value) (l : List LV) : Prop :=
 (l = [] ∧ ∃ ao cap, v = .slice ao 0 cap) ∨ (0 < l.length ∧ ∃ g off cap, v = .slice (some ⟨g, off, none⟩) l.length (l.length + cap) ∧ g < w.heap.size ∧ ∀ i, i < l.length → w.cell? ⟨g, off + i * 2, none⟩ = some (.bool (l.getD i lv0).al) ∧ w.cell? ⟨g, off + i * 2 + 1, none⟩ = some (.string (l.getD i lv0).pa))
theorem LineRow.same {w w' : World} {v : Value} {l : List LV} (h : LineRow w v l) (hs : w.heap.size ≤ w'.heap.size) (hb : ∀ k, k < w.heap.size → w'.heap[k]? = w.heap[k]?) : LineRow w' v l := by
 rcases h with h | ⟨h0, g, off, cap, h1, h2, h3⟩
 ·exact .inl h
 exact .inr ⟨h0, g, off, cap, h1, by omega, fun i hi => ⟨(World.cell?_of_block (w := w) (a := ⟨g, off + i * 2, none⟩) (hb g h2)).trans (h3 i hi).1, (World.cell?_of_block (w := w) (a := ⟨g, off + i * 2 + 1, none⟩) (hb g h2)).trans (h3 i hi).2⟩⟩
theorem LineRow.below {w w' : World} {v : Value} {l : List LV} (h : LineRow w v l) (hb : Below w.heap.size w w') : LineRow w' v l := h.same hb.size hb.block
theorem LineRow.slice {w : World} {v : Value} {l : List LV} (h : LineRow w v l) : ∃ ao cap, v = .slice ao l.length cap := by
 rcases h with ⟨rfl, ao, cap, rfl⟩ | ⟨_, g, off, cap, h1, _⟩
 ·exact ⟨ao, cap, rfl⟩
 exact ⟨_, _, h1⟩
theorem LineRow.of_own {w : World} {base : Nat} {e : TypeId} {v : Value} {l : List LV} {vs : List Value} (h : w.ownsRow base e 2 v l.length vs)
  (hin : ∀ i, i < l.length → vs[i * 2]? = some (.bool (l.getD i lv0).al) ∧ vs[i * 2 + 1]? = some (.string (l.getD i lv0).pa)) : LineRow w v l := by
 by_cases h0 : l.length = 0
 ·have hl : l = [] := List.eq_nil_of_length_eq_zero h0
  rw [h0] at h
  rcases h.2 with ⟨rfl, _⟩ | ⟨g, cap, cur, rfl, _⟩
  ·exact .inl ⟨hl, _, _, rfl⟩
  exact .inl ⟨hl, _, _, rfl⟩
 rcases h.2 with ⟨_, h1⟩ | ⟨g, cap, cur, rfl, _⟩
 ·exact absurd h1 h0
 refine .inr ⟨by omega, g, 0, cap - l.length, by rw [Nat.add_sub_cancel' (own_room h)], (h.lt g rfl).2, fun i hi => ?_⟩
 obtain ⟨h1, h2⟩ := hin i hi
 refine ⟨?_, ?_⟩
 ·rw [Nat.zero_add, h.cellAt (i * 2) (by omega)]; exact h1
 rw [Nat.zero_add, h.cellAt (i * 2 + 1) (by omega)]; exact h2
def PartRow (w : World) (v : Value) (l : List PT) : Prop :=
 (l = [] ∧ ∃ ao cap, v = .slice ao 0 cap) ∨ (0 < l.length ∧ ∃ g off cap, v = .slice (some ⟨g, off, none⟩) l.length (l.length + cap) ∧ g < w.heap.size ∧ ∀ i, i < l.length → ∃ p q, w.cell? ⟨g, off + i * 2, none⟩ = some p ∧ StrRow w p (l.getD i pt0).ag ∧ w.cell? ⟨g, off + i * 2 + 1, none⟩ = some q ∧ LineRow w q (l.getD i pt0).ln)
theorem PartRow.same {w w' : World} {v : Value} {l : List PT} (h : PartRow w v l) (hs : w.heap.size ≤ w'.heap.size) (hb : ∀ k, k < w.heap.size → w'.heap[k]? = w.heap[k]?) : PartRow w' v l := by
 rcases h with h | ⟨h0, g, off, cap, h1, h2, h3⟩
 ·exact .inl h
 refine .inr ⟨h0, g, off, cap, h1, by omega, fun i hi => ?_⟩
 obtain ⟨p, q, c1, c2, c3, c4⟩ := h3 i hi
 exact ⟨p, q, (World.cell?_of_block (w := w) (a := ⟨g, off + i * 2, none⟩) (hb g h2)).trans c1, c2.same hs hb, (World.cell?_of_block (w := w) (a := ⟨g, off + i * 2 + 1, none⟩) (hb g h2)).trans c3, c4.same hs hb⟩
theorem PartRow.below {w w' : World} {v : Value} {l : List PT} (h : PartRow w v l) (hb : Below w.heap.size w w') : PartRow w' v l := h.same hb.size hb.block
theorem PartRow.slice {w : World} {v : Value} {l : List PT} (h : PartRow w v l) : ∃ ao cap, v = .slice ao l.length cap := by
 rcases h with ⟨rfl, ao, cap, rfl⟩ | ⟨_, g, off, cap, h1, _⟩
 ·exact ⟨ao, cap, rfl⟩
 exact ⟨_, _, h1⟩
end Go.Proofs.YtjdnemjcjodboaaDoor
