/- UrlLaws, TrimWalk, LetWalk, KeepWalk, KeepSpec, UntilWalk, PctWalk. -/
import Derived.Test.YtidecdlaeomfoaaGreatQA21
import Derived.Deep.MidRow
set_option maxHeartbeats 2000000
namespace Go.Proofs.YtidecdlaeomfoaaGreat
open Go.RowKit
def Moved (C : Nat) (W W' : World) : Prop := (∀ B vs, B ≠ C → UAt W B vs → UAt W' B vs) ∧ ∀ m w0, m ≤ C → Below m w0 W → Below m w0 W'
theorem UAt.range {W : World} {B : Nat} {vs : List Value} (h : UAt W B vs) (off : Nat) (cs : List Value) (hs : ∀ j v, cs[j]? = some v → vs[off + j]? = some v) : W.rangeAt B off cs := fun j v hv => h.1 (off + j) v (hs j v hv)
theorem UAt.there {W : World} {B : Nat} {vs : List Value} (h : UAt W B vs) (off n : Nat) (hn : off + n ≤ vs.length) : W.there B off n := fun j hj => by
 have e := h.1 (off + j) _ (List.getElem?_eq_getElem (show off + j < vs.length by omega))
 exact ⟨by rw [e]; rfl, h.2.1 _⟩
theorem setCells_moved {C : Nat} : ∀ (cs : List Value) (off : Nat) (W : World), Moved C W (W.setCells C off cs)
 | [], _, _ => ⟨fun _ _ _ h => h, fun _ _ _ h => h⟩
 | v :: cs, off, W => by
  have h := setCells_moved (C := C) cs (off + 1) (W.setCell ⟨C, off, none⟩ v)
  refine ⟨fun B vs hne hU => ?_, fun m w0 hm hb => ?_⟩
  ·exact h.1 B vs hne (hU.other hne off v)
  exact h.2 m w0 hm (hb.setCell (p := ⟨C, off, none⟩) hm v)
theorem setCells_at {C : Nat} : ∀ (cs : List Value) (off : Nat) (W : World) (vs : List Value), off + cs.length ≤ vs.length → UAt W C vs → UAt (W.setCells C off cs) C (vs.take off ++ (cs ++ vs.drop (off + cs.length)))
 | [], off, W, vs, _, h => by
  have e : vs.take off ++ ([] ++ vs.drop (off + ([] : List Value).length)) = vs := by simp
  rw [e]
  exact h
 | v :: cs, off, W, vs, hl, h => by
  have hl' : off + 1 + cs.length ≤ vs.length := by simp at hl; omega
  have h1 := setCells_at (C := C) cs (off + 1) (W.setCell ⟨C, off, none⟩ v) (vs.set off v) (by rw [List.length_set]; exact hl') (h.set off (by omega) v)
  have e : (vs.set off v).take (off + 1) ++ (cs ++ (vs.set off v).drop (off + 1 + cs.length)) = vs.take off ++ (v :: cs ++ vs.drop (off + (v :: cs).length)) := by
   rw [List.take_succ_eq_append_getElem (by rw [List.length_set]; omega), List.getElem_set_self, List.take_set_of_le (Nat.le_refl _), List.drop_set_of_lt (by omega), List.length_cons, show off + 1 + cs.length = off + (cs.length + 1) by omega]
   simp
  rw [e] at h1
  exact h1
theorem wpList_ld {P : Program} {ops : Array Oper} {rest : List Oper} {o : Oper} {a : Act} {W : World} {Q : Exit → Act → World → Prop} (hgd : o.guard = none) (ty : TypeId) (x : Operand) (ho : o.op = .load ty x)
  (B off : Nat) (hx : a.eval x = .pointer (some ⟨B, off, none⟩)) (vs cs : List Value) (hU : UAt W B vs) (hs : ∀ j v, cs[j]? = some v → vs[off + j]? = some v)
  (d : TypeDesc) (hu : P.underlying ty = some d) (hd : d.isRow = true) (hi : (P.info? ty).map (·.size) = some cs.length)
  (h : wpList P ops Q rest (a.put o.dst (.agg cs.toArray)) W) : wpList P ops Q (o :: rest) a W :=
 wpList_load_mid hgd ty x ho B off hx cs d (hU.range off cs hs) hu hd hi h
theorem wpList_st {P : Program} {ops : Array Oper} {rest : List Oper} {o : Oper} {a : Act} {W : World} {Q : Exit → Act → World → Prop} (hgd : o.guard = none) (ty : TypeId) (x y : Operand) (ho : o.op = .store ty x y)
  (C off : Nat) (cells : Array Value) (hx : a.eval x = .pointer (some ⟨C, off, none⟩)) (hy : a.eval y = .agg cells) (vs : List Value) (hU : UAt W C vs) (hl : off + cells.size ≤ vs.length)
  (hi : (P.info? ty).map (·.size) = some cells.size) (h1 : cells.all (·.oneCell') = true)
  (h : ∀ W', UAt W' C (vs.take off ++ (cells.toList ++ vs.drop (off + cells.size))) → Moved C W W' → wpList P ops Q rest (a.put o.dst undef) W') : wpList P ops Q (o :: rest) a W :=
 wpList_store_mid hgd ty x y ho C off cells hx hy (hU.there off _ hl) hi h1 (h _ (by
  have := setCells_at cells.toList off W vs (by simpa using hl) hU
  simpa using this) (setCells_moved _ _ _))
theorem uRow_one (s k n p : Int) (nm a r : ByteArray) (q : Bool) (x0 x1 x2 x3 x4 x5 x6 x7 : Int) : (uRow s k nm n x0 x1 x2 x3 x4 x5 x6 x7 p a q r).toArray.all (·.oneCell') = true := by simp [uRow, Value.oneCell']
theorem Tryz.infoUrl : (Tryz.prog.info? 69).map (·.size) = some 16 := by kernel_rfl
theorem Tryz.infoHost : (Tryz.prog.info? 67).map (·.size) = some 11 := by kernel_rfl
theorem Tryz.rowUrl : ∃ d, Tryz.prog.underlying 69 = some d ∧ d.isRow = true := ⟨_, Tryz.underlying69, rfl⟩
theorem Tryz.rowHost : ∃ d, Tryz.prog.underlying 67 = some d ∧ d.isRow = true := ⟨_, Tryz.underlying67, rfl⟩
theorem url_ld {ops : Array Oper} {rest : List Oper} {o : Oper} {a : Act} {W : World} {Q : Exit → Act → World → Prop} {B : Nat} {vs : List Value} (hU : UAt W B vs) (hl : vs.length = 16) (hgd : o.guard = none) (x : Operand) (ho : o.op = .load 69 x)
  (hx : a.eval x = .pointer (some ⟨B, 0, none⟩)) (h : wpList Tryz.prog ops Q rest (a.put o.dst (.agg vs.toArray)) W) : wpList Tryz.prog ops Q (o :: rest) a W := by
 obtain ⟨d, hd1, hd2⟩ := Tryz.rowUrl
 exact wpList_ld hgd _ x ho B 0 hx vs vs hU (fun j v hv => by rw [Nat.zero_add]; exact hv) d hd1 hd2 (by rw [hl]; exact Tryz.infoUrl) h
theorem url_st {ops : Array Oper} {rest : List Oper} {o : Oper} {a : Act} {W : World} {Q : Exit → Act → World → Prop} {C : Nat} {vs us : List Value} (hU : UAt W C vs) (hl : vs.length = 16) (hm : us.length = 16) (h1 : us.toArray.all (·.oneCell') = true) (hgd : o.guard = none) (x y : Operand) (ho : o.op = .store 69 x y)
  (hx : a.eval x = .pointer (some ⟨C, 0, none⟩)) (hy : a.eval y = .agg us.toArray) (h : ∀ W', UAt W' C us → Moved C W W' → wpList Tryz.prog ops Q rest (a.put o.dst undef) W') : wpList Tryz.prog ops Q (o :: rest) a W :=
 wpList_st hgd _ x y ho C 0 us.toArray hx hy vs hU (by rw [List.size_toArray, hl, hm]; decide) (by rw [List.size_toArray, hm]; exact Tryz.infoUrl) h1 fun W' hU' hM => h W' (by
  have e : vs.take 0 ++ (us.toArray.toList ++ vs.drop (0 + us.toArray.size)) = us := by rw [List.size_toArray, hm, List.drop_of_length_le (by omega)]; simp
  rw [e] at hU'
  exact hU') hM
theorem host_ld {ops : Array Oper} {rest : List Oper} {o : Oper} {a : Act} {W : World} {Q : Exit → Act → World → Prop} {B : Nat} {vs : List Value} (hU : UAt W B vs) (off : Nat) (cs : List Value) (hs : ∀ j v, cs[j]? = some v → vs[off + j]? = some v) (hl : cs.length = 11) (hgd : o.guard = none) (x : Operand) (ho : o.op = .load 67 x)
  (hx : a.eval x = .pointer (some ⟨B, off, none⟩)) (h : wpList Tryz.prog ops Q rest (a.put o.dst (.agg cs.toArray)) W) : wpList Tryz.prog ops Q (o :: rest) a W := by
 obtain ⟨d, hd1, hd2⟩ := Tryz.rowHost
 exact wpList_ld hgd _ x ho B off hx vs cs hU hs d hd1 hd2 (by rw [hl]; exact Tryz.infoHost) h
theorem host_st {ops : Array Oper} {rest : List Oper} {o : Oper} {a : Act} {W : World} {Q : Exit → Act → World → Prop} {C : Nat} {vs us : List Value} (hU : UAt W C vs) (off : Nat) (hl : off + 11 ≤ vs.length) (hm : us.length = 11) (h1 : us.toArray.all (·.oneCell') = true) (hgd : o.guard = none) (x y : Operand) (ho : o.op = .store 67 x y)
  (hx : a.eval x = .pointer (some ⟨C, off, none⟩)) (hy : a.eval y = .agg us.toArray) (h : ∀ W', UAt W' C (vs.take off ++ (us ++ vs.drop (off + 11))) → Moved C W W' → wpList Tryz.prog ops Q rest (a.put o.dst undef) W') : wpList Tryz.prog ops Q (o :: rest) a W :=
 wpList_st hgd _ x y ho C off us.toArray hx hy vs hU (by rw [List.size_toArray, hm]; exact hl) (by rw [List.size_toArray, hm]; exact Tryz.infoHost) h1 fun W' hU' hM => h W' (by
  rw [List.size_toArray, hm] at hU'
  exact hU') hM
theorem hRow_one (k n : Int) (s : ByteArray) (x0 x1 x2 x3 x4 x5 x6 x7 : Int) : (hRow k s n x0 x1 x2 x3 x4 x5 x6 x7).toArray.all (·.oneCell') = true := by simp [hRow, Value.oneCell']
theorem url_result1 {fn : Func} {i : Tmp} (h : fn.results = #[.cell i 69]) (tmps : Array Value) (W : World) (B : Nat) (vs : List Value) (hl : vs.length = 16)
  (hp : tmps[i]?.getD undef = .pointer (some ⟨B, 0, none⟩)) (ha : UAt W B vs) : (results fn tmps).run Tryz.prog W = .ok (.agg vs.toArray) W := by
 obtain ⟨d, hd1, hd2⟩ := Tryz.rowUrl
 have hr := run_loadVar_mid (P := Tryz.prog) W B 0 69 vs d (ha.range 0 vs (fun j v hv => by rw [Nat.zero_add]; exact hv)) hd1 hd2 (by rw [hl]; exact Tryz.infoUrl)
 simp [results, h, hp, asAddr, hr]
theorem url_result2 {fn : Func} {i j : Tmp} (h : fn.results = #[.cell i 69, .tmp j]) (tmps : Array Value) (W : World) (B : Nat) (v : Value) (vs : List Value) (hl : vs.length = 16)
  (hp : tmps[i]?.getD undef = .pointer (some ⟨B, 0, none⟩)) (hq : tmps[j]?.getD undef = v) (ha : UAt W B vs) : (results fn tmps).run Tryz.prog W = .ok (.tuple #[.agg vs.toArray, v]) W := by
 obtain ⟨d, hd1, hd2⟩ := Tryz.rowUrl
 have hr := run_loadVar_mid (P := Tryz.prog) W B 0 69 vs d (ha.range 0 vs (fun j v hv => by rw [Nat.zero_add]; exact hv)) hd1 hd2 (by rw [hl]; exact Tryz.infoUrl)
 simp [results, h, hp, hq, asAddr, hr]
def blanks4 : List UInt8 := [32, 9, 10, 13]
def isBlank (c : UInt8) : Prop := c.toNat = 32 ∨ c.toNat = 9 ∨ c.toNat = 10 ∨ c.toNat = 13
theorem blank_yes {c : UInt8} (h : isBlank c) : blanks4.contains c = true := by
 rcases h with h | h | h | h
 ·rw [show c = 32 from UInt8.toNat_inj.1 (by rw [h]; rfl)]; rfl
 ·rw [show c = 9 from UInt8.toNat_inj.1 (by rw [h]; rfl)]; rfl
 ·rw [show c = 10 from UInt8.toNat_inj.1 (by rw [h]; rfl)]; rfl
 rw [show c = 13 from UInt8.toNat_inj.1 (by rw [h]; rfl)]; rfl
theorem blank_no {c : UInt8} (h : ¬ isBlank c) : blanks4.contains c = false := by
 unfold isBlank at h
 simp only [blanks4, List.contains_cons, List.contains_nil, Bool.or_false, Bool.or_eq_false_iff, beq_eq_false_iff_ne, ne_eq]
 refine ⟨?_, ?_, ?_, ?_⟩ <;> (intro e; subst e; exact h (by decide))
theorem trim_eq (s : ByteArray) (a b : Nat) (hab : a ≤ b) (hb : b ≤ s.size) (h1 : ∀ j, (hj : j < s.size) → j < a → isBlank s[j]) (h2 : ∀ h : a < b, ¬ isBlank s[a]) (h3 : ∀ j, (hj : j < s.size) → b ≤ j → isBlank s[j]) (h4 : ∀ h : a < b, ¬ isBlank s[b - 1]) :
  s.extract a b = ⟨(Lib.trimS s.data.toList blanks4).toArray⟩ := by
 have hlen : s.data.toList.length = s.size := by simp
 have at' : ∀ (j : Nat) x, s.data.toList[j]? = some x → ∃ hj : j < s.size, s[j] = x := by
  intro j x hx
  obtain ⟨hj, he⟩ := List.getElem?_eq_some_iff.1 hx
  exact ⟨by omega, he⟩
 have key : Lib.trimS s.data.toList blanks4 = (s.data.toList.take b).drop a := by
  unfold Lib.trimS
  by_cases hlt : a < b
  ·have e : Lib.trimRightS s.data.toList blanks4 = s.data.toList.take b := by
    refine Lib.trimRightS_take _ _ b (by omega) (fun j x hj hx => ?_) (fun x _ hx => ?_)
    ·obtain ⟨hj', rfl⟩ := at' j x hx
     exact blank_yes (h3 j hj' hj)
    obtain ⟨_, rfl⟩ := at' _ x hx
    exact blank_no (h4 hlt)
   rw [e]
   refine Lib.trimLeftS_drop _ _ a (by rw [List.length_take]; omega) (fun j x hj hx => ?_) (fun x hx => ?_)
   ·rw [List.getElem?_take, if_pos (by omega)] at hx
    obtain ⟨hj', rfl⟩ := at' j x hx
    exact blank_yes (h1 j hj' hj)
   rw [List.getElem?_take, if_pos hlt] at hx
   obtain ⟨_, rfl⟩ := at' a x hx
   exact blank_no (h2 hlt)
  have e : Lib.trimRightS s.data.toList blanks4 = s.data.toList.take 0 := by
   refine Lib.trimRightS_take _ _ 0 (by omega) (fun j x hj hx => ?_) (fun x h _ => by omega)
   obtain ⟨hj', rfl⟩ := at' j x hx
   rcases Nat.lt_or_ge j a with h | h
   ·exact blank_yes (h1 j hj' h)
   exact blank_yes (h3 j hj' (by omega))
  rw [e, List.drop_eq_nil_of_le (by rw [List.length_take]; omega)]
  rfl
 rw [key]
 apply ByteArray.ext
 rw [ByteArray.data_extract]
 apply Array.ext'
 rw [Array.toList_extract, List.drop_take]
theorem l1Blank_yes (c : UInt8) (w : World) (h : isBlank c) :
  Calls Tryz.prog 71 #[.int .u8 (c.toNat : Int)] w fun e w' => e = .returned (.bool true) ∧ w = w' := by
 by_cases a : (c.toNat : Int) = 32
 ·have a' : ((c.toNat : Int) == 32) = true := by simp [a]
  clear a h
  go_enter Tryz.func71, Tryz.ntmps71
  go_wp2
  go_ret
  exact ⟨rfl, rfl⟩
 have a' : ((c.toNat : Int) == 32) = false := by simp [a]
 by_cases b : (c.toNat : Int) = 9
 ·have b' : ((c.toNat : Int) == 9) = true := by simp [b]
  clear a b h
  go_enter Tryz.func71, Tryz.ntmps71
  go_wp2
  go_ret
  exact ⟨rfl, rfl⟩
 have b' : ((c.toNat : Int) == 9) = false := by simp [b]
 by_cases d : (c.toNat : Int) = 10
 ·have d' : ((c.toNat : Int) == 10) = true := by simp [d]
  clear a b d h
  go_enter Tryz.func71, Tryz.ntmps71
  go_wp2
  go_ret
  exact ⟨rfl, rfl⟩
 have d' : ((c.toNat : Int) == 10) = false := by simp [d]
 have e' : ((c.toNat : Int) == 13) = true := by
  unfold isBlank at h
  simp; omega
 clear a b d h
 go_enter Tryz.func71, Tryz.ntmps71
 go_wp2
 go_ret
 exact ⟨rfl, rfl⟩
theorem l1Blank_no (c : UInt8) (w : World) (h : ¬ isBlank c) :
  Calls Tryz.prog 71 #[.int .u8 (c.toNat : Int)] w fun e w' => e = .returned (.bool false) ∧ w = w' := by
 unfold isBlank at h
 have a' : ((c.toNat : Int) == 32) = false := by simp; omega
 have b' : ((c.toNat : Int) == 9) = false := by simp; omega
 have d' : ((c.toNat : Int) == 10) = false := by simp; omega
 have e' : ((c.toNat : Int) == 13) = false := by simp; omega
 clear h
 go_enter Tryz.func71, Tryz.ntmps71
 go_wp2
 go_ret
 exact ⟨rfl, rfl⟩
theorem specTrim (s : ByteArray) (w : World) (hs : s.size ≤ 1099511627776) :
  Calls Tryz.prog 56 #[.string s] w fun e w' => e = .returned (.string ⟨(Lib.trimS s.data.toList blanks4).toArray⟩) ∧ w = w' := by
 go_enter Tryz.func56, Tryz.ntmps56
 go_wp2
 go_loop [3] (fun i => ∃ k : Nat, k ≤ s.size ∧ i = .int .i64 k ∧ ∀ j, (hj : j < s.size) → j < k → isBlank s[j]) (fun i => s.size - (intOf i).toNat)
 case atStart => exact ⟨0, Nat.zero_le _, rfl, fun j _ h => by omega⟩
 obtain ⟨k, hk, rfl, hall⟩ := hrel
 have HA : Hid (∀ j, (hj : j < s.size) → j < k → isBlank s[j]) := hall
 clear hall
 by_cases hlt : k < s.size
 ·by_cases hb : isBlank s[k]
  ·have HB : Hid (isBlank s[k]) := hb
   clear hb
   go_wp2_with (go_at_call 71; refine (l1Blank_yes _ _ HB.out).mono ?_; rintro e w' ⟨rfl, rfl⟩)
   go_round
   case rel =>
    refine ⟨k + 1, by omega, by go_num, fun j hj h => ?_⟩
    by_cases e : j = k
    ·subst e; exact HB.out
    exact HA.out j hj (by omega)
   case measure => simp [intOf]; omega
  have HB : Hid (∀ h : k < s.size, ¬ isBlank s[k]) := fun _ => hb
  have HB1 : Hid (¬ isBlank s[k]) := hb
  clear hb
  go_wp2_with (go_at_call 71; refine (l1Blank_no _ _ HB1.out).mono ?_; rintro e w' ⟨rfl, rfl⟩)
  go_loop [4] (fun i => ∃ m : Nat, k < m ∧ m ≤ s.size ∧ i = .int .i64 m ∧ ∀ j, (hj : j < s.size) → m ≤ j → isBlank s[j]) (fun i => (intOf i).toNat)
  case atStart => exact ⟨s.size, hlt, Nat.le_refl _, rfl, fun j hj h => by omega⟩
  obtain ⟨m, hkm, hm, rfl, hall⟩ := hrel
  have HC : Hid (∀ j, (hj : j < s.size) → m ≤ j → isBlank s[j]) := hall
  clear hall
  have hm1 : m - 1 < s.size := by omega
  have hcast : ((m : Int) - 1) = ((m - 1 : Nat) : Int) := by omega
  by_cases hb : isBlank s[m - 1]
  ·have HD : Hid (isBlank s[m - 1]) := hb
   have hne : k < m - 1 := by
    rcases Nat.lt_or_ge k (m - 1) with h | h
    ·exact h
    have e : m - 1 = k := by omega
    have : isBlank s[k] := by simpa [e] using hb
    exact absurd this HB1.out
   clear hb
   go_wp2_with (go_at_call 71; refine (l1Blank_yes _ _ HD.out).mono ?_; rintro e w' ⟨rfl, rfl⟩)
   go_round
   case rel =>
    refine ⟨m - 1, hne, by omega, by go_num, fun j hj h => ?_⟩
    by_cases e : j = m - 1
    ·subst e; exact HD.out
    exact HC.out j hj (by omega)
   case measure => simp [intOf]; omega
  have HD : Hid (¬ isBlank s[m - 1]) := hb
  clear hb
  go_wp2_with (go_at_call 71; refine (l1Blank_no _ _ HD.out).mono ?_; rintro e w' ⟨rfl, rfl⟩)
  go_ret
  refine ⟨?_, rfl⟩
  exact congrArg (fun b : ByteArray => Ending.returned (.string b)) (trim_eq s k m (by omega) hm HA.out (fun _ => HB1.out) HC.out (fun _ => HD.out))
 have hks : k = s.size := by omega
 have HK : Hid (k = s.size) := hks
 clear hks
 go_wp2
 refine wp_loop_rounds 1 ?_
 rw [rounds_succ]
 go_wp2
 go_ret
 refine ⟨?_, rfl⟩
 exact congrArg (fun b : ByteArray => Ending.returned (.string b)) (trim_eq s k s.size (by omega) (Nat.le_refl _) HA.out (fun h => by omega) (fun j hj h => by omega) (fun h => by omega))
theorem trimS_le (l cs : List UInt8) : (Lib.trimS l cs).length ≤ l.length := by
 have a : ∀ m : List UInt8, (m.dropWhile (cs.contains ·)).length ≤ m.length := fun m => (List.dropWhile_sublist _).length_le
 unfold Lib.trimS Lib.trimLeftS Lib.trimRightS
 refine Nat.le_trans (a _) ?_
 rw [List.length_reverse]
 refine Nat.le_trans (a _) ?_
 rw [List.length_reverse]
 exact Nat.le_refl _
def amongL (l : List UInt8) (c : Int) : Bool := l.any fun b => decide ((b.toNat : Int) = c)
theorem specAmong (s : ByteArray) (c : Int) (w : World) (hs : s.size ≤ 1048576) :
  Calls Tryz.prog 47 #[.string s, .int .i64 c] w fun e w' => e = .returned (.bool (amongL s.data.toList c)) ∧ w = w' := by
 go_enter Tryz.func47, Tryz.ntmps47
 go_wp2
 go_loop [5] (fun i => ∃ k : Nat, k ≤ s.size ∧ i = .int .i64 k ∧ amongL (s.data.toList.take k) c = false) (fun i => s.size - (intOf i).toNat)
 case atStart => exact ⟨0, Nat.zero_le _, rfl, rfl⟩
 obtain ⟨k, hk, rfl, hno⟩ := hrel
 have HN : Hid (amongL (s.data.toList.take k) c = false) := hno
 clear hno
 by_cases hlt : k < s.size
 ·obtain ⟨d, hd⟩ : ∃ d : Nat, s[k].toNat = d := ⟨_, rfl⟩
  have hd1 : (d : Int) ≤ 255 := by have := s[k].toNat_lt; omega
  by_cases he : (d : Int) = c
  ·have HV : Hid (amongL s.data.toList c = true) := by
    show _ = _
    unfold amongL
    refine List.any_eq_true.2 ⟨s[k], ?_, by rw [hd]; exact decide_eq_true he⟩
    have : s[k] ∈ s.data := Array.getElem_mem _
    simpa using this
   go_wp2
   go_ret
   exact ⟨ret_bool (by rw [HV.out]), rfl⟩
  have HN2 : Hid (amongL (s.data.toList.take (k + 1)) c = false) := by
   show _ = _
   have h := HN.out
   unfold amongL at h ⊢
   rw [take_snoc s k hlt, List.any_append, h]
   simp [hd, he]
  go_wp2
  go_round
  case rel => exact ⟨k + 1, by omega, by go_num, HN2.out⟩
  case measure => simp [intOf]; omega
 have HV : Hid (amongL s.data.toList c = false) := by
  show _ = _
  have h := HN.out
  rw [take_all s k (by omega)] at h
  exact h
 go_wp2
 go_ret
 exact ⟨ret_bool (by rw [HV.out]), rfl⟩
def letterZ (c : Int) : Bool := decide (97 ≤ c ∧ c ≤ 122) || decide (65 ≤ c ∧ c ≤ 90)
theorem specLetter (c : Int) (w : World) : Calls Tryz.prog 91 #[.int .i64 c] w fun e w' => e = .returned (.bool (letterZ c)) ∧ w = w' := by
 by_cases h1 : 97 ≤ c ∧ c ≤ 122
 ·have HV : Hid (letterZ c = true) := by show _ = _; unfold letterZ; rw [decide_eq_true h1]; rfl
  have H1 : Hid (97 ≤ c ∧ c ≤ 122) := h1
  clear h1
  go_enter Tryz.func91, Tryz.ntmps91
  go_wp2_with fail
  refine (specL1In_yes _ _ _ _ H1.out.1 H1.out.2).mono ?_
  rintro e w' ⟨rfl, rfl⟩
  go_wp2
  go_ret
  exact ⟨ret_bool (by rw [HV.out]), rfl⟩
 have HV : Hid (letterZ c = decide (65 ≤ c ∧ c ≤ 90)) := by show _ = _; unfold letterZ; rw [decide_eq_false h1]; rfl
 have H1 : Hid (c < 97 ∨ 122 < c) := by show _ ∨ _; omega
 clear h1
 go_enter Tryz.func91, Tryz.ntmps91
 go_wp2_with fail
 refine (specL1In_no _ _ _ _ H1.out).mono ?_
 rintro e w' ⟨rfl, rfl⟩
 go_wp2_with fail
 refine (specL1In _ _ _ _).mono ?_
 rintro e w' ⟨rfl, rfl⟩
 generalize decide (65 ≤ c ∧ c ≤ 90) = b at HV
 go_wp2
 go_ret
 exact ⟨ret_bool (by rw [HV.out]), rfl⟩
theorem keepZ_out {set : Int} (c : Int) (h : ¬ (1 ≤ set ∧ set ≤ 3)) : keepZ set c = false := by
 unfold keepZ
 rw [keep_out h]
 simp
theorem keepZ_nat (set : Int) (n : Nat) : keepZ set (n : Int) = keepN set n := by simp [keepZ]
def freeZ (c : Int) : Bool := decide (0 ≤ c) && freeN c.toNat
theorem plain_eq (c : Int) : amongL [45, 46, 95, 126] c = (decide (0 ≤ c) && plainT c.toNat) := by
 rw [Bool.eq_iff_iff]
 simp [amongL, plainT]
 omega
theorem mark_eq (c : Int) : amongL [33, 36, 38, 39, 40, 41, 42, 43, 44, 59, 61, 58, 64] c = (decide (0 ≤ c) && markN c.toNat) := by
 rw [Bool.eq_iff_iff]
 simp [amongL, markN]
 omega
theorem free_eq (c : Int) : freeZ c = (letterZ c || decide (48 ≤ c ∧ c ≤ 57) || amongL [45, 46, 95, 126] c) := by
 rw [plain_eq, Bool.eq_iff_iff]
 simp [freeZ, letterZ, freeN, letterN, digitN, plainT]
 omega
theorem specFree (c : Int) (w : World) : Calls Tryz.prog 79 #[.int .i64 c] w fun e w' => e = .returned (.bool (freeZ c)) ∧ w = w' := by
 have HV : Hid (freeZ c = (letterZ c || decide (48 ≤ c ∧ c ≤ 57) || amongL [45, 46, 95, 126] c)) := free_eq c
 have cl := fun W => specLetter c W
 have ca := fun W => specAmong ⟨#[45, 46, 95, 126]⟩ c W (by decide)
 have CL : Hid (∀ W, CS 91 #[.int .i64 c] W (.bool (letterZ c))) := cl
 have CA : Hid (∀ W, CS 47 #[.string ⟨#[45, 46, 95, 126]⟩, .int .i64 c] W (.bool (amongL [45, 46, 95, 126] c))) := ca
 clear cl ca
 generalize letterZ c = b1 at HV CL
 generalize amongL [45, 46, 95, 126] c = b3 at HV CA
 cases b1 with
 | true =>
  go_enter Tryz.func79, Tryz.ntmps79
  go_wp2_with fail
  refine (CL.out _).mono ?_
  rintro e w' ⟨rfl, rfl⟩
  go_wp2
  go_ret
  exact ⟨ret_bool (by rw [HV.out]; rfl), rfl⟩
 | false =>
  by_cases h2 : 48 ≤ c ∧ c ≤ 57
  ·rw [decide_eq_true h2] at HV
   have H2 : Hid (48 ≤ c ∧ c ≤ 57) := h2
   clear h2
   go_enter Tryz.func79, Tryz.ntmps79
   go_wp2_with fail
   refine (CL.out _).mono ?_
   rintro e w' ⟨rfl, rfl⟩
   go_wp2_with fail
   refine (specL1In_yes _ _ _ _ H2.out.1 H2.out.2).mono ?_
   rintro e w' ⟨rfl, rfl⟩
   go_wp2
   go_ret
   exact ⟨ret_bool (by rw [HV.out]; rfl), rfl⟩
  rw [decide_eq_false h2] at HV
  have H2 : Hid (c < 48 ∨ 57 < c) := by show _ ∨ _; omega
  clear h2
  go_enter Tryz.func79, Tryz.ntmps79
  go_wp2_with fail
  refine (CL.out _).mono ?_
  rintro e w' ⟨rfl, rfl⟩
  go_wp2_with fail
  refine (specL1In_no _ _ _ _ H2.out).mono ?_
  rintro e w' ⟨rfl, rfl⟩
  go_wp2_with fail
  refine (CA.out _).mono ?_
  rintro e w' ⟨rfl, rfl⟩
  go_wp2
  go_ret
  exact ⟨ret_bool (by rw [HV.out]; rfl), rfl⟩
theorem keepZ_eq {set : Int} (h : 1 ≤ set ∧ set ≤ 3) (c : Int) : keepZ set c = (freeZ c || amongL [33, 36, 38, 39, 40, 41, 42, 43, 44, 59, 61, 58, 64] c || (decide (c = 47) && decide (set ≠ 3)) || (decide (c = 63) && decide (set = 2))) := by
 rw [mark_eq]
 unfold keepZ keepN freeZ
 rw [decide_eq_true h]
 by_cases h0 : 0 ≤ c
 ·have e1 : decide (c.toNat = 47) = decide (c = 47) := decide_eq_decide.2 (by omega)
  have e2 : decide (c.toNat = 63) = decide (c = 63) := decide_eq_decide.2 (by omega)
  rw [e1, e2, decide_eq_true h0]
  rfl
 have e1 : decide (c = 47) = false := decide_eq_false (by omega)
 have e2 : decide (c = 63) = false := decide_eq_false (by omega)
 rw [e1, e2, decide_eq_false h0]
 rfl
theorem specKeeps (set c : Int) (w : World) :
  Calls Tryz.prog 81 #[.int .i64 set, .int .i64 c] w fun e w' => e = .returned (.bool (keepZ set c)) ∧ w = w' := by
 by_cases h : 1 ≤ set ∧ set ≤ 3
 ·have HV : Hid (keepZ set c = _) := keepZ_eq h c
  have H1 : Hid (1 ≤ set ∧ set ≤ 3) := h
  clear h
  have cl := fun W => specFree c W
  have ca := fun W => specAmong ⟨#[33, 36, 38, 39, 40, 41, 42, 43, 44, 59, 61, 58, 64]⟩ c W (by decide)
  have CL : Hid (∀ W, CS 79 #[.int .i64 c] W (.bool (freeZ c))) := cl
  have CA : Hid (∀ W, CS 47 #[.string ⟨#[33, 36, 38, 39, 40, 41, 42, 43, 44, 59, 61, 58, 64]⟩, .int .i64 c] W (.bool (amongL [33, 36, 38, 39, 40, 41, 42, 43, 44, 59, 61, 58, 64] c))) := ca
  clear cl ca
  generalize freeZ c = b1 at HV CL
  generalize amongL [33, 36, 38, 39, 40, 41, 42, 43, 44, 59, 61, 58, 64] c = b2 at HV CA
  cases b1 with
  | true =>
   go_enter Tryz.func81, Tryz.ntmps81
   go_wp2_with fail
   refine (specL1In_yes _ _ _ _ H1.out.1 H1.out.2).mono ?_
   rintro e w' ⟨rfl, rfl⟩
   go_wp2_with fail
   refine (CL.out _).mono ?_
   rintro e w' ⟨rfl, rfl⟩
   go_wp2
   go_ret
   exact ⟨ret_bool (by rw [HV.out]; rfl), rfl⟩
  | false =>
   cases b2 with
   | true =>
    go_enter Tryz.func81, Tryz.ntmps81
    go_wp2_with fail
    refine (specL1In_yes _ _ _ _ H1.out.1 H1.out.2).mono ?_
    rintro e w' ⟨rfl, rfl⟩
    go_wp2_with fail
    refine (CL.out _).mono ?_
    rintro e w' ⟨rfl, rfl⟩
    go_wp2_with fail
    refine (CA.out _).mono ?_
    rintro e w' ⟨rfl, rfl⟩
    go_wp2
    go_ret
    exact ⟨ret_bool (by rw [HV.out]; rfl), rfl⟩
   | false =>
    by_cases hs : c = 47
    ·subst hs
     by_cases he : set = 3
     ·subst he
      go_enter Tryz.func81, Tryz.ntmps81
      go_wp2_with fail
      refine (specL1In_yes _ _ _ _ H1.out.1 H1.out.2).mono ?_
      rintro e w' ⟨rfl, rfl⟩
      go_wp2_with fail
      refine (CL.out _).mono ?_
      rintro e w' ⟨rfl, rfl⟩
      go_wp2_with fail
      refine (CA.out _).mono ?_
      rintro e w' ⟨rfl, rfl⟩
      go_wp2
      go_ret
      exact ⟨ret_bool (by first | (rw [HV.out]; simp) | (rw [HV.out]; decide) | decide), rfl⟩
     go_enter Tryz.func81, Tryz.ntmps81
     go_wp2_with fail
     refine (specL1In_yes _ _ _ _ H1.out.1 H1.out.2).mono ?_
     rintro e w' ⟨rfl, rfl⟩
     go_wp2_with fail
     refine (CL.out _).mono ?_
     rintro e w' ⟨rfl, rfl⟩
     go_wp2_with fail
     refine (CA.out _).mono ?_
     rintro e w' ⟨rfl, rfl⟩
     go_wp2
     go_ret
     exact ⟨ret_bool (by first | (rw [HV.out]; simp [he]) | (rw [HV.out]; decide) | decide), rfl⟩
    by_cases hq : c = 63
    ·subst hq
     by_cases he : set = 2
     ·subst he
      go_enter Tryz.func81, Tryz.ntmps81
      go_wp2_with fail
      refine (specL1In_yes _ _ _ _ H1.out.1 H1.out.2).mono ?_
      rintro e w' ⟨rfl, rfl⟩
      go_wp2_with fail
      refine (CL.out _).mono ?_
      rintro e w' ⟨rfl, rfl⟩
      go_wp2_with fail
      refine (CA.out _).mono ?_
      rintro e w' ⟨rfl, rfl⟩
      go_wp2
      go_ret
      exact ⟨ret_bool (by first | (rw [HV.out]; simp) | (rw [HV.out]; decide) | decide), rfl⟩
     go_enter Tryz.func81, Tryz.ntmps81
     go_wp2_with fail
     refine (specL1In_yes _ _ _ _ H1.out.1 H1.out.2).mono ?_
     rintro e w' ⟨rfl, rfl⟩
     go_wp2_with fail
     refine (CL.out _).mono ?_
     rintro e w' ⟨rfl, rfl⟩
     go_wp2_with fail
     refine (CA.out _).mono ?_
     rintro e w' ⟨rfl, rfl⟩
     go_wp2
     go_ret
     exact ⟨ret_bool (by first | (rw [HV.out]; simp [he]) | (rw [HV.out]; decide) | decide), rfl⟩
    go_enter Tryz.func81, Tryz.ntmps81
    go_wp2_with fail
    refine (specL1In_yes _ _ _ _ H1.out.1 H1.out.2).mono ?_
    rintro e w' ⟨rfl, rfl⟩
    go_wp2_with fail
    refine (CL.out _).mono ?_
    rintro e w' ⟨rfl, rfl⟩
    go_wp2_with fail
    refine (CA.out _).mono ?_
    rintro e w' ⟨rfl, rfl⟩
    go_wp2
    go_ret
    exact ⟨ret_bool (by first | (rw [HV.out]; simp [hs, hq]) | (rw [HV.out]; decide) | decide), rfl⟩
 have HV : Hid (keepZ set c = false) := keepZ_out c h
 have H1 : Hid (set < 1 ∨ 3 < set) := by show _ ∨ _; omega
 clear h
 go_enter Tryz.func81, Tryz.ntmps81
 go_wp2_with fail
 refine (specL1In_no _ _ _ _ H1.out).mono ?_
 rintro e w' ⟨rfl, rfl⟩
 go_wp2
 go_ret
 exact ⟨ret_bool (by rw [HV.out]), rfl⟩
theorem specUntil (p : UInt8 → Bool) (m s : ByteArray) (w : World) (hm : m.size ≤ 1000) (hp : ∀ c : UInt8, amongL m.data.toList (c.toNat : Int) = !p c) (hs : s.size ≤ 16777216) :
  Calls Tryz.prog 46 #[.string s, .string m] w fun e w' => e = .returned (.tuple #[.string ⟨(s.data.toList.takeWhile p).toArray⟩, .string ⟨(s.data.toList.dropWhile p).toArray⟩]) ∧ Below w.heap.size w w' := by
 go_enter Tryz.func46, Tryz.ntmps46
 go_wp2
 go_loop [6] (fun i => ∃ k : Nat, k ≤ s.size ∧ i = .int .i64 k ∧ ∀ c ∈ s.data.toList.take k, p c = true) (fun i => s.size - (intOf i).toNat)
 case atStart => exact ⟨0, Nat.zero_le _, rfl, fun c hc => by cases hc⟩
 obtain ⟨k, hk, rfl, hall⟩ := hrel
 have HA : Hid (∀ c ∈ s.data.toList.take k, p c = true) := hall
 clear hall
 by_cases hlt : k < s.size
 ·have hdr := drop_at s k hlt
  have hpc := hp s[k]
  obtain ⟨d, hd⟩ : ∃ d : Nat, s[k].toNat = d := ⟨_, rfl⟩
  rw [hd] at hpc
  have CA : Hid (∀ W, CS 47 #[.string m, .int .i64 (d : Int)] W (.bool (!p s[k]))) := fun W => by
   have h := specAmong m (d : Int) W (by omega)
   rw [hpc] at h
   exact h
  clear hpc
  have hd2 : (d : Int) < 256 := by have := s[k].toNat_lt; omega
  cases hb : p s[k] with
  | true =>
   have HN : Hid (∀ c ∈ s.data.toList.take (k + 1), p c = true) := fun c hc => by
    rw [take_snoc s k hlt] at hc
    rcases List.mem_append.1 hc with h | h
    ·exact HA.out c h
    rw [List.mem_singleton.1 h]; exact hb
   rw [hb] at CA
   clear hb hdr
   go_wp2_with fail
   refine (CA.out _).mono ?_
   rintro e w' ⟨rfl, rfl⟩
   go_wp2_with fail
   go_round
   case rel => exact ⟨k + 1, by omega, by go_num, HN.out⟩
   case measure => simp [intOf]; omega
  | false =>
   obtain ⟨h1, h2⟩ := while_cut HA.out
   rw [hdr, List.takeWhile_cons, hb, if_neg (by decide), List.append_nil] at h1
   rw [hdr, List.dropWhile_cons, hb, if_neg (by decide), ← hdr] at h2
   have H1 : Hid (s.extract 0 k = ⟨(s.data.toList.takeWhile p).toArray⟩) := by show _ = _; rw [h1, ← take_data, mk_data]
   have H2 : Hid (s.extract k s.size = ⟨(s.data.toList.dropWhile p).toArray⟩) := by show _ = _; rw [h2, ← drop_data, mk_data]
   rw [hb] at CA
   clear hb hdr h1 h2
   go_wp2_with fail
   refine (CA.out _).mono ?_
   rintro e w' ⟨rfl, rfl⟩
   go_wp2
   go_region
   all_goals (try go_wp2)
   all_goals go_ret2
   all_goals exact ⟨by rw [← H1.out, ← H2.out]; rfl, (Below.refl _ _).drew⟩
 have HN : Hid (∀ c ∈ s.data.toList, p c = true) := fun c hc => HA.out c (by rw [take_all s k (by omega)]; exact hc)
 obtain ⟨h1, h2⟩ := while_cut (p := p) (l := s.data.toList) (k := s.size) (fun c hc => HN.out c (List.mem_of_mem_take hc))
 rw [take_all s s.size (Nat.le_refl _), List.drop_of_length_le (by simp)] at h1
 rw [List.drop_of_length_le (by simp)] at h2
 have h3 : s.data.toList.takeWhile p = s.data.toList := by rw [h1]; simp
 have H1 : Hid (s = ⟨(s.data.toList.takeWhile p).toArray⟩) := by show _ = _; rw [h3]
 have H2 : Hid ((⟨#[]⟩ : ByteArray) = ⟨(s.data.toList.dropWhile p).toArray⟩) := by show _ = _; rw [h2]; rfl
 clear h1 h2 h3
 go_wp2
 go_ret2
 exact ⟨by rw [← H1.out, ← H2.out]; rfl, Below.refl _ _⟩
theorem below_drewN {B : Nat} {w w' : World} (h : Below B w w') (n : Nat) : Below B w (w'.drewN n) := ⟨h.os, h.tape, h.output, h.size, h.block⟩
theorem pctAt_not {s : ByteArray} {k : Nat} (h : k + 2 < s.size) (h1 : s[k].toNat ≠ 37) : pctAt s k = -1 := by
 rw [pctAt_in s k h]
 unfold pctV
 rw [if_neg (fun h => h1 h.1)]
theorem pctAt_hex {s : ByteArray} {k d1 d2 : Nat} (h : k + 2 < s.size) (h1 : s[k].toNat = 37) (e1 : s[k + 1].toNat = d1) (e2 : s[k + 2].toNat = d2) : pctAt s k = if 0 ≤ hexN d1 ∧ 0 ≤ hexN d2 then hexN d1 * 16 + hexN d2 else -1 := by
 rw [pctAt_in s k h, e1, e2]
 unfold pctV
 simp [h1]
theorem run_at (P : Program) (t : TypeId) (h : P.underlying t = some .string) (s : ByteArray) (i : Int) (j d : Nat) (hj : j < s.size) (hi : i = (j : Int)) (hd : s[j].toNat = d) (W : World) :
  (Instr.index t (.string s) (.int .i64 i)).run P W = .ok (.int .u8 (d : Int)) W := by
 subst hi
 rw [run_index_string W t s .i64 _ h, dif_pos (by omega)]
 simp [hd]
theorem specByte (s : ByteArray) (k : Nat) (w : World) (hk : k < s.size) (hs : s.size ≤ 1099511627776) :
  Calls Tryz.prog 76 #[.string s, .int .i64 (k : Int)] w fun e w' => e = .returned (.int .i64 (pctAt s k)) ∧ Below w.heap.size w w' := by
 have hki : (k : Int) ≤ 1099511627776 := by omega
 have hk0 : 0 ≤ (k : Int) := by omega
 have hw1 : IntKind.i64.wrap ((k : Int) + 1) = ((k + 1 : Nat) : Int) := by rw [IntKind.wrap_i64]; omega
 have hw2 : IntKind.i64.wrap ((k : Int) + 2) = ((k + 2 : Nat) : Int) := by rw [IntKind.wrap_i64]; omega
 by_cases h2 : k + 2 < s.size
 ·have h2i : ¬ (s.size : Int) ≤ (k : Int) + 2 := by omega
  by_cases h37 : s[k].toNat = 37
  ·obtain ⟨d1, e1⟩ : ∃ d : Nat, s[k + 1].toNat = d := ⟨_, rfl⟩
   obtain ⟨d2, e2⟩ : ∃ d : Nat, s[k + 2].toNat = d := ⟨_, rfl⟩
   have i1 := run_at Tryz.prog 9 Tryz.underlying9 s ((k : Int) + 1) (k + 1) d1 (by omega) (by omega) e1
   have i2 := run_at Tryz.prog 9 Tryz.underlying9 s ((k : Int) + 2) (k + 2) d2 (by omega) (by omega) e2
   have b1 : d1 ≤ 255 := by have := s[k + 1].toNat_lt; omega
   have b2 : d2 ≤ 255 := by have := s[k + 2].toNat_lt; omega
   have HV : Hid (pctAt s k = if 0 ≤ hexN d1 ∧ 0 ≤ hexN d2 then hexN d1 * 16 + hexN d2 else -1) := pctAt_hex h2 h37 e1 e2
   have c1 := fun n : Nat => Calls.quiet_of_same (w := w) (n := n) (v := .int .i64 (hexN d1)) ((specHex d1 (w.drewN n) (by omega)).mono fun _ _ ⟨a, b⟩ => ⟨a, b.symm⟩)
   have c2 := fun n : Nat => Calls.quiet_of_same (w := w) (n := n) (v := .int .i64 (hexN d2)) ((specHex d2 (w.drewN n) (by omega)).mono fun _ _ ⟨a, b⟩ => ⟨a, b.symm⟩)
   have q1 := fun W : World => specHex d1 W (by omega)
   have q2 := fun W : World => specHex d2 W (by omega)
   have l1 := hexN_le d1
   have l2 := hexN_le d2
   generalize hexN d1 = x at HV c1 l1 q1
   generalize hexN d2 = y at HV c2 l2 q2
   have C1 : Hid (∀ n, Calls Tryz.prog 57 #[.int .u8 (d1 : Int)] (w.drewN n) fun e w'' => e = .returned (.int .i64 x) ∧ ∃ m, w'' = w.drewN m) := c1
   have C2 : Hid (∀ n, Calls Tryz.prog 57 #[.int .u8 (d2 : Int)] (w.drewN n) fun e w'' => e = .returned (.int .i64 y) ∧ ∃ m, w'' = w.drewN m) := c2
   have D1 : Hid (∀ W, CS 57 #[.int .u8 (d1 : Int)] W (.int .i64 x)) := q1
   have D2 : Hid (∀ W, CS 57 #[.int .u8 (d2 : Int)] W (.int .i64 y)) := q2
   clear c1 c2 q1 q2
   obtain ⟨l1a, l1b⟩ := l1
   obtain ⟨l2a, l2b⟩ := l2
   by_cases hx : 0 ≤ x
   ·by_cases hy : 0 ≤ y
    ·go_enter Tryz.func76, Tryz.ntmps76
     go_wp2_with fail
     refine (D1.out _).mono ?_
     rintro e w' ⟨rfl, rfl⟩
     go_wp2_with fail
     refine (D2.out _).mono ?_
     rintro e w' ⟨rfl, rfl⟩
     go_wp2_with fail
     go_quiet ((go_at_call 57; first | with_reducible exact C1.out _ | with_reducible exact C2.out _))
     go_wp2
     go_ret
     exact ⟨ret_int (by rw [HV.out, if_pos ⟨hx, hy⟩]), below_drewN (Below.refl _ _) _⟩
    go_enter Tryz.func76, Tryz.ntmps76
    go_wp2_with fail
    refine (D1.out _).mono ?_
    rintro e w' ⟨rfl, rfl⟩
    go_wp2_with fail
    refine (D2.out _).mono ?_
    rintro e w' ⟨rfl, rfl⟩
    go_wp2
    go_ret
    exact ⟨ret_int (by rw [HV.out, if_neg (by omega)]), Below.refl _ _⟩
   go_enter Tryz.func76, Tryz.ntmps76
   go_wp2_with fail
   refine (D1.out _).mono ?_
   rintro e w' ⟨rfl, rfl⟩
   go_wp2
   go_ret
   exact ⟨ret_int (by rw [HV.out, if_neg (by omega)]), Below.refl _ _⟩
  have HV : Hid (pctAt s k = -1) := pctAt_not h2 h37
  obtain ⟨d0, e0⟩ : ∃ d : Nat, s[k].toNat = d := ⟨_, rfl⟩
  have hne : ¬ (d0 : Int) = 37 := by omega
  clear h37
  go_enter Tryz.func76, Tryz.ntmps76
  go_wp2
  go_ret
  exact ⟨ret_int (by rw [HV.out]), Below.refl _ _⟩
 have h2i : (s.size : Int) ≤ (k : Int) + 2 := by omega
 have HV : Hid (pctAt s k = -1) := pctAt_out s k (by omega)
 go_enter Tryz.func76, Tryz.ntmps76
 go_wp2
 go_ret
 exact ⟨ret_int (by rw [HV.out]), Below.refl _ _⟩
end Go.Proofs.YtidecdlaeomfoaaGreat
