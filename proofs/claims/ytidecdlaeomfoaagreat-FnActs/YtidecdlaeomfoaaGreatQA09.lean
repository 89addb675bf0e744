/- DropWalk, NamesPlain, SplPlain, NumWalk, LooseWalk, FieldSpl. -/
import Derived.Test.YtidecdlaeomfoaaGreatQA08
set_option maxHeartbeats 1000000
namespace Go.Proofs.YtidecdlaeomfoaaGreat
open Go.RowKit
def dropE (fs : List ByteArray) : List ByteArray := if 1 < fs.length ∧ (fs.getD (fs.length - 1) ByteArray.empty).size = 0 then fs.take (fs.length - 1) else fs
theorem dropE_pos {fs : List ByteArray} (h : 0 < fs.length) : 0 < (dropE fs).length := by
 unfold dropE
 split
 ·rw [List.length_take]; omega
 exact h
theorem fields_sizes46 (s : ByteArray) (hs : s.size ≤ 1048576) : ∀ x ∈ fieldsL s 46, x.size ≤ 1048576 := fun x hx => Nat.le_trans (fieldsL_sizes s 46 x hx) hs
def ascB (s : ByteArray) : Option ByteArray := match ascL s.data.toList with
 | some t => some ⟨t.toArray⟩
 | none => none
def ascs : List ByteArray → Option (List ByteArray)
 | [] => some []
 | s :: r => match ascB s, ascs r with
  | some a, some b => some (a :: b)
  | _, _ => none
def namesL (fs : List ByteArray) : Option (List UInt8) := match ascs fs with
 | some ls => if (jn 46 ls).length ≤ 253 then some (jn 46 ls) else none
 | none => none
def nameL (s : ByteArray) : Option (List UInt8) := namesL (dropE (fieldsL s 46))
theorem ascs_append (a b : List ByteArray) : ascs (a ++ b) = match ascs a, ascs b with
  | some x, some y => some (x ++ y)
  | _, _ => none := by
 induction a with
 | nil =>
  simp only [List.nil_append, ascs]
  cases ascs b <;> rfl
 | cons s r ih =>
  simp only [List.cons_append, ascs, ih]
  cases ascB s <;> cases ascs r <;> cases ascs b <;> rfl
theorem ascs_len : ∀ {fs ls : List ByteArray}, ascs fs = some ls → ls.length = fs.length
 | [], ls, h => by cases h; rfl
 | s :: r, ls, h => by
  rw [ascs] at h
  cases h1 : ascB s with
  | none => rw [h1] at h; cases h
  | some a =>
   cases h2 : ascs r with
   | none => rw [h1, h2] at h; cases h
   | some b =>
    rw [h1, h2] at h
    cases h
    rw [List.length_cons, List.length_cons, ascs_len h2]
theorem ascs_mem : ∀ {fs ls : List ByteArray}, ascs fs = some ls → ∀ a ∈ ls, ∃ s ∈ fs, ascB s = some a
 | [], ls, h => by cases h; intro a ha; simp at ha
 | s :: r, ls, h => by
  rw [ascs] at h
  cases h1 : ascB s with
  | none => rw [h1] at h; cases h
  | some x =>
   cases h2 : ascs r with
   | none => rw [h1, h2] at h; cases h
   | some b =>
    rw [h1, h2] at h
    cases h
    intro a ha
    rcases List.mem_cons.1 ha with rfl | hb
    ·exact ⟨s, List.mem_cons_self, h1⟩
    obtain ⟨q, hq, e⟩ := ascs_mem h2 a hb
    exact ⟨q, List.mem_cons_of_mem _ hq, e⟩
theorem ascB_lab {s a : ByteArray} (h : ascB s = some a) : labL a.data.toList = true ∧ ascB a = some a := by
 unfold ascB at h
 cases hs : ascL s.data.toList with
 | none => rw [hs] at h; cases h
 | some t =>
  rw [hs] at h
  cases h
  refine ⟨ascL_lab hs, ?_⟩
  unfold ascB
  rw [show (⟨t.toArray⟩ : ByteArray).data.toList = t from rfl, ascL_idem hs]
theorem ascs_labs {fs ls : List ByteArray} (h : ascs fs = some ls) : ∀ a ∈ ls, labL a.data.toList = true ∧ ascB a = some a := fun a ha => by
 obtain ⟨s, _, e⟩ := ascs_mem h a ha
 exact ascB_lab e
theorem ascs_self : ∀ {ls : List ByteArray}, (∀ a ∈ ls, ascB a = some a) → ascs ls = some ls
 | [], _ => rfl
 | a :: r, h => by
  rw [ascs, h a List.mem_cons_self, ascs_self fun b hb => h b (List.mem_cons_of_mem _ hb)]
theorem jn_le (sep : UInt8) (a b : List ByteArray) : (jn sep a).length ≤ (jn sep (a ++ b)).length := by
 cases a with
 | nil => simp [jn]
 | cons x xs => simp [jn, List.flatMap_append]
theorem labs_size {ls : List ByteArray} (h : ∀ a ∈ ls, labL a.data.toList = true ∧ ascB a = some a) : ∀ a ∈ ls, a.size ≤ 63 := fun a ha => by
 have := (labL_parts (h a ha).1).2.1
 simpa using this
theorem namesL_no {fs : List ByteArray} (h : ascs fs = none) : namesL fs = none := by unfold namesL; rw [h]
theorem namesL_big {fs ls : List ByteArray} (h : ascs fs = some ls) (h2 : ¬ (jn 46 ls).length ≤ 253) : namesL fs = none := by unfold namesL; rw [h]; exact if_neg h2
theorem namesL_yes {fs ls : List ByteArray} (h : ascs fs = some ls) (h2 : (jn 46 ls).length ≤ 253) : namesL fs = some (jn 46 ls) := by unfold namesL; rw [h]; exact if_pos h2
def spl (b : UInt8) : List UInt8 → List (List UInt8)
 | [] => [[]]
 | c :: r => if c = b then [] :: spl b r else match spl b r with
  | [] => [[c]]
  | x :: xs => (c :: x) :: xs
theorem spl_snoc (b : UInt8) : ∀ l, ∃ xs y, spl b l = xs ++ [y] ∧ ∀ c, spl b (l ++ [c]) = if c = b then xs ++ [y, []] else xs ++ [y ++ [c]]
 | [] => ⟨[], [], rfl, fun c => by
   by_cases h : c = b
   ·simp [spl, h]
   simp [spl, h]⟩
 | d :: r => by
  obtain ⟨xs, y, h1, h2⟩ := spl_snoc b r
  by_cases hd : d = b
  ·refine ⟨[] :: xs, y, by simp [spl, hd, h1], fun c => ?_⟩
   rw [List.cons_append, spl, if_pos hd, h2 c]
   split <;> simp
  cases xs with
  | nil =>
   refine ⟨[], d :: y, by simp [spl, hd, h1], fun c => ?_⟩
   rw [List.cons_append, spl, if_neg hd, h2 c]
   by_cases hc : c = b <;> simp [hc]
  | cons x xs =>
   refine ⟨(d :: x) :: xs, y, by simp [spl, hd, h1], fun c => ?_⟩
   rw [List.cons_append, spl, if_neg hd, h2 c]
   by_cases hc : c = b <;> simp [hc]
theorem spl_cut (b : UInt8) {l xs : List _} {y : List UInt8} (h : spl b l = xs ++ [y]) (c : UInt8) : spl b (l ++ [c]) = if c = b then xs ++ [y, []] else xs ++ [y ++ [c]] := by
 obtain ⟨xs', y', h1, h2⟩ := spl_snoc b l
 have e := h.symm.trans h1
 obtain ⟨e1, e2⟩ := List.append_inj' e rfl
 cases e2
 subst e1
 exact h2 c
def jl (b : UInt8) : List (List UInt8) → List UInt8
 | [] => []
 | [x] => x
 | x :: y :: r => x ++ b :: jl b (y :: r)
theorem jl_spl (b : UInt8) : ∀ l, jl b (spl b l) = l
 | [] => rfl
 | c :: r => by
  have ih := jl_spl b r
  obtain ⟨xs, y, h, _⟩ := spl_snoc b r
  by_cases hc : c = b
  ·rw [spl, if_pos hc]
   rw [h] at ih ⊢
   cases xs with
   | nil => simp [jl] at ih ⊢; exact ⟨hc.symm, ih⟩
   | cons x xs => simp [jl] at ih ⊢; exact ⟨hc.symm, ih⟩
  rw [spl, if_neg hc]
  rw [h] at ih ⊢
  cases xs with
  | nil => simp [jl] at ih ⊢; exact ih
  | cons x xs => cases xs <;> simp [jl] at ih ⊢ <;> exact ih
def digF (base : Nat) : Nat → List UInt8 → Option Nat
 | n, [] => some n
 | n, c :: r => if 0 ≤ hexN c.toNat ∧ hexN c.toNat < (base : Int) then digF base (n * base + (hexN c.toNat).toNat) r else none
def numL (base most : Nat) (l : List UInt8) : Option Nat := if l.length ≤ most then digF base 0 l else none
def dec3 (v : Nat) : List UInt8 := if v < 10 then [UInt8.ofNat (48 + v)] else if v < 100 then [UInt8.ofNat (48 + v / 10), UInt8.ofNat (48 + v % 10)] else [UInt8.ofNat (48 + v / 100), UInt8.ofNat (48 + v / 10 % 10), UInt8.ofNat (48 + v % 10)]
def str1 (l : List UInt8) : Option Nat := if l.isEmpty then none else match numL 10 3 l with
 | none => none
 | some v => if 255 < v ∨ 1 < l.length ∧ l.head? = some 48 then none else some v
def loose0 : List UInt8 → Option Nat
 | [] => numL 8 11 []
 | d :: q => if d = 120 ∨ d = 88 then numL 16 8 q else numL 8 11 (d :: q)
def looseP : List UInt8 → Option Nat
 | [] => none
 | c :: r => if c = 48 then loose0 r else numL 10 10 (c :: r)
theorem dec3_len (v : Nat) : (dec3 v).length ≤ 3 := by unfold dec3; split; simp; split <;> simp
def dgU (i : Nat) : UInt8 := UInt8.ofNat (48 + i)
def fitB (l : List UInt8) : Bool := match str1 l with
 | none => true
 | some v => decide (v < 256) && decide (l = dec3 v)
theorem fit1 : ∀ i, i < 10 → fitB [dgU i] = true := by decide +kernel
theorem fit2 : ∀ i, i < 10 → ∀ j, j < 10 → fitB [dgU i, dgU j] = true := by decide +kernel
theorem fit3 : ∀ i, i < 10 → ∀ j, j < 10 → ∀ k, k < 10 → fitB [dgU i, dgU j, dgU k] = true := by decide +kernel
theorem hex_ten {c : UInt8} (h : 0 ≤ hexN c.toNat ∧ hexN c.toNat < ((10 : Nat) : Int)) : ∃ i, i < 10 ∧ c = dgU i := by
 unfold hexN at h
 refine ⟨c.toNat - 48, ?_, ?_⟩
 ·split at h
  ·omega
  split at h
  ·omega
  split at h <;> omega
 unfold dgU
 have : 48 + (c.toNat - 48) = c.toNat := by
  split at h
  ·omega
  split at h
  ·omega
  split at h <;> omega
 rw [this, UInt8.ofNat_toNat]
theorem digF_all {base : Nat} : ∀ {l : List UInt8} {n v : Nat}, digF base n l = some v → ∀ c ∈ l, 0 ≤ hexN c.toNat ∧ hexN c.toNat < (base : Int)
 | [], _, _, _, c, hc => by simp at hc
 | d :: r, n, v, h, c, hc => by
  rw [digF] at h
  split at h
  ·rename_i hd
   rcases List.mem_cons.1 hc with rfl | hc
   ·exact hd
   exact digF_all h c hc
  cases h
theorem fit_of {l : List UInt8} {v : Nat} (h : str1 l = some v) (hb : fitB l = true) : v < 256 ∧ l = dec3 v := by
 unfold fitB at hb
 rw [h] at hb
 simpa using hb
theorem str1_iff {l : List UInt8} {v : Nat} (h : str1 l = some v) : v < 256 ∧ l = dec3 v := by
 refine fit_of h ?_
 unfold str1 at h
 split at h
 ·cases h
 rename_i he
 unfold numL at h
 by_cases h3 : l.length ≤ 3
 ·rw [if_pos h3] at h
  cases hd : digF 10 0 l with
  | none => rw [hd] at h; cases h
  | some x =>
   have hall := digF_all hd
   match l, h3, he, hall with
   | [], _, he, _ => simp at he
   | [a], _, _, hall =>
    obtain ⟨i, hi, rfl⟩ := hex_ten (hall a (by simp))
    exact fit1 i hi
   | [a, b], _, _, hall =>
    obtain ⟨i, hi, rfl⟩ := hex_ten (hall a (by simp))
    obtain ⟨j, hj, rfl⟩ := hex_ten (hall b (by simp))
    exact fit2 i hi j hj
   | [a, b, c], _, _, hall =>
    obtain ⟨i, hi, rfl⟩ := hex_ten (hall a (by simp))
    obtain ⟨j, hj, rfl⟩ := hex_ten (hall b (by simp))
    obtain ⟨k, hk, rfl⟩ := hex_ten (hall c (by simp))
    exact fit3 i hi j hj k hk
   | _ :: _ :: _ :: _ :: _, h3, _, _ => simp at h3
 rw [if_neg h3] at h
 cases h
def stF : Nat → List (List UInt8) → Option Nat
 | n, [] => some n
 | n, x :: r => match str1 x with
  | none => none
  | some v => stF (n * 256 + v) r
def p4 (l : List UInt8) : Option Nat := if (spl 46 l).length = 4 then stF 0 (spl 46 l) else none
def ip4L (n : Nat) : List UInt8 := dec3 (n / 16777216) ++ 46 :: (dec3 (n / 65536 % 256) ++ 46 :: (dec3 (n / 256 % 256) ++ 46 :: dec3 (n % 256)))
theorem ip4_jl (n : Nat) : ip4L n = jl 46 [dec3 (n / 16777216), dec3 (n / 65536 % 256), dec3 (n / 256 % 256), dec3 (n % 256)] := rfl
theorem p4_some {l : List UInt8} {n : Nat} (h : p4 l = some n) : n < 4294967296 ∧ l = ip4L n := by
 unfold p4 at h
 split at h
 ·rename_i h4
  have hj := jl_spl 46 l
  generalize spl 46 l = fs at h h4 hj
  match fs, h4 with
  | [a, b, c, d], _ =>
   simp only [stF] at h
   cases ha : str1 a with
   | none => rw [ha] at h; cases h
   | some x =>
    rw [ha] at h
    simp only at h
    cases hb : str1 b with
    | none => rw [hb] at h; cases h
    | some y =>
     rw [hb] at h
     simp only at h
     cases hc : str1 c with
     | none => rw [hc] at h; cases h
     | some z =>
      rw [hc] at h
      simp only at h
      cases hd : str1 d with
      | none => rw [hd] at h; cases h
      | some u =>
       rw [hd] at h
       simp only [Option.some.injEq] at h
       obtain ⟨h1, rfl⟩ := str1_iff ha
       obtain ⟨h2, rfl⟩ := str1_iff hb
       obtain ⟨h3, rfl⟩ := str1_iff hc
       obtain ⟨h5, rfl⟩ := str1_iff hd
       refine ⟨by omega, ?_⟩
       rw [← hj, ip4_jl, ← h]
       congr 5 <;> congr 1 <;> omega
 cases h
def loF : Nat → Nat → List (List UInt8) → Option Nat
 | _, _, [] => none
 | n, room, [x] => match looseP x with
  | none => none
  | some v => if v < room then some (n * room + v) else none
 | n, room, x :: y :: r => match looseP x with
  | none => none
  | some v => if v < 256 then loF (n * 256 + v) (room / 256) (y :: r) else none
def lo4 (fs : List (List UInt8)) : Option Nat := if fs.length ≤ 4 then loF 0 4294967296 fs else none
theorem loF_lt : ∀ {fs : List (List UInt8)} {n room m : Nat}, loF n room fs = some m → m < (n + 1) * room
 | [], _, _, _, h => by cases h
 | [x], n, room, m, h => by
  rw [loF] at h
  cases hx : looseP x with
  | none => rw [hx] at h; cases h
  | some v =>
   rw [hx] at h
   simp only at h
   split at h
   ·cases h
    rw [Nat.add_mul, Nat.one_mul]
    omega
   cases h
 | x :: y :: r, n, room, m, h => by
  rw [loF] at h
  cases hx : looseP x with
  | none => rw [hx] at h; cases h
  | some v =>
   rw [hx] at h
   simp only at h
   split at h
   ·rename_i hv
    have ih := loF_lt h
    refine Nat.lt_of_lt_of_le ih ?_
    have h1 : (n * 256 + v + 1) * (room / 256) ≤ (n * 256 + 256) * (room / 256) := Nat.mul_le_mul_right _ (by omega)
    have h2 : (n * 256 + 256) * (room / 256) = (n + 1) * (256 * (room / 256)) := by rw [← Nat.mul_assoc, Nat.add_mul n 1 256, Nat.one_mul]
    have h3 : 256 * (room / 256) ≤ room := Nat.mul_div_le room 256
    exact Nat.le_trans h1 (h2 ▸ Nat.mul_le_mul_left _ h3)
   cases h
theorem lo4_lt {fs : List (List UInt8)} {m : Nat} (h : lo4 fs = some m) : m < 4294967296 := by
 unfold lo4 at h
 split at h
 ·have := loF_lt h
  omega
 cases h
def numZ (r : Option Nat) : Int := match r with
 | none => -1
 | some n => n
theorem digF_drop (s : ByteArray) (k : Nat) (h : k < s.size) (base n : Nat) : digF base n (s.data.toList.drop k) =
  if 0 ≤ hexN s[k].toNat ∧ hexN s[k].toNat < (base : Int) then digF base (n * base + (hexN s[k].toNat).toNat) (s.data.toList.drop (k + 1)) else none := by
 rw [List.drop_eq_getElem_cons (by simpa using h), digF]
 rfl
theorem num_no {base most : Nat} {l : List UInt8} (h : most < l.length) : numL base most l = none := by unfold numL; rw [if_neg (by omega)]
theorem num_yes {base most : Nat} {l : List UInt8} (h : l.length ≤ most) : numL base most l = digF base 0 l := by unfold numL; rw [if_pos h]
theorem pow_room {n base d k : Nat} (hb : base ≤ 16) (hd : d < base) (hn : n < 16 ^ k) : n * base + d < 16 ^ (k + 1) := by
 have h1 : n * base ≤ n * 16 := Nat.mul_le_mul_left _ hb
 rw [Nat.pow_succ]
 omega
theorem pow_le {k : Nat} (h : k ≤ 11) : 16 ^ k ≤ 17592186044416 := Nat.pow_le_pow_right (by decide) h
theorem spec5Number (s : ByteArray) (base most : Nat) (w : World) (hb : base ≤ 16) (hm : most ≤ 11) :
  Calls Tryz.prog 50 #[.string s, .int .i64 (base : Int), .int .i64 (most : Int)] w fun e w' => e = .returned (.int .i64 (numZ (numL base most s.data.toList))) ∧ w = w' := by
 have hsl : s.data.toList.length = s.size := by simp
 by_cases hlen : most < s.size
 ·have HF : Hid (numL base most s.data.toList = none) := num_no (by omega)
  have hlen' : (most : Int) < (s.size : Int) := by omega
  clear hsl
  go_enter Tryz.func50, Tryz.ntmps50
  go_wp2
  go_ret
  exact ⟨by rw [HF.out]; rfl, rfl⟩
 have HF : Hid (numL base most s.data.toList = digF base 0 s.data.toList) := num_yes (by omega)
 have hlen' : ¬ (most : Int) < (s.size : Int) := by omega
 clear hsl
 go_enter Tryz.func50, Tryz.ntmps50
 go_wp2
 go_loop [7, 8] (fun x i => ∃ k n : Nat, k ≤ s.size ∧ n < 16 ^ k ∧ i = .int .i64 k ∧ x = .int .i64 n ∧ digF base n (s.data.toList.drop k) = digF base 0 s.data.toList) (fun _ i => s.size - (intOf i).toNat)
 case atStart => exact ⟨0, 0, Nat.zero_le _, by decide, rfl, rfl, rfl⟩
 obtain ⟨k, n, hk, hn, rfl, rfl, hf⟩ := hrel
 have HR : Hid (digF base n (s.data.toList.drop k) = digF base 0 s.data.toList) := hf
 have HN : Hid (n < 16 ^ k) := hn
 have hk11 : k ≤ 11 := by omega
 have hn2 : n < 17592186044416 := Nat.lt_of_lt_of_le hn (pow_le hk11)
 clear hf hn
 by_cases hlt : k < s.size
 ·obtain ⟨d, hd⟩ : ∃ d : Nat, s[k].toNat = d := ⟨_, rfl⟩
  have hd1 : (d : Int) ≤ 255 := by have := s[k].toNat_lt; omega
  have HD : Hid (digF base n (s.data.toList.drop k) = if 0 ≤ hexN d ∧ hexN d < (base : Int) then digF base (n * base + (hexN d).toNat) (s.data.toList.drop (k + 1)) else none) := by
   show _ = _
   rw [digF_drop s k hlt base n, hd]
  obtain ⟨hx1, hx2⟩ := hexN_le d
  have CH : Hid (∀ W, CS 57 #[.int .u8 (d : Int)] W (.int .i64 (hexN d))) := fun W => specHex d W hd1
  generalize hexN d = x at HD CH hx1 hx2
  have hki : (k : Int) < (s.size : Int) := by omega
  by_cases hx : 0 ≤ x ∧ x < (base : Int)
  ·obtain ⟨y, rfl⟩ : ∃ y : Nat, x = (y : Int) := ⟨x.toNat, by omega⟩
   obtain ⟨p, hp⟩ : ∃ p : Nat, n * base = p := ⟨_, rfl⟩
   have HP : Hid (n * base = p) := hp
   have hp2 : (n : Int) * (base : Int) = (p : Int) := by rw [← hp]; simp
   have hp3 : p + y < 281474976710656 := by
    have h1 : n * base ≤ n * 16 := Nat.mul_le_mul_left _ hb
    omega
   have hyb : ¬ (base : Int) ≤ (y : Int) := by omega
   have HX : Hid (y < base) := by show _ < _; omega
   clear hx hp
   go_wp2_with fail
   refine (CH.out _).mono ?_
   rintro e w' ⟨rfl, rfl⟩
   go_wp2_with fail
   go_round
   case rel =>
    refine ⟨k + 1, n * base + y, by omega, pow_room hb HX.out HN.out, by go_num, by rw [HP.out]; go_num, ?_⟩
    rw [← HR.out, HD.out, if_pos ⟨by omega, by have := HX.out; omega⟩]
    simp
   case measure => simp [intOf]; omega
  have HZ : Hid (digF base 0 s.data.toList = none) := by
   show _ = _
   rw [← HR.out, HD.out, if_neg hx]
  have HX : Hid (¬ (0 ≤ x ∧ x < (base : Int))) := hx
  clear hx
  by_cases hx0 : x < 0
  ·go_wp2_with fail
   refine (CH.out _).mono ?_
   rintro e w' ⟨rfl, rfl⟩
   go_wp2_with fail
   go_ret
   exact ⟨by rw [HF.out, HZ.out]; rfl, rfl⟩
  have hx3 : (base : Int) ≤ x := by have := HX.out; omega
  go_wp2_with fail
  refine (CH.out _).mono ?_
  rintro e w' ⟨rfl, rfl⟩
  go_wp2_with fail
  go_ret
  exact ⟨by rw [HF.out, HZ.out]; rfl, rfl⟩
 have HZ : Hid (digF base 0 s.data.toList = some n) := by
  show _ = _
  rw [← HR.out, List.drop_of_length_le (by simp; omega)]
  rfl
 have hki : ¬ (k : Int) < (s.size : Int) := by omega
 go_wp2_with fail
 go_ret
 exact ⟨by rw [HF.out, HZ.out]; rfl, rfl⟩
def numA (r : Option Nat) : Value := match r with
 | none => .tuple #[.int .i64 0, .bool false]
 | some n => .tuple #[.int .i64 n, .bool true]
def alD (base : Nat) (l : List UInt8) : Bool := l.all fun c => decide (0 ≤ hexN c.toNat ∧ hexN c.toNat < (base : Int))
theorem alD_drop (s : ByteArray) (k : Nat) (h : k < s.size) (base : Nat) : alD base (s.data.toList.drop k) = (decide (0 ≤ hexN s[k].toNat ∧ hexN s[k].toNat < (base : Int)) && alD base (s.data.toList.drop (k + 1))) := by
 rw [List.drop_eq_getElem_cons (by simpa using h)]
 rfl
theorem toL_one (s : ByteArray) (h : 0 < s.size) : s.data.toList = s[0] :: (s.extract 1 s.size).data.toList := by
 rw [extract_list, take_all s s.size (Nat.le_refl _)]
 exact (List.drop_zero (l := s.data.toList)).symm.trans (List.drop_eq_getElem_cons (by simpa using h))
theorem toL_two (s : ByteArray) (h : 1 < s.size) : s.data.toList = s[0] :: s[1] :: (s.extract 2 s.size).data.toList := by
 rw [extract_list, take_all s s.size (Nat.le_refl _)]
 have h1 : s.data.toList.drop 0 = s[0] :: s.data.toList.drop (0 + 1) := List.drop_eq_getElem_cons (by simp; omega)
 have h2 : s.data.toList.drop 1 = s[1] :: s.data.toList.drop (1 + 1) := List.drop_eq_getElem_cons (by simpa using h)
 rw [List.drop_zero] at h1
 rw [show 0 + 1 = 1 from rfl, h2] at h1
 exact h1
theorem u8_is {c d : UInt8} (h : c.toNat = d.toNat) : c = d := UInt8.toNat_inj.1 h
theorem u8_not {c d : UInt8} (h : ¬ c.toNat = d.toNat) : c ≠ d := fun e => h (by rw [e])
theorem loose_nil {s : ByteArray} (h : s.size = 0) : looseP s.data.toList = none := by
 have : s.data.toList = [] := List.eq_nil_of_length_eq_zero (by simpa using h)
 rw [this]; rfl
theorem loose_x {s : ByteArray} (h : 1 < s.size) (h0 : s[0].toNat = 48) (h1 : s[1].toNat = 120 ∨ s[1].toNat = 88) : looseP s.data.toList = numL 16 8 (s.extract 2 s.size).data.toList := by
 rw [toL_two s h, looseP, if_pos (u8_is h0), loose0, if_pos]
 rcases h1 with h1 | h1
 ·exact .inl (u8_is h1)
 exact .inr (u8_is h1)
theorem loose_8 {s : ByteArray} (h : 0 < s.size) (h0 : s[0].toNat = 48) (h1 : ¬ ∃ h1 : 1 < s.size, s[1].toNat = 120 ∨ s[1].toNat = 88) : looseP s.data.toList = numL 8 11 (s.extract 1 s.size).data.toList := by
 rw [toL_one s h, looseP, if_pos (u8_is h0)]
 by_cases h2 : 1 < s.size
 ·have e := toL_two s h2
  rw [toL_one s h] at e
  have e' : (s.extract 1 s.size).data.toList = s[1] :: (s.extract 2 s.size).data.toList := (List.cons.inj e).2
  rw [e', loose0, if_neg]
  rintro (e | e)
  ·exact h1 ⟨h2, .inl (by rw [e]; rfl)⟩
  exact h1 ⟨h2, .inr (by rw [e]; rfl)⟩
 have : (s.extract 1 s.size).data.toList = [] := List.eq_nil_of_length_eq_zero (by simp; omega)
 rw [this]; rfl
theorem loose_10 {s : ByteArray} (h : 0 < s.size) (h0 : ¬ s[0].toNat = 48) : looseP s.data.toList = numL 10 10 s.data.toList := by
 have e := toL_one s h
 rw [e, looseP, if_neg (u8_not h0)]
theorem specLoose (s : ByteArray) (w : World) (hs : s.size ≤ 1048576) :
  Calls Tryz.prog 78 #[.string s] w fun e w' => e = .returned (.int .i64 (numZ (looseP s.data.toList))) ∧ w = w' := by
 by_cases h : s.size = 0
 ·have HL : Hid (looseP s.data.toList = none) := loose_nil h
  have hem := empty_yes h
  clear h
  go_enter Tryz.func78, Tryz.ntmps78
  go_wp2_with fail
  go_ret
  exact ⟨by rw [HL.out]; rfl, rfl⟩
 have hpos : 0 < s.size := by omega
 have hem := empty_no hpos
 clear h
 obtain ⟨d, hd⟩ : ∃ d : Nat, s[0].toNat = d := ⟨_, rfl⟩
 by_cases h0 : d = 48
 ·subst h0
  by_cases h1 : ∃ h1 : 1 < s.size, s[1].toNat = 120 ∨ s[1].toNat = 88
  ·obtain ⟨h1, hx⟩ := h1
   have HL : Hid (looseP s.data.toList = numL 16 8 (s.extract 2 s.size).data.toList) := loose_x h1 hd hx
   have CN : Hid (∀ W, CS 50 #[.string (s.extract 2 s.size), .int .i64 16, .int .i64 8] W (.int .i64 (numZ (numL 16 8 (s.extract 2 s.size).data.toList)))) := fun W => spec5Number (s.extract 2 s.size) 16 8 W (by omega) (by omega)
   generalize numL 16 8 (s.extract 2 s.size).data.toList = R at HL CN
   have h1' : 1 < (s.size : Int) := by omega
   obtain ⟨c, hc⟩ : ∃ c : Nat, s[1].toNat = c := ⟨_, rfl⟩
   rw [hc] at hx
   rcases hx with rfl | rfl
   ·go_enter Tryz.func78, Tryz.ntmps78
    go_wp2_with fail
    refine (CN.out _).mono ?_
    rintro e w' ⟨rfl, rfl⟩
    go_wp2_with fail
    go_ret
    exact ⟨by rw [HL.out]; rfl, rfl⟩
   go_enter Tryz.func78, Tryz.ntmps78
   go_wp2_with fail
   refine (CN.out _).mono ?_
   rintro e w' ⟨rfl, rfl⟩
   go_wp2_with fail
   go_ret
   exact ⟨by rw [HL.out]; rfl, rfl⟩
  have HL : Hid (looseP s.data.toList = numL 8 11 (s.extract 1 s.size).data.toList) := loose_8 hpos hd h1
  have CN : Hid (∀ W, CS 50 #[.string (s.extract 1 s.size), .int .i64 8, .int .i64 11] W (.int .i64 (numZ (numL 8 11 (s.extract 1 s.size).data.toList)))) := fun W => spec5Number (s.extract 1 s.size) 8 11 W (by omega) (by omega)
  generalize numL 8 11 (s.extract 1 s.size).data.toList = R at HL CN
  by_cases h2 : 1 < s.size
  ·obtain ⟨c, hc⟩ : ∃ c : Nat, s[1].toNat = c := ⟨_, rfl⟩
   have q1 : ((c : Int) == 120) = false := beq_eq_false_iff_ne.2 (fun e => h1 ⟨h2, .inl (by omega)⟩)
   have q2 : ((c : Int) == 88) = false := beq_eq_false_iff_ne.2 (fun e => h1 ⟨h2, .inr (by omega)⟩)
   have h2' : 1 < (s.size : Int) := by omega
   clear h1
   go_enter Tryz.func78, Tryz.ntmps78
   go_wp2_with fail
   refine (CN.out _).mono ?_
   rintro e w' ⟨rfl, rfl⟩
   go_wp2_with fail
   go_ret
   exact ⟨by rw [HL.out]; rfl, rfl⟩
  have h2' : ¬ 1 < (s.size : Int) := by omega
  clear h1
  go_enter Tryz.func78, Tryz.ntmps78
  go_wp2_with fail
  refine (CN.out _).mono ?_
  rintro e w' ⟨rfl, rfl⟩
  go_wp2_with fail
  go_ret
  exact ⟨by rw [HL.out]; rfl, rfl⟩
 have HL : Hid (looseP s.data.toList = numL 10 10 s.data.toList) := loose_10 hpos (by rw [hd]; exact h0)
 have CN : Hid (∀ W, CS 50 #[.string s, .int .i64 10, .int .i64 10] W (.int .i64 (numZ (numL 10 10 s.data.toList)))) := fun W => spec5Number s 10 10 W (by omega) (by omega)
 generalize numL 10 10 s.data.toList = R at HL CN
 have q0 : ((d : Int) == 48) = false := beq_eq_false_iff_ne.2 (by omega)
 clear h0
 by_cases h2 : 1 < (s.size : Int)
 ·go_enter Tryz.func78, Tryz.ntmps78
  go_wp2_with fail
  refine (CN.out _).mono ?_
  rintro e w' ⟨rfl, rfl⟩
  go_wp2_with fail
  go_ret
  exact ⟨by rw [HL.out]; rfl, rfl⟩
 go_enter Tryz.func78, Tryz.ntmps78
 go_wp2_with fail
 refine (CN.out _).mono ?_
 rintro e w' ⟨rfl, rfl⟩
 go_wp2_with fail
 go_ret
 exact ⟨by rw [HL.out]; rfl, rfl⟩
def hxA (s : ByteArray) : Bool := decide (∃ h : 1 < s.size, s[0].toNat = 48 ∧ (s[1].toNat = 120 ∨ s[1].toNat = 88))
def toL (x : ByteArray) : List UInt8 := x.data.toList
theorem fieldsTo_spl (s : ByteArray) (b : UInt8) : ∀ k, k ≤ s.size → (fieldsTo s (b.toNat : Int) k).2 ≤ k ∧ spl b (s.data.toList.take k) = (fieldsTo s (b.toNat : Int) k).1.map toL ++ [(s.data.toList.take k).drop (fieldsTo s (b.toNat : Int) k).2]
 | 0, _ => by simp [fieldsTo, spl]
 | k + 1, hk => by
  obtain ⟨h0, h1⟩ := fieldsTo_spl s b k (by omega)
  rw [take_snoc s k (by omega), spl_cut b h1 s[k]]
  by_cases e : s[k] = b
  ·rw [if_pos e, fieldsTo_hit s _ k (by omega) (by rw [e])]
   refine ⟨Nat.le_refl _, ?_⟩
   simp only [List.map_append, List.map_cons, List.map_nil, toL, extract_list]
   rw [List.drop_of_length_le (i := k + 1) (by simp; omega)]
   simp
  have e' : ¬ (s[k].toNat : Int) = (b.toNat : Int) := fun h => e (UInt8.toNat_inj.1 (by omega))
  rw [if_neg e, fieldsTo_miss s _ k (by omega) e']
  refine ⟨by omega, ?_⟩
  rw [List.drop_append_of_le_length (by simp; omega)]
theorem fieldsL_spl (s : ByteArray) (b : UInt8) : (fieldsL s (b.toNat : Int)).map toL = spl b s.data.toList := by
 obtain ⟨_, h⟩ := fieldsTo_spl s b s.size (Nat.le_refl _)
 rw [take_all s s.size (Nat.le_refl _)] at h
 rw [h]
 unfold fieldsL
 rw [List.map_append]
 simp only [List.map_cons, List.map_nil, toL, extract_list, take_all s s.size (Nat.le_refl _)]
theorem fieldsL_46 (s : ByteArray) : (fieldsL s 46).map toL = spl 46 s.data.toList := fieldsL_spl s 46
theorem fieldsL_58 (s : ByteArray) : (fieldsL s 58).map toL = spl 58 s.data.toList := fieldsL_spl s 58
def loA (s : ByteArray) : Option Nat := lo4 ((dropE (fieldsL s 46)).map toL)
theorem loA_lt {s : ByteArray} {n : Nat} (h : loA s = some n) : n < 4294967296 := lo4_lt h
theorem toL_inj {a b : ByteArray} (h : toL a = toL b) : a = b := by
 apply ByteArray.ext
 exact Array.toList_inj.1 h
end Go.Proofs.YtidecdlaeomfoaaGreat
