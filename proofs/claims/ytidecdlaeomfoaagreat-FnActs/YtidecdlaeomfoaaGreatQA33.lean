/- UrlParse. -/
import Derived.Test.YtidecdlaeomfoaaGreatQA32
import Derived.Deep.CutBlock
set_option maxHeartbeats 8000000
set_option maxRecDepth 100000
namespace Go.Proofs.YtidecdlaeomfoaaGreat
open Go.RowKit
def uRowL (u : UV) : List Value := .int .i64 u.s :: .int .i64 u.h.k :: .string u.h.s :: .int .i64 u.h.n :: (u.h.z.map (Value.int .i64) ++ [.int .i64 u.p, .string u.a, .bool u.q, .string u.r])
def urlVal (u : UV) : Value := .agg (uRowL u).toArray
theorem clean_len (l : List UInt8) : (cleanL l).length ≤ l.length := by
 unfold cleanL
 refine Nat.le_trans (List.length_filter_le _ _) ?_
 have h := congrArg List.length (List.takeWhile_append_dropWhile (p := fun c => c != 35) (l := Lib.trimS l blanksU))
 rw [List.length_append] at h
 have h2 := trimS_le l blanksU
 omega
def PS (w : World) (U : Nat) (sch p : Int) (W : World) : Prop :=
 UAt W w.heap.size uRow0 ∧ UAt W (w.heap.size + 1) uRow0 ∧ UAt W U (uRow sch 0 ⟨#[]⟩ 0 0 0 0 0 0 0 0 0 p ⟨#[]⟩ false ⟨#[]⟩) ∧ w.heap.size + 1 < U ∧ Below w.heap.size w W
theorem PS.later {w : World} {U : Nat} {sch p : Int} {W W' : World} (h : PS w U sch p W) (hb : Below W.heap.size W W') : PS w U sch p W' :=
 ⟨h.1.below hb, h.2.1.below hb, h.2.2.1.below hb, h.2.2.2.1, h.2.2.2.2.trans (hb.mono h.2.2.2.2.size)⟩
theorem PS.sch {w : World} {U : Nat} {sch p : Int} {W : World} (h : PS w U sch p W) (v : Int) : PS w U v p (W.setCell ⟨U, 0, none⟩ (.int .i64 v)) := by
 obtain ⟨h1, h2, h3, h4, h5⟩ := h
 exact ⟨h1.other (by omega) _ _, h2.other (by omega) _ _, h3.set 0 (by simp [uRow]) _, h4, h5.setCell (p := ⟨U, 0, none⟩) (by show _ ≤ U; omega) _⟩
theorem PS.port {w : World} {U : Nat} {sch p : Int} {W : World} (h : PS w U sch p W) (v : Int) : PS w U sch v (W.setCell ⟨U, 12, none⟩ (.int .i64 v)) := by
 obtain ⟨h1, h2, h3, h4, h5⟩ := h
 exact ⟨h1.other (by omega) _ _, h2.other (by omega) _ _, h3.set 12 (by simp [uRow]) _, h4, h5.setCell (p := ⟨U, 12, none⟩) (by show _ ≤ U; omega) _⟩
theorem PS.moved {w : World} {U C : Nat} {sch p : Int} {W W' : World} (h : PS w U sch p W) (h1 : w.heap.size + 1 < C) (h2 : U ≠ C) (hM : Moved C W W') : PS w U sch p W' :=
 ⟨hM.1 _ _ (by omega) h.1, hM.1 _ _ (by omega) h.2.1, hM.1 _ _ h2 h.2.2.1, h.2.2.2.1, hM.2 _ _ (by omega) h.2.2.2.2⟩
def PF (w : World) (U : Nat) (row : List Value) (W : World) : Prop := UAt W w.heap.size uRow0 ∧ UAt W (w.heap.size + 1) uRow0 ∧ UAt W U row ∧ w.heap.size + 1 < U ∧ Below w.heap.size w W
theorem PF.later {w : World} {U : Nat} {row : List Value} {W W' : World} (h : PF w U row W) (hb : Below W.heap.size W W') : PF w U row W' :=
 ⟨h.1.below hb, h.2.1.below hb, h.2.2.1.below hb, h.2.2.2.1, h.2.2.2.2.trans (hb.mono h.2.2.2.2.size)⟩
theorem PF.turned {w : World} {U : Nat} {row row' : List Value} {W W' : World} (h : PF w U row W) (hU : UAt W' U row') (hM : Moved U W W') : PF w U row' W' :=
 have h4 := h.2.2.2.1
 ⟨hM.1 _ _ (by omega) h.1, hM.1 _ _ (by omega) h.2.1, hU, h4, hM.2 _ _ (by omega) h.2.2.2.2⟩
theorem fit_yes {u : UV} (h : (orgL u).length + (rstL u).length ≤ 2000) : fitU u = (0, u) := by unfold fitU; rw [if_pos h]
theorem fit_no {u : UV} (h : ¬ (orgL u).length + (rstL u).length ≤ 2000) : fitU u = (1, noneU) := by unfold fitU; rw [if_neg h]
theorem ret_good {l : List UInt8} {u : UV} (h : readU l = (0, u)) : Ending.returned (.tuple #[.agg (uRowL u).toArray, .int .i64 0]) = .returned (.tuple #[urlVal (readU l).2, .int .i64 (readU l).1]) := by rw [h]; rfl
theorem ret_url {l : List UInt8} {c : Int} (h : readU l = (c, noneU)) : Ending.returned (.tuple #[.agg uRow0.toArray, .int .i64 c]) = .returned (.tuple #[urlVal (readU l).2, .int .i64 (readU l).1]) := by rw [h]; rfl
theorem read_scheme {l : List UInt8} (h : schemeL l = none) : readT l = (2, noneU) := by unfold readT; rw [h]
theorem read_go {l t : List UInt8} {s : Int} (h : schemeL l = some (s, t)) : readT l = slashU s t := by unfold readT; rw [h]
def isHttp (t : ByteArray) : Bool := decide (6 < t.size ∧ (lowerL t.data.toList).take 5 = httpL ∧ slB (t.data.toList.getD 5 0) = true ∧ slB (t.data.toList.getD 6 0) = true)
def isHttps (t : ByteArray) : Bool := decide (7 < t.size ∧ (lowerL t.data.toList).take 6 = httpsL ∧ slB (t.data.toList.getD 6 0) = true ∧ slB (t.data.toList.getD 7 0) = true)
theorem scheme_1 {t : ByteArray} (h : isHttp t = true) : schemeL t.data.toList = some (1, (t.extract 5 t.size).data.toList) := by
 have h1 := of_decide_eq_true h
 unfold schemeL
 rw [if_pos ⟨by simpa using h1.1, h1.2⟩, drop_data]
theorem scheme_2 {t : ByteArray} (h0 : isHttp t = false) (h : isHttps t = true) : schemeL t.data.toList = some (2, (t.extract 6 t.size).data.toList) := by
 have h1 := of_decide_eq_true h
 have h2 := of_decide_eq_false h0
 unfold schemeL
 rw [if_neg (fun hh => h2 ⟨by simpa using hh.1, hh.2⟩), if_pos ⟨by simpa using h1.1, h1.2⟩, drop_data]
theorem scheme_0 {t : ByteArray} (h0 : isHttp t = false) (h : isHttps t = false) : schemeL t.data.toList = none := by
 have h1 := of_decide_eq_false h
 have h2 := of_decide_eq_false h0
 unfold schemeL
 rw [if_neg (fun hh => h2 ⟨by simpa using hh.1, hh.2⟩), if_neg (fun hh => h1 ⟨by simpa using hh.1, hh.2⟩)]
theorem among_end (c : UInt8) : amongL (⟨#[47, 92, 63]⟩ : ByteArray).data.toList (c.toNat : Int) = !noEnd c := by
 have key : ∀ n : Nat, n < 256 → amongL [47, 92, 63] (n : Int) = !noEnd (UInt8.ofNat n) := by decide +kernel
 have h := key c.toNat c.toNat_lt
 simpa using h
theorem among_64 (l : List UInt8) : amongL l 64 = l.contains 64 := by
 rw [Bool.eq_iff_iff, List.contains_iff_mem]
 unfold amongL
 rw [List.any_eq_true]
 constructor
 ·rintro ⟨b, hb, h⟩
  have e : b = 64 := UInt8.toNat_inj.1 (show b.toNat = 64 by have := of_decide_eq_true h; omega)
  rw [← e]
  exact hb
 intro h
 exact ⟨64, h, by decide⟩
theorem col_lt {l : List UInt8} {k : Nat} (h : colI l = some k) : k < l.length := by
 unfold colI at h
 rw [Option.map_eq_some_iff] at h
 obtain ⟨i, h1, h2⟩ := h
 obtain ⟨h3, _⟩ := List.findIdx?_eq_some_iff_getElem.1 h1
 rw [List.length_drop] at h3
 omega
theorem dport_12 {s : Int} (h : s = 1 ∨ s = 2) : 1 ≤ dport s ∧ dport s ≤ 65535 := by rcases h with rfl | rfl <;> decide
def tooU (sch pn : Int) (auth rest : List UInt8) : Int × UV := if 1 ≤ pn ∧ pn ≤ 65535 then hostU sch pn auth rest else (5, noneU)
theorem cut_none {sch : Int} {l r : List UInt8} (hs : sch = 1 ∨ sch = 2) (h : colI l = none) : cutU sch l r = tooU sch (dport sch) l r := by
 unfold cutU tooU
 rw [h, if_pos (dport_12 hs)]
theorem cut_some {sch : Int} {l r : List UInt8} {k : Nat} (h : colI l = some k) : cutU sch l r = tooU sch (portN sch (l.drop (k + 1))) (l.take k) r := by
 unfold cutU tooU
 rw [h]
theorem digF_le {n m : Nat} : ∀ {l : List UInt8} {v : Nat}, digF 10 v l = some n → v < 10 ^ m → n < 10 ^ (m + l.length)
 | [], v, h, hv => by
  rw [digF] at h
  cases h
  simpa using hv
 | c :: r, v, h, hv => by
  rw [digF] at h
  split at h
  ·next hc =>
   have h1 := digF_le (m := m + 1) h (by
    rw [Nat.pow_succ]
    omega)
   rw [List.length_cons, show m + (r.length + 1) = m + 1 + r.length by omega]
   exact h1
  cases h
theorem num5_le (l : List UInt8) : numZ (numL 10 5 l) ≤ 1048576 ∧ -1 ≤ numZ (numL 10 5 l) := by
 unfold numZ numL
 split
 ·decide
 next n h =>
 split at h
 ·next hl =>
  have h1 := digF_le (m := 0) h (by decide)
  have h2 : (10 : Nat) ^ (0 + l.length) ≤ 10 ^ 5 := Nat.pow_le_pow_right (by decide) (by omega)
  have h3 : (10 : Nat) ^ 5 = 100000 := rfl
  omega
 cases h
theorem too_no {sch pn : Int} {l r : List UInt8} (h : ¬ (1 ≤ pn ∧ pn ≤ 65535)) : tooU sch pn l r = (5, noneU) := by unfold tooU; rw [if_neg h]
theorem too_yes {sch pn : Int} {l r : List UInt8} (h : 1 ≤ pn ∧ pn ≤ 65535) : tooU sch pn l r = hostU sch pn l r := by unfold tooU; rw [if_pos h]
theorem host_parts (h : HV) (hz : h.z.length = 8) : ∃ (k n : Int) (nm : ByteArray) (x0 x1 x2 x3 x4 x5 x6 x7 : Int), h = ⟨k, nm, n, [x0, x1, x2, x3, x4, x5, x6, x7]⟩ := by
 obtain ⟨k, nm, n, z⟩ := h
 match z, hz with
 | [x0, x1, x2, x3, x4, x5, x6, x7], _ => exact ⟨k, n, nm, x0, x1, x2, x3, x4, x5, x6, x7, rfl⟩
theorem hOk_name {h : HV} (ho : hOk h = true) : h.s.size ≤ 253 := by
 unfold hOk at ho
 split at ho
 ·simp only [Bool.and_eq_true, decide_eq_true_eq] at ho
  have := nameL_le ho.1.1.1
  simpa using this
 split at ho
 ·simp only [Bool.and_eq_true, decide_eq_true_eq] at ho
  omega
 split at ho
 ·simp only [Bool.and_eq_true, decide_eq_true_eq] at ho
  omega
 cases ho
theorem orSlB_data (P : ByteArray) : (orSlB P).data.toList = orSl P.data.toList := by
 unfold orSlB orSl
 by_cases h : P.size = 0
 ·rw [if_pos h, if_pos (List.eq_nil_of_length_eq_zero (by simpa using h))]
 rw [if_neg h, if_neg (fun e => h (by have := congrArg List.length e; simpa using this))]
theorem tail_eq (s : Int) (h : HV) (p : Int) (l : ByteArray) : tailU s h p l.data.toList = ⟨s, h, p, tailA l, tailQ l, tailR l⟩ := by
 unfold tailU tailA tailQ tailR
 rw [orSlB_data]
 have e1 : (!(l.data.toList.dropWhile fun c => c != 63).isEmpty) = decide (0 < (tailM l).size) := by
  show _ = decide (0 < (l.data.toList.dropWhile fun c => c != 63).toArray.size)
  rw [List.size_toArray]
  cases l.data.toList.dropWhile fun c => c != 63 with
  | nil => rfl
  | cons c r => simp
 have e2 : (⟨((l.data.toList.dropWhile fun c => c != 63).drop 1).toArray⟩ : ByteArray) = (tailM l).extract 1 (tailM l).size := by
  apply toL_inj
  show (l.data.toList.dropWhile fun c => c != 63).drop 1 = ((tailM l).extract 1 (tailM l).size).data.toList
  rw [drop_data]
  rfl
 rw [e1, e2]
 rfl
theorem plB_size (set : Int) (x : ByteArray) : (plB set x).size ≤ 3 * x.size := by
 show (plL set (toL x)).toArray.size ≤ _
 rw [List.size_toArray]
 have h := pl_len set (toL x)
 have h2 : (toL x).length = x.size := by simp [toL]
 omega
theorem tailA_size (l : ByteArray) (h : l.size ≤ 2000) : (tailA l).size ≤ 10000 := by
 unfold tailA
 refine Nat.le_trans (dropT_size _) (Nat.le_trans (plB_size _ _) ?_)
 have h1 : (orSlB (tailP l)).size ≤ 2000 := by
  unfold orSlB
  split
  ·decide
  exact Nat.le_trans (while_size l).1 h
 have h2 : (⟨(backL (orSlB (tailP l)).data.toList).toArray⟩ : ByteArray).size = (orSlB (tailP l)).size := by
  show (backL (orSlB (tailP l)).data.toList).toArray.size = _
  rw [List.size_toArray, backL_length]
  simp
 omega
theorem tailR_size (l : ByteArray) (h : l.size ≤ 2000) : (tailR l).size ≤ 10000 := by
 unfold tailR
 refine Nat.le_trans (plB_size _ _) ?_
 have h1 : (tailM l).size ≤ l.size := (while_size l).2
 rw [ByteArray.size_extract]
 omega
theorem org_size {k n : Int} {nm : ByteArray} {x0 x1 x2 x3 x4 x5 x6 x7 : Int} (sch pn : Int) (hnm : nm.size ≤ 1048576) : (orgF sch (hTx ⟨k, nm, n, [x0, x1, x2, x3, x4, x5, x6, x7]⟩) pn).length ≤ 2097152 := by
 have h1 := hTx_size (k := k) (n := n) (s := nm) (x0 := x0) (x1 := x1) (x2 := x2) (x3 := x3) (x4 := x4) (x5 := x5) (x6 := x6) (x7 := x7) hnm
 have h2 := schT_size sch
 have h3 : (⟨(schT sch).toArray⟩ : ByteArray).size = (schT sch).length := List.size_toArray
 have h4 : (portT sch pn).length ≤ 6 := by
  unfold portT
  split
  ·decide
  have h5 := dec5T_size pn
  have h6 : (dec5T pn).size = (dec5 pn.toNat).length := List.size_toArray
  rw [List.length_cons]
  omega
 have h7 : (toL (hTx ⟨k, nm, n, [x0, x1, x2, x3, x4, x5, x6, x7]⟩)).length = (hTx ⟨k, nm, n, [x0, x1, x2, x3, x4, x5, x6, x7]⟩).size := by simp [toL]
 unfold orgF
 simp only [List.length_append, List.length_cons]
 omega
theorem rest_size {a r : ByteArray} (q : Bool) (ha : a.size ≤ 10000) (hr : r.size ≤ 10000) : (restL a q r).length ≤ 2097152 := by
 have h1 : (toL a).length = a.size := by simp [toL]
 have h2 : (toL r).length = r.size := by simp [toL]
 unfold restL
 split
 ·rw [List.length_append, List.length_cons]
  omega
 omega
theorem portN_nil (sch : Int) : portN sch [] = dport sch := rfl
theorem portN_num (sch : Int) {p : List UInt8} (h : p ≠ []) : portN sch p = numZ (numL 10 5 p) := by
 unfold portN numZ
 rw [if_neg h]
 cases numL 10 5 p <;> rfl
theorem specParseUrl (s : ByteArray) (w : World) (hs : s.size ≤ 1099511627776) :
  Calls Tryz.prog 41 #[.string s] w fun e w' => e = .returned (.tuple #[urlVal (readU s.data.toList).2, .int .i64 (readU s.data.toList).1]) ∧ Below w.heap.size w w' := by
 have hsl : s.data.toList.length = s.size := by simp
 obtain ⟨O, hO⟩ : ∃ O, O = (w.alloc (.cells #[.int .i64 0, .int .i64 0, .string ⟨#[]⟩, .int .i64 0, .int .i64 0, .int .i64 0, .int .i64 0, .int .i64 0, .int .i64 0, .int .i64 0, .int .i64 0, .int .i64 0, .int .i64 0, .string ⟨#[]⟩, .bool false, .string ⟨#[]⟩] 69)).alloc (.cells #[.int .i64 0, .int .i64 0, .string ⟨#[]⟩, .int .i64 0, .int .i64 0, .int .i64 0, .int .i64 0, .int .i64 0, .int .i64 0, .int .i64 0, .int .i64 0, .int .i64 0, .int .i64 0, .string ⟨#[]⟩, .bool false, .string ⟨#[]⟩] 69) := ⟨_, rfl⟩
 have HR1 : UAt O w.heap.size uRow0 := by
  rw [hO]
  exact (UAt.new w _ _).below ((Below.refl _ _).alloc (Nat.le_refl _) _)
 have HN1 : UAt O (w.heap.size + 1) uRow0 := by
  rw [hO]
  have h := UAt.new (w.alloc (.cells #[.int .i64 0, .int .i64 0, .string ⟨#[]⟩, .int .i64 0, .int .i64 0, .int .i64 0, .int .i64 0, .int .i64 0, .int .i64 0, .int .i64 0, .int .i64 0, .int .i64 0, .int .i64 0, .string ⟨#[]⟩, .bool false, .string ⟨#[]⟩] 69)) #[.int .i64 0, .int .i64 0, .string ⟨#[]⟩, .int .i64 0, .int .i64 0, .int .i64 0, .int .i64 0, .int .i64 0, .int .i64 0, .int .i64 0, .int .i64 0, .int .i64 0, .int .i64 0, .string ⟨#[]⟩, .bool false, .string ⟨#[]⟩] 69
  rw [World.size_alloc] at h
  exact h
 have HB1 : Below w.heap.size w O := by
  rw [hO]
  exact ((Below.refl _ w).alloc (Nat.le_refl _) _).alloc (by simp) _
 have HS1 : O.heap.size = w.heap.size + 2 := by rw [hO]; simp
 have HQ1 : Hid (UAt O w.heap.size uRow0 ∧ UAt O (w.heap.size + 1) uRow0 ∧ Below w.heap.size w O ∧ O.heap.size = w.heap.size + 2) := ⟨HR1, HN1, HB1, HS1⟩
 clear HR1 HN1 HB1 HS1
 go_enter Tryz.func41, Tryz.ntmps41
 go_upto_if 17 with fail
 rw [← hO]
 clear hO
 by_cases hbig : 2000 < s.size
 ·have HRR : Hid (readU s.data.toList = (1, noneU)) := by show _ = _; unfold readU; rw [if_pos (by omega)]
  have hbi : 2000 < (s.size : Int) := by omega
  clear hsl
  go_wp2_with (first | (refine url_ld HQ1.out.2.1 rfl rfl _ rfl rfl ?_) | (refine url_st HQ1.out.1 rfl (us := uRow0) rfl (uRow_one ..) rfl _ _ rfl rfl rfl ?_; intro w9 HU9 HM9))
  refine bodyPost_ret (url_result2 rfl _ _ w.heap.size (.int .i64 1) _ rfl rfl rfl HU9) rfl ⟨ret_url HRR.out, HM9.2 _ _ (Nat.le_refl _) HQ1.out.2.2.1⟩
 have HR0 : readU s.data.toList = readT (cleanL s.data.toList) := by unfold readU; rw [if_neg (by omega)]
 have hts : (⟨(cleanL s.data.toList).toArray⟩ : ByteArray).size ≤ 2000 := by
  have h1 := clean_len s.data.toList
  show (cleanL s.data.toList).toArray.size ≤ _
  rw [List.size_toArray]
  omega
 have CC : Hid (∀ W, CB 43 #[.string s] W (.string ⟨(cleanL s.data.toList).toArray⟩)) := fun W => specClean s W (by omega)
 have HR : Hid (readU s.data.toList = readT (⟨(cleanL s.data.toList).toArray⟩ : ByteArray).data.toList) := HR0
 generalize (⟨(cleanL s.data.toList).toArray⟩ : ByteArray) = t at hts CC HR
 have hbi : ¬ 2000 < (s.size : Int) := by omega
 have CL : Hid (∀ W, CB 44 #[.string t] W (.string ⟨(lowerL t.data.toList).toArray⟩)) := fun W => specLower t W (by omega)
 clear hsl hbig HR0
 go_wp2_with fail
 refine (CC.out _).mono ?_
 rintro e w1 ⟨rfl, b1⟩
 have HP1 : Hid (PS w w1.heap.size 0 0 (w1.alloc (.cells #[.int .i64 0, .int .i64 0, .string ⟨#[]⟩, .int .i64 0, .int .i64 0, .int .i64 0, .int .i64 0, .int .i64 0, .int .i64 0, .int .i64 0, .int .i64 0, .int .i64 0, .int .i64 0, .string ⟨#[]⟩, .bool false, .string ⟨#[]⟩] 69))) := by
  obtain ⟨h1, h2, h3, h4⟩ := HQ1.out
  have hz := b1.size
  have ha : Below w1.heap.size w1 (w1.alloc (.cells #[.int .i64 0, .int .i64 0, .string ⟨#[]⟩, .int .i64 0, .int .i64 0, .int .i64 0, .int .i64 0, .int .i64 0, .int .i64 0, .int .i64 0, .int .i64 0, .int .i64 0, .int .i64 0, .string ⟨#[]⟩, .bool false, .string ⟨#[]⟩] 69)) := (Below.refl _ _).alloc (Nat.le_refl _) _
  exact ⟨(h1.below b1).below ha, (h2.below b1).below ha, UAt.new w1 _ _, by omega, (h3.trans (b1.mono h3.size)).trans (ha.mono (by have := h3.size; omega))⟩
 clear b1 HQ1
 go_wp2_with fail
 generalize (w1.alloc (.cells #[.int .i64 0, .int .i64 0, .string ⟨#[]⟩, .int .i64 0, .int .i64 0, .int .i64 0, .int .i64 0, .int .i64 0, .int .i64 0, .int .i64 0, .int .i64 0, .int .i64 0, .int .i64 0, .string ⟨#[]⟩, .bool false, .string ⟨#[]⟩] 69)) = w2 at HP1 ⊢
 generalize w1.heap.size = U at HP1 ⊢
 refine (CL.out _).mono ?_
 rintro e w3 ⟨rfl, b3⟩
 have HP3 : Hid (PS w U 0 0 w3) := HP1.out.later b3
 clear b3 HP1 CL CC
 have hL5 : ((⟨(lowerL t.data.toList).toArray⟩ : ByteArray).extract 0 5).data.toList = (lowerL t.data.toList).take 5 := take_data _ 5
 have hL6 : ((⟨(lowerL t.data.toList).toArray⟩ : ByteArray).extract 0 6).data.toList = (lowerL t.data.toList).take 6 := take_data _ 6
 have hLs : (⟨(lowerL t.data.toList).toArray⟩ : ByteArray).size = t.size := by
  show (lowerL t.data.toList).toArray.size = _
  rw [List.size_toArray]
  simp [lowerL]
 have HL5 : Hid (((⟨(lowerL t.data.toList).toArray⟩ : ByteArray).extract 0 5).data.toList = (lowerL t.data.toList).take 5) := hL5
 have HL6 : Hid (((⟨(lowerL t.data.toList).toArray⟩ : ByteArray).extract 0 6).data.toList = (lowerL t.data.toList).take 6) := hL6
 have HLS : Hid ((⟨(lowerL t.data.toList).toArray⟩ : ByteArray).size = t.size) := hLs
 clear hL5 hL6 hLs
 generalize (⟨(lowerL t.data.toList).toArray⟩ : ByteArray) = L at HL5 HL6 HLS ⊢
 go_upto_block 0 with fail
 go_cut [5] (fun v wx => ∃ (sch : Int) (T : ByteArray), v = .string T ∧ T.size ≤ 2000 ∧ (sch = 1 ∨ sch = 2) ∧ Hid (readU s.data.toList = slashU sch T.data.toList) ∧ Hid (PS w U sch 0 wx))
 case first =>
  as_aux_lemma =>
   go_upto_region 8 with fail
   go_cut [25] (fun v wx => v = .bool (isHttp t) ∧ wx = w3)
   case first =>
    have hLi : (L.size : Int) = (t.size : Int) := by have := HLS.out; omega
    by_cases h6 : 6 < t.size
    ·have h6i : 6 < (t.size : Int) := by omega
     by_cases h5 : (lowerL t.data.toList).take 5 = httpL
     ·have hc : ((L.extract 0 5).toList == [104, 116, 116, 112, 58]) = true := lit_eq (HL5.out.trans h5)
      obtain ⟨d5, hd5⟩ : ∃ d : Nat, t[5].toNat = d := ⟨_, rfl⟩
      obtain ⟨d6, hd6⟩ : ∃ d : Nat, t[6].toNat = d := ⟨_, rfl⟩
      have C5 : Hid (∀ W, CS 45 #[.int .u8 (d5 : Int)] W (.bool (slB t[5]))) := fun W => specSlash t[5] d5 hd5 W
      have C6 : Hid (∀ W, CS 45 #[.int .u8 (d6 : Int)] W (.bool (slB t[6]))) := fun W => specSlash t[6] d6 hd6 W
      have g5 := getD_at t 5 (by omega)
      have g6 := getD_at t 6 (by omega)
      have HI : Hid (isHttp t = (slB t[5] && slB t[6])) := by
       show _ = _
       unfold isHttp
       rw [g5, g6, Bool.eq_iff_iff, decide_eq_true_eq, Bool.and_eq_true]
       exact ⟨fun h => h.2.2, fun h => ⟨h6, h5, h⟩⟩
      clear g5 g6 h5
      generalize slB t[5] = b5 at C5 HI
      generalize slB t[6] = b6 at C6 HI
      cases b5 with
      | false =>
       go_wp2_with fail
       refine (C5.out _).mono ?_
       rintro e w' ⟨rfl, rfl⟩
       go_wp2_with fail
       go_meet
       exact ⟨by rw [HI.out]; rfl, rfl⟩
      | true =>
       go_wp2_with fail
       refine (C5.out _).mono ?_
       rintro e w' ⟨rfl, rfl⟩
       go_wp2_with fail
       refine (C6.out _).mono ?_
       rintro e w' ⟨rfl, rfl⟩
       go_wp2_with fail
       go_meet
       exact ⟨by rw [HI.out]; rfl, rfl⟩
     have hc : ((L.extract 0 5).toList == [104, 116, 116, 112, 58]) = false := lit_ne (fun h => h5 (HL5.out.symm.trans h))
     have HI : Hid (isHttp t = false) := decide_eq_false fun h => h5 h.2.1
     clear h5
     go_wp2_with fail
     go_meet
     exact ⟨by rw [HI.out], rfl⟩
    have h6i : ¬ 6 < (t.size : Int) := by omega
    have HI : Hid (isHttp t = false) := decide_eq_false fun h => h6 h.1
    go_wp2_with fail
    go_meet
    exact ⟨by rw [HI.out], rfl⟩
   obtain ⟨rfl, hw⟩ := hcut
   obtain rfl := hw.symm
   cases hh : isHttp t with
   | true =>
    have HS : Hid (readU s.data.toList = slashU 1 (t.extract 5 t.size).data.toList) := HR.out.trans (read_go (scheme_1 hh))
    have h6 : 6 < (t.size : Int) := by have := (of_decide_eq_true hh).1; omega
    have hes : (t.extract 5 t.size).size ≤ 2000 := by rw [ByteArray.size_extract]; omega
    have HP4 : Hid (PS w U 1 0 (w3.setCell ⟨U, 0, none⟩ (.int .i64 1))) := HP3.out.sch 1
    have c0 := HP3.out.2.2.1.1 0 _ rfl
    have f0 := HP3.out.2.2.1.2.1 0
    clear hh
    go_wp2_with fail
    go_meet
    exact ⟨1, _, rfl, hes, .inl rfl, HS, HP4⟩
   | false =>
    have HF : Hid (isHttp t = false) := hh
    clear hh
    go_upto_region 11 with fail
    go_cut [47] (fun v wx => v = .bool (isHttps t) ∧ wx = w3)
    case first =>
     have hLi : (L.size : Int) = (t.size : Int) := by have := HLS.out; omega
     by_cases h6 : 7 < t.size
     ·have h6i : 7 < (t.size : Int) := by omega
      by_cases h5 : (lowerL t.data.toList).take 6 = httpsL
      ·have hc : ((L.extract 0 6).toList == [104, 116, 116, 112, 115, 58]) = true := lit_eq (HL6.out.trans h5)
       obtain ⟨d5, hd5⟩ : ∃ d : Nat, t[6].toNat = d := ⟨_, rfl⟩
       obtain ⟨d6, hd6⟩ : ∃ d : Nat, t[7].toNat = d := ⟨_, rfl⟩
       have C5 : Hid (∀ W, CS 45 #[.int .u8 (d5 : Int)] W (.bool (slB t[6]))) := fun W => specSlash t[6] d5 hd5 W
       have C6 : Hid (∀ W, CS 45 #[.int .u8 (d6 : Int)] W (.bool (slB t[7]))) := fun W => specSlash t[7] d6 hd6 W
       have g5 := getD_at t 6 (by omega)
       have g6 := getD_at t 7 (by omega)
       have HI : Hid (isHttps t = (slB t[6] && slB t[7])) := by
        show _ = _
        unfold isHttps
        rw [g5, g6, Bool.eq_iff_iff, decide_eq_true_eq, Bool.and_eq_true]
        exact ⟨fun h => h.2.2, fun h => ⟨h6, h5, h⟩⟩
       clear g5 g6 h5
       generalize slB t[6] = b5 at C5 HI
       generalize slB t[7] = b6 at C6 HI
       cases b5 with
       | false =>
        go_wp2_with fail
        refine (C5.out _).mono ?_
        rintro e w' ⟨rfl, rfl⟩
        go_wp2_with fail
        go_meet
        exact ⟨by rw [HI.out]; rfl, rfl⟩
       | true =>
        go_wp2_with fail
        refine (C5.out _).mono ?_
        rintro e w' ⟨rfl, rfl⟩
        go_wp2_with fail
        refine (C6.out _).mono ?_
        rintro e w' ⟨rfl, rfl⟩
        go_wp2_with fail
        go_meet
        exact ⟨by rw [HI.out]; rfl, rfl⟩
      have hc : ((L.extract 0 6).toList == [104, 116, 116, 112, 115, 58]) = false := lit_ne (fun h => h5 (HL6.out.symm.trans h))
      have HI : Hid (isHttps t = false) := decide_eq_false fun h => h5 h.2.1
      clear h5
      go_wp2_with fail
      go_meet
      exact ⟨by rw [HI.out], rfl⟩
     have h6i : ¬ 7 < (t.size : Int) := by omega
     have HI : Hid (isHttps t = false) := decide_eq_false fun h => h6 h.1
     go_wp2_with fail
     go_meet
     exact ⟨by rw [HI.out], rfl⟩
    obtain ⟨rfl, hw⟩ := hcut
    obtain rfl := hw.symm
    cases hh : isHttps t with
    | true =>
     have HS : Hid (readU s.data.toList = slashU 2 (t.extract 6 t.size).data.toList) := HR.out.trans (read_go (scheme_2 HF.out hh))
     have h6 : 7 < (t.size : Int) := by have := (of_decide_eq_true hh).1; omega
     have hes : (t.extract 6 t.size).size ≤ 2000 := by rw [ByteArray.size_extract]; omega
     have HP4 : Hid (PS w U 2 0 (w3.setCell ⟨U, 0, none⟩ (.int .i64 2))) := HP3.out.sch 2
     have c0 := HP3.out.2.2.1.1 0 _ rfl
     have f0 := HP3.out.2.2.1.2.1 0
     clear hh
     go_wp2_with fail
     go_meet
     exact ⟨2, _, rfl, hes, .inr rfl, HS, HP4⟩
    | false =>
     have HRR : Hid (readU s.data.toList = (2, noneU)) := HR.out.trans (read_scheme (scheme_0 HF.out hh))
     have HPP : Hid (PS w U 0 0 w3) := HP3
     clear hh
     go_wp2_with (first | (refine url_ld HPP.out.2.1 rfl rfl _ rfl rfl ?_) | (refine url_st HPP.out.1 rfl (us := uRow0) rfl (uRow_one ..) rfl _ _ rfl rfl rfl ?_; intro w9 HU9 HM9))
     refine bodyPost_ret (url_result2 rfl _ _ w.heap.size (.int .i64 2) _ rfl rfl rfl HU9) rfl ⟨ret_url HRR.out, HM9.2 _ _ (Nat.le_refl _) HPP.out.2.2.2.2⟩
 obtain ⟨sch, T, rfl, hTs, hsch, HS, HP⟩ := hcut
 clear HL5 HL6 HLS HP3 HR
 go_upto_block 1 with fail
 go_cut [5] (fun v wx => ∃ T' : ByteArray, v = .string T' ∧ T'.size ≤ 2000 ∧ Hid (T'.data.toList = T.data.toList.dropWhile slB) ∧ Hid (PS w U sch 0 wx))
 case first =>
  as_aux_lemma =>
   go_wp2_with fail
   go_loop [5] (fun v => ∃ T' : ByteArray, v = .string T' ∧ T'.size ≤ 2000 ∧ T'.data.toList.dropWhile slB = T.data.toList.dropWhile slB) (fun v => (match v with | .string x => x.size | _ => 0))
   case atStart => exact ⟨T, rfl, hTs, rfl⟩
   obtain ⟨T', rfl, hT', he⟩ := hrel
   have HE : Hid (T'.data.toList.dropWhile slB = T.data.toList.dropWhile slB) := he
   clear he
   by_cases h0 : T'.size = 0
   ·have hem := empty_yes h0
    have HD : Hid (T'.data.toList = T.data.toList.dropWhile slB) := by
     show _ = _
     rw [← HE.out, List.eq_nil_of_length_eq_zero (show T'.data.toList.length = 0 by simpa using h0)]
     rfl
    go_wp2_with fail
    go_meet
    exact ⟨T', rfl, hT', HD, HP⟩
   have hem := empty_no (show 0 < T'.size by omega)
   have hdr := drop_at T' 0 (by omega)
   rw [List.drop_zero] at hdr
   obtain ⟨d, hd⟩ : ∃ d : Nat, T'[0].toNat = d := ⟨_, rfl⟩
   have CS : Hid (∀ W, CS 45 #[.int .u8 (d : Int)] W (.bool (slB T'[0]))) := fun W => specSlash T'[0] d hd W
   cases hb : slB T'[0] with
   | true =>
    have HN : Hid ((T'.extract 1 T'.size).data.toList.dropWhile slB = T.data.toList.dropWhile slB) := by
     show _ = _
     rw [← HE.out, drop_data, hdr, List.dropWhile_cons, hb, if_pos rfl, List.drop_succ_cons, List.drop_zero]
    rw [hb] at CS
    have hes : (T'.extract 1 T'.size).size ≤ 2000 := by rw [ByteArray.size_extract]; omega
    have hms : (T'.extract 1 T'.size).size < T'.size := by rw [ByteArray.size_extract]; omega
    clear hb hdr
    go_wp2_with fail
    refine (CS.out _).mono ?_
    rintro e w' ⟨rfl, rfl⟩
    go_wp2_with fail
    go_round
    case rel => exact ⟨_, rfl, hes, HN.out⟩
    case measure => exact hms
   | false =>
    have HD : Hid (T'.data.toList = T.data.toList.dropWhile slB) := by
     show _ = _
     rw [← HE.out]
     conv => rhs; rw [hdr, List.dropWhile_cons, hb, if_neg (by decide), ← hdr]
    rw [hb] at CS
    clear hb hdr
    go_wp2_with fail
    refine (CS.out _).mono ?_
    rintro e w' ⟨rfl, rfl⟩
    go_wp2_with fail
    go_meet
    exact ⟨T', rfl, hT', HD, HP⟩
 obtain ⟨T', rfl, hT', HD, HP2⟩ := hcut
 clear HP
 have hsz := while_size (p := noEnd) T'
 have CU : Hid (∀ W, CB 46 #[.string T', .string ⟨#[47, 92, 63]⟩] W (.tuple #[.string ⟨(T'.data.toList.takeWhile noEnd).toArray⟩, .string ⟨(T'.data.toList.dropWhile noEnd).toArray⟩])) := fun W => specUntil noEnd ⟨#[47, 92, 63]⟩ T' W (by decide) among_end (by omega)
 have HS2 : Hid (readU s.data.toList = authU sch (⟨(T'.data.toList.takeWhile noEnd).toArray⟩ : ByteArray).data.toList (⟨(T'.data.toList.dropWhile noEnd).toArray⟩ : ByteArray).data.toList) := by
  show _ = _
  rw [HS.out]
  unfold slashU
  rw [← HD.out]
 obtain ⟨hz1, hz2⟩ := hsz
 generalize (⟨(T'.data.toList.takeWhile noEnd).toArray⟩ : ByteArray) = A at CU HS2 hz1
 generalize (⟨(T'.data.toList.dropWhile noEnd).toArray⟩ : ByteArray) = Rs at CU HS2 hz2
 have hA : A.size ≤ 2000 := by omega
 have hRs : Rs.size ≤ 2000 := by omega
 clear HS HD hz1 hz2
 have CM : Hid (∀ W, Calls Tryz.prog 47 #[.string A, .int .i64 64] W fun e w' => e = .returned (.bool (A.data.toList.contains 64)) ∧ W = w') := fun W => by
  have h := specAmong A 64 W (by omega)
  rw [among_64] at h
  exact h
 go_wp2_with fail
 refine (CU.out _).mono ?_
 rintro e w5 ⟨rfl, b5⟩
 have HP5 : Hid (PS w U sch 0 w5) := HP2.out.later b5
 clear b5 HP2 CU
 cases h64 : A.data.toList.contains 64 with
 | true =>
  have HRR : Hid (readU s.data.toList = (3, noneU)) := by show _ = _; rw [HS2.out]; unfold authU; rw [if_pos h64]
  rw [h64] at CM
  clear h64
  go_wp2_with fail
  refine (CM.out _).mono ?_
  rintro e w' ⟨rfl, rfl⟩
  have HPP : Hid (PS w U sch 0 w5) := HP5
  go_wp2_with (first | (refine url_ld HPP.out.2.1 rfl rfl _ rfl rfl ?_) | (refine url_st HPP.out.1 rfl (us := uRow0) rfl (uRow_one ..) rfl _ _ rfl rfl rfl ?_; intro w9 HU9 HM9))
  refine bodyPost_ret (url_result2 rfl _ _ w.heap.size (.int .i64 3) _ rfl rfl rfl HU9) rfl ⟨ret_url HRR.out, HM9.2 _ _ (Nat.le_refl _) HPP.out.2.2.2.2⟩
 | false =>
  have HS3 : Hid (readU s.data.toList = cutU sch A.data.toList Rs.data.toList) := by show _ = _; rw [HS2.out]; unfold authU; rw [if_neg (by rw [h64]; decide)]
  rw [h64] at CM
  clear h64 HS2
  go_wp2_with fail
  refine (CM.out _).mono ?_
  rintro e w' ⟨rfl, rfl⟩
  have CD : Hid (∀ W, Calls Tryz.prog 48 #[.int .i64 sch] W fun e w' => e = .returned (.int .i64 (dport sch)) ∧ W = w') := fun W => specDefaultPort sch W
  have CP : Hid (∀ W, Calls Tryz.prog 49 #[.string A] W fun e w' => e = .returned (.int .i64 (colZ A.data.toList)) ∧ W = w') := fun W => specPort A W (by omega)
  have c0 := HP5.out.2.2.1.1 0 _ rfl
  have c12 := HP5.out.2.2.1.1 12 _ rfl
  have f12 := HP5.out.2.2.1.2.1 12
  have HP6 : Hid (PS w U sch (dport sch) (w5.setCell ⟨U, 12, none⟩ (.int .i64 (dport sch)))) := HP5.out.port _
  go_wp2_with fail
  refine (CD.out _).mono ?_
  rintro e w' ⟨rfl, rfl⟩
  go_wp2_with fail
  generalize (w5.setCell ⟨U, 12, none⟩ (.int .i64 (dport sch))) = w6 at HP6 ⊢
  clear c0 c12 f12 HP5 CD CM
  refine (CP.out _).mono ?_
  rintro e w' ⟨rfl, rfl⟩
  clear CP
  have HZ : Hid (∃ z, colZ A.data.toList = z) := ⟨_, rfl⟩
  obtain ⟨z, hz⟩ := HZ.out
  rw [hz]
  have HZ2 : Hid (colZ A.data.toList = z) := hz
  clear hz HZ
  go_upto_if 93 with fail
  go_cut [8] (fun v wx => ∃ (A' : ByteArray) (pn : Int), v = .string A' ∧ A'.size ≤ 2000 ∧ pn ≤ 1048576 ∧ -1 ≤ pn ∧ Hid (readU s.data.toList = tooU sch pn A'.data.toList Rs.data.toList) ∧ Hid (PS w U sch pn wx))
  case first =>
   as_aux_lemma =>
    cases hc : colI A.data.toList with
    | none =>
     have hz : z = -1 := by rw [← HZ2.out]; unfold colZ; rw [hc]
     subst hz
     have HT : Hid (readU s.data.toList = tooU sch (dport sch) A.data.toList Rs.data.toList) := HS3.out.trans (cut_none hsch hc)
     have hdp := dport_12 hsch
     clear hc
     go_wp2_with fail
     go_meet
     exact ⟨A, _, rfl, hA, by omega, by omega, HT, HP6⟩
    | some k =>
     have hz : z = (k : Int) := by rw [← HZ2.out]; unfold colZ; rw [hc]
     subst hz
     have hk : k < A.size := by have := col_lt hc; simpa using this
     have HT : Hid (readU s.data.toList = tooU sch (portN sch (A.extract (k + 1) A.size).data.toList) (A.extract 0 k).data.toList Rs.data.toList) := by
      show _ = _
      rw [HS3.out, cut_some hc, drop_data, take_data]
     have hki : (k : Int) < (A.size : Int) := by omega
     have hes : (A.extract 0 k).size ≤ 2000 := by rw [ByteArray.size_extract]; omega
     clear hc
     by_cases h0 : A.size = k + 1
     ·have hem : (A.extract (k + 1) A.size).toList.isEmpty = true := empty_yes (by rw [ByteArray.size_extract]; omega)
      have hnil : (A.extract (k + 1) A.size).data.toList = [] := List.eq_nil_of_length_eq_zero (by simp; omega)
      rw [hnil, portN_nil] at HT
      have hdp := dport_12 hsch
      clear hnil
      go_wp2_with fail
      go_meet
      exact ⟨_, _, rfl, hes, by omega, by omega, HT, HP6⟩
     have hem : (A.extract (k + 1) A.size).toList.isEmpty = false := empty_no (by rw [ByteArray.size_extract]; omega)
     have hne : (A.extract (k + 1) A.size).data.toList ≠ [] := fun e => by have := congrArg List.length e; simp at this; omega
     rw [portN_num sch hne] at HT
     have CN : Hid (∀ W, Calls Tryz.prog 50 #[.string (A.extract (k + 1) A.size), .int .i64 10, .int .i64 5] W fun e w' => e = .returned (.int .i64 (numZ (numL 10 5 (A.extract (k + 1) A.size).data.toList))) ∧ W = w') := fun W => spec5Number _ 10 5 W (by decide) (by decide)
     have hnb := num5_le (A.extract (k + 1) A.size).data.toList
     clear hne
     generalize numZ (numL 10 5 (A.extract (k + 1) A.size).data.toList) = pn at CN HT hnb
     have c12 := HP6.out.2.2.1.1 12 _ rfl
     have f12 := HP6.out.2.2.1.2.1 12
     have HP7 : Hid (PS w U sch pn (w6.setCell ⟨U, 12, none⟩ (.int .i64 pn))) := HP6.out.port _
     go_wp2_with fail
     refine (CN.out _).mono ?_
     rintro e w' ⟨rfl, rfl⟩
     go_wp2_with fail
     go_meet
     exact ⟨_, _, rfl, hes, by omega, by omega, HT, HP7⟩
  obtain ⟨A', pn, rfl, hA', hp1, hp0, HT, HP7⟩ := hcut
  clear HP6 HS3 HZ2
  have c12 := HP7.out.2.2.1.1 12 _ rfl
  by_cases hpn : 1 ≤ pn ∧ pn ≤ 65535
  ·have HT2 : Hid (readU s.data.toList = hostU sch pn A'.data.toList Rs.data.toList) := HT.out.trans (too_yes hpn)
   obtain ⟨hpa, hpb⟩ := hpn
   have CI : Hid (∀ W, Calls Tryz.prog 18 #[.int .i64 pn, .int .i64 1, .int .i64 65535] W fun e w' => e = .returned (.bool true) ∧ W = w') := fun W => specL1In_yes _ _ _ W hpa hpb
   have CH : Hid (∀ W, CB 51 #[.string A'] W (.tuple #[hostVal (rV (readH A')), .int .i64 (rC (readH A'))])) := fun W => specParseHost A' W (by omega)
   have HRO := read_ok A'
   obtain ⟨k, n, nm, x0, x1, x2, x3, x4, x5, x6, x7, hhv⟩ := host_parts (rV (readH A')) (readH_eight A')
   have HT3 : Hid (readU s.data.toList = if rC (readH A') = 0 then fitU (tailU sch ⟨k, nm, n, [x0, x1, x2, x3, x4, x5, x6, x7]⟩ pn Rs.data.toList) else (4, noneU)) := by
    show _ = _
    rw [HT2.out, ← hhv]
    unfold hostU
    rw [mk_data]
   rw [hhv] at CH HRO
   have HRO2 : Hid (1 ≤ rC (readH A') ∨ hOk ⟨k, nm, n, [x0, x1, x2, x3, x4, x5, x6, x7]⟩ = true) := by
    rcases HRO with ⟨c, h1, h2, _⟩ | ⟨h1, _⟩
    ·exact .inl (by rw [h1]; exact h2)
    exact .inr h1
   have CH2 : Hid (∀ W, CB 51 #[.string A'] W (.tuple #[.agg (hRow k nm n x0 x1 x2 x3 x4 x5 x6 x7).toArray, .int .i64 (rC (readH A'))])) := CH
   clear hhv HRO CH HT2 HT
   go_wp2_with fail
   refine (CI.out _).mono ?_
   rintro e w' ⟨rfl, rfl⟩
   go_wp2_with fail
   refine (CH2.out _).mono ?_
   rintro e w8 ⟨rfl, b8⟩
   have HP8 : Hid (PS w U sch pn w8) := HP7.out.later b8
   clear b8 HP7 c12 CI CH2
   have HPa : Hid (PS w U sch pn (w8.alloc (.cells #[.int .i64 0, .string ⟨#[]⟩, .int .i64 0, .int .i64 0, .int .i64 0, .int .i64 0, .int .i64 0, .int .i64 0, .int .i64 0, .int .i64 0, .int .i64 0] 67))) := HP8.out.later ((Below.refl _ _).alloc (Nat.le_refl _) _)
   have hU8 : U < w8.heap.size := HP8.out.2.2.1.2.2
   have hwU : w.heap.size + 1 < U := HP8.out.2.2.2.1
   go_upto_if 117 with (refine host_st (UAt.new w8 _ _) 0 (Nat.le_refl 11) (us := hRow k nm n x0 x1 x2 x3 x4 x5 x6 x7) rfl (hRow_one ..) rfl _ _ rfl rfl rfl ?_; intro w9 HUh HMh)
   have HP9 : Hid (PS w U sch pn w9) := HPa.out.moved (by omega) (by omega) HMh
   have HUH : Hid (UAt w9 w8.heap.size (hRow k nm n x0 x1 x2 x3 x4 x5 x6 x7)) := HUh
   clear HUh HMh HPa HP8
   obtain ⟨rc, hrc⟩ : ∃ rc, rC (readH A') = rc := ⟨_, rfl⟩
   rw [hrc] at HT3 HRO2 ⊢
   clear hrc
   by_cases hr0 : rc = 0
   ·have HT4 : Hid (readU s.data.toList = fitU ⟨sch, ⟨k, nm, n, [x0, x1, x2, x3, x4, x5, x6, x7]⟩, pn, tailA Rs, tailQ Rs, tailR Rs⟩) := by
     show _ = _
     rw [HT3.out, if_pos hr0, tail_eq]
    have hnm : nm.size ≤ 1048576 := by
     rcases HRO2.out with h1 | h1
     ·omega
     exact Nat.le_trans (hOk_name h1) (by decide)
    subst hr0
    clear HT3 HRO2
    have HTS : Hid ((tailA Rs).size ≤ 10000 ∧ (tailR Rs).size ≤ 10000) := ⟨tailA_size Rs hRs, tailR_size Rs hRs⟩
    have CT : Hid (∀ W, CB 52 #[.agg (uRow sch k nm n x0 x1 x2 x3 x4 x5 x6 x7 pn ⟨#[]⟩ false ⟨#[]⟩).toArray, .string Rs] W (.agg (uRow sch k nm n x0 x1 x2 x3 x4 x5 x6 x7 pn (tailA Rs) (tailQ Rs) (tailR Rs)).toArray)) := fun W => specTail sch k n pn nm ⟨#[]⟩ ⟨#[]⟩ false x0 x1 x2 x3 x4 x5 x6 x7 Rs W (by omega)
    generalize tailA Rs = A3 at CT HT4 HTS
    generalize tailQ Rs = Q3 at CT HT4
    generalize tailR Rs = R3 at CT HT4 HTS
    go_wp2_with (first | (refine host_ld HUH.out 0 (hRow k nm n x0 x1 x2 x3 x4 x5 x6 x7) (fun j v hv => by rw [Nat.zero_add]; exact hv) rfl rfl _ rfl rfl ?_) | (refine host_st HP9.out.2.2.1 1 (show 1 + 11 ≤ 16 by decide) (us := hRow k nm n x0 x1 x2 x3 x4 x5 x6 x7) rfl (hRow_one ..) rfl _ _ rfl rfl rfl ?_; intro w10 HU10 HM10) | (refine url_ld (show UAt w10 U (uRow sch k nm n x0 x1 x2 x3 x4 x5 x6 x7 pn ⟨#[]⟩ false ⟨#[]⟩) from HU10) rfl rfl _ rfl rfl ?_))
    have HP10 : Hid (PF w U (uRow sch k nm n x0 x1 x2 x3 x4 x5 x6 x7 pn ⟨#[]⟩ false ⟨#[]⟩) w10) := PF.turned (row := uRow sch 0 ⟨#[]⟩ 0 0 0 0 0 0 0 0 0 pn ⟨#[]⟩ false ⟨#[]⟩) HP9.out HU10 HM10
    clear HU10 HM10 HP9 HUH
    refine (CT.out _).mono ?_
    rintro e w11 ⟨rfl, b11⟩
    have HP11 : Hid (PF w U (uRow sch k nm n x0 x1 x2 x3 x4 x5 x6 x7 pn ⟨#[]⟩ false ⟨#[]⟩) w11) := HP10.out.later b11
    clear b11 HP10 CT
    go_upto_region 33 with (refine url_st HP11.out.2.2.1 rfl (us := uRow sch k nm n x0 x1 x2 x3 x4 x5 x6 x7 pn A3 Q3 R3) rfl (uRow_one ..) rfl _ _ rfl rfl rfl ?_; intro w12 HU12 HM12)
    have HP12 : Hid (PF w U (uRow sch k nm n x0 x1 x2 x3 x4 x5 x6 x7 pn A3 Q3 R3) w12) := HP11.out.turned HU12 HM12
    clear HU12 HM12 HP11
    have CO : Hid (∀ W, CB 53 #[.agg #[.int .i64 sch, .int .i64 k, .string nm, .int .i64 n, .int .i64 x0, .int .i64 x1, .int .i64 x2, .int .i64 x3, .int .i64 x4, .int .i64 x5, .int .i64 x6, .int .i64 x7, .int .i64 pn, .string A3, .bool Q3, .string R3]] W (.string ⟨(orgF sch (hTx ⟨k, nm, n, [x0, x1, x2, x3, x4, x5, x6, x7]⟩) pn).toArray⟩)) := fun W => specOrigin sch k n pn nm A3 R3 Q3 x0 x1 x2 x3 x4 x5 x6 x7 W hnm (by omega) (by omega)
    have CR : Hid (∀ W, CB 54 #[.agg #[.int .i64 sch, .int .i64 k, .string nm, .int .i64 n, .int .i64 x0, .int .i64 x1, .int .i64 x2, .int .i64 x3, .int .i64 x4, .int .i64 x5, .int .i64 x6, .int .i64 x7, .int .i64 pn, .string A3, .bool Q3, .string R3]] W (.string ⟨(restL A3 Q3 R3).toArray⟩)) := fun W => specRest sch k n pn nm A3 R3 Q3 x0 x1 x2 x3 x4 x5 x6 x7 W (by have := HTS.out.1; omega) (by have := HTS.out.2; omega)
    have HFY : Hid ((⟨(orgF sch (hTx ⟨k, nm, n, [x0, x1, x2, x3, x4, x5, x6, x7]⟩) pn).toArray⟩ : ByteArray).size + (⟨(restL A3 Q3 R3).toArray⟩ : ByteArray).size ≤ 2000 → readU s.data.toList = (0, ⟨sch, ⟨k, nm, n, [x0, x1, x2, x3, x4, x5, x6, x7]⟩, pn, A3, Q3, R3⟩)) := fun h => HT4.out.trans (fit_yes (by
     have h1 : (⟨(orgF sch (hTx ⟨k, nm, n, [x0, x1, x2, x3, x4, x5, x6, x7]⟩) pn).toArray⟩ : ByteArray).size = (orgF sch (hTx ⟨k, nm, n, [x0, x1, x2, x3, x4, x5, x6, x7]⟩) pn).length := List.size_toArray
     have h2 : (⟨(restL A3 Q3 R3).toArray⟩ : ByteArray).size = (restL A3 Q3 R3).length := List.size_toArray
     rw [h1, h2] at h
     exact h))
    have HFN : Hid (¬ (⟨(orgF sch (hTx ⟨k, nm, n, [x0, x1, x2, x3, x4, x5, x6, x7]⟩) pn).toArray⟩ : ByteArray).size + (⟨(restL A3 Q3 R3).toArray⟩ : ByteArray).size ≤ 2000 → readU s.data.toList = (1, noneU)) := fun h => HT4.out.trans (fit_no (by
     have h1 : (⟨(orgF sch (hTx ⟨k, nm, n, [x0, x1, x2, x3, x4, x5, x6, x7]⟩) pn).toArray⟩ : ByteArray).size = (orgF sch (hTx ⟨k, nm, n, [x0, x1, x2, x3, x4, x5, x6, x7]⟩) pn).length := List.size_toArray
     have h2 : (⟨(restL A3 Q3 R3).toArray⟩ : ByteArray).size = (restL A3 Q3 R3).length := List.size_toArray
     rw [h1, h2] at h
     exact h))
    have hos : (⟨(orgF sch (hTx ⟨k, nm, n, [x0, x1, x2, x3, x4, x5, x6, x7]⟩) pn).toArray⟩ : ByteArray).size ≤ 2097152 := by
     have h1 : (⟨(orgF sch (hTx ⟨k, nm, n, [x0, x1, x2, x3, x4, x5, x6, x7]⟩) pn).toArray⟩ : ByteArray).size = (orgF sch (hTx ⟨k, nm, n, [x0, x1, x2, x3, x4, x5, x6, x7]⟩) pn).length := List.size_toArray
     rw [h1]
     exact org_size sch pn hnm
    have hrs : (⟨(restL A3 Q3 R3).toArray⟩ : ByteArray).size ≤ 2097152 := by
     have h1 : (⟨(restL A3 Q3 R3).toArray⟩ : ByteArray).size = (restL A3 Q3 R3).length := List.size_toArray
     rw [h1]
     exact rest_size Q3 HTS.out.1 HTS.out.2
    generalize (⟨(orgF sch (hTx ⟨k, nm, n, [x0, x1, x2, x3, x4, x5, x6, x7]⟩) pn).toArray⟩ : ByteArray) = OO at CO HFY HFN hos
    generalize (⟨(restL A3 Q3 R3).toArray⟩ : ByteArray) = RR at CR HFY HFN hrs
    clear HT4 HTS hnm
    have hwr : IntKind.i64.wrap ((OO.size : Int) + (RR.size : Int)) = (OO.size : Int) + (RR.size : Int) := i64_wrap_small _ (by omega) (by omega)
    simp only [Act.put]
    go_cut [131] (fun v wx => v = .bool (decide (2000 < (OO.size : Int) + (RR.size : Int))) ∧ PF w U (uRow sch k nm n x0 x1 x2 x3 x4 x5 x6 x7 pn A3 Q3 R3) wx)
    case first =>
     as_aux_lemma =>
      have c0 := HP12.out.2.2.1.1 0 _ rfl
      have c1 := HP12.out.2.2.1.1 1 _ rfl
      have c2 := HP12.out.2.2.1.1 2 _ rfl
      have c3 := HP12.out.2.2.1.1 3 _ rfl
      have c4 := HP12.out.2.2.1.1 4 _ rfl
      have c5 := HP12.out.2.2.1.1 5 _ rfl
      have c6 := HP12.out.2.2.1.1 6 _ rfl
      have c7 := HP12.out.2.2.1.1 7 _ rfl
      have c8 := HP12.out.2.2.1.1 8 _ rfl
      have c9 := HP12.out.2.2.1.1 9 _ rfl
      have c10 := HP12.out.2.2.1.1 10 _ rfl
      have c11 := HP12.out.2.2.1.1 11 _ rfl
      have c12 := HP12.out.2.2.1.1 12 _ rfl
      have c13 := HP12.out.2.2.1.1 13 _ rfl
      have c14 := HP12.out.2.2.1.1 14 _ rfl
      have c15 := HP12.out.2.2.1.1 15 _ rfl
      have HPd : PF w U (uRow sch k nm n x0 x1 x2 x3 x4 x5 x6 x7 pn A3 Q3 R3) w12.drew := ⟨HP12.out.1, HP12.out.2.1, HP12.out.2.2.1, HP12.out.2.2.2.1, HP12.out.2.2.2.2.drew⟩
      go_region_with (first | (go_at_call 53; refine (CO.out _).mono ?_; rintro e wq ⟨rfl, hbq⟩; have HPq : PF w U (uRow sch k nm n x0 x1 x2 x3 x4 x5 x6 x7 pn A3 Q3 R3) wq := PF.later (by assumption) hbq; have g0 := HPq.2.2.1.1 0 _ rfl; have g1 := HPq.2.2.1.1 1 _ rfl; have g2 := HPq.2.2.1.1 2 _ rfl; have g3 := HPq.2.2.1.1 3 _ rfl; have g4 := HPq.2.2.1.1 4 _ rfl; have g5 := HPq.2.2.1.1 5 _ rfl; have g6 := HPq.2.2.1.1 6 _ rfl; have g7 := HPq.2.2.1.1 7 _ rfl; have g8 := HPq.2.2.1.1 8 _ rfl; have g9 := HPq.2.2.1.1 9 _ rfl; have g10 := HPq.2.2.1.1 10 _ rfl; have g11 := HPq.2.2.1.1 11 _ rfl; have g12 := HPq.2.2.1.1 12 _ rfl; have g13 := HPq.2.2.1.1 13 _ rfl; have g14 := HPq.2.2.1.1 14 _ rfl; have g15 := HPq.2.2.1.1 15 _ rfl; clear hbq) | (go_at_call 54; refine (CR.out _).mono ?_; rintro e wq ⟨rfl, hbq⟩; have HPq : PF w U (uRow sch k nm n x0 x1 x2 x3 x4 x5 x6 x7 pn A3 Q3 R3) wq := PF.later (by assumption) hbq; have g0 := HPq.2.2.1.1 0 _ rfl; have g1 := HPq.2.2.1.1 1 _ rfl; have g2 := HPq.2.2.1.1 2 _ rfl; have g3 := HPq.2.2.1.1 3 _ rfl; have g4 := HPq.2.2.1.1 4 _ rfl; have g5 := HPq.2.2.1.1 5 _ rfl; have g6 := HPq.2.2.1.1 6 _ rfl; have g7 := HPq.2.2.1.1 7 _ rfl; have g8 := HPq.2.2.1.1 8 _ rfl; have g9 := HPq.2.2.1.1 9 _ rfl; have g10 := HPq.2.2.1.1 10 _ rfl; have g11 := HPq.2.2.1.1 11 _ rfl; have g12 := HPq.2.2.1.1 12 _ rfl; have g13 := HPq.2.2.1.1 13 _ rfl; have g14 := HPq.2.2.1.1 14 _ rfl; have g15 := HPq.2.2.1.1 15 _ rfl; clear hbq))
      all_goals go_wp2_with fail
      all_goals go_meet
      all_goals exact ⟨by first | rfl | rw [hwr], by assumption⟩
    obtain ⟨rfl, hpf⟩ := hcut
    have HPP : Hid (PF w U (uRow sch k nm n x0 x1 x2 x3 x4 x5 x6 x7 pn A3 Q3 R3) wc) := hpf
    clear hpf HP12 CO CR
    by_cases hfit : OO.size + RR.size ≤ 2000
    ·have HG : Hid (readU s.data.toList = (0, ⟨sch, ⟨k, nm, n, [x0, x1, x2, x3, x4, x5, x6, x7]⟩, pn, A3, Q3, R3⟩)) := HFY.out hfit
     rw [decide_eq_false (show ¬ 2000 < (OO.size : Int) + (RR.size : Int) by omega)]
     clear HFY HFN hfit
     go_wp2_with (first | (refine url_ld HPP.out.2.2.1 rfl rfl _ rfl rfl ?_) | (refine url_st HPP.out.1 rfl (us := uRow sch k nm n x0 x1 x2 x3 x4 x5 x6 x7 pn A3 Q3 R3) rfl (uRow_one ..) rfl _ _ rfl rfl rfl ?_; intro w9 HU9 HM9))
     refine bodyPost_ret (url_result2 rfl _ _ w.heap.size (.int .i64 0) _ rfl rfl rfl HU9) rfl ⟨ret_good HG.out, HM9.2 _ _ (Nat.le_refl _) HPP.out.2.2.2.2⟩
    have HRR : Hid (readU s.data.toList = (1, noneU)) := HFN.out hfit
    rw [decide_eq_true (show 2000 < (OO.size : Int) + (RR.size : Int) by omega)]
    clear HFY HFN hfit
    go_wp2_with (first | (refine url_ld HPP.out.2.1 rfl rfl _ rfl rfl ?_) | (refine url_st HPP.out.1 rfl (us := uRow0) rfl (uRow_one ..) rfl _ _ rfl rfl rfl ?_; intro w9 HU9 HM9))
    refine bodyPost_ret (url_result2 rfl _ _ w.heap.size (.int .i64 1) _ rfl rfl rfl HU9) rfl ⟨ret_url HRR.out, HM9.2 _ _ (Nat.le_refl _) HPP.out.2.2.2.2⟩
   have HRR : Hid (readU s.data.toList = (4, noneU)) := by
    show _ = _
    rw [HT3.out, if_neg hr0]
   have hrb : (rc != 0) = true := bne_iff_ne.2 hr0
   have HPP : Hid (PS w U sch pn w9) := HP9
   clear hr0
   go_wp2_with (first | (refine url_ld HPP.out.2.1 rfl rfl _ rfl rfl ?_) | (refine url_st HPP.out.1 rfl (us := uRow0) rfl (uRow_one ..) rfl _ _ rfl rfl rfl ?_; intro w9 HU9 HM9))
   refine bodyPost_ret (url_result2 rfl _ _ w.heap.size (.int .i64 4) _ rfl rfl rfl HU9) rfl ⟨ret_url HRR.out, HM9.2 _ _ (Nat.le_refl _) HPP.out.2.2.2.2⟩
  have HRR : Hid (readU s.data.toList = (5, noneU)) := HT.out.trans (too_no hpn)
  have CI : Hid (∀ W, Calls Tryz.prog 18 #[.int .i64 pn, .int .i64 1, .int .i64 65535] W fun e w' => e = .returned (.bool false) ∧ W = w') := fun W => specL1In_no _ _ _ W (by omega)
  have HPP : Hid (PS w U sch pn wc) := HP7
  clear hpn
  go_wp2_with fail
  refine (CI.out _).mono ?_
  rintro e w' ⟨rfl, rfl⟩
  clear c12
  go_wp2_with (first | (refine url_ld HPP.out.2.1 rfl rfl _ rfl rfl ?_) | (refine url_st HPP.out.1 rfl (us := uRow0) rfl (uRow_one ..) rfl _ _ rfl rfl rfl ?_; intro w9 HU9 HM9))
  refine bodyPost_ret (url_result2 rfl _ _ w.heap.size (.int .i64 5) _ rfl rfl rfl HU9) rfl ⟨ret_url HRR.out, HM9.2 _ _ (Nat.le_refl _) HPP.out.2.2.2.2⟩
end Go.Proofs.YtidecdlaeomfoaaGreat
