/- CutWay, RepOne, UrlWay, DropDotsImpl, CutOne, UrlImpl1, UrlImpl2, OkWalk, UrlOkSpec. -/
import Derived.Lib.Replace
import Derived.Lib.IndexAny
import Derived.Test.YtidecdlaeomfoaaGreatQA32
import Derived.Lib.IndexBytes
import Derived.Shelf.Strings.Replace
import Derived.Shelf.Strings.SlTrimAscii
import Derived.Shelf.Strconv.Itoa3
import Derived.Deep.DrawnRows
set_option maxHeartbeats 8000000
set_option maxRecDepth 100000
namespace Go.Proofs.YtidecdlaeomfoaaGreat
open Go.RowKit




theorem size_mk (l : List UInt8) : (⟨l.toArray⟩ : ByteArray).size = l.length := List.size_toArray
end Go.Proofs.YtidecdlaeomfoaaGreat
namespace Go.Proofs.YtidecdlaeomfoaaGreat
open Go.RowKit
attribute [local go_sem ↓] Go.wp_at_zero Go.wp_at_succ
def PU (w : World) (row : List Value) (W : World) : Prop := UAt W w.heap.size row ∧ Below w.heap.size w W
theorem PU.later {w : World} {row : List Value} {W W' : World} (h : PU w row W) (hb : Below W.heap.size W W') : PU w row W' := ⟨h.1.below hb, h.2.trans (hb.mono h.2.size)⟩
theorem PU.drew {w : World} {row : List Value} {W : World} (h : PU w row W) : PU w row W.drew := ⟨h.1, h.2.drew⟩
theorem PU.new (w : World) (vs : Array Value) (t : TypeId) : PU w vs.toList (w.alloc (.cells vs t)) := ⟨UAt.new w vs t, (Below.refl _ w).alloc (Nat.le_refl _) _⟩
theorem orgF_eq (u : UV) : orgL u = orgF u.s (hTx u.h) u.p := rfl
theorem org_len {k n : Int} {nm : ByteArray} {x0 x1 x2 x3 x4 x5 x6 x7 : Int} (sch pn : Int) (hnm : nm.size ≤ 1048576) : (orgF sch (hTx ⟨k, nm, n, [x0, x1, x2, x3, x4, x5, x6, x7]⟩) pn).length ≤ 1048600 := by
 have h1 := hTx_size (k := k) (n := n) (s := nm) (x0 := x0) (x1 := x1) (x2 := x2) (x3 := x3) (x4 := x4) (x5 := x5) (x6 := x6) (x7 := x7) hnm
 have h2 := schT_size sch
 have h3 : (⟨(schT sch).toArray⟩ : ByteArray).size = (schT sch).length := List.size_toArray
 have h4 : (portT sch pn).length ≤ 6 := by
  unfold portT
  split
  ·decide
  have h5 := dec5T_size pn
  have h6 : (dec5T pn).size = (dec5 pn.toNat).length := List.size_toArray
  rw [List.length_cons]
  omega
 have h7 : (toL (hTx ⟨k, nm, n, [x0, x1, x2, x3, x4, x5, x6, x7]⟩)).length = (hTx ⟨k, nm, n, [x0, x1, x2, x3, x4, x5, x6, x7]⟩).size := by simp [toL]
 unfold orgF
 simp only [List.length_append, List.length_cons]
 omega
theorem uTx_yes {u : UV} (h : uOk u = true) : uTx u = orgL u ++ rstL u := by unfold uTx; rw [if_pos h]
theorem uTx_no {u : UV} (h : uOk u = false) : uTx u = [] := by unfold uTx; rw [if_neg (by rw [h]; decide)]
end Go.Proofs.YtidecdlaeomfoaaGreat
namespace Go.Proofs.YtidecdlaeomfoaaGreat
open Go.RowKit
theorem ok_hit (set : Int) (s : ByteArray) (k : Nat) (h : 0 ≤ pctAt s k) : okL set (s.data.toList.drop k) = okL set (s.data.toList.drop (k + 3)) := by
 unfold okL okT
 rw [tok_hit _ _ s k h]
 rfl
theorem ok_miss (set : Int) (s : ByteArray) (k : Nat) (hk : k < s.size) (h : pctAt s k < 0) : okL set (s.data.toList.drop k) = (keepN set s[k].toNat && okL set (s.data.toList.drop (k + 1))) := by
 unfold okL okT
 rw [tok_miss _ _ s k hk h]
 simp
theorem ok_end (set : Int) (s : ByteArray) (k : Nat) (hk : s.size ≤ k) : okL set (s.data.toList.drop k) = true := by
 unfold okL okT
 rw [tok_end _ _ s k hk]
 rfl
def okS (set : Int) (l : List UInt8) : Bool := decide (1 ≤ set ∧ set ≤ 3) && okL set l
theorem okS_out {set : Int} {l : List UInt8} (h : ¬ (1 ≤ set ∧ set ≤ 3)) : okS set l = false := by unfold okS; rw [decide_eq_false h]; rfl
theorem okS_no {set : Int} {l : List UInt8} (h : okL set l = false) : okS set l = false := by unfold okS; rw [h, Bool.and_false]
theorem okS_yes {set : Int} {l : List UInt8} (h : 1 ≤ set ∧ set ≤ 3) (h1 : okL set l = true) : okS set l = true := by unfold okS; rw [decide_eq_true h, h1]; rfl
theorem specPercentOk (s : ByteArray) (set : Int) (w : World) (hs : s.size ≤ 1099511627776) :
  Calls Tryz.prog 69 #[.string s, .int .i64 set] w fun e w' => e = .returned (.bool (okS set s.data.toList)) ∧ Below w.heap.size w w' := by
 go_enter Tryz.func69, Tryz.ntmps69
 go_wp2
 go_loopw [5] (fun i wr => ∃ k : Nat, k ≤ s.size ∧ i = .int .i64 k ∧ okL set (s.data.toList.drop k) = okL set s.data.toList ∧ Below w.heap.size w wr)
  (fun i _ => s.size - (intOf i).toNat)
 case atStart => exact ⟨0, Nat.zero_le _, rfl, rfl, Below.refl _ _⟩
 obtain ⟨k, hk, rfl, he, hbel⟩ := hrel
 have HE : Hid (okL set (s.data.toList.drop k) = okL set s.data.toList) := he
 clear he
 have hsz := hbel.size
 by_cases hlt : k < s.size
 ·have hct := fun W => specByte s k W hlt hs
  have hcl := pctAt_le s k
  by_cases hc : 0 ≤ pctAt s k
  ·have HN : Hid (okL set (s.data.toList.drop (k + 3)) = okL set s.data.toList) := (ok_hit set s k hc).symm.trans HE.out
   have hk3 := pctAt_lt hc
   generalize pctAt s k = c at hct hcl hc
   obtain ⟨hc0, hc1⟩ := hcl
   have HC : Hid (∀ W, CB 76 #[.string s, .int .i64 (k : Int)] W (.int .i64 c)) := hct
   clear hct
   go_wp2_with fail
   refine (HC.out _).mono ?_
   rintro e wb ⟨rfl, bb⟩
   have B1 : Below w.heap.size w wb := hbel.trans (bb.mono hsz)
   clear hbel bb
   go_wp2
   go_roundw
   case rel => exact ⟨k + 3, by omega, by go_num, HN.out, B1⟩
   case measure => simp [intOf]; omega
  have HX : Hid (okL set (s.data.toList.drop k) = (keepN set s[k].toNat && okL set (s.data.toList.drop (k + 1)))) := ok_miss set s k hlt (by omega)
  obtain ⟨d, hd⟩ : ∃ d : Nat, s[k].toNat = d := ⟨_, rfl⟩
  have hd1 : (d : Int) ≤ 255 := by have := s[k].toNat_lt; omega
  have hd0 : 0 ≤ (d : Int) := by omega
  rw [hd] at HX
  generalize pctAt s k = c at hct hcl hc
  obtain ⟨hc0, hc1⟩ := hcl
  have HC : Hid (∀ W, CB 76 #[.string s, .int .i64 (k : Int)] W (.int .i64 c)) := hct
  clear hct
  have ckk := fun (W : World) (_ : Below w.heap.size w W) => specKeeps set (d : Int) W
  simp only [keepZ_nat] at ckk
  cases hkp : keepN set d with
  | true =>
   rw [hkp] at ckk HX
   have HN : Hid (okL set (s.data.toList.drop (k + 1)) = okL set s.data.toList) := by
    show _ = _
    rw [← HE.out, HX.out]
    rfl
   have CK : Hid (∀ W, Below w.heap.size w W → CS 81 #[.int .i64 set, .int .i64 (d : Int)] W (.bool true)) := ckk
   clear ckk hkp
   go_wp2_with fail
   refine (HC.out _).mono ?_
   rintro e wb ⟨rfl, bb⟩
   have B1 : Below w.heap.size w wb := hbel.trans (bb.mono hsz)
   clear hbel bb
   go_wp2_with fail
   refine (CK.out _ B1).mono ?_
   rintro e w' ⟨rfl, rfl⟩
   go_wp2
   go_roundw
   case rel => exact ⟨k + 1, by omega, by go_num, HN.out, B1⟩
   case measure => simp [intOf]; omega
  | false =>
   rw [hkp] at ckk HX
   have HN : Hid (okL set s.data.toList = false) := by
    show _ = _
    rw [← HE.out, HX.out]
    rfl
   have CK : Hid (∀ W, Below w.heap.size w W → CS 81 #[.int .i64 set, .int .i64 (d : Int)] W (.bool false)) := ckk
   clear ckk hkp
   go_wp2_with fail
   refine (HC.out _).mono ?_
   rintro e wb ⟨rfl, bb⟩
   have B1 : Below w.heap.size w wb := hbel.trans (bb.mono hsz)
   clear hbel bb
   go_wp2_with fail
   refine (CK.out _ B1).mono ?_
   rintro e w' ⟨rfl, rfl⟩
   go_wp2
   go_ret
   exact ⟨ret_bool (by rw [okS_no HN.out]), B1⟩
 have HX : Hid (okL set s.data.toList = true) := by
  show _ = _
  rw [← HE.out, ok_end set s k (by omega)]
 by_cases hv : 1 ≤ set ∧ set ≤ 3
 ·have HV : Hid (okS set s.data.toList = true) := okS_yes hv HX.out
  have H1 : Hid (1 ≤ set ∧ set ≤ 3) := hv
  clear hv
  go_wp2_with fail
  refine (specL1In_yes _ _ _ _ H1.out.1 H1.out.2).mono ?_
  rintro e w' ⟨rfl, rfl⟩
  go_wp2
  go_ret
  exact ⟨ret_bool (by rw [HV.out]), hbel⟩
 have HV : Hid (okS set s.data.toList = false) := okS_out hv
 have H1 : Hid (set < 1 ∨ 3 < set) := by show _ ∨ _; omega
 clear hv
 go_wp2_with fail
 refine (specL1In_no _ _ _ _ H1.out).mono ?_
 rintro e w' ⟨rfl, rfl⟩
 go_wp2
 go_ret
 exact ⟨ret_bool (by rw [HV.out]), hbel⟩
end Go.Proofs.YtidecdlaeomfoaaGreat
namespace Go.Proofs.YtidecdlaeomfoaaGreat
open Go.RowKit
attribute [local go_sem ↓] Go.wp_at_zero Go.wp_at_succ
theorem okS_1 (l : List UInt8) : okS 1 l = okL 1 l := by unfold okS; simp
theorem okS_2 (l : List UInt8) : okS 2 l = okL 2 l := by unfold okS; simp
theorem str_beq (a b : ByteArray) : (a.toList == b.toList) = decide (toL a = toL b) := by
 rw [ByteArray.toList_eq, ByteArray.toList_eq]
 by_cases h : a.data.toList = b.data.toList
 ·rw [h, decide_eq_true (show toL a = toL b from h)]; exact beq_self_eq_true _
 rw [decide_eq_false (show ¬ toL a = toL b from h)]; exact beq_eq_false_iff_ne.2 h
def gOk (u : UV) : Bool := decide (dport u.s ≠ 0) && (hOk u.h && (decide (1 ≤ u.p ∧ u.p ≤ 65535) && (rooted u.a && (u.q || decide (u.r.size = 0)))))
theorem uOk_split (u : UV) : uOk u = (gOk u && (okL 1 (toL u.a) && (decide (toL (plB 1 u.a) = toL u.a) && (decide (toL (dropT u.a) = toL u.a) && (okL 2 (toL u.r) && decide (toL (plB 2 u.r) = toL u.r)))))) := by
 unfold uOk gOk
 simp only [Bool.and_assoc]
 rfl
theorem specUrlOk (s k n p : Int) (nm a r : ByteArray) (q : Bool) (x0 x1 x2 x3 x4 x5 x6 x7 : Int) (w : World) (hs : nm.size ≤ 1048576) (ha : a.size ≤ 4194304) (hr : r.size ≤ 4194304) :
  Calls Tryz.prog 55 #[.agg #[.int .i64 s, .int .i64 k, .string nm, .int .i64 n, .int .i64 x0, .int .i64 x1, .int .i64 x2, .int .i64 x3, .int .i64 x4, .int .i64 x5, .int .i64 x6, .int .i64 x7, .int .i64 p, .string a, .bool q, .string r]] w fun e w' => e = .returned (.bool (uOk ⟨s, ⟨k, nm, n, [x0, x1, x2, x3, x4, x5, x6, x7]⟩, p, a, q, r⟩)) ∧ Below w.heap.size w w' := by
 have HX : Hid (uOk ⟨s, ⟨k, nm, n, [x0, x1, x2, x3, x4, x5, x6, x7]⟩, p, a, q, r⟩ = (gOk ⟨s, ⟨k, nm, n, [x0, x1, x2, x3, x4, x5, x6, x7]⟩, p, a, q, r⟩ && (okL 1 (toL a) && (decide (toL (plB 1 a) = toL a) && (decide (toL (dropT a) = toL a) && (okL 2 (toL r) && decide (toL (plB 2 r) = toL r))))))) := uOk_split _
 have HG : Hid (gOk ⟨s, ⟨k, nm, n, [x0, x1, x2, x3, x4, x5, x6, x7]⟩, p, a, q, r⟩ = (decide (dport s ≠ 0) && (hOk ⟨k, nm, n, [x0, x1, x2, x3, x4, x5, x6, x7]⟩ && (decide (1 ≤ p ∧ p ≤ 65535) && (rooted a && (q || decide (r.size = 0))))))) := rfl
 generalize uOk ⟨s, ⟨k, nm, n, [x0, x1, x2, x3, x4, x5, x6, x7]⟩, p, a, q, r⟩ = ans at HX ⊢
 generalize gOk ⟨s, ⟨k, nm, n, [x0, x1, x2, x3, x4, x5, x6, x7]⟩, p, a, q, r⟩ = g at HX HG
 have CD : Hid (∀ W, CS 48 #[.int .i64 s] W (.int .i64 (dport s))) := fun W => specDefaultPort s W
 have CH : Hid (∀ W, CB 68 #[.agg #[.int .i64 k, .string nm, .int .i64 n, .int .i64 x0, .int .i64 x1, .int .i64 x2, .int .i64 x3, .int .i64 x4, .int .i64 x5, .int .i64 x6, .int .i64 x7]] W (.bool (hOk ⟨k, nm, n, [x0, x1, x2, x3, x4, x5, x6, x7]⟩))) := fun W => specHostOk k n nm x0 x1 x2 x3 x4 x5 x6 x7 W hs
 have C1 : Hid (∀ W, CB 69 #[.string a, .int .i64 1] W (.bool (okL 1 (toL a)))) := fun W => by
  have h := specPercentOk a 1 W (by omega)
  rw [okS_1] at h
  exact h
 have C4 : Hid (∀ W, CB 69 #[.string r, .int .i64 2] W (.bool (okL 2 (toL r)))) := fun W => by
  have h := specPercentOk r 2 W (by omega)
  rw [okS_2] at h
  exact h
 have C2 : Hid (∀ W, CB 64 #[.string a, .int .i64 1] W (.string (plB 1 a))) := fun W => specPlainly a 1 W (by omega)
 have C5 : Hid (∀ W, CB 64 #[.string r, .int .i64 2] W (.string (plB 2 r))) := fun W => specPlainly r 2 W (by omega)
 have C3 : Hid (∀ W, CB 70 #[.string a] W (.string (dropT a))) := fun W => specDropDotsB a W (by omega)
 generalize okL 1 (toL a) = b1 at HX C1
 generalize okL 2 (toL r) = b4 at HX C4
 have HQ2 : Hid (((plB 1 a).toList == a.toList) = decide (toL (plB 1 a) = toL a)) := str_beq _ _
 have HQ3 : Hid (((dropT a).toList == a.toList) = decide (toL (dropT a) = toL a)) := str_beq _ _
 have HQ5 : Hid (((plB 2 r).toList == r.toList) = decide (toL (plB 2 r) = toL r)) := str_beq _ _
 generalize decide (toL (plB 1 a) = toL a) = b2 at HX HQ2
 generalize decide (toL (dropT a) = toL a) = b3 at HX HQ3
 generalize decide (toL (plB 2 r) = toL r) = b5 at HX HQ5
 generalize plB 1 a = PA at C2 HQ2
 generalize dropT a = DA at C3 HQ3
 generalize plB 2 r = PR at C5 HQ5
 generalize hOk ⟨k, nm, n, [x0, x1, x2, x3, x4, x5, x6, x7]⟩ = bh at HG CH
 obtain ⟨O, hO⟩ : ∃ O, O = w.alloc (.cells #[.int .i64 s, .int .i64 k, .string nm, .int .i64 n, .int .i64 x0, .int .i64 x1, .int .i64 x2, .int .i64 x3, .int .i64 x4, .int .i64 x5, .int .i64 x6, .int .i64 x7, .int .i64 p, .string a, .bool q, .string r] 69) := ⟨_, rfl⟩
 have HU : Hid (PU w (uRow s k nm n x0 x1 x2 x3 x4 x5 x6 x7 p a q r) O) := by
  rw [hO]
  exact PU.new w _ _
 have c0 := HU.out.1.1 0 _ rfl
 go_enter Tryz.func55, Tryz.ntmps55
 go_upto_region 1 with fail
 rw [← hO]
 clear hO
 go_cut [39] (fun v wx => v = .bool (!g) ∧ PU w (uRow s k nm n x0 x1 x2 x3 x4 x5 x6 x7 p a q r) wx)
 case first =>
  clear HX C1 C2 C3 C4 C5 HQ2 HQ3 HQ5
  go_wp2_with fail
  refine (CD.out _).mono ?_
  rintro e w' ⟨rfl, rfl⟩
  clear CD c0
  generalize dport s = D at HG ⊢
  by_cases hD : D = 0
  ·have HA : Hid (g = false) := by show _ = _; rw [HG.out]; simp [hD]
   go_wp2_with fail
   go_meet
   exact ⟨by rw [HA.out]; rfl, HU.out⟩
  have hDb : (D == 0) = false := beq_eq_false_iff_ne.2 hD
  have c1 := HU.out.1.1 1 _ rfl
  have c2 := HU.out.1.1 2 _ rfl
  have c3 := HU.out.1.1 3 _ rfl
  have c4 := HU.out.1.1 4 _ rfl
  have c5 := HU.out.1.1 5 _ rfl
  have c6 := HU.out.1.1 6 _ rfl
  have c7 := HU.out.1.1 7 _ rfl
  have c8 := HU.out.1.1 8 _ rfl
  have c9 := HU.out.1.1 9 _ rfl
  have c10 := HU.out.1.1 10 _ rfl
  have c11 := HU.out.1.1 11 _ rfl
  go_wp2_with fail
  refine (CH.out _).mono ?_
  rintro e w1 ⟨rfl, hb1⟩
  clear c1 c2 c3 c4 c5 c6 c7 c8 c9 c10 c11
  have HU1 : Hid (PU w (uRow s k nm n x0 x1 x2 x3 x4 x5 x6 x7 p a q r) w1) := HU.out.later hb1
  clear hb1 HU CH
  cases bh with
  | false =>
   have HA : Hid (g = false) := by show _ = _; rw [HG.out]; simp
   go_wp2_with fail
   go_meet
   exact ⟨by rw [HA.out]; rfl, HU1.out⟩
  | true =>
   have c12 := HU1.out.1.1 12 _ rfl
   go_wp2_with fail
   refine (specL1In _ _ _ _).mono ?_
   rintro e w' ⟨rfl, rfl⟩
   clear c12
   by_cases hp : 1 ≤ p ∧ p ≤ 65535
   ·rw [decide_eq_true hp] at HG ⊢
    have c13 := HU1.out.1.1 13 _ rfl
    by_cases h0 : a.size = 0
    ·have he := empty_yes h0
     have hr := rooted_empty h0
     have HA : Hid (g = false) := by show _ = _; rw [HG.out]; rw [hr]; simp
     go_wp2_with fail
     go_meet
     exact ⟨by rw [HA.out]; rfl, HU1.out⟩
    have he := empty_no (show 0 < a.size by omega)
    by_cases h47 : a[0].toNat = 47
    ·have hr := rooted_yes (by omega) h47
     have c14 := HU1.out.1.1 14 _ rfl
     have c15 := HU1.out.1.1 15 _ rfl
     cases q with
     | true =>
      have HA : Hid (g = true) := by show _ = _; rw [HG.out]; rw [hr]; simp [hD]
      go_wp2_with fail
      go_meet
      exact ⟨by rw [HA.out]; rfl, HU1.out⟩
     | false =>
      by_cases hz : r.size = 0
      ·have he2 := empty_yes hz
       have HA : Hid (g = true) := by show _ = _; rw [HG.out]; rw [hr]; simp [hD, hz]
       go_wp2_with fail
       go_meet
       exact ⟨by rw [HA.out]; rfl, HU1.out⟩
      have he2 := empty_no (show 0 < r.size by omega)
      have HA : Hid (g = false) := by show _ = _; rw [HG.out]; simp [hz]
      go_wp2_with fail
      go_meet
      exact ⟨by rw [HA.out]; rfl, HU1.out⟩
    have hr := rooted_no (by omega) h47
    have HA : Hid (g = false) := by show _ = _; rw [HG.out]; rw [hr]; simp
    go_wp2_with fail
    go_meet
    exact ⟨by rw [HA.out]; rfl, HU1.out⟩
   rw [decide_eq_false hp] at HG ⊢
   have HA : Hid (g = false) := by show _ = _; rw [HG.out]; simp
   go_wp2_with fail
   go_meet
   exact ⟨by rw [HA.out]; rfl, HU1.out⟩
 obtain ⟨rfl, hu⟩ := hcut
 clear HG CD CH HU c0
 cases g with
 | false =>
  have HA : Hid (ans = false) := by show _ = _; rw [HX.out]; rfl
  clear HX
  go_wp2_with fail
  go_ret
  exact ⟨ret_bool HA.out.symm, hu.2⟩
 | true =>
  have e2 := HQ2.out
  have e3 := HQ3.out
  have e5 := HQ5.out
  clear HQ2 HQ3 HQ5
  go_upto_region 3 with fail
  refine wp_region_held_drew (S := PU w (uRow s k nm n x0 x1 x2 x3 x4 x5 x6 x7 p a q r)) (by kernel_rfl) (PU.drew hu) (fun h0 => ?_)
  clear hu
  refine wpAnyH_take (i := 0) (v := ?_) rfl (by kernel_rfl) (by kernel_rfl) (by kernel_rfl) (fun _ _ _ h => h) (Or.inl ⟨by rfl, fun W hW => ?_⟩) h0 ?_
  rotate_left
  ·clear hW
   go_simp
   try with_reducible rfl
  simp only [Act.put, List.getElem_toArray, List.getElem_cons_zero, List.setIfInBounds_toArray, List.set_cons_zero, List.set_cons_succ]
  refine wpAnyH_take (i := 1) (v := ?_) rfl (by kernel_rfl) (by kernel_rfl) (by kernel_rfl) (fun _ _ _ h => h) (Or.inl ⟨by rfl, fun W hW => ?_⟩) h0 ?_
  rotate_left
  ·have c := hW.1.1 13 _ rfl
   go_simp
   try with_reducible rfl
  simp only [Act.put, List.getElem_toArray, List.getElem_cons_zero, List.getElem_cons_succ, List.setIfInBounds_toArray, List.set_cons_zero, List.set_cons_succ]
  refine wpAnyH_ready (rs := [2]) (by kernel_rfl) (by simp) (AllReadyH.cons rfl (fun K hK => ?_) AllReadyH.nil)
  go_simp
  go_wp2_with (go_at_call 69; refine (C1.out _).mono ?_; rintro e wq1 ⟨rfl, hb1⟩)
  refine hK.out _ _ (PU.later h0 hb1) (fun h1 => ?_)
  clear hK K
  clear h0
  refine wpAnyH_take (i := 3) (v := ?_) rfl (by kernel_rfl) (by kernel_rfl) (by kernel_rfl) (fun _ _ _ h => h) (Or.inl ⟨by rfl, fun W hW => ?_⟩) h1 ?_
  rotate_left
  ·clear hW
   go_simp
   try with_reducible rfl
  simp only [Act.put, List.getElem_toArray, List.getElem_cons_zero, List.getElem_cons_succ, List.setIfInBounds_toArray, List.set_cons_zero, List.set_cons_succ]
  cases b1 with
  | false =>
   refine wpAnyH_take (i := 4) (v := undef) rfl (by kernel_rfl) (by kernel_rfl) (by kernel_rfl) (fun _ _ _ h => h) (Or.inr ⟨by rfl, rfl⟩) h1 ?_
   simp only [Act.put, List.getElem_toArray, List.getElem_cons_zero, List.getElem_cons_succ, List.setIfInBounds_toArray, List.set_cons_zero, List.set_cons_succ]
   refine wpAnyH_take (i := 5) (v := undef) rfl (by kernel_rfl) (by kernel_rfl) (by kernel_rfl) (fun _ _ _ h => h) (Or.inr ⟨by rfl, rfl⟩) h1 ?_
   simp only [Act.put, List.getElem_toArray, List.getElem_cons_zero, List.getElem_cons_succ, List.setIfInBounds_toArray, List.set_cons_zero, List.set_cons_succ]
   refine wpAnyH_take (i := 6) (v := undef) rfl (by kernel_rfl) (by kernel_rfl) (by kernel_rfl) (fun _ _ _ h => h) (Or.inr ⟨by rfl, rfl⟩) h1 ?_
   simp only [Act.put, List.getElem_toArray, List.getElem_cons_zero, List.getElem_cons_succ, List.setIfInBounds_toArray, List.set_cons_zero, List.set_cons_succ]
   refine wpAnyH_take (i := 7) (v := undef) rfl (by kernel_rfl) (by kernel_rfl) (by kernel_rfl) (fun _ _ _ h => h) (Or.inr ⟨by rfl, rfl⟩) h1 ?_
   simp only [Act.put, List.getElem_toArray, List.getElem_cons_zero, List.getElem_cons_succ, List.setIfInBounds_toArray, List.set_cons_zero, List.set_cons_succ]
   refine wpAnyH_take (i := 8) (v := undef) rfl (by kernel_rfl) (by kernel_rfl) (by kernel_rfl) (fun _ _ _ h => h) (Or.inr ⟨by rfl, rfl⟩) h1 ?_
   simp only [Act.put, List.getElem_toArray, List.getElem_cons_zero, List.getElem_cons_succ, List.setIfInBounds_toArray, List.set_cons_zero, List.set_cons_succ]
   refine wpAnyH_take (i := 9) (v := undef) rfl (by kernel_rfl) (by kernel_rfl) (by kernel_rfl) (fun _ _ _ h => h) (Or.inr ⟨by rfl, rfl⟩) h1 ?_
   simp only [Act.put, List.getElem_toArray, List.getElem_cons_zero, List.getElem_cons_succ, List.setIfInBounds_toArray, List.set_cons_zero, List.set_cons_succ]
   refine wpAnyH_take (i := 10) (v := ?_) rfl (by kernel_rfl) (by kernel_rfl) (by kernel_rfl) (fun _ _ _ h => h) (Or.inl ⟨by rfl, fun W hW => ?_⟩) h1 ?_
   rotate_left
   ·clear hW
    go_simp
    try with_reducible rfl
   simp only [Act.put, List.getElem_toArray, List.getElem_cons_zero, List.getElem_cons_succ, List.setIfInBounds_toArray, List.set_cons_zero, List.set_cons_succ]
   refine wpAnyH_take (i := 11) (v := ?_) rfl (by kernel_rfl) (by kernel_rfl) (by kernel_rfl) (fun _ _ _ h => h) (Or.inl ⟨by rfl, fun W hW => ?_⟩) h1 ?_
   rotate_left
   ·clear hW
    go_simp
    try with_reducible rfl
   simp only [Act.put, List.getElem_toArray, List.getElem_cons_zero, List.getElem_cons_succ, List.setIfInBounds_toArray, List.set_cons_zero, List.set_cons_succ]
   refine wpAnyH_take (i := 12) (v := undef) rfl (by kernel_rfl) (by kernel_rfl) (by kernel_rfl) (fun _ _ _ h => h) (Or.inr ⟨by rfl, rfl⟩) h1 ?_
   simp only [Act.put, List.getElem_toArray, List.getElem_cons_zero, List.getElem_cons_succ, List.setIfInBounds_toArray, List.set_cons_zero, List.set_cons_succ]
   refine wpAnyH_take (i := 13) (v := undef) rfl (by kernel_rfl) (by kernel_rfl) (by kernel_rfl) (fun _ _ _ h => h) (Or.inr ⟨by rfl, rfl⟩) h1 ?_
   simp only [Act.put, List.getElem_toArray, List.getElem_cons_zero, List.getElem_cons_succ, List.setIfInBounds_toArray, List.set_cons_zero, List.set_cons_succ]
   refine wpAnyH_take (i := 14) (v := undef) rfl (by kernel_rfl) (by kernel_rfl) (by kernel_rfl) (fun _ _ _ h => h) (Or.inr ⟨by rfl, rfl⟩) h1 ?_
   simp only [Act.put, List.getElem_toArray, List.getElem_cons_zero, List.getElem_cons_succ, List.setIfInBounds_toArray, List.set_cons_zero, List.set_cons_succ]
   refine wpAnyH_take (i := 15) (v := undef) rfl (by kernel_rfl) (by kernel_rfl) (by kernel_rfl) (fun _ _ _ h => h) (Or.inr ⟨by rfl, rfl⟩) h1 ?_
   simp only [Act.put, List.getElem_toArray, List.getElem_cons_zero, List.getElem_cons_succ, List.setIfInBounds_toArray, List.set_cons_zero, List.set_cons_succ]
   refine wpAnyH_take (i := 16) (v := undef) rfl (by kernel_rfl) (by kernel_rfl) (by kernel_rfl) (fun _ _ _ h => h) (Or.inr ⟨by rfl, rfl⟩) h1 ?_
   simp only [Act.put, List.getElem_toArray, List.getElem_cons_zero, List.getElem_cons_succ, List.setIfInBounds_toArray, List.set_cons_zero, List.set_cons_succ]
   refine wpAnyH_take (i := 17) (v := undef) rfl (by kernel_rfl) (by kernel_rfl) (by kernel_rfl) (fun _ _ _ h => h) (Or.inr ⟨by rfl, rfl⟩) h1 ?_
   simp only [Act.put, List.getElem_toArray, List.getElem_cons_zero, List.getElem_cons_succ, List.setIfInBounds_toArray, List.set_cons_zero, List.set_cons_succ]
   refine wpAnyH_take (i := 18) (v := ?_) rfl (by kernel_rfl) (by kernel_rfl) (by kernel_rfl) (fun _ _ _ h => h) (Or.inl ⟨by rfl, fun W hW => ?_⟩) h1 ?_
   rotate_left
   ·clear hW
    go_simp
    try with_reducible rfl
   simp only [Act.put, List.getElem_toArray, List.getElem_cons_zero, List.getElem_cons_succ, List.setIfInBounds_toArray, List.set_cons_zero, List.set_cons_succ]
   refine wpAnyH_take (i := 19) (v := ?_) rfl (by kernel_rfl) (by kernel_rfl) (by kernel_rfl) (fun _ _ _ h => h) (Or.inl ⟨by rfl, fun W hW => ?_⟩) h1 ?_
   rotate_left
   ·clear hW
    go_simp
    try with_reducible rfl
   simp only [Act.put, List.getElem_toArray, List.getElem_cons_zero, List.getElem_cons_succ, List.setIfInBounds_toArray, List.set_cons_zero, List.set_cons_succ]
   refine wpAnyH_take (i := 20) (v := undef) rfl (by kernel_rfl) (by kernel_rfl) (by kernel_rfl) (fun _ _ _ h => h) (Or.inr ⟨by rfl, rfl⟩) h1 ?_
   simp only [Act.put, List.getElem_toArray, List.getElem_cons_zero, List.getElem_cons_succ, List.setIfInBounds_toArray, List.set_cons_zero, List.set_cons_succ]
   refine wpAnyH_take (i := 21) (v := undef) rfl (by kernel_rfl) (by kernel_rfl) (by kernel_rfl) (fun _ _ _ h => h) (Or.inr ⟨by rfl, rfl⟩) h1 ?_
   simp only [Act.put, List.getElem_toArray, List.getElem_cons_zero, List.getElem_cons_succ, List.setIfInBounds_toArray, List.set_cons_zero, List.set_cons_succ]
   refine wpAnyH_take (i := 22) (v := undef) rfl (by kernel_rfl) (by kernel_rfl) (by kernel_rfl) (fun _ _ _ h => h) (Or.inr ⟨by rfl, rfl⟩) h1 ?_
   simp only [Act.put, List.getElem_toArray, List.getElem_cons_zero, List.getElem_cons_succ, List.setIfInBounds_toArray, List.set_cons_zero, List.set_cons_succ]
   refine wpAnyH_take (i := 23) (v := ?_) rfl (by kernel_rfl) (by kernel_rfl) (by kernel_rfl) (fun _ _ _ h => h) (Or.inl ⟨by rfl, fun W hW => ?_⟩) h1 ?_
   rotate_left
   ·clear hW
    go_simp
    try with_reducible rfl
   simp only [Act.put, List.getElem_toArray, List.getElem_cons_zero, List.getElem_cons_succ, List.setIfInBounds_toArray, List.set_cons_zero, List.set_cons_succ]
   refine wpAnyH_take (i := 24) (v := ?_) rfl (by kernel_rfl) (by kernel_rfl) (by kernel_rfl) (fun _ _ _ h => h) (Or.inl ⟨by rfl, fun W hW => ?_⟩) h1 ?_
   rotate_left
   ·clear hW
    go_simp
    try with_reducible rfl
   simp only [Act.put, List.getElem_toArray, List.getElem_cons_zero, List.getElem_cons_succ, List.setIfInBounds_toArray, List.set_cons_zero, List.set_cons_succ]
   refine wpAnyH_take (i := 25) (v := undef) rfl (by kernel_rfl) (by kernel_rfl) (by kernel_rfl) (fun _ _ _ h => h) (Or.inr ⟨by rfl, rfl⟩) h1 ?_
   simp only [Act.put, List.getElem_toArray, List.getElem_cons_zero, List.getElem_cons_succ, List.setIfInBounds_toArray, List.set_cons_zero, List.set_cons_succ]
   refine wpAnyH_take (i := 26) (v := undef) rfl (by kernel_rfl) (by kernel_rfl) (by kernel_rfl) (fun _ _ _ h => h) (Or.inr ⟨by rfl, rfl⟩) h1 ?_
   simp only [Act.put, List.getElem_toArray, List.getElem_cons_zero, List.getElem_cons_succ, List.setIfInBounds_toArray, List.set_cons_zero, List.set_cons_succ]
   refine wpAnyH_take (i := 27) (v := undef) rfl (by kernel_rfl) (by kernel_rfl) (by kernel_rfl) (fun _ _ _ h => h) (Or.inr ⟨by rfl, rfl⟩) h1 ?_
   simp only [Act.put, List.getElem_toArray, List.getElem_cons_zero, List.getElem_cons_succ, List.setIfInBounds_toArray, List.set_cons_zero, List.set_cons_succ]
   refine wpAnyH_take (i := 28) (v := undef) rfl (by kernel_rfl) (by kernel_rfl) (by kernel_rfl) (fun _ _ _ h => h) (Or.inr ⟨by rfl, rfl⟩) h1 ?_
   simp only [Act.put, List.getElem_toArray, List.getElem_cons_zero, List.getElem_cons_succ, List.setIfInBounds_toArray, List.set_cons_zero, List.set_cons_succ]
   refine wpAnyH_take (i := 29) (v := undef) rfl (by kernel_rfl) (by kernel_rfl) (by kernel_rfl) (fun _ _ _ h => h) (Or.inr ⟨by rfl, rfl⟩) h1 ?_
   simp only [Act.put, List.getElem_toArray, List.getElem_cons_zero, List.getElem_cons_succ, List.setIfInBounds_toArray, List.set_cons_zero, List.set_cons_succ]
   refine wpAnyH_take (i := 30) (v := undef) rfl (by kernel_rfl) (by kernel_rfl) (by kernel_rfl) (fun _ _ _ h => h) (Or.inr ⟨by rfl, rfl⟩) h1 ?_
   simp only [Act.put, List.getElem_toArray, List.getElem_cons_zero, List.getElem_cons_succ, List.setIfInBounds_toArray, List.set_cons_zero, List.set_cons_succ]
   refine wpAnyH_take (i := 31) (v := ?_) rfl (by kernel_rfl) (by kernel_rfl) (by kernel_rfl) (fun _ _ _ h => h) (Or.inl ⟨by rfl, fun W hW => ?_⟩) h1 ?_
   rotate_left
   ·clear hW
    go_simp
    try with_reducible rfl
   simp only [Act.put, List.getElem_toArray, List.getElem_cons_zero, List.getElem_cons_succ, List.setIfInBounds_toArray, List.set_cons_zero, List.set_cons_succ]
   refine wpAnyH_take (i := 32) (v := ?_) rfl (by kernel_rfl) (by kernel_rfl) (by kernel_rfl) (fun _ _ _ h => h) (Or.inl ⟨by rfl, fun W hW => ?_⟩) h1 ?_
   rotate_left
   ·clear hW
    go_simp
    try with_reducible rfl
   simp only [Act.put, List.getElem_toArray, List.getElem_cons_zero, List.getElem_cons_succ, List.setIfInBounds_toArray, List.set_cons_zero, List.set_cons_succ]
   have HZ : Hid (ans = false) := by show _ = _; rw [HX.out]; rfl
   clear HX
   refine wpAnyH_done (by kernel_rfl) ?_ _
   go_wp2_with fail
   go_ret
   exact ⟨ret_bool HZ.out.symm, h1.2⟩
  | true =>
   refine wpAnyH_take (i := 4) (v := ?_) rfl (by kernel_rfl) (by kernel_rfl) (by kernel_rfl) (fun _ _ _ h => h) (Or.inl ⟨by rfl, fun W hW => ?_⟩) h1 ?_
   rotate_left
   ·clear hW
    go_simp
    try with_reducible rfl
   simp only [Act.put, List.getElem_toArray, List.getElem_cons_zero, List.getElem_cons_succ, List.setIfInBounds_toArray, List.set_cons_zero, List.set_cons_succ]
   refine wpAnyH_take (i := 5) (v := ?_) rfl (by kernel_rfl) (by kernel_rfl) (by kernel_rfl) (fun _ _ _ h => h) (Or.inl ⟨by rfl, fun W hW => ?_⟩) h1 ?_
   rotate_left
   ·have c := hW.1.1 13 _ rfl
    go_simp
    try with_reducible rfl
   simp only [Act.put, List.getElem_toArray, List.getElem_cons_zero, List.getElem_cons_succ, List.setIfInBounds_toArray, List.set_cons_zero, List.set_cons_succ]
   refine wpAnyH_take (i := 7) (v := ?_) rfl (by kernel_rfl) (by kernel_rfl) (by kernel_rfl) (fun _ _ _ h => h) (Or.inl ⟨by rfl, fun W hW => ?_⟩) h1 ?_
   rotate_left
   ·clear hW
    go_simp
    try with_reducible rfl
   simp only [Act.put, List.getElem_toArray, List.getElem_cons_zero, List.getElem_cons_succ, List.setIfInBounds_toArray, List.set_cons_zero, List.set_cons_succ]
   refine wpAnyH_take (i := 8) (v := ?_) rfl (by kernel_rfl) (by kernel_rfl) (by kernel_rfl) (fun _ _ _ h => h) (Or.inl ⟨by rfl, fun W hW => ?_⟩) h1 ?_
   rotate_left
   ·have c := hW.1.1 13 _ rfl
    go_simp
    try with_reducible rfl
   simp only [Act.put, List.getElem_toArray, List.getElem_cons_zero, List.getElem_cons_succ, List.setIfInBounds_toArray, List.set_cons_zero, List.set_cons_succ]
   refine wpAnyH_ready (rs := [6]) (by kernel_rfl) (by simp) (AllReadyH.cons rfl (fun K hK => ?_) AllReadyH.nil)
   go_simp
   go_wp2_with (go_at_call 64; refine (C2.out _).mono ?_; rintro e wq2 ⟨rfl, hb2⟩)
   refine hK.out _ _ (PU.later h1 hb2) (fun h2 => ?_)
   clear hK K
   clear h1
   refine wpAnyH_take (i := 9) (v := ?_) rfl (by kernel_rfl) (by kernel_rfl) (by kernel_rfl) (fun _ _ _ h => h) (Or.inl ⟨by rfl, fun W hW => ?_⟩) h2 ?_
   rotate_left
   ·clear hW
    go_simp
    try with_reducible rfl
   simp only [Act.put, List.getElem_toArray, List.getElem_cons_zero, List.getElem_cons_succ, List.setIfInBounds_toArray, List.set_cons_zero, List.set_cons_succ]
   refine wpAnyH_take (i := 10) (v := ?_) rfl (by kernel_rfl) (by kernel_rfl) (by kernel_rfl) (fun _ _ _ h => h) (Or.inl ⟨by rfl, fun W hW => ?_⟩) h2 ?_
   rotate_left
   ·clear hW
    go_simp
    try with_reducible rfl
   simp only [Act.put, List.getElem_toArray, List.getElem_cons_zero, List.getElem_cons_succ, List.setIfInBounds_toArray, List.set_cons_zero, List.set_cons_succ]
   refine wpAnyH_take (i := 11) (v := ?_) rfl (by kernel_rfl) (by kernel_rfl) (by kernel_rfl) (fun _ _ _ h => h) (Or.inl ⟨by rfl, fun W hW => ?_⟩) h2 ?_
   rotate_left
   ·clear hW
    go_simp
    try with_reducible rfl
   simp only [Act.put, List.getElem_toArray, List.getElem_cons_zero, List.getElem_cons_succ, List.setIfInBounds_toArray, List.set_cons_zero, List.set_cons_succ]
   cases b2 with
   | false =>
    refine wpAnyH_take (i := 12) (v := undef) rfl (by kernel_rfl) (by kernel_rfl) (by kernel_rfl) (fun _ _ _ h => h) (Or.inr ⟨by rfl, rfl⟩) h2 ?_
    simp only [Act.put, List.getElem_toArray, List.getElem_cons_zero, List.getElem_cons_succ, List.setIfInBounds_toArray, List.set_cons_zero, List.set_cons_succ]
    refine wpAnyH_take (i := 13) (v := undef) rfl (by kernel_rfl) (by kernel_rfl) (by kernel_rfl) (fun _ _ _ h => h) (Or.inr ⟨by rfl, rfl⟩) h2 ?_
    simp only [Act.put, List.getElem_toArray, List.getElem_cons_zero, List.getElem_cons_succ, List.setIfInBounds_toArray, List.set_cons_zero, List.set_cons_succ]
    refine wpAnyH_take (i := 14) (v := undef) rfl (by kernel_rfl) (by kernel_rfl) (by kernel_rfl) (fun _ _ _ h => h) (Or.inr ⟨by rfl, rfl⟩) h2 ?_
    simp only [Act.put, List.getElem_toArray, List.getElem_cons_zero, List.getElem_cons_succ, List.setIfInBounds_toArray, List.set_cons_zero, List.set_cons_succ]
    refine wpAnyH_take (i := 15) (v := undef) rfl (by kernel_rfl) (by kernel_rfl) (by kernel_rfl) (fun _ _ _ h => h) (Or.inr ⟨by rfl, rfl⟩) h2 ?_
    simp only [Act.put, List.getElem_toArray, List.getElem_cons_zero, List.getElem_cons_succ, List.setIfInBounds_toArray, List.set_cons_zero, List.set_cons_succ]
    refine wpAnyH_take (i := 16) (v := undef) rfl (by kernel_rfl) (by kernel_rfl) (by kernel_rfl) (fun _ _ _ h => h) (Or.inr ⟨by rfl, rfl⟩) h2 ?_
    simp only [Act.put, List.getElem_toArray, List.getElem_cons_zero, List.getElem_cons_succ, List.setIfInBounds_toArray, List.set_cons_zero, List.set_cons_succ]
    refine wpAnyH_take (i := 17) (v := undef) rfl (by kernel_rfl) (by kernel_rfl) (by kernel_rfl) (fun _ _ _ h => h) (Or.inr ⟨by rfl, rfl⟩) h2 ?_
    simp only [Act.put, List.getElem_toArray, List.getElem_cons_zero, List.getElem_cons_succ, List.setIfInBounds_toArray, List.set_cons_zero, List.set_cons_succ]
    refine wpAnyH_take (i := 18) (v := ?_) rfl (by kernel_rfl) (by kernel_rfl) (by kernel_rfl) (fun _ _ _ h => h) (Or.inl ⟨by rfl, fun W hW => ?_⟩) h2 ?_
    rotate_left
    ·clear hW
     go_simp
     try with_reducible rfl
    simp only [Act.put, List.getElem_toArray, List.getElem_cons_zero, List.getElem_cons_succ, List.setIfInBounds_toArray, List.set_cons_zero, List.set_cons_succ]
    refine wpAnyH_take (i := 19) (v := ?_) rfl (by kernel_rfl) (by kernel_rfl) (by kernel_rfl) (fun _ _ _ h => h) (Or.inl ⟨by rfl, fun W hW => ?_⟩) h2 ?_
    rotate_left
    ·clear hW
     go_simp
     try with_reducible rfl
    simp only [Act.put, List.getElem_toArray, List.getElem_cons_zero, List.getElem_cons_succ, List.setIfInBounds_toArray, List.set_cons_zero, List.set_cons_succ]
    refine wpAnyH_take (i := 20) (v := undef) rfl (by kernel_rfl) (by kernel_rfl) (by kernel_rfl) (fun _ _ _ h => h) (Or.inr ⟨by rfl, rfl⟩) h2 ?_
    simp only [Act.put, List.getElem_toArray, List.getElem_cons_zero, List.getElem_cons_succ, List.setIfInBounds_toArray, List.set_cons_zero, List.set_cons_succ]
    refine wpAnyH_take (i := 21) (v := undef) rfl (by kernel_rfl) (by kernel_rfl) (by kernel_rfl) (fun _ _ _ h => h) (Or.inr ⟨by rfl, rfl⟩) h2 ?_
    simp only [Act.put, List.getElem_toArray, List.getElem_cons_zero, List.getElem_cons_succ, List.setIfInBounds_toArray, List.set_cons_zero, List.set_cons_succ]
    refine wpAnyH_take (i := 22) (v := undef) rfl (by kernel_rfl) (by kernel_rfl) (by kernel_rfl) (fun _ _ _ h => h) (Or.inr ⟨by rfl, rfl⟩) h2 ?_
    simp only [Act.put, List.getElem_toArray, List.getElem_cons_zero, List.getElem_cons_succ, List.setIfInBounds_toArray, List.set_cons_zero, List.set_cons_succ]
    refine wpAnyH_take (i := 23) (v := ?_) rfl (by kernel_rfl) (by kernel_rfl) (by kernel_rfl) (fun _ _ _ h => h) (Or.inl ⟨by rfl, fun W hW => ?_⟩) h2 ?_
    rotate_left
    ·clear hW
     go_simp
     try with_reducible rfl
    simp only [Act.put, List.getElem_toArray, List.getElem_cons_zero, List.getElem_cons_succ, List.setIfInBounds_toArray, List.set_cons_zero, List.set_cons_succ]
    refine wpAnyH_take (i := 24) (v := ?_) rfl (by kernel_rfl) (by kernel_rfl) (by kernel_rfl) (fun _ _ _ h => h) (Or.inl ⟨by rfl, fun W hW => ?_⟩) h2 ?_
    rotate_left
    ·clear hW
     go_simp
     try with_reducible rfl
    simp only [Act.put, List.getElem_toArray, List.getElem_cons_zero, List.getElem_cons_succ, List.setIfInBounds_toArray, List.set_cons_zero, List.set_cons_succ]
    refine wpAnyH_take (i := 25) (v := undef) rfl (by kernel_rfl) (by kernel_rfl) (by kernel_rfl) (fun _ _ _ h => h) (Or.inr ⟨by rfl, rfl⟩) h2 ?_
    simp only [Act.put, List.getElem_toArray, List.getElem_cons_zero, List.getElem_cons_succ, List.setIfInBounds_toArray, List.set_cons_zero, List.set_cons_succ]
    refine wpAnyH_take (i := 26) (v := undef) rfl (by kernel_rfl) (by kernel_rfl) (by kernel_rfl) (fun _ _ _ h => h) (Or.inr ⟨by rfl, rfl⟩) h2 ?_
    simp only [Act.put, List.getElem_toArray, List.getElem_cons_zero, List.getElem_cons_succ, List.setIfInBounds_toArray, List.set_cons_zero, List.set_cons_succ]
    refine wpAnyH_take (i := 27) (v := undef) rfl (by kernel_rfl) (by kernel_rfl) (by kernel_rfl) (fun _ _ _ h => h) (Or.inr ⟨by rfl, rfl⟩) h2 ?_
    simp only [Act.put, List.getElem_toArray, List.getElem_cons_zero, List.getElem_cons_succ, List.setIfInBounds_toArray, List.set_cons_zero, List.set_cons_succ]
    refine wpAnyH_take (i := 28) (v := undef) rfl (by kernel_rfl) (by kernel_rfl) (by kernel_rfl) (fun _ _ _ h => h) (Or.inr ⟨by rfl, rfl⟩) h2 ?_
    simp only [Act.put, List.getElem_toArray, List.getElem_cons_zero, List.getElem_cons_succ, List.setIfInBounds_toArray, List.set_cons_zero, List.set_cons_succ]
    refine wpAnyH_take (i := 29) (v := undef) rfl (by kernel_rfl) (by kernel_rfl) (by kernel_rfl) (fun _ _ _ h => h) (Or.inr ⟨by rfl, rfl⟩) h2 ?_
    simp only [Act.put, List.getElem_toArray, List.getElem_cons_zero, List.getElem_cons_succ, List.setIfInBounds_toArray, List.set_cons_zero, List.set_cons_succ]
    refine wpAnyH_take (i := 30) (v := undef) rfl (by kernel_rfl) (by kernel_rfl) (by kernel_rfl) (fun _ _ _ h => h) (Or.inr ⟨by rfl, rfl⟩) h2 ?_
    simp only [Act.put, List.getElem_toArray, List.getElem_cons_zero, List.getElem_cons_succ, List.setIfInBounds_toArray, List.set_cons_zero, List.set_cons_succ]
    refine wpAnyH_take (i := 31) (v := ?_) rfl (by kernel_rfl) (by kernel_rfl) (by kernel_rfl) (fun _ _ _ h => h) (Or.inl ⟨by rfl, fun W hW => ?_⟩) h2 ?_
    rotate_left
    ·clear hW
     go_simp
     try with_reducible rfl
    simp only [Act.put, List.getElem_toArray, List.getElem_cons_zero, List.getElem_cons_succ, List.setIfInBounds_toArray, List.set_cons_zero, List.set_cons_succ]
    refine wpAnyH_take (i := 32) (v := ?_) rfl (by kernel_rfl) (by kernel_rfl) (by kernel_rfl) (fun _ _ _ h => h) (Or.inl ⟨by rfl, fun W hW => ?_⟩) h2 ?_
    rotate_left
    ·clear hW
     go_simp
     try with_reducible rfl
    simp only [Act.put, List.getElem_toArray, List.getElem_cons_zero, List.getElem_cons_succ, List.setIfInBounds_toArray, List.set_cons_zero, List.set_cons_succ]
    have HZ : Hid (ans = false) := by show _ = _; rw [HX.out]; rfl
    clear HX
    refine wpAnyH_done (by kernel_rfl) ?_ _
    go_wp2_with fail
    go_ret
    exact ⟨ret_bool HZ.out.symm, h2.2⟩
   | true =>
    refine wpAnyH_take (i := 12) (v := ?_) rfl (by kernel_rfl) (by kernel_rfl) (by kernel_rfl) (fun _ _ _ h => h) (Or.inl ⟨by rfl, fun W hW => ?_⟩) h2 ?_
    rotate_left
    ·clear hW
     go_simp
     try with_reducible rfl
    simp only [Act.put, List.getElem_toArray, List.getElem_cons_zero, List.getElem_cons_succ, List.setIfInBounds_toArray, List.set_cons_zero, List.set_cons_succ]
    refine wpAnyH_take (i := 13) (v := ?_) rfl (by kernel_rfl) (by kernel_rfl) (by kernel_rfl) (fun _ _ _ h => h) (Or.inl ⟨by rfl, fun W hW => ?_⟩) h2 ?_
    rotate_left
    ·have c := hW.1.1 13 _ rfl
     go_simp
     try with_reducible rfl
    simp only [Act.put, List.getElem_toArray, List.getElem_cons_zero, List.getElem_cons_succ, List.setIfInBounds_toArray, List.set_cons_zero, List.set_cons_succ]
    refine wpAnyH_take (i := 15) (v := ?_) rfl (by kernel_rfl) (by kernel_rfl) (by kernel_rfl) (fun _ _ _ h => h) (Or.inl ⟨by rfl, fun W hW => ?_⟩) h2 ?_
    rotate_left
    ·clear hW
     go_simp
     try with_reducible rfl
    simp only [Act.put, List.getElem_toArray, List.getElem_cons_zero, List.getElem_cons_succ, List.setIfInBounds_toArray, List.set_cons_zero, List.set_cons_succ]
    refine wpAnyH_take (i := 16) (v := ?_) rfl (by kernel_rfl) (by kernel_rfl) (by kernel_rfl) (fun _ _ _ h => h) (Or.inl ⟨by rfl, fun W hW => ?_⟩) h2 ?_
    rotate_left
    ·have c := hW.1.1 13 _ rfl
     go_simp
     try with_reducible rfl
    simp only [Act.put, List.getElem_toArray, List.getElem_cons_zero, List.getElem_cons_succ, List.setIfInBounds_toArray, List.set_cons_zero, List.set_cons_succ]
    refine wpAnyH_ready (rs := [14]) (by kernel_rfl) (by simp) (AllReadyH.cons rfl (fun K hK => ?_) AllReadyH.nil)
    go_simp
    go_wp2_with (go_at_call 70; refine (C3.out _).mono ?_; rintro e wq3 ⟨rfl, hb3⟩)
    refine hK.out _ _ (PU.later h2 hb3) (fun h3 => ?_)
    clear hK K
    clear h2
    refine wpAnyH_take (i := 17) (v := ?_) rfl (by kernel_rfl) (by kernel_rfl) (by kernel_rfl) (fun _ _ _ h => h) (Or.inl ⟨by rfl, fun W hW => ?_⟩) h3 ?_
    rotate_left
    ·clear hW
     go_simp
     try with_reducible rfl
    simp only [Act.put, List.getElem_toArray, List.getElem_cons_zero, List.getElem_cons_succ, List.setIfInBounds_toArray, List.set_cons_zero, List.set_cons_succ]
    refine wpAnyH_take (i := 18) (v := ?_) rfl (by kernel_rfl) (by kernel_rfl) (by kernel_rfl) (fun _ _ _ h => h) (Or.inl ⟨by rfl, fun W hW => ?_⟩) h3 ?_
    rotate_left
    ·clear hW
     go_simp
     try with_reducible rfl
    simp only [Act.put, List.getElem_toArray, List.getElem_cons_zero, List.getElem_cons_succ, List.setIfInBounds_toArray, List.set_cons_zero, List.set_cons_succ]
    refine wpAnyH_take (i := 19) (v := ?_) rfl (by kernel_rfl) (by kernel_rfl) (by kernel_rfl) (fun _ _ _ h => h) (Or.inl ⟨by rfl, fun W hW => ?_⟩) h3 ?_
    rotate_left
    ·clear hW
     go_simp
     try with_reducible rfl
    simp only [Act.put, List.getElem_toArray, List.getElem_cons_zero, List.getElem_cons_succ, List.setIfInBounds_toArray, List.set_cons_zero, List.set_cons_succ]
    cases b3 with
    | false =>
     refine wpAnyH_take (i := 20) (v := undef) rfl (by kernel_rfl) (by kernel_rfl) (by kernel_rfl) (fun _ _ _ h => h) (Or.inr ⟨by rfl, rfl⟩) h3 ?_
     simp only [Act.put, List.getElem_toArray, List.getElem_cons_zero, List.getElem_cons_succ, List.setIfInBounds_toArray, List.set_cons_zero, List.set_cons_succ]
     refine wpAnyH_take (i := 21) (v := undef) rfl (by kernel_rfl) (by kernel_rfl) (by kernel_rfl) (fun _ _ _ h => h) (Or.inr ⟨by rfl, rfl⟩) h3 ?_
     simp only [Act.put, List.getElem_toArray, List.getElem_cons_zero, List.getElem_cons_succ, List.setIfInBounds_toArray, List.set_cons_zero, List.set_cons_succ]
     refine wpAnyH_take (i := 22) (v := undef) rfl (by kernel_rfl) (by kernel_rfl) (by kernel_rfl) (fun _ _ _ h => h) (Or.inr ⟨by rfl, rfl⟩) h3 ?_
     simp only [Act.put, List.getElem_toArray, List.getElem_cons_zero, List.getElem_cons_succ, List.setIfInBounds_toArray, List.set_cons_zero, List.set_cons_succ]
     refine wpAnyH_take (i := 23) (v := ?_) rfl (by kernel_rfl) (by kernel_rfl) (by kernel_rfl) (fun _ _ _ h => h) (Or.inl ⟨by rfl, fun W hW => ?_⟩) h3 ?_
     rotate_left
     ·clear hW
      go_simp
      try with_reducible rfl
     simp only [Act.put, List.getElem_toArray, List.getElem_cons_zero, List.getElem_cons_succ, List.setIfInBounds_toArray, List.set_cons_zero, List.set_cons_succ]
     refine wpAnyH_take (i := 24) (v := ?_) rfl (by kernel_rfl) (by kernel_rfl) (by kernel_rfl) (fun _ _ _ h => h) (Or.inl ⟨by rfl, fun W hW => ?_⟩) h3 ?_
     rotate_left
     ·clear hW
      go_simp
      try with_reducible rfl
     simp only [Act.put, List.getElem_toArray, List.getElem_cons_zero, List.getElem_cons_succ, List.setIfInBounds_toArray, List.set_cons_zero, List.set_cons_succ]
     refine wpAnyH_take (i := 25) (v := undef) rfl (by kernel_rfl) (by kernel_rfl) (by kernel_rfl) (fun _ _ _ h => h) (Or.inr ⟨by rfl, rfl⟩) h3 ?_
     simp only [Act.put, List.getElem_toArray, List.getElem_cons_zero, List.getElem_cons_succ, List.setIfInBounds_toArray, List.set_cons_zero, List.set_cons_succ]
     refine wpAnyH_take (i := 26) (v := undef) rfl (by kernel_rfl) (by kernel_rfl) (by kernel_rfl) (fun _ _ _ h => h) (Or.inr ⟨by rfl, rfl⟩) h3 ?_
     simp only [Act.put, List.getElem_toArray, List.getElem_cons_zero, List.getElem_cons_succ, List.setIfInBounds_toArray, List.set_cons_zero, List.set_cons_succ]
     refine wpAnyH_take (i := 27) (v := undef) rfl (by kernel_rfl) (by kernel_rfl) (by kernel_rfl) (fun _ _ _ h => h) (Or.inr ⟨by rfl, rfl⟩) h3 ?_
     simp only [Act.put, List.getElem_toArray, List.getElem_cons_zero, List.getElem_cons_succ, List.setIfInBounds_toArray, List.set_cons_zero, List.set_cons_succ]
     refine wpAnyH_take (i := 28) (v := undef) rfl (by kernel_rfl) (by kernel_rfl) (by kernel_rfl) (fun _ _ _ h => h) (Or.inr ⟨by rfl, rfl⟩) h3 ?_
     simp only [Act.put, List.getElem_toArray, List.getElem_cons_zero, List.getElem_cons_succ, List.setIfInBounds_toArray, List.set_cons_zero, List.set_cons_succ]
     refine wpAnyH_take (i := 29) (v := undef) rfl (by kernel_rfl) (by kernel_rfl) (by kernel_rfl) (fun _ _ _ h => h) (Or.inr ⟨by rfl, rfl⟩) h3 ?_
     simp only [Act.put, List.getElem_toArray, List.getElem_cons_zero, List.getElem_cons_succ, List.setIfInBounds_toArray, List.set_cons_zero, List.set_cons_succ]
     refine wpAnyH_take (i := 30) (v := undef) rfl (by kernel_rfl) (by kernel_rfl) (by kernel_rfl) (fun _ _ _ h => h) (Or.inr ⟨by rfl, rfl⟩) h3 ?_
     simp only [Act.put, List.getElem_toArray, List.getElem_cons_zero, List.getElem_cons_succ, List.setIfInBounds_toArray, List.set_cons_zero, List.set_cons_succ]
     refine wpAnyH_take (i := 31) (v := ?_) rfl (by kernel_rfl) (by kernel_rfl) (by kernel_rfl) (fun _ _ _ h => h) (Or.inl ⟨by rfl, fun W hW => ?_⟩) h3 ?_
     rotate_left
     ·clear hW
      go_simp
      try with_reducible rfl
     simp only [Act.put, List.getElem_toArray, List.getElem_cons_zero, List.getElem_cons_succ, List.setIfInBounds_toArray, List.set_cons_zero, List.set_cons_succ]
     refine wpAnyH_take (i := 32) (v := ?_) rfl (by kernel_rfl) (by kernel_rfl) (by kernel_rfl) (fun _ _ _ h => h) (Or.inl ⟨by rfl, fun W hW => ?_⟩) h3 ?_
     rotate_left
     ·clear hW
      go_simp
      try with_reducible rfl
     simp only [Act.put, List.getElem_toArray, List.getElem_cons_zero, List.getElem_cons_succ, List.setIfInBounds_toArray, List.set_cons_zero, List.set_cons_succ]
     have HZ : Hid (ans = false) := by show _ = _; rw [HX.out]; rfl
     clear HX
     refine wpAnyH_done (by kernel_rfl) ?_ _
     go_wp2_with fail
     go_ret
     exact ⟨ret_bool HZ.out.symm, h3.2⟩
    | true =>
     refine wpAnyH_take (i := 20) (v := ?_) rfl (by kernel_rfl) (by kernel_rfl) (by kernel_rfl) (fun _ _ _ h => h) (Or.inl ⟨by rfl, fun W hW => ?_⟩) h3 ?_
     rotate_left
     ·clear hW
      go_simp
      try with_reducible rfl
     simp only [Act.put, List.getElem_toArray, List.getElem_cons_zero, List.getElem_cons_succ, List.setIfInBounds_toArray, List.set_cons_zero, List.set_cons_succ]
     refine wpAnyH_take (i := 21) (v := ?_) rfl (by kernel_rfl) (by kernel_rfl) (by kernel_rfl) (fun _ _ _ h => h) (Or.inl ⟨by rfl, fun W hW => ?_⟩) h3 ?_
     rotate_left
     ·have c := hW.1.1 15 _ rfl
      go_simp
      try with_reducible rfl
     simp only [Act.put, List.getElem_toArray, List.getElem_cons_zero, List.getElem_cons_succ, List.setIfInBounds_toArray, List.set_cons_zero, List.set_cons_succ]
     refine wpAnyH_ready (rs := [22]) (by kernel_rfl) (by simp) (AllReadyH.cons rfl (fun K hK => ?_) AllReadyH.nil)
     go_simp
     go_wp2_with (go_at_call 69; refine (C4.out _).mono ?_; rintro e wq4 ⟨rfl, hb4⟩)
     refine hK.out _ _ (PU.later h3 hb4) (fun h4 => ?_)
     clear hK K
     clear h3
     refine wpAnyH_take (i := 23) (v := ?_) rfl (by kernel_rfl) (by kernel_rfl) (by kernel_rfl) (fun _ _ _ h => h) (Or.inl ⟨by rfl, fun W hW => ?_⟩) h4 ?_
     rotate_left
     ·clear hW
      go_simp
      try with_reducible rfl
     simp only [Act.put, List.getElem_toArray, List.getElem_cons_zero, List.getElem_cons_succ, List.setIfInBounds_toArray, List.set_cons_zero, List.set_cons_succ]
     refine wpAnyH_take (i := 24) (v := ?_) rfl (by kernel_rfl) (by kernel_rfl) (by kernel_rfl) (fun _ _ _ h => h) (Or.inl ⟨by rfl, fun W hW => ?_⟩) h4 ?_
     rotate_left
     ·clear hW
      go_simp
      try with_reducible rfl
     simp only [Act.put, List.getElem_toArray, List.getElem_cons_zero, List.getElem_cons_succ, List.setIfInBounds_toArray, List.set_cons_zero, List.set_cons_succ]
     cases b4 with
     | false =>
      refine wpAnyH_take (i := 25) (v := undef) rfl (by kernel_rfl) (by kernel_rfl) (by kernel_rfl) (fun _ _ _ h => h) (Or.inr ⟨by rfl, rfl⟩) h4 ?_
      simp only [Act.put, List.getElem_toArray, List.getElem_cons_zero, List.getElem_cons_succ, List.setIfInBounds_toArray, List.set_cons_zero, List.set_cons_succ]
      refine wpAnyH_take (i := 26) (v := undef) rfl (by kernel_rfl) (by kernel_rfl) (by kernel_rfl) (fun _ _ _ h => h) (Or.inr ⟨by rfl, rfl⟩) h4 ?_
      simp only [Act.put, List.getElem_toArray, List.getElem_cons_zero, List.getElem_cons_succ, List.setIfInBounds_toArray, List.set_cons_zero, List.set_cons_succ]
      refine wpAnyH_take (i := 27) (v := undef) rfl (by kernel_rfl) (by kernel_rfl) (by kernel_rfl) (fun _ _ _ h => h) (Or.inr ⟨by rfl, rfl⟩) h4 ?_
      simp only [Act.put, List.getElem_toArray, List.getElem_cons_zero, List.getElem_cons_succ, List.setIfInBounds_toArray, List.set_cons_zero, List.set_cons_succ]
      refine wpAnyH_take (i := 28) (v := undef) rfl (by kernel_rfl) (by kernel_rfl) (by kernel_rfl) (fun _ _ _ h => h) (Or.inr ⟨by rfl, rfl⟩) h4 ?_
      simp only [Act.put, List.getElem_toArray, List.getElem_cons_zero, List.getElem_cons_succ, List.setIfInBounds_toArray, List.set_cons_zero, List.set_cons_succ]
      refine wpAnyH_take (i := 29) (v := undef) rfl (by kernel_rfl) (by kernel_rfl) (by kernel_rfl) (fun _ _ _ h => h) (Or.inr ⟨by rfl, rfl⟩) h4 ?_
      simp only [Act.put, List.getElem_toArray, List.getElem_cons_zero, List.getElem_cons_succ, List.setIfInBounds_toArray, List.set_cons_zero, List.set_cons_succ]
      refine wpAnyH_take (i := 30) (v := undef) rfl (by kernel_rfl) (by kernel_rfl) (by kernel_rfl) (fun _ _ _ h => h) (Or.inr ⟨by rfl, rfl⟩) h4 ?_
      simp only [Act.put, List.getElem_toArray, List.getElem_cons_zero, List.getElem_cons_succ, List.setIfInBounds_toArray, List.set_cons_zero, List.set_cons_succ]
      refine wpAnyH_take (i := 31) (v := ?_) rfl (by kernel_rfl) (by kernel_rfl) (by kernel_rfl) (fun _ _ _ h => h) (Or.inl ⟨by rfl, fun W hW => ?_⟩) h4 ?_
      rotate_left
      ·clear hW
       go_simp
       try with_reducible rfl
      simp only [Act.put, List.getElem_toArray, List.getElem_cons_zero, List.getElem_cons_succ, List.setIfInBounds_toArray, List.set_cons_zero, List.set_cons_succ]
      refine wpAnyH_take (i := 32) (v := ?_) rfl (by kernel_rfl) (by kernel_rfl) (by kernel_rfl) (fun _ _ _ h => h) (Or.inl ⟨by rfl, fun W hW => ?_⟩) h4 ?_
      rotate_left
      ·clear hW
       go_simp
       try with_reducible rfl
      simp only [Act.put, List.getElem_toArray, List.getElem_cons_zero, List.getElem_cons_succ, List.setIfInBounds_toArray, List.set_cons_zero, List.set_cons_succ]
      have HZ : Hid (ans = false) := by show _ = _; rw [HX.out]; rfl
      clear HX
      refine wpAnyH_done (by kernel_rfl) ?_ _
      go_wp2_with fail
      go_ret
      exact ⟨ret_bool HZ.out.symm, h4.2⟩
     | true =>
      refine wpAnyH_take (i := 25) (v := ?_) rfl (by kernel_rfl) (by kernel_rfl) (by kernel_rfl) (fun _ _ _ h => h) (Or.inl ⟨by rfl, fun W hW => ?_⟩) h4 ?_
      rotate_left
      ·clear hW
       go_simp
       try with_reducible rfl
      simp only [Act.put, List.getElem_toArray, List.getElem_cons_zero, List.getElem_cons_succ, List.setIfInBounds_toArray, List.set_cons_zero, List.set_cons_succ]
      refine wpAnyH_take (i := 26) (v := ?_) rfl (by kernel_rfl) (by kernel_rfl) (by kernel_rfl) (fun _ _ _ h => h) (Or.inl ⟨by rfl, fun W hW => ?_⟩) h4 ?_
      rotate_left
      ·have c := hW.1.1 15 _ rfl
       go_simp
       try with_reducible rfl
      simp only [Act.put, List.getElem_toArray, List.getElem_cons_zero, List.getElem_cons_succ, List.setIfInBounds_toArray, List.set_cons_zero, List.set_cons_succ]
      refine wpAnyH_take (i := 28) (v := ?_) rfl (by kernel_rfl) (by kernel_rfl) (by kernel_rfl) (fun _ _ _ h => h) (Or.inl ⟨by rfl, fun W hW => ?_⟩) h4 ?_
      rotate_left
      ·clear hW
       go_simp
       try with_reducible rfl
      simp only [Act.put, List.getElem_toArray, List.getElem_cons_zero, List.getElem_cons_succ, List.setIfInBounds_toArray, List.set_cons_zero, List.set_cons_succ]
      refine wpAnyH_take (i := 29) (v := ?_) rfl (by kernel_rfl) (by kernel_rfl) (by kernel_rfl) (fun _ _ _ h => h) (Or.inl ⟨by rfl, fun W hW => ?_⟩) h4 ?_
      rotate_left
      ·have c := hW.1.1 15 _ rfl
       go_simp
       try with_reducible rfl
      simp only [Act.put, List.getElem_toArray, List.getElem_cons_zero, List.getElem_cons_succ, List.setIfInBounds_toArray, List.set_cons_zero, List.set_cons_succ]
      refine wpAnyH_ready (rs := [27]) (by kernel_rfl) (by simp) (AllReadyH.cons rfl (fun K hK => ?_) AllReadyH.nil)
      go_simp
      go_wp2_with (go_at_call 64; refine (C5.out _).mono ?_; rintro e wq5 ⟨rfl, hb5⟩)
      refine hK.out _ _ (PU.later h4 hb5) (fun h5 => ?_)
      clear hK K
      clear h4
      refine wpAnyH_take (i := 30) (v := ?_) rfl (by kernel_rfl) (by kernel_rfl) (by kernel_rfl) (fun _ _ _ h => h) (Or.inl ⟨by rfl, fun W hW => ?_⟩) h5 ?_
      rotate_left
      ·clear hW
       go_simp
       try with_reducible rfl
      simp only [Act.put, List.getElem_toArray, List.getElem_cons_zero, List.getElem_cons_succ, List.setIfInBounds_toArray, List.set_cons_zero, List.set_cons_succ]
      refine wpAnyH_take (i := 31) (v := ?_) rfl (by kernel_rfl) (by kernel_rfl) (by kernel_rfl) (fun _ _ _ h => h) (Or.inl ⟨by rfl, fun W hW => ?_⟩) h5 ?_
      rotate_left
      ·clear hW
       go_simp
       try with_reducible rfl
      simp only [Act.put, List.getElem_toArray, List.getElem_cons_zero, List.getElem_cons_succ, List.setIfInBounds_toArray, List.set_cons_zero, List.set_cons_succ]
      refine wpAnyH_take (i := 32) (v := ?_) rfl (by kernel_rfl) (by kernel_rfl) (by kernel_rfl) (fun _ _ _ h => h) (Or.inl ⟨by rfl, fun W hW => ?_⟩) h5 ?_
      rotate_left
      ·clear hW
       go_simp
       try with_reducible rfl
      simp only [Act.put, List.getElem_toArray, List.getElem_cons_zero, List.getElem_cons_succ, List.setIfInBounds_toArray, List.set_cons_zero, List.set_cons_succ]
      have HZ : Hid (ans = b5) := by show _ = _; rw [HX.out]; rfl
      clear HX
      refine wpAnyH_done (by kernel_rfl) ?_ _
      go_wp2_with fail
      go_ret
      exact ⟨ret_bool HZ.out.symm, h5.2⟩
end Go.Proofs.YtidecdlaeomfoaaGreat
