/- KeepSpec, PercentWalk, PlainlyWalk, PatImpl, RobWithI, StrTo. -/
import Derived.Test.YtjdnemjcjodboaaDoorRp08
import Derived.Deep.RegionHeld3
set_option maxHeartbeats 4000000
namespace Go.Proofs.YtjdnemjcjodboaaDoor
open Go.RowKit
def freeZ (c : Int) : Bool := decide (0 ≤ c) && freeN c.toNat
theorem plain_eq (c : Int) : amongL [45, 46, 95, 126] c = (decide (0 ≤ c) && plainT c.toNat) := by
 rw [Bool.eq_iff_iff]
 simp [amongL, plainT]
 omega
theorem mark_eq (c : Int) : amongL [33, 36, 38, 39, 40, 41, 42, 43, 44, 59, 61, 58, 64] c = (decide (0 ≤ c) && markN c.toNat) := by
 rw [Bool.eq_iff_iff]
 simp [amongL, markN]
 omega
theorem free_eq (c : Int) : freeZ c = (letterZ c || decide (48 ≤ c ∧ c ≤ 57) || amongL [45, 46, 95, 126] c) := by
 rw [plain_eq, Bool.eq_iff_iff]
 simp [freeZ, letterZ, freeN, letterN, digitN, plainT]
 omega
theorem specFree (c : Int) (w : World) : Calls Tryd.prog 38 #[.int .i64 c] w fun e w' => e = .returned (.bool (freeZ c)) ∧ w = w' := by
 have HV : Hid (freeZ c = (letterZ c || decide (48 ≤ c ∧ c ≤ 57) || amongL [45, 46, 95, 126] c)) := free_eq c
 have cl := fun W => specLetter c W
 have ca := fun W => specAmong ⟨#[45, 46, 95, 126]⟩ c W (by decide)
 have CL : Hid (∀ W, CS 61 #[.int .i64 c] W (.bool (letterZ c))) := cl
 have CA : Hid (∀ W, CS 69 #[.string ⟨#[45, 46, 95, 126]⟩, .int .i64 c] W (.bool (amongL [45, 46, 95, 126] c))) := ca
 clear cl ca
 generalize letterZ c = b1 at HV CL
 generalize amongL [45, 46, 95, 126] c = b3 at HV CA
 cases b1 with
 | true =>
  go_enter Tryd.func38, Tryd.ntmps38
  go_wp2_with fail
  refine (CL.out _).mono ?_
  rintro e w' ⟨rfl, rfl⟩
  go_wp2
  go_ret
  exact ⟨ret_bool (by rw [HV.out]; rfl), rfl⟩
 | false =>
  by_cases h2 : 48 ≤ c ∧ c ≤ 57
  ·rw [decide_eq_true h2] at HV
   have H2 : Hid (48 ≤ c ∧ c ≤ 57) := h2
   clear h2
   go_enter Tryd.func38, Tryd.ntmps38
   go_wp2_with fail
   refine (CL.out _).mono ?_
   rintro e w' ⟨rfl, rfl⟩
   go_wp2_with fail
   refine (specL1In_yes _ _ _ _ H2.out.1 H2.out.2).mono ?_
   rintro e w' ⟨rfl, rfl⟩
   go_wp2
   go_ret
   exact ⟨ret_bool (by rw [HV.out]; rfl), rfl⟩
  rw [decide_eq_false h2] at HV
  have H2 : Hid (c < 48 ∨ 57 < c) := by show _ ∨ _; omega
  clear h2
  go_enter Tryd.func38, Tryd.ntmps38
  go_wp2_with fail
  refine (CL.out _).mono ?_
  rintro e w' ⟨rfl, rfl⟩
  go_wp2_with fail
  refine (specL1In_no _ _ _ _ H2.out).mono ?_
  rintro e w' ⟨rfl, rfl⟩
  go_wp2_with fail
  refine (CA.out _).mono ?_
  rintro e w' ⟨rfl, rfl⟩
  go_wp2
  go_ret
  exact ⟨ret_bool (by rw [HV.out]; rfl), rfl⟩
theorem keepZ_eq {set : Int} (h : 1 ≤ set ∧ set ≤ 3) (c : Int) : keepZ set c = (freeZ c || amongL [33, 36, 38, 39, 40, 41, 42, 43, 44, 59, 61, 58, 64] c || (decide (c = 47) && decide (set ≠ 3)) || (decide (c = 63) && decide (set = 2))) := by
 rw [mark_eq]
 unfold keepZ keepN freeZ
 rw [decide_eq_true h]
 by_cases h0 : 0 ≤ c
 ·have e1 : decide (c.toNat = 47) = decide (c = 47) := decide_eq_decide.2 (by omega)
  have e2 : decide (c.toNat = 63) = decide (c = 63) := decide_eq_decide.2 (by omega)
  rw [e1, e2, decide_eq_true h0]
  rfl
 have e1 : decide (c = 47) = false := decide_eq_false (by omega)
 have e2 : decide (c = 63) = false := decide_eq_false (by omega)
 rw [e1, e2, decide_eq_false h0]
 rfl
theorem specKeeps (set c : Int) (w : World) :
  Calls Tryd.prog 40 #[.int .i64 set, .int .i64 c] w fun e w' => e = .returned (.bool (keepZ set c)) ∧ w = w' := by
 by_cases h : 1 ≤ set ∧ set ≤ 3
 ·have HV : Hid (keepZ set c = _) := keepZ_eq h c
  have H1 : Hid (1 ≤ set ∧ set ≤ 3) := h
  clear h
  have cl := fun W => specFree c W
  have ca := fun W => specAmong ⟨#[33, 36, 38, 39, 40, 41, 42, 43, 44, 59, 61, 58, 64]⟩ c W (by decide)
  have CL : Hid (∀ W, CS 38 #[.int .i64 c] W (.bool (freeZ c))) := cl
  have CA : Hid (∀ W, CS 69 #[.string ⟨#[33, 36, 38, 39, 40, 41, 42, 43, 44, 59, 61, 58, 64]⟩, .int .i64 c] W (.bool (amongL [33, 36, 38, 39, 40, 41, 42, 43, 44, 59, 61, 58, 64] c))) := ca
  clear cl ca
  generalize freeZ c = b1 at HV CL
  generalize amongL [33, 36, 38, 39, 40, 41, 42, 43, 44, 59, 61, 58, 64] c = b2 at HV CA
  cases b1 with
  | true =>
   go_enter Tryd.func40, Tryd.ntmps40
   go_wp2_with fail
   refine (specL1In_yes _ _ _ _ H1.out.1 H1.out.2).mono ?_
   rintro e w' ⟨rfl, rfl⟩
   go_wp2_with fail
   refine (CL.out _).mono ?_
   rintro e w' ⟨rfl, rfl⟩
   go_wp2
   go_ret
   exact ⟨ret_bool (by rw [HV.out]; rfl), rfl⟩
  | false =>
   cases b2 with
   | true =>
    go_enter Tryd.func40, Tryd.ntmps40
    go_wp2_with fail
    refine (specL1In_yes _ _ _ _ H1.out.1 H1.out.2).mono ?_
    rintro e w' ⟨rfl, rfl⟩
    go_wp2_with fail
    refine (CL.out _).mono ?_
    rintro e w' ⟨rfl, rfl⟩
    go_wp2_with fail
    refine (CA.out _).mono ?_
    rintro e w' ⟨rfl, rfl⟩
    go_wp2
    go_ret
    exact ⟨ret_bool (by rw [HV.out]; rfl), rfl⟩
   | false =>
    by_cases hs : c = 47
    ·subst hs
     by_cases he : set = 3
     ·subst he
      go_enter Tryd.func40, Tryd.ntmps40
      go_wp2_with fail
      refine (specL1In_yes _ _ _ _ H1.out.1 H1.out.2).mono ?_
      rintro e w' ⟨rfl, rfl⟩
      go_wp2_with fail
      refine (CL.out _).mono ?_
      rintro e w' ⟨rfl, rfl⟩
      go_wp2_with fail
      refine (CA.out _).mono ?_
      rintro e w' ⟨rfl, rfl⟩
      go_wp2
      go_ret
      exact ⟨ret_bool (by first | (rw [HV.out]; simp) | (rw [HV.out]; decide) | decide), rfl⟩
     go_enter Tryd.func40, Tryd.ntmps40
     go_wp2_with fail
     refine (specL1In_yes _ _ _ _ H1.out.1 H1.out.2).mono ?_
     rintro e w' ⟨rfl, rfl⟩
     go_wp2_with fail
     refine (CL.out _).mono ?_
     rintro e w' ⟨rfl, rfl⟩
     go_wp2_with fail
     refine (CA.out _).mono ?_
     rintro e w' ⟨rfl, rfl⟩
     go_wp2
     go_ret
     exact ⟨ret_bool (by first | (rw [HV.out]; simp [he]) | (rw [HV.out]; decide) | decide), rfl⟩
    by_cases hq : c = 63
    ·subst hq
     by_cases he : set = 2
     ·subst he
      go_enter Tryd.func40, Tryd.ntmps40
      go_wp2_with fail
      refine (specL1In_yes _ _ _ _ H1.out.1 H1.out.2).mono ?_
      rintro e w' ⟨rfl, rfl⟩
      go_wp2_with fail
      refine (CL.out _).mono ?_
      rintro e w' ⟨rfl, rfl⟩
      go_wp2_with fail
      refine (CA.out _).mono ?_
      rintro e w' ⟨rfl, rfl⟩
      go_wp2
      go_ret
      exact ⟨ret_bool (by first | (rw [HV.out]; simp) | (rw [HV.out]; decide) | decide), rfl⟩
     go_enter Tryd.func40, Tryd.ntmps40
     go_wp2_with fail
     refine (specL1In_yes _ _ _ _ H1.out.1 H1.out.2).mono ?_
     rintro e w' ⟨rfl, rfl⟩
     go_wp2_with fail
     refine (CL.out _).mono ?_
     rintro e w' ⟨rfl, rfl⟩
     go_wp2_with fail
     refine (CA.out _).mono ?_
     rintro e w' ⟨rfl, rfl⟩
     go_wp2
     go_ret
     exact ⟨ret_bool (by first | (rw [HV.out]; simp [he]) | (rw [HV.out]; decide) | decide), rfl⟩
    go_enter Tryd.func40, Tryd.ntmps40
    go_wp2_with fail
    refine (specL1In_yes _ _ _ _ H1.out.1 H1.out.2).mono ?_
    rintro e w' ⟨rfl, rfl⟩
    go_wp2_with fail
    refine (CL.out _).mono ?_
    rintro e w' ⟨rfl, rfl⟩
    go_wp2_with fail
    refine (CA.out _).mono ?_
    rintro e w' ⟨rfl, rfl⟩
    go_wp2
    go_ret
    exact ⟨ret_bool (by first | (rw [HV.out]; simp [hs, hq]) | (rw [HV.out]; decide) | decide), rfl⟩
 have HV : Hid (keepZ set c = false) := keepZ_out c h
 have H1 : Hid (set < 1 ∨ 3 < set) := by show _ ∨ _; omega
 clear h
 go_enter Tryd.func40, Tryd.ntmps40
 go_wp2_with fail
 refine (specL1In_no _ _ _ _ H1.out).mono ?_
 rintro e w' ⟨rfl, rfl⟩
 go_wp2
 go_ret
 exact ⟨ret_bool (by rw [HV.out]), rfl⟩
theorem kept_yes {set : Int} {c : UInt8} (h : keepN set c.toNat = true) : keptB set c = [c] := by unfold keptB; rw [h]; rfl
theorem kept_no {set : Int} {c : UInt8} (h : keepN set c.toNat = false) : keptB set c = putB c := by unfold keptB; rw [h]; rfl
theorem implAppendKept (c : UInt8) (d : Nat) (hd : c.toNat = d) (set : Int) (v : Value) (o : List UInt8) (B : Nat) (w : World) (hM : Marks w) (hown : w.ownsRow B 5 1 v o.length (bcells o)) (hB : B ≤ w.heap.size) (hl : o.length ≤ 1099511627776) :
  Calls Tryd.prog 52 #[v, .int .u8 (d : Int), .int .i64 set] w fun e w' => ∃ v', e = .returned v' ∧ w'.ownsRow B 5 1 v' (o ++ keptB set c).length (bcells (o ++ keptB set c)) ∧ Below B w w' := by
 have hd1 : (d : Int) ≤ 255 := by have := c.toNat_lt; omega
 have hd0 : 0 ≤ (d : Int) := by omega
 have ck := implKeeps set (d : Int) w hM
 rw [keepZ_nat] at ck
 cases hk : keepN set d with
 | true =>
  have HK : Hid (keptB set c = [c]) := kept_yes (by rw [hd]; exact hk)
  have HD : Hid ((d : Int) = (c.toNat : Int)) := by show _ = _; rw [hd]
  rw [hk] at ck
  have CK : Hid (CS 77 #[.int .i64 set, .int .i64 (d : Int)] w (.bool true)) := ck
  clear ck hk hd hM
  go_enter Tryd.func52, Tryd.ntmps52
  go_wp2_with fail
  refine CK.out.mono ?_
  rintro e w' ⟨rfl, rfl⟩
  go_wp2_with (at_builtin; refine wpList_append_new _ rfl _ _ 22 rfl B 5 (.int .u8 0) 1 Tryd.underlying22 Tryd.info5 rfl _ _ _ rfl hown #[.int .u8 (d : Int)] 1 rfl rfl (byte_one _) (by omega) (by unfold maxLen; omega) (by omega) ?_)
  intro v' w1 hown' hb1
  have R := own_byte c HD.out hown'
  clear hown'
  go_wp2
  go_ret
  exact ⟨_, rfl, by rw [HK.out]; exact R, hb1⟩
 | false =>
  have HK : Hid (keptB set c = putB c) := kept_no (by rw [hd]; exact hk)
  have HD : Hid (c.toNat = d) := hd
  rw [hk] at ck
  have CK : Hid (CS 77 #[.int .i64 set, .int .i64 (d : Int)] w (.bool false)) := ck
  clear ck hk hd hM
  go_enter Tryd.func52, Tryd.ntmps52
  go_wp2_with fail
  refine CK.out.mono ?_
  rintro e w' ⟨rfl, rfl⟩
  go_wp2_with fail
  refine (implAppendPct c d HD.out _ o B _ hown hB hl).mono ?_
  rintro e w1 ⟨v', rfl, hown', hb1⟩
  go_wp2
  go_ret
  exact ⟨_, rfl, by rw [HK.out]; exact hown', hb1⟩
theorem pl_hit (set : Int) (s : ByteArray) (k n : Nat) (h : pctAt s k = (n : Int)) (o : List UInt8) (he : o ++ plL set (s.data.toList.drop k) = plL set s.data.toList) :
  (o ++ freeB (UInt8.ofNat n)) ++ plL set (s.data.toList.drop (k + 3)) = plL set s.data.toList := by
 rw [← he]
 unfold plL
 rw [tok_hit _ _ s k (by omega), h, List.append_assoc]
 rfl
theorem pl_miss (set : Int) (s : ByteArray) (k : Nat) (hk : k < s.size) (o : List UInt8) (h : pctAt s k < 0) (he : o ++ plL set (s.data.toList.drop k) = plL set s.data.toList) :
  (o ++ keptB set s[k]) ++ plL set (s.data.toList.drop (k + 1)) = plL set s.data.toList := by
 rw [← he]
 unfold plL
 rw [tok_miss _ _ s k hk h, List.append_assoc]
theorem pl_end (set : Int) (s : ByteArray) (k : Nat) (hk : s.size ≤ k) (o : List UInt8) (he : o ++ plL set (s.data.toList.drop k) = plL set s.data.toList) : o = plL set s.data.toList := by
 rw [← he]
 unfold plL
 rw [tok_end _ _ s k hk]
 simp
theorem freeZ_nat (n : Nat) : freeZ (n : Int) = freeN n := by simp [freeZ]
theorem implPlainly (s : ByteArray) (set : Int) (w : World) (hM : Marks w) (hs : s.size ≤ 4294967296) :
  Calls Tryd.prog 27 #[.string s, .int .i64 set] w fun e w' => e = .returned (.string ⟨(plL set s.data.toList).toArray⟩) ∧ Below w.heap.size w w' := by
 have HM : Hid (Marks w) := hM
 clear hM
 obtain ⟨i0, hi, hz0, hz1, hz2⟩ := info_parts Tryd.info5
 go_enter Tryd.func27, Tryd.ntmps27
 go_wp2_with (at_make; refine wpList_make_own _ rfl _ _ 22 rfl w.heap.size 5 i0 (.int .u8 0) 1 Tryd.underlying22 hi hz0 hz1 _ _ _ s.size rfl rfl (by omega) (by rw [hz2]; omega) (by unfold maxLen; omega) (Nat.le_refl _) ?_)
 intro wm hmo hgm
 have Bm : Below w.heap.size w wm := (Below.refl _ _).grown hgm (Nat.le_refl _) (fun k hk => by cases hk)
 clear hgm
 go_wp2
 go_loopw [5, 6] (fun v i wr => ∃ (k : Nat) (o : List UInt8), k ≤ s.size ∧ i = .int .i64 k ∧ o.length ≤ 3 * k ∧ wr.ownsRow w.heap.size 5 1 v o.length (bcells o) ∧ o ++ plL set (s.data.toList.drop k) = plL set s.data.toList ∧ Below w.heap.size w wr)
  (fun _ i _ => s.size - (intOf i).toNat)
 case atStart => exact ⟨0, [], Nat.zero_le _, rfl, Nat.zero_le _, hmo, rfl, Bm⟩
 clear hmo Bm hi hz0 hz1 hz2
 obtain ⟨k, o, hk, rfl, hol, hown, he, hbel⟩ := hrel
 have HE : Hid (o ++ plL set (s.data.toList.drop k) = plL set s.data.toList) := he
 clear he
 have hsz := hbel.size
 by_cases hlt : k < s.size
 ·have hct := fun W => implPctAt s k W hlt (by omega)
  have hcl := pctAt_le s k
  by_cases hc : 0 ≤ pctAt s k
  ·obtain ⟨n, hn⟩ := Int.eq_ofNat_of_zero_le hc
   have hk3 := pctAt_lt hc
   have HN : Hid ((o ++ freeB (UInt8.ofNat n)) ++ plL set (s.data.toList.drop (k + 3)) = plL set s.data.toList) := pl_hit set s k n hn o HE.out
   have HT : Hid ((UInt8.ofNat n).toNat = n) := by show _ = _; simp; omega
   have HF : Hid (freeB (UInt8.ofNat n) = if freeN n then [UInt8.ofNat n] else putB (UInt8.ofNat n)) := by show _ = _; unfold freeB; rw [HT.out]
   rw [hn] at hct hcl
   have hn1 : (n : Int) ≤ 255 := hcl.2
   have hn0 : 0 ≤ (n : Int) := by omega
   have HC : Hid (∀ W, CB 51 #[.string s, .int .i64 (k : Int)] W (.int .i64 (n : Int))) := hct
   clear hct hcl hc hn
   cases hf : freeN n with
   | true =>
    rw [hf, if_pos rfl] at HF
    rw [HF.out] at HN
    have ckk := fun (W : World) (hb : Below w.heap.size w W) => implIsPlain n W (HM.out.later hb) hn1
    rw [hf] at ckk
    have CK : Hid (∀ W, Below w.heap.size w W → CS 53 #[.int .u8 (n : Int)] W (.bool true)) := ckk
    have HX : Hid ((n : Int) = ((UInt8.ofNat n).toNat : Int)) := by show _ = _; rw [HT.out]
    clear ckk hf HF
    generalize UInt8.ofNat n = u at HN HT HX
    go_wp2_with fail
    refine (HC.out _).mono ?_
    rintro e wb ⟨rfl, bb⟩
    have ob := own_below hown bb
    have hsb := bb.size
    have Bb : Below w.heap.size w wb := hbel.trans (bb.mono hsz)
    clear bb hbel hown
    go_wp2_with fail
    refine (CK.out _ Bb).mono ?_
    rintro e w' ⟨rfl, rfl⟩
    go_wp2_with (at_builtin; refine wpList_append_new _ rfl _ _ 22 rfl w.heap.size 5 (.int .u8 0) 1 Tryd.underlying22 Tryd.info5 rfl _ _ _ rfl ob #[.int .u8 (n : Int)] 1 rfl rfl (byte_one _) (by omega) (by unfold maxLen; omega) (by omega) ?_)
    intro v' w1 hown' hb1
    have R := own_byte u HX.out hown'
    have B1 : Below w.heap.size w w1 := Bb.trans hb1
    clear hown' hb1 ob Bb
    go_wp2
    go_roundw
    case rel => exact ⟨k + 3, _, by omega, by go_num, by simp; omega, R, HN.out, B1⟩
    case measure => simp [intOf]; omega
   | false =>
    rw [hf, if_neg (by decide)] at HF
    rw [HF.out] at HN
    have ckk := fun (W : World) (hb : Below w.heap.size w W) => implIsPlain n W (HM.out.later hb) hn1
    rw [hf] at ckk
    have CK : Hid (∀ W, Below w.heap.size w W → CS 53 #[.int .u8 (n : Int)] W (.bool false)) := ckk
    clear ckk hf HF
    generalize UInt8.ofNat n = u at HN HT
    go_wp2_with fail
    refine (HC.out _).mono ?_
    rintro e wb ⟨rfl, bb⟩
    have ob := own_below hown bb
    have hsb := bb.size
    have Bb : Below w.heap.size w wb := hbel.trans (bb.mono hsz)
    clear bb hbel hown
    go_wp2_with fail
    refine (CK.out _ Bb).mono ?_
    rintro e w' ⟨rfl, rfl⟩
    go_wp2_with fail
    refine (implAppendPct u n HT.out _ o w.heap.size _ ob (by omega) (by omega)).mono ?_
    rintro e w1 ⟨v', rfl, hown', hb1⟩
    have B1 : Below w.heap.size w w1 := Bb.trans hb1
    clear hb1 ob Bb
    go_wp2
    go_roundw
    case rel => exact ⟨k + 3, _, by omega, by go_num, by simp [putB]; omega, hown', HN.out, B1⟩
    case measure => simp [intOf]; omega
  have HN : Hid ((o ++ keptB set s[k]) ++ plL set (s.data.toList.drop (k + 1)) = plL set s.data.toList) := pl_miss set s k hlt o (by omega) HE.out
  obtain ⟨d, hd⟩ : ∃ d : Nat, s[k].toNat = d := ⟨_, rfl⟩
  have hd1 : (d : Int) ≤ 255 := by have := s[k].toNat_lt; omega
  have hd0 : 0 ≤ (d : Int) := by omega
  have HD : Hid (s[k].toNat = d) := hd
  have hkl := kept_len set s[k]
  generalize pctAt s k = c at hct hcl hc
  obtain ⟨hc0, hc1⟩ := hcl
  have HC : Hid (∀ W, CB 51 #[.string s, .int .i64 (k : Int)] W (.int .i64 c)) := hct
  clear hct
  go_wp2_with fail
  refine (HC.out _).mono ?_
  rintro e wb ⟨rfl, bb⟩
  have ob := own_below hown bb
  have hsb := bb.size
  have Bb : Below w.heap.size w wb := hbel.trans (bb.mono hsz)
  clear bb hbel hown
  go_wp2_with fail
  refine (implAppendKept s[k] d HD.out set _ o w.heap.size _ (HM.out.later Bb) ob (by omega) (by omega)).mono ?_
  rintro e w1 ⟨v', rfl, hown', hb1⟩
  have B1 : Below w.heap.size w w1 := Bb.trans hb1
  clear hb1 ob Bb
  go_wp2
  go_roundw
  case rel => exact ⟨k + 1, _, by omega, by go_num, by rw [List.length_append]; omega, hown', HN.out, B1⟩
  case measure => simp [intOf]; omega
 have HO := run_string_own (P := Tryd.prog) wr 22 9 5 Tryd.underlying22 Tryd.underlying5 Tryd.underlying9 hown
 go_wp2
 go_ret
 exact ⟨ret_str (pl_end set s k (by omega) o HE.out), hbel⟩
theorem implPatternOf (s : ByteArray) (w : World) (hM : Marks w) (hs : s.size ≤ 4294967296) :
  Calls Tryd.prog 10 #[.string s] w fun e w' => e = .returned (.string ⟨(plL 2 s.data.toList).toArray⟩) ∧ Below w.heap.size w w' := by
 have CP : Hid (CB 27 #[.string s, .int .i64 2] w (.string ⟨(plL 2 s.data.toList).toArray⟩)) := implPlainly s 2 w hM hs
 clear hM
 generalize plL 2 s.data.toList = R at *
 go_enter Tryd.func10, Tryd.ntmps10
 go_wp2_with fail
 refine CP.out.mono ?_
 rintro e w1 ⟨rfl, b1⟩
 go_wp2_with fail
 go_ret
 exact ⟨rfl, b1⟩
end Go.Proofs.YtjdnemjcjodboaaDoor
namespace Go.Proofs.YtjdnemjcjodboaaDoor
open Go.RowKit
set_option linter.unusedVariables false
theorem Tryd.infoL3 : (Tryd.prog.info? 35).map (fun i => (i.zero, i.size, i.bytes)) = some (some (.agg #[.bool false, .string ⟨#[]⟩]), 2, 24) := by kernel_rfl
theorem implTakes (l : List PT) (v : Value) (base top : Nat) (w : World) (hl : l.length ≤ 1048576) (h : RobOwn w base top v l) :
  Calls Tryd.prog 45 #[v] w fun e w' => e = .returned (.bool (!newP l)) ∧ w = w' := by
 by_cases h0 : l.length = 0
 ·obtain rfl : l = [] := List.eq_nil_of_length_eq_zero h0
  obtain ⟨ao, cap, rfl⟩ := h.row.slice
  clear h
  go_enter Tryd.func45, Tryd.ntmps45
  go_wp2_with fail
  go_ret
  exact ⟨rfl, rfl⟩
 obtain ⟨m, hm⟩ : ∃ m, l.length = m + 1 := ⟨l.length - 1, by omega⟩
 obtain ⟨g, cap, vs, p, q, rfl, h1, h2, hp, hq, cp, cq, op, oq⟩ := h.last hm
 have HNP : Hid (newP l = !decide ((lastG l).ln.length = 0)) := newP_last (by omega)
 obtain ⟨qa, qk, hqq⟩ := (LineRow.of_own' oq).slice
 rw [hqq] at cq
 have hmi : (m : Int) ≤ 1048576 := by omega
 have hwm : IntKind.i64.wrap (m : Int) = (m : Int) := by rw [IntKind.wrap_i64]; omega
 have hm0 : 0 < (m : Int) + 1 := by omega
 clear h h0 hm h1 h2 hp hq cp op oq hqq
 generalize (lastG l).ln.length = ln at *
 by_cases hl0 : ln = 0
 ·subst hl0
  have HE : Hid ((!newP l) = true) := by show _ = _; rw [HNP.out]; rfl
  clear HNP
  go_enter Tryd.func45, Tryd.ntmps45
  go_wp2_with fail
  go_ret
  exact ⟨by rw [HE.out]; rfl, rfl⟩
 have HE : Hid ((!newP l) = false) := by show _ = _; rw [HNP.out, decide_eq_false hl0]; rfl
 have hln : ((ln : Int) == 0) = false := beq_eq_false_iff_ne.2 (by omega)
 clear HNP hl0
 go_enter Tryd.func45, Tryd.ntmps45
 go_wp2_with fail
 go_ret
 exact ⟨by rw [HE.out]; rfl, rfl⟩
theorem StrRow.grown {w w' : World} {v : Value} {l : List ByteArray} {B : Nat} (h : StrRow w v l) (hg : w.grownBy w' (some B)) (hne : v.ownBlock ≠ some B) : StrRow w' v l := by
 rcases h with h | ⟨h0, g, off, cap, rfl, h2, h3⟩
 ·exact .inl h
 have hgB : some g ≠ some B := fun e => hne e
 refine .inr ⟨h0, g, off, cap, rfl, Nat.lt_of_lt_of_le h2 hg.size, fun i hi => hg.cell (a := ⟨g, off + i, none⟩) (h3 i hi) hgB⟩
end Go.Proofs.YtjdnemjcjodboaaDoor
