/- UrlImpl4, UrlImpl5, HostMarks, UrlMarks. -/
import Derived.Test.YtgmfkgeepecknaaGreatDoorQ36
import Derived.Test.YtgmfkgeepecknaaGreatDoorQ34
set_option maxHeartbeats 8000000
set_option maxRecDepth 100000
namespace Go.Proofs.YtgmfkgeepecknaaGreatDoor
open Go.RowKit
attribute [local go_sem ↓] Go.wp_at_zero Go.wp_at_succ
theorem drop_head {p : UInt8 → Bool} : ∀ {l : List UInt8} {c : UInt8} {r : List UInt8}, l.dropWhile p = c :: r → p c = false
 | [], c, r, h => by cases h
 | b :: l, c, r, h => by
  rw [List.dropWhile_cons] at h
  cases hb : p b with
  | true => rw [hb, if_pos rfl] at h; exact drop_head h
  | false =>
   rw [hb, if_neg (by decide)] at h
   cases h
   exact hb
theorem has_q (l : List UInt8) : (!(l.dropWhile fun c => c != 63).isEmpty) = l.contains 63 := by
 have h := up_beh 63 l
 induction l with
 | nil => rfl
 | cons b l ih =>
  by_cases hb : b = 63
  ·subst hb; simp
  have h3 : (b != 63) = true := bne_iff_ne.2 hb
  have h2 : (b :: l).contains 63 = l.contains 63 := by simp [Ne.symm hb]
  rw [List.dropWhile_cons, h3, if_pos rfl, h2]
  exact ih (up_beh 63 l)
theorem tail_way (s : Int) (h : HV) (p : Int) (l : ByteArray) : tailU s h p l.data.toList = ⟨s, h, p, ptP ⟨(upB 63 l.data.toList).toArray⟩, l.data.toList.contains 63, plB 2 ⟨(behB 63 l.data.toList).toArray⟩⟩ := by
 unfold tailU
 rw [has_q]
 rfl
theorem fit_text {u : UV} (h : uOk u = true) : fitU u = if (uTx u).length ≤ 2000 then (0, u) else (1, noneU) := by
 unfold fitU
 rw [text_len h]
theorem pl_size (set : Int) (x : ByteArray) : (plB set x).size ≤ 3 * x.size := plB_size set x
theorem ptP_size (l : ByteArray) (h : l.size ≤ 2000) : (ptP l).size ≤ 10000 := by
 unfold ptP
 refine Nat.le_trans (dropT_size _) (Nat.le_trans (plB_size _ _) ?_)
 have h1 : (orSl l.data.toList).length ≤ 2000 := by
  unfold orSl
  split
  ·decide
  have e : l.data.toList.length = l.size := by simp
  omega
 have h2 : (⟨(backL (orSl l.data.toList)).toArray⟩ : ByteArray).size = (orSl l.data.toList).length := by
  rw [size_mk, backL_length]
 omega
def PQ (w : World) (HB : Nat) (row : List Value) (W : World) : Prop := PU w uRow0 W ∧ UAt W HB row ∧ w.heap.size < HB
theorem PQ.later {w : World} {HB : Nat} {row : List Value} {W W' : World} (h : PQ w HB row W) (hb : Below W.heap.size W W') : PQ w HB row W' := ⟨h.1.later hb, h.2.1.below hb, h.2.2⟩
theorem PQ.drew {w : World} {HB : Nat} {row : List Value} {W : World} (h : PQ w HB row W) : PQ w HB row W.drew := ⟨h.1.drew, h.2⟩
theorem PQ.alloc {w : World} {HB : Nat} {row : List Value} {W : World} (h : PQ w HB row W) (o : Obj) : PQ w HB row (W.alloc o) := h.later ((Below.refl _ _).alloc (Nat.le_refl _) o)
theorem PQ.moved {w : World} {HB C : Nat} {row : List Value} {W W' : World} (h : PQ w HB row W) (h1 : w.heap.size < C) (h2 : HB ≠ C) (hM : Moved C W W') : PQ w HB row W' := ⟨h.1.moved h1 hM, hM.1 _ _ h2 h.2.1, h.2.2⟩
theorem url_stored {W : World} {U : Nat} {vs us : List Value} (hU : UAt W U vs) (hl : vs.length = 16) (hm : us.length = 16) : UAt (W.setCells U 0 us.toArray.toList) U us := by
 have h := setCells_at us 0 W vs (by rw [hl, hm]; decide) hU
 have e : vs.take 0 ++ (us ++ vs.drop (0 + us.length)) = us := by rw [hm, List.drop_of_length_le (by omega)]; simp
 rw [e] at h
 exact h
def errR (l : List UInt8) : Value := .tuple #[urlVal (readU l).2, errV (readU l).1]
theorem implReadUrl (s : ByteArray) (w : World) (hs : s.size ≤ 1099511627776) (hT : Lib.Utf8Tabs 7 8 w) (hP : Pow w) (hD : Bruijn w) (hM : MaxI w) (hK : Marks w) :
  Calls Tryz.prog 43 #[.string s] w fun e w' => e = .returned (errR s.data.toList) ∧ Below w.heap.size w w' := by
 have HTA : Hid (∀ W, Below w.heap.size w W → Lib.Utf8Tabs 7 8 W ∧ Pow W ∧ Bruijn W ∧ MaxI W ∧ Marks W) := fun W hb => ⟨tabs_below hT hb, pow_below hP hb, bruijn_below hD hb, max_below hM hb, hK.later hb⟩
 clear hT hP hD hM hK
 have hsl : s.data.toList.length = s.size := by simp
 obtain ⟨O, hO⟩ : ∃ O, O = w.alloc (.cells #[.int .i64 0, .int .i64 0, .string ⟨#[]⟩, .int .i64 0, .int .i64 0, .int .i64 0, .int .i64 0, .int .i64 0, .int .i64 0, .int .i64 0, .int .i64 0, .int .i64 0, .int .i64 0, .string ⟨#[]⟩, .bool false, .string ⟨#[]⟩] 28) := ⟨_, rfl⟩
 have HU : Hid (PU w uRow0 O) := by
  rw [hO]
  exact PU.new w _ _
 go_enter Tryz.func43, Tryz.ntmps43
 go_upto_region 1 with fail
 rw [← hO]
 clear hO
 by_cases hbig : 2000 < s.size
 ·have HZ : Hid (readU s.data.toList = (1, noneU)) := by show _ = _; unfold readU; rw [if_pos (by omega)]
  have hbi : 2000 < (s.size : Int) := by omega
  have HUU := HU
  clear hsl hbig HU
  go_wp2_with (refine url_st HUU.out.1 rfl (us := uRow0) rfl (uRow_one ..) rfl _ _ rfl rfl rfl ?_; intro w9 HU9 HM9)
  refine bodyPost_ret (url_result2 rfl _ _ w.heap.size (.iface 62 (.agg #[.int .i64 1])) _ rfl rfl rfl HU9) rfl ⟨by unfold errR; rw [HZ.out]; exact rfl, HM9.2 _ _ (Nat.le_refl _) HUU.out.2⟩
 have HR0 : readU s.data.toList = readT (cleanL s.data.toList) := by unfold readU; rw [if_neg (by omega)]
 have hts : (⟨(cleanL s.data.toList).toArray⟩ : ByteArray).size ≤ 2000 := by
  have h1 := clean_len s.data.toList
  rw [size_mk]
  omega
 have CA : Hid (∀ W, Below w.heap.size w W → CB 85 #[.string s] W (.string ⟨(cleanL s.data.toList).toArray⟩)) := fun W hb => implAddressPart s W (by omega) (HTA.out W hb).2.2.2.1
 have HR : Hid (readU s.data.toList = readT (⟨(cleanL s.data.toList).toArray⟩ : ByteArray).data.toList) := HR0
 generalize (⟨(cleanL s.data.toList).toArray⟩ : ByteArray) = t at hts CA HR
 have hbi : ¬ 2000 < (s.size : Int) := by omega
 have CS : Hid (∀ W, Below w.heap.size w W → CB 84 #[.string t] W (schAns (schemeL t.data.toList))) := fun W hb => implReadScheme t W (by omega) (HTA.out W hb).2.2.2.1
 clear hsl hbig HR0
 go_wp2_with fail
 refine (CA.out _ HU.out.2).mono ?_
 rintro e w1 ⟨rfl, b1⟩
 have HU1 : Hid (PU w uRow0 w1) := HU.out.later b1
 clear b1 HU CA
 cases hsch : schemeL t.data.toList with
 | none =>
  have HZ : Hid (readU s.data.toList = (2, noneU)) := HR.out.trans (read_scheme hsch)
  have CS2 : Hid (∀ W, Below w.heap.size w W → CB 84 #[.string t] W (.tuple #[.int .i64 0, .string ⟨#[]⟩, .iface 62 (.agg #[.int .i64 2])])) := fun W hb => by
   have h := CS.out W hb
   rw [hsch] at h
   exact h
  clear CS hsch HR
  go_wp2_with fail
  refine (CS2.out _ HU1.out.2).mono ?_
  rintro e w2 ⟨rfl, b2⟩
  have HUU : Hid (PU w uRow0 w2) := HU1.out.later b2
  clear b2 HU1 CS2
  go_wp2_with (refine url_st HUU.out.1 rfl (us := uRow0) rfl (uRow_one ..) rfl _ _ rfl rfl rfl ?_; intro w9 HU9 HM9)
  refine bodyPost_ret (url_result2 rfl _ _ w.heap.size (.iface 62 (.agg #[.int .i64 2])) _ rfl rfl rfl HU9) rfl ⟨by unfold errR; rw [HZ.out]; exact rfl, HM9.2 _ _ (Nat.le_refl _) HUU.out.2⟩
 | some st =>
  obtain ⟨sch, T⟩ := st
  have hs12 : sch = 1 ∨ sch = 2 := by
   unfold schemeL at hsch
   split at hsch
   ·cases hsch; exact .inl rfl
   split at hsch
   ·cases hsch; exact .inr rfl
   cases hsch
  have hTl : T.length ≤ 2000 := by
   have e : t.data.toList.length = t.size := by simp
   unfold schemeL at hsch
   split at hsch
   ·cases hsch; rw [List.length_drop]; omega
   split at hsch
   ·cases hsch; rw [List.length_drop]; omega
   cases hsch
  have hZs : (⟨(T.dropWhile slB).toArray⟩ : ByteArray).size ≤ 2000 := by
   rw [size_mk]
   exact Nat.le_trans (List.dropWhile_suffix slB).length_le hTl
  have HS : Hid (readU s.data.toList = authU sch ((⟨(T.dropWhile slB).toArray⟩ : ByteArray).data.toList.takeWhile noEnd) ((⟨(T.dropWhile slB).toArray⟩ : ByteArray).data.toList.dropWhile noEnd)) := HR.out.trans (read_go hsch)
  have CS2 : Hid (∀ W, Below w.heap.size w W → CB 84 #[.string t] W (.tuple #[.int .i64 sch, .string ⟨(T.dropWhile slB).toArray⟩, .nilIface])) := fun W hb => by
   have h := CS.out W hb
   rw [hsch] at h
   exact h
  generalize (⟨(T.dropWhile slB).toArray⟩ : ByteArray) = Z at CS2 HS hZs
  clear CS hsch HR hTl
  go_wp2_with fail
  refine (CS2.out _ HU1.out.2).mono ?_
  rintro e w2 ⟨rfl, b2⟩
  have HU2 : Hid (PU w uRow0 w2) := HU1.out.later b2
  clear b2 HU1 CS2
  have hsz := while_size (p := noEnd) Z
  have CU : Hid (∀ W, CB 86 #[.string Z] W (.tuple #[.string ⟨(Z.data.toList.takeWhile noEnd).toArray⟩, .string ⟨(Z.data.toList.dropWhile noEnd).toArray⟩])) := fun W => implCutAuthority Z W (by omega)
  have HS2 : Hid (readU s.data.toList = authU sch (⟨(Z.data.toList.takeWhile noEnd).toArray⟩ : ByteArray).data.toList (⟨(Z.data.toList.dropWhile noEnd).toArray⟩ : ByteArray).data.toList) := HS
  have HDE : Hid (∀ c r, (⟨(Z.data.toList.dropWhile noEnd).toArray⟩ : ByteArray).data.toList = c :: r → noEnd c = false) := fun c r h => drop_head h
  obtain ⟨hz1, hz2⟩ := hsz
  generalize (⟨(Z.data.toList.takeWhile noEnd).toArray⟩ : ByteArray) = A at CU HS2 hz1
  generalize (⟨(Z.data.toList.dropWhile noEnd).toArray⟩ : ByteArray) = Rs at CU HS2 hz2 HDE
  have hA : A.size ≤ 2000 := by omega
  have hRs : Rs.size ≤ 2000 := by omega
  clear HS hz1 hz2
  go_wp2_with fail
  refine (CU.out _).mono ?_
  rintro e w3 ⟨rfl, b3⟩
  have HU3 : Hid (PU w uRow0 w3) := HU2.out.later b3
  clear b3 HU2 CU
  obtain ⟨k, n, nm, x0, x1, x2, x3, x4, x5, x6, x7, hhv⟩ := aut_parts sch A
  have CW : Hid (∀ W, Below w.heap.size w W → CB 87 #[.string A, .int .i64 sch] W (.tuple #[.agg (hRow k nm n x0 x1 x2 x3 x4 x5 x6 x7).toArray, .int .i64 (autR sch A).2.2, errV (autR sch A).1])) := fun W hb => by
   have ht := HTA.out W hb
   have h := implReadAuthority A sch W (by omega) hs12 ht.1 ht.2.1 ht.2.2.1 ht.2.2.2.1
   rw [hhv] at h
   exact h
  have HS3 : Hid (readU s.data.toList = if (autR sch A).1 = 0 then fitU (tailU sch ⟨k, nm, n, [x0, x1, x2, x3, x4, x5, x6, x7]⟩ (autR sch A).2.2 Rs.data.toList) else ((autR sch A).1, noneU)) := by
   show _ = _
   rw [HS2.out, aut_way hs12, hhv]
  have HAO : Hid ((autR sch A).1 = 0 → hOk ⟨k, nm, n, [x0, x1, x2, x3, x4, x5, x6, x7]⟩ = true ∧ 1 ≤ (autR sch A).2.2 ∧ (autR sch A).2.2 ≤ 65535) := fun h => by
   have h1 := aut_ok h
   rw [hhv] at h1
   exact h1
  clear HS2 hhv
  generalize (autR sch A).2.2 = pn at CW HS3 HAO
  generalize (autR sch A).1 = cd at CW HS3 HAO
  by_cases hcd : cd = 0
  ·obtain ⟨hho, hp0, hp1⟩ := HAO.out hcd
   have hnm : nm.size ≤ 1048576 := Nat.le_trans (hOk_name hho) (by decide)
   have CW2 : Hid (∀ W, Below w.heap.size w W → CB 87 #[.string A, .int .i64 sch] W (.tuple #[.agg (hRow k nm n x0 x1 x2 x3 x4 x5 x6 x7).toArray, .int .i64 pn, .nilIface])) := fun W hb => by
    have h := CW.out W hb
    rw [hcd] at h
    exact h
   have huk : uOk (tailU sch ⟨k, nm, n, [x0, x1, x2, x3, x4, x5, x6, x7]⟩ pn Rs.data.toList) = true := tail_right (by rcases hs12 with rfl | rfl <;> decide) hho ⟨hp0, hp1⟩ HDE.out
   have HS4 : Hid (readU s.data.toList = if (uTx ⟨sch, ⟨k, nm, n, [x0, x1, x2, x3, x4, x5, x6, x7]⟩, pn, ptP ⟨(upB 63 Rs.data.toList).toArray⟩, Rs.data.toList.contains 63, plB 2 ⟨(behB 63 Rs.data.toList).toArray⟩⟩).length ≤ 2000 then (0, ⟨sch, ⟨k, nm, n, [x0, x1, x2, x3, x4, x5, x6, x7]⟩, pn, ptP ⟨(upB 63 Rs.data.toList).toArray⟩, Rs.data.toList.contains 63, plB 2 ⟨(behB 63 Rs.data.toList).toArray⟩⟩) else (1, noneU)) := by
    show _ = _
    rw [HS3.out, if_pos hcd, fit_text huk, tail_way]
   clear CW HS3 HAO huk hcd HDE hho
   go_wp2_with fail
   refine (CW2.out _ HU3.out.2).mono ?_
   rintro e w4 ⟨rfl, b4⟩
   have HU4 : Hid (PU w uRow0 w4) := HU3.out.later b4
   clear b4 HU3 CW2
   have HU4a : Hid (PU w uRow0 (w4.alloc (.cells #[.int .i64 0, .string ⟨#[]⟩, .int .i64 0, .int .i64 0, .int .i64 0, .int .i64 0, .int .i64 0, .int .i64 0, .int .i64 0, .int .i64 0, .int .i64 0] 26))) := HU4.out.later ((Below.refl _ _).alloc (Nat.le_refl _) _)
   have hlt : w.heap.size < w4.heap.size := HU4.out.1.2.2
   go_upto_region 8 with (refine host_st (UAt.new w4 _ _) 0 (Nat.le_refl 11) (us := hRow k nm n x0 x1 x2 x3 x4 x5 x6 x7) rfl (hRow_one ..) rfl _ _ rfl rfl rfl ?_; intro w5 HUh HMh)
   have HU5 : Hid (PU w uRow0 w5) := HU4a.out.moved hlt HMh
   have HUH : Hid (UAt w5 w4.heap.size (hRow k nm n x0 x1 x2 x3 x4 x5 x6 x7)) := HUh
   clear HUh HMh HU4a HU4
   generalize w4.heap.size = HB at HUH hlt ⊢
   have hle : Rs.data.toList.length = Rs.size := by simp
   have hup : (⟨(upB 63 Rs.data.toList).toArray⟩ : ByteArray).size ≤ 2000 := by
    rw [size_mk]
    have := (List.takeWhile_prefix (fun x => x != 63) (l := Rs.data.toList)).length_le
    unfold upB
    omega
   have hbe : (⟨(behB 63 Rs.data.toList).toArray⟩ : ByteArray).size ≤ 2000 := by
    rw [size_mk]
    have := (List.dropWhile_suffix (fun x => x != 63) (l := Rs.data.toList)).length_le
    unfold behB
    rw [List.length_drop]
    omega
   have CC : Hid (∀ W, Below w.heap.size w W → CB 88 #[.string Rs, .string ⟨#[63]⟩] W (.tuple #[.string ⟨(upB 63 Rs.data.toList).toArray⟩, .string ⟨(behB 63 Rs.data.toList).toArray⟩, .bool (Rs.data.toList.contains 63)])) := fun W hb => implCutOne 63 Rs W (by omega) (HTA.out W hb).2.2.2.1
   generalize (⟨(upB 63 Rs.data.toList).toArray⟩ : ByteArray) = Up at CC HS4 hup
   generalize (⟨(behB 63 Rs.data.toList).toArray⟩ : ByteArray) = Be at CC HS4 hbe
   generalize Rs.data.toList.contains 63 = hq at CC HS4
   clear hle
   go_wp2_with fail
   refine (CC.out _ HU5.out.2).mono ?_
   rintro e w6 ⟨rfl, b6⟩
   have HU6 : Hid (PU w uRow0 w6) := HU5.out.later b6
   have HUH6 : Hid (UAt w6 HB (hRow k nm n x0 x1 x2 x3 x4 x5 x6 x7)) := HUH.out.below b6
   clear b6 HU5 HUH CC
   have CP : Hid (∀ W, Below w.heap.size w W → CB 89 #[.string Up] W (.string (ptP Up))) := fun W hb => implPlainPath Up W (by omega) (HTA.out W hb).2.2.2.2 (HTA.out W hb).2.2.2.1
   have CQ : Hid (∀ W, Below w.heap.size w W → CB 90 #[.string Be, .int .i64 2] W (.string (plB 2 Be))) := fun W hb => implPlainly Be 2 W (HTA.out W hb).2.2.2.2 (by omega)
   have hpa := ptP_size Up hup
   have hqa := pl_size 2 Be
   have hqb : (plB 2 Be).size ≤ 10000 := by omega
   generalize ptP Up = PA at CP HS4 hpa
   generalize plB 2 Be = QA at CQ HS4 hqb
   clear hqa
   go_upto_region 11 with fail
   go_cut [14] (fun v wx => ∃ U, v = .pointer (some ⟨U, 0, none⟩) ∧ PU w uRow0 wx ∧ UAt wx U (uRow sch k nm n x0 x1 x2 x3 x4 x5 x6 x7 pn PA hq QA) ∧ w.heap.size < U)
   case first =>
    have hpq : PQ w HB (hRow k nm n x0 x1 x2 x3 x4 x5 x6 x7) w6 := ⟨HU6.out, HUH6.out, hlt⟩
    have hBl : HB < w6.heap.size := HUH6.out.2.2
    clear HU6 HUH6
    refine wp_region_held_drew (S := PQ w HB (hRow k nm n x0 x1 x2 x3 x4 x5 x6 x7)) (by kernel_rfl) (PQ.drew hpq) (fun hH => ?_)
    clear hpq
    refine wpAnyH_take (i := 0) (v := ?_) rfl (by kernel_rfl) (by kernel_rfl) (by kernel_rfl) (fun _ _ _ h => h) (Or.inl ⟨by rfl, ?_⟩) hH ?_
    rotate_left
    ·intro W hW
     clear hW
     go_simp
     try with_reducible rfl
    simp only [Act.put]
    refine wpAnyH_take (i := 2) (v := ?_) rfl (by kernel_rfl) (by kernel_rfl) (by kernel_rfl) (fun _ _ _ h => h) (Or.inl ⟨by rfl, ?_⟩) hH ?_
    rotate_left
    ·intro W hW
     clear hW
     go_simp
     try with_reducible rfl
    simp only [Act.put]
    refine wpAnyH_take (i := 3) (v := ?_) rfl (by kernel_rfl) (by kernel_rfl) (by kernel_rfl) (fun _ _ _ h => h) (Or.inl ⟨by rfl, ?_⟩) hH ?_
    rotate_left
    ·intro W hW
     clear hW
     go_simp
     try with_reducible rfl
    simp only [Act.put]
    refine wpAnyH_take (i := 5) (v := ?_) rfl (by kernel_rfl) (by kernel_rfl) (by kernel_rfl) (fun _ _ _ h => h) (Or.inl ⟨by rfl, ?_⟩) hH ?_
    rotate_left
    ·intro W hW
     clear hW
     go_simp
     try with_reducible rfl
    simp only [Act.put]
    refine wpAnyH_take (i := 6) (v := ?_) rfl (by kernel_rfl) (by kernel_rfl) (by kernel_rfl) (fun _ _ _ h => h) (Or.inl ⟨by rfl, ?_⟩) hH ?_
    rotate_left
    ·intro W hW
     clear hW
     go_simp
     try with_reducible rfl
    simp only [Act.put]
    refine wpAnyH_take (i := 1) (v := .agg (hRow k nm n x0 x1 x2 x3 x4 x5 x6 x7).toArray) rfl (by kernel_rfl) (by kernel_rfl) (by kernel_rfl) (fun _ _ _ h => h) (yieldsIf_load_mid (by rfl) _ _ rfl HB 0 rfl (hRow k nm n x0 x1 x2 x3 x4 x5 x6 x7) _ (fun W hW => hW.2.1.range 0 _ (fun j v hv => by rw [Nat.zero_add]; exact hv)) Tryz.underlying26 rfl Tryz.infoHost) hH ?_
    simp only [Act.put]
    refine wpAnyH_ready (rs := [4, 9]) (by kernel_rfl) (by simp) (AllReadyH.cons rfl (fun K hK => ?_) (AllReadyH.cons rfl (fun K hK => ?_) AllReadyH.nil))
    ·go_simp
     go_wp2_with (go_at_call 89; refine (CP.out _ hH.1.2).mono ?_; rintro e wq1 ⟨rfl, hb1⟩)
     refine hK.out _ _ (PQ.later hH hb1) (fun h1 => ?_)
     clear hK K
     clear hH
     have hB1 : HB < wq1.heap.size := h1.2.1.2.2
     have hw1 : w.heap.size < wq1.heap.size := h1.1.1.2.2
     refine wpAnyH_ready (rs := [7, 9]) (by kernel_rfl) (by simp) (AllReadyH.cons rfl (fun K hK => ?_) (AllReadyH.cons rfl (fun K hK => ?_) AllReadyH.nil))
     ·go_simp
      go_wp2_with (go_at_call 90; refine (CQ.out _ h1.1.2).mono ?_; rintro e wq2 ⟨rfl, hb2⟩)
      refine hK.out _ _ (PQ.later h1 hb2) (fun h2 => ?_)
      clear hK K
      have hB2 : HB < wq2.heap.size := h2.2.1.2.2
      have hw2 : w.heap.size < wq2.heap.size := h2.1.1.2.2
      refine wpAnyH_take (i := 8) (v := .agg (uRow sch k nm n x0 x1 x2 x3 x4 x5 x6 x7 pn PA hq QA).toArray) rfl (by kernel_rfl) (by kernel_rfl) (by kernel_rfl) (fun _ _ _ h => h) (Or.inl ⟨by rfl, ?_⟩) h2 ?_
      ·intro W hW
       kernel_rfl
      simp only [Act.put]
      refine wpAnyH_ready (rs := [9]) (by kernel_rfl) (by simp) (AllReadyH.cons rfl (fun K hK => ?_) AllReadyH.nil)
      go_simp
      refine hK.out _ _ (PQ.alloc h2 _) (fun h3 => ?_)
      clear hK K
      have hN := UAt.new wq2 #[.int .i64 0, .int .i64 0, .string ⟨#[]⟩, .int .i64 0, .int .i64 0, .int .i64 0, .int .i64 0, .int .i64 0, .int .i64 0, .int .i64 0, .int .i64 0, .int .i64 0, .int .i64 0, .string ⟨#[]⟩, .bool false, .string ⟨#[]⟩] 28
      refine wpAnyH_ready (rs := [10]) (by kernel_rfl) (by simp) (AllReadyH.cons rfl (fun K hK => ?_) AllReadyH.nil)
      rw [if_pos (by rfl)]
      refine wp_store_mid _ _ _ rfl wq2.heap.size 0 (uRow sch k nm n x0 x1 x2 x3 x4 x5 x6 x7 pn PA hq QA).toArray rfl rfl (hN.there 0 16 (by show 0 + 16 ≤ 16; decide)) Tryz.infoUrl (uRow_one ..) ?_
      refine hK.out _ _ (PQ.moved h3 (by omega) (by omega) (setCells_moved _ _ _)) (fun hZ => ?_)
      clear hK K
      refine wpAnyH_done (by kernel_rfl) ?_ _
      simp only [Act.put]
      go_wp2_with fail
      go_meet
      exact ⟨_, rfl, hZ.1, url_stored hN rfl rfl, hw2⟩
     go_simp
     refine hK.out _ _ (PQ.alloc h1 _) (fun h2 => ?_)
     clear hK K
     have hN := UAt.new wq1 #[.int .i64 0, .int .i64 0, .string ⟨#[]⟩, .int .i64 0, .int .i64 0, .int .i64 0, .int .i64 0, .int .i64 0, .int .i64 0, .int .i64 0, .int .i64 0, .int .i64 0, .int .i64 0, .string ⟨#[]⟩, .bool false, .string ⟨#[]⟩] 28
     refine wpAnyH_ready (rs := [7]) (by kernel_rfl) (by simp) (AllReadyH.cons rfl (fun K hK => ?_) AllReadyH.nil)
     go_simp
     go_wp2_with (go_at_call 90; refine (CQ.out _ h2.1.2).mono ?_; rintro e wq2 ⟨rfl, hb2⟩)
     refine hK.out _ _ (PQ.later h2 hb2) (fun h3 => ?_)
     clear hK K
     have hN2 := hN.below hb2
     refine wpAnyH_take (i := 8) (v := .agg (uRow sch k nm n x0 x1 x2 x3 x4 x5 x6 x7 pn PA hq QA).toArray) rfl (by kernel_rfl) (by kernel_rfl) (by kernel_rfl) (fun _ _ _ h => h) (Or.inl ⟨by rfl, ?_⟩) h3 ?_
     ·intro W hW
      kernel_rfl
     simp only [Act.put]
     refine wpAnyH_ready (rs := [10]) (by kernel_rfl) (by simp) (AllReadyH.cons rfl (fun K hK => ?_) AllReadyH.nil)
     rw [if_pos (by rfl)]
     refine wp_store_mid _ _ _ rfl wq1.heap.size 0 (uRow sch k nm n x0 x1 x2 x3 x4 x5 x6 x7 pn PA hq QA).toArray rfl rfl (hN2.there 0 16 (by show 0 + 16 ≤ 16; decide)) Tryz.infoUrl (uRow_one ..) ?_
     refine hK.out _ _ (PQ.moved h3 (by omega) (by omega) (setCells_moved _ _ _)) (fun hZ => ?_)
     clear hK K
     refine wpAnyH_done (by kernel_rfl) ?_ _
     simp only [Act.put]
     go_wp2_with fail
     go_meet
     exact ⟨_, rfl, hZ.1, url_stored hN2 rfl rfl, hw1⟩
    go_simp
    refine hK.out _ _ (PQ.alloc hH _) (fun h1 => ?_)
    clear hK K
    have hw1 : w.heap.size < w6.heap.size := hH.1.1.2.2
    have hN := UAt.new w6.drew #[.int .i64 0, .int .i64 0, .string ⟨#[]⟩, .int .i64 0, .int .i64 0, .int .i64 0, .int .i64 0, .int .i64 0, .int .i64 0, .int .i64 0, .int .i64 0, .int .i64 0, .int .i64 0, .string ⟨#[]⟩, .bool false, .string ⟨#[]⟩] 28
    refine wpAnyH_ready (rs := [4]) (by kernel_rfl) (by simp) (AllReadyH.cons rfl (fun K hK => ?_) AllReadyH.nil)
    go_simp
    go_wp2_with (go_at_call 89; refine (CP.out _ h1.1.2).mono ?_; rintro e wq1 ⟨rfl, hb1⟩)
    refine hK.out _ _ (PQ.later h1 hb1) (fun h2 => ?_)
    clear hK K
    have hN1 := hN.below hb1
    refine wpAnyH_ready (rs := [7]) (by kernel_rfl) (by simp) (AllReadyH.cons rfl (fun K hK => ?_) AllReadyH.nil)
    go_simp
    go_wp2_with (go_at_call 90; refine (CQ.out _ h2.1.2).mono ?_; rintro e wq2 ⟨rfl, hb2⟩)
    refine hK.out _ _ (PQ.later h2 hb2) (fun h3 => ?_)
    clear hK K
    have hN2 := hN1.below hb2
    refine wpAnyH_take (i := 8) (v := .agg (uRow sch k nm n x0 x1 x2 x3 x4 x5 x6 x7 pn PA hq QA).toArray) rfl (by kernel_rfl) (by kernel_rfl) (by kernel_rfl) (fun _ _ _ h => h) (Or.inl ⟨by rfl, ?_⟩) h3 ?_
    ·intro W hW
     kernel_rfl
    simp only [Act.put]
    refine wpAnyH_ready (rs := [10]) (by kernel_rfl) (by simp) (AllReadyH.cons rfl (fun K hK => ?_) AllReadyH.nil)
    rw [if_pos (by rfl)]
    refine wp_store_mid _ _ _ rfl w6.heap.size 0 (uRow sch k nm n x0 x1 x2 x3 x4 x5 x6 x7 pn PA hq QA).toArray rfl rfl (hN2.there 0 16 (by show 0 + 16 ≤ 16; decide)) Tryz.infoUrl (uRow_one ..) ?_
    refine hK.out _ _ (PQ.moved h3 (by omega) (by omega) (setCells_moved _ _ _)) (fun hZ => ?_)
    clear hK K
    refine wpAnyH_done (by kernel_rfl) ?_ _
    simp only [Act.put]
    go_wp2_with fail
    go_meet
    exact ⟨_, rfl, hZ.1, url_stored hN2 rfl rfl, hw1⟩
   obtain ⟨U, rfl, hu7, hv7, hlU⟩ := hcut
   have HU7 : Hid (PU w uRow0 wc) := hu7
   have HV7 : Hid (UAt wc U (uRow sch k nm n x0 x1 x2 x3 x4 x5 x6 x7 pn PA hq QA)) := hv7
   clear hu7 hv7 HU6 HUH6 CP CQ hlt
   have CT : Hid (∀ W, Below w.heap.size w W → CB 12 #[.agg (uRow sch k nm n x0 x1 x2 x3 x4 x5 x6 x7 pn PA hq QA).toArray] W (.string ⟨(uTx ⟨sch, ⟨k, nm, n, [x0, x1, x2, x3, x4, x5, x6, x7]⟩, pn, PA, hq, QA⟩).toArray⟩)) := fun W hb => by
    have ht := HTA.out W hb
    exact implUrlText sch k n pn nm PA QA hq x0 x1 x2 x3 x4 x5 x6 x7 W hnm (by omega) (by omega) ht.1 ht.2.1 ht.2.2.1 ht.2.2.2.2
   have HL : Hid ((uTx ⟨sch, ⟨k, nm, n, [x0, x1, x2, x3, x4, x5, x6, x7]⟩, pn, PA, hq, QA⟩).length = (⟨(uTx ⟨sch, ⟨k, nm, n, [x0, x1, x2, x3, x4, x5, x6, x7]⟩, pn, PA, hq, QA⟩).toArray⟩ : ByteArray).size) := (size_mk _).symm
   rw [HL.out] at HS4
   have hts : (⟨(uTx ⟨sch, ⟨k, nm, n, [x0, x1, x2, x3, x4, x5, x6, x7]⟩, pn, PA, hq, QA⟩).toArray⟩ : ByteArray).size ≤ 4194304 := by
    rw [size_mk]
    have h1 := org_len (k := k) (n := n) (nm := nm) (x0 := x0) (x1 := x1) (x2 := x2) (x3 := x3) (x4 := x4) (x5 := x5) (x6 := x6) (x7 := x7) sch pn hnm
    have h2 := rest_size hq hpa hqb
    unfold uTx
    split
    ·rw [List.length_append]
     show (orgF sch (hTx ⟨k, nm, n, [x0, x1, x2, x3, x4, x5, x6, x7]⟩) pn).length + (restL PA hq QA).length ≤ _
     omega
    simp
   generalize (⟨(uTx ⟨sch, ⟨k, nm, n, [x0, x1, x2, x3, x4, x5, x6, x7]⟩, pn, PA, hq, QA⟩).toArray⟩ : ByteArray) = TT at CT HS4 hts
   clear HL HTA
   go_wp2_with (refine url_ld HV7.out rfl rfl _ rfl rfl ?_)
   refine (CT.out _ HU7.out.2).mono ?_
   rintro e w8 ⟨rfl, b8⟩
   have HU8 : Hid (PU w uRow0 w8) := HU7.out.later b8
   have HV8 : Hid (UAt w8 U (uRow sch k nm n x0 x1 x2 x3 x4 x5 x6 x7 pn PA hq QA)) := HV7.out.below b8
   clear b8 HU7 HV7 CT
   by_cases hfit : TT.size ≤ 2000
   ·have HZ : Hid (readU s.data.toList = (0, ⟨sch, ⟨k, nm, n, [x0, x1, x2, x3, x4, x5, x6, x7]⟩, pn, PA, hq, QA⟩)) := by show _ = _; rw [HS4.out, if_pos hfit]
    have hfi : ¬ 2000 < (TT.size : Int) := by omega
    clear HS4 hfit
    go_wp2_with (first | (refine url_ld HV8.out rfl rfl _ rfl rfl ?_) | (refine url_st HU8.out.1 rfl (us := uRow sch k nm n x0 x1 x2 x3 x4 x5 x6 x7 pn PA hq QA) rfl (uRow_one ..) rfl _ _ rfl rfl rfl ?_; intro w9 HU9 HM9))
    refine bodyPost_ret (url_result2 rfl _ _ w.heap.size .nilIface _ rfl rfl rfl HU9) rfl ⟨by unfold errR; rw [HZ.out]; rfl, HM9.2 _ _ (Nat.le_refl _) HU8.out.2⟩
   have HZ : Hid (readU s.data.toList = (1, noneU)) := by show _ = _; rw [HS4.out, if_neg hfit]
   have hfi : 2000 < (TT.size : Int) := by omega
   have HUU := HU8
   clear HS4 hfit
   go_wp2_with (refine url_st HUU.out.1 rfl (us := uRow0) rfl (uRow_one ..) rfl _ _ rfl rfl rfl ?_; intro w9 HU9 HM9)
   refine bodyPost_ret (url_result2 rfl _ _ w.heap.size (.iface 62 (.agg #[.int .i64 1])) _ rfl rfl rfl HU9) rfl ⟨by unfold errR; rw [HZ.out]; exact rfl, HM9.2 _ _ (Nat.le_refl _) HUU.out.2⟩
  have HZ : Hid (readU s.data.toList = (cd, noneU)) := by show _ = _; rw [HS3.out, if_neg hcd]
  have HEV : Hid (errV cd = .iface 62 (.agg #[.int .i64 cd])) := errV_no hcd
  have CW2 : Hid (∀ W, Below w.heap.size w W → CB 87 #[.string A, .int .i64 sch] W (.tuple #[.agg (hRow k nm n x0 x1 x2 x3 x4 x5 x6 x7).toArray, .int .i64 pn, .iface 62 (.agg #[.int .i64 cd])])) := fun W hb => by
   have h := CW.out W hb
   rw [HEV.out] at h
   exact h
  clear CW HS3 HAO hcd
  go_wp2_with fail
  refine (CW2.out _ HU3.out.2).mono ?_
  rintro e w4 ⟨rfl, b4⟩
  have HU4 : Hid (PU w uRow0 w4) := HU3.out.later b4
  clear b4 HU3 CW2
  have HU4a : Hid (PU w uRow0 (w4.alloc (.cells #[.int .i64 0, .string ⟨#[]⟩, .int .i64 0, .int .i64 0, .int .i64 0, .int .i64 0, .int .i64 0, .int .i64 0, .int .i64 0, .int .i64 0, .int .i64 0] 26))) := HU4.out.later ((Below.refl _ _).alloc (Nat.le_refl _) _)
  have hlt : w.heap.size < w4.heap.size := HU4.out.1.2.2
  go_upto_region 8 with (refine host_st (UAt.new w4 _ _) 0 (Nat.le_refl 11) (us := hRow k nm n x0 x1 x2 x3 x4 x5 x6 x7) rfl (hRow_one ..) rfl _ _ rfl rfl rfl ?_; intro w5 HUh HMh)
  have HUU : Hid (PU w uRow0 w5) := HU4a.out.moved hlt HMh
  clear HUh HMh HU4a HU4
  go_wp2_with (refine url_st HUU.out.1 rfl (us := uRow0) rfl (uRow_one ..) rfl _ _ rfl rfl rfl ?_; intro w9 HU9 HM9)
  refine bodyPost_ret (url_result2 rfl _ _ w.heap.size (.iface 62 (.agg #[.int .i64 cd])) _ rfl rfl rfl HU9) rfl ⟨by unfold errR; rw [HZ.out]; exact (by rw [HEV.out]; rfl), HM9.2 _ _ (Nat.le_refl _) HUU.out.2⟩
theorem fit_eight {u : UV} (h : u.h.z.length = 8) : (fitU u).2.h.z.length = 8 := by
 unfold fitU
 split
 ·exact h
 rfl
theorem host_eight (s p : Int) (a r : List UInt8) : (hostU s p a r).2.h.z.length = 8 := by
 unfold hostU
 split
 ·exact fit_eight (readH_eight _)
 rfl
theorem readU_eight (l : List UInt8) : (readU l).2.h.z.length = 8 := by
 unfold readU
 split
 ·rfl
 unfold readT
 split
 ·rfl
 unfold slashU authU
 split
 ·rfl
 unfold cutU
 split
 ·exact host_eight _ _ _ _
 split
 ·exact host_eight _ _ _ _
 rfl
theorem url_eight (u : UV) (h : u.h.z.length = 8) : ∃ (s k n p : Int) (nm a r : ByteArray) (q : Bool) (x0 x1 x2 x3 x4 x5 x6 x7 : Int), u = ⟨s, ⟨k, nm, n, [x0, x1, x2, x3, x4, x5, x6, x7]⟩, p, a, q, r⟩ := by
 obtain ⟨s, ⟨k, nm, n, z⟩, p, a, q, r⟩ := u
 match z, h with
 | [x0, x1, x2, x3, x4, x5, x6, x7], _ => exact ⟨s, k, n, p, nm, a, r, q, x0, x1, x2, x3, x4, x5, x6, x7, rfl⟩
theorem url_val (s k n p : Int) (nm a r : ByteArray) (q : Bool) (x0 x1 x2 x3 x4 x5 x6 x7 : Int) : urlVal ⟨s, ⟨k, nm, n, [x0, x1, x2, x3, x4, x5, x6, x7]⟩, p, a, q, r⟩ = .agg (uRow s k nm n x0 x1 x2 x3 x4 x5 x6 x7 p a q r).toArray := rfl
theorem PU.set {w : World} {row : List Value} {W : World} {C : Nat} (h : PU w row W) (hC : w.heap.size < C) (j : Nat) (v : Value) : PU w row (W.setCell ⟨C, j, none⟩ v) := ⟨h.1.other (by omega) j v, h.2.setCell (p := ⟨C, j, none⟩) (by show _ ≤ C; omega) v⟩
theorem below_four (W : World) (o1 o2 o3 o4 : Obj) : Below W.heap.size W ((((W.alloc o1).alloc o2).alloc o3).alloc o4) :=
 ((((Below.refl _ W).alloc (Nat.le_refl _) _).alloc (by simp) _).alloc (by simp; omega) _).alloc (by simp; omega) _
def SN (w : World) (NB : Nat) (c : Int) (W : World) : Prop := PU w uRow0 W ∧ UAt W NB [.int .i64 c] ∧ w.heap.size < NB
theorem SN.drew {w : World} {NB : Nat} {c : Int} {W : World} (h : SN w NB c W) : SN w NB c W.drew := ⟨h.1.drew, h.2⟩
theorem SN.stored {w : World} {NB : Nat} {c : Int} {W : World} (h : SN w NB c W) : SN w NB c (W.setCells w.heap.size 0 uRow0.toArray.toList) := by
 have hm := setCells_moved (C := w.heap.size) uRow0.toArray.toList 0 W
 have h3 := h.2.2
 exact ⟨⟨url_stored h.1.1 rfl rfl, hm.2 _ _ (Nat.le_refl _) h.1.2⟩, hm.1 _ _ (by omega) h.2.1, h3⟩
theorem errT_below {w w' : World} (h : ErrT w) (hb : Below w.heap.size w w') : ErrT w' := cell_later hb h
theorem implParseUrl (t : ByteArray) (w : World) (hs : t.size ≤ 1099511627776) (hT : Lib.Utf8Tabs 7 8 w) (hP : Pow w) (hD : Bruijn w) (hM : MaxI w) (hK : Marks w) (hE : ErrT w) :
  Calls Tryz.prog 18 #[.string t] w fun e w' => e = .returned (.tuple #[urlVal (readU t.data.toList).2, .int .i64 (readU t.data.toList).1]) ∧ Below w.heap.size w w' := by
 have CR : Hid (∀ W, Below w.heap.size w W → CB 43 #[.string t] W (.tuple #[urlVal (readU t.data.toList).2, errV (readU t.data.toList).1])) := fun W hb => implReadUrl t W hs (tabs_below hT hb) (pow_below hP hb) (bruijn_below hD hb) (max_below hM hb) (hK.later hb)
 have HER : Hid (∀ W, Below w.heap.size w W → ErrT W) := fun W hb => errT_below hE hb
 have hrt := url_right t.data.toList
 obtain ⟨s, k, n, p, nm, a, r, q, x0, x1, x2, x3, x4, x5, x6, x7, hu⟩ := url_eight _ (readU_eight t.data.toList)
 have HN : Hid ((readU t.data.toList).1 ≠ 0 → (uRow s k nm n x0 x1 x2 x3 x4 x5 x6 x7 p a q r) = uRow0) := fun h => by
  rcases hrt with ⟨_, _, h3⟩ | ⟨h3, _⟩
  ·rw [hu] at h3
   have e := congrArg uRowL h3
   exact e
  exact absurd h3 h
 rw [hu, url_val] at CR ⊢
 generalize (readU t.data.toList).1 = c at CR HN ⊢
 clear hT hP hD hM hK hE hrt hu
 obtain ⟨O, hO⟩ : ∃ O, O = w.alloc (.cells #[.int .i64 0, .int .i64 0, .string ⟨#[]⟩, .int .i64 0, .int .i64 0, .int .i64 0, .int .i64 0, .int .i64 0, .int .i64 0, .int .i64 0, .int .i64 0, .int .i64 0, .int .i64 0, .string ⟨#[]⟩, .bool false, .string ⟨#[]⟩] 28) := ⟨_, rfl⟩
 have HU : Hid (PU w uRow0 O) := by
  rw [hO]
  exact PU.new w _ _
 go_enter Tryz.func18, Tryz.ntmps18
 go_upto_region 1 with fail
 rw [← hO]
 clear hO
 go_wp2_with fail
 refine (CR.out _ HU.out.2).mono ?_
 rintro e w1 ⟨rfl, b1⟩
 have HU1 : Hid (PU w uRow0 w1) := HU.out.later b1
 clear b1 HU CR
 have HU1a : Hid (PU w uRow0 (w1.alloc (.cells #[.int .i64 0, .int .i64 0, .string ⟨#[]⟩, .int .i64 0, .int .i64 0, .int .i64 0, .int .i64 0, .int .i64 0, .int .i64 0, .int .i64 0, .int .i64 0, .int .i64 0, .int .i64 0, .string ⟨#[]⟩, .bool false, .string ⟨#[]⟩] 28))) := HU1.out.later ((Below.refl _ _).alloc (Nat.le_refl _) _)
 have hlt : w.heap.size < w1.heap.size := HU1.out.1.2.2
 go_upto_region 2 with (refine url_st (UAt.new w1 _ _) rfl (us := uRow s k nm n x0 x1 x2 x3 x4 x5 x6 x7 p a q r) rfl (uRow_one ..) rfl _ _ rfl rfl rfl ?_; intro w2 HUh HMh)
 have HU2 : Hid (PU w uRow0 w2) := HU1a.out.moved hlt HMh
 have HV2 : Hid (UAt w2 w1.heap.size (uRow s k nm n x0 x1 x2 x3 x4 x5 x6 x7 p a q r)) := HUh
 clear HUh HMh HU1a HU1
 generalize w1.heap.size = V at HV2 hlt ⊢
 have HU3 : Hid (PU w uRow0 (w2.alloc (.cells #[.int .i64 0] 62))) := HU2.out.later ((Below.refl _ _).alloc (Nat.le_refl _) _)
 have HV3 : Hid (UAt (w2.alloc (.cells #[.int .i64 0] 62)) V (uRow s k nm n x0 x1 x2 x3 x4 x5 x6 x7 p a q r)) := HV2.out.below ((Below.refl _ _).alloc (Nat.le_refl _) _)
 have HN3 : Hid (UAt (w2.alloc (.cells #[.int .i64 0] 62)) w2.heap.size [.int .i64 0]) := UAt.new w2 _ _
 have hlt2 : w.heap.size < w2.heap.size := HU2.out.1.2.2
 go_upto_region 3 with fail
 clear HU2 HV2
 generalize (w2.alloc (.cells #[.int .i64 0] 62)) = w3 at HU3 HV3 HN3 ⊢
 generalize w2.heap.size = NB at HN3 hlt2 ⊢
 by_cases hc : c = 0
 ·subst hc
  go_wp2_with fail
  refine (as_nil _ _).mono ?_
  rintro e w' ⟨rfl, rfl⟩
  go_wp2_with (first | (refine url_ld HV3.out rfl rfl _ rfl rfl ?_) | (refine url_st HU3.out.1 rfl (us := uRow s k nm n x0 x1 x2 x3 x4 x5 x6 x7 p a q r) rfl (uRow_one ..) rfl _ _ rfl rfl rfl ?_; intro w9 HU9 HM9))
  refine bodyPost_ret (url_result2 rfl _ _ w.heap.size (.int .i64 0) _ rfl rfl rfl HU9) rfl ⟨rfl, HM9.2 _ _ (Nat.le_refl _) HU3.out.2⟩
 rw [HN.out hc, errV_no hc]
 go_wp2_with fail
 refine (as_hit c NB _ _ (HER.out _ HU3.out.2) (HN3.out.1 0 _ rfl) (HN3.out.2.1 0)).mono ?_
 rintro e w4 ⟨rfl, hw4⟩
 have hn4 : SN w NB c w4 := by
  rw [hw4]
  exact ⟨(HU3.out.later (below_four w3 _ _ _ _)).set hlt2 0 _, (HN3.out.below (below_four w3 _ _ _ _)).set 0 (by decide) _, hlt2⟩
 clear hw4
 go_upto_region 4 with fail
 refine wp_region_held_drew (S := SN w NB c) (by kernel_rfl) (SN.drew hn4) (fun hH => ?_)
 clear hn4
 refine wpAnyH_take (i := 0) (v := .agg uRow0.toArray) rfl (by kernel_rfl) (by kernel_rfl) (by kernel_rfl) (fun _ _ _ h => h) (Or.inl ⟨by rfl, ?_⟩) hH ?_
 ·intro W hW
  kernel_rfl
 refine wpAnyH_take (i := 1) (v := .pointer (some ⟨NB, 0, none⟩)) rfl (by kernel_rfl) (by kernel_rfl) (by kernel_rfl) (fun _ _ _ h => h) (Or.inl ⟨by rfl, ?_⟩) hH ?_
 ·intro W hW
  kernel_rfl
 refine wpAnyH_take (i := 2) (v := .int .i64 c) rfl (by kernel_rfl) (by kernel_rfl) (by kernel_rfl) (fun _ _ _ h => h) (Or.inl ⟨by rfl, ?_⟩) hH ?_
 ·intro W hW
  have hcell := hW.2.1.1 0 _ rfl
  clear hW
  go_simp
 refine wpAnyH_ready (rs := [3]) (by kernel_rfl) (by simp) (AllReadyH.cons rfl (fun K hK => ?_) AllReadyH.nil)
 rw [if_pos (by rfl)]
 refine wp_store_mid _ _ _ rfl w.heap.size 0 uRow0.toArray rfl rfl (hH.1.1.there 0 16 (by show 0 + 16 ≤ 16; decide)) Tryz.infoUrl (uRow_one ..) ?_
 refine hK.out _ _ (SN.stored hH) (fun hZ => ?_)
 clear hK K hH
 generalize w4.drew.setCells w.heap.size 0 uRow0.toArray.toList = w9 at hZ ⊢
 refine wpAnyH_take (i := 4) (v := .int .i64 c) rfl (by kernel_rfl) (by kernel_rfl) (by kernel_rfl) (fun _ _ _ h => h) (Or.inl ⟨by rfl, ?_⟩) hZ ?_
 ·intro W hW
  kernel_rfl
 refine wpAnyH_done (by kernel_rfl) ?_ _
 simp only [Act.put, List.getElem_toArray, List.getElem_cons_succ, List.getElem_cons_zero, List.setIfInBounds_toArray, List.set_cons_succ, List.set_cons_zero]
 go_wp2_with fail
 refine bodyPost_ret (url_result2 rfl _ _ w.heap.size (.int .i64 c) _ rfl rfl rfl hZ.1.1) rfl ⟨by rw [HN.out hc], hZ.1.2⟩
end Go.Proofs.YtgmfkgeepecknaaGreatDoor
namespace Go.Proofs.YtgmfkgeepecknaaGreatDoor
open Go.RowKit
theorem eqHostSelf (k n : Int) (s : ByteArray) (x0 x1 x2 x3 x4 x5 x6 x7 : Int) (w : World) :
  Calls Tryz.prog 61 #[.agg #[.int .i64 k, .string s, .int .i64 n, .int .i64 x0, .int .i64 x1, .int .i64 x2, .int .i64 x3, .int .i64 x4, .int .i64 x5, .int .i64 x6, .int .i64 x7], .agg #[.int .i64 k, .string s, .int .i64 n, .int .i64 x0, .int .i64 x1, .int .i64 x2, .int .i64 x3, .int .i64 x4, .int .i64 x5, .int .i64 x6, .int .i64 x7]] w fun e w' => e = .returned (.bool true) ∧ Below w.heap.size w w' := by
 have CE : Hid (∀ W, CB 108 #[.agg #[.int .i64 x0, .int .i64 x1, .int .i64 x2, .int .i64 x3, .int .i64 x4, .int .i64 x5, .int .i64 x6, .int .i64 x7], .agg #[.int .i64 x0, .int .i64 x1, .int .i64 x2, .int .i64 x3, .int .i64 x4, .int .i64 x5, .int .i64 x6, .int .i64 x7]] W (.bool true)) := fun W => eqIntA8 x0 x1 x2 x3 x4 x5 x6 x7 W
 have HB : Hid (∀ o p, Below w.heap.size w ((w.alloc o).alloc p)) := fun o p => ((Below.refl _ w).alloc (Nat.le_refl _) o).alloc (by simp) p
 go_enter Tryz.func61, Tryz.ntmps61
 go_wp2_with fail
 refine (CE.out _).mono ?_
 rintro e w1 ⟨rfl, b1⟩
 have B1 := (HB.out _ _).trans (b1.mono (by simp; omega))
 clear b1
 go_wp2_with fail
 go_ret
 exact ⟨rfl, B1⟩
def P2 (w : World) (r1 r2 : List Value) (W : World) : Prop := UAt W w.heap.size r1 ∧ UAt W (w.heap.size + 1) r2 ∧ Below w.heap.size w W
theorem P2.later {w : World} {r1 r2 : List Value} {W W' : World} (h : P2 w r1 r2 W) (hb : Below W.heap.size W W') : P2 w r1 r2 W' := ⟨h.1.below hb, h.2.1.below hb, h.2.2.trans (hb.mono h.2.2.size)⟩
theorem eqUrlSelf (s k n p : Int) (nm a r : ByteArray) (q : Bool) (x0 x1 x2 x3 x4 x5 x6 x7 : Int) (w : World) :
  Calls Tryz.prog 24 #[.agg (uRow s k nm n x0 x1 x2 x3 x4 x5 x6 x7 p a q r).toArray, .agg (uRow s k nm n x0 x1 x2 x3 x4 x5 x6 x7 p a q r).toArray] w fun e w' => e = .returned (.bool true) ∧ Below w.heap.size w w' := by
 have CE : Hid (∀ W, CB 61 #[.agg (hRow k nm n x0 x1 x2 x3 x4 x5 x6 x7).toArray, .agg (hRow k nm n x0 x1 x2 x3 x4 x5 x6 x7).toArray] W (.bool true)) := fun W => eqHostSelf k n nm x0 x1 x2 x3 x4 x5 x6 x7 W
 obtain ⟨O, hO⟩ : ∃ O, O = (w.alloc (.cells (uRow s k nm n x0 x1 x2 x3 x4 x5 x6 x7 p a q r).toArray 28)).alloc (.cells (uRow s k nm n x0 x1 x2 x3 x4 x5 x6 x7 p a q r).toArray 28) := ⟨_, rfl⟩
 have HU : Hid (P2 w (uRow s k nm n x0 x1 x2 x3 x4 x5 x6 x7 p a q r) (uRow s k nm n x0 x1 x2 x3 x4 x5 x6 x7 p a q r) O) := by
  rw [hO]
  have h2 := UAt.new (w.alloc (.cells (uRow s k nm n x0 x1 x2 x3 x4 x5 x6 x7 p a q r).toArray 28)) (uRow s k nm n x0 x1 x2 x3 x4 x5 x6 x7 p a q r).toArray 28
  rw [World.size_alloc] at h2
  exact ⟨(UAt.new w _ _).below ((Below.refl _ _).alloc (Nat.le_refl _) _), h2, ((Below.refl _ w).alloc (Nat.le_refl _) _).alloc (by simp) _⟩
 have c0 := HU.out.1.1 0 _ rfl
 have d0 := HU.out.2.1.1 0 _ rfl
 go_enter Tryz.func24, Tryz.ntmps24
 go_upto_region 1 with fail
 rw [← hO]
 clear hO
 go_wp2_with (first | (refine host_ld HU.out.1 1 (hRow k nm n x0 x1 x2 x3 x4 x5 x6 x7) (host_in s k n p nm a r q x0 x1 x2 x3 x4 x5 x6 x7) rfl rfl _ rfl rfl ?_) | (refine host_ld HU.out.2.1 1 (hRow k nm n x0 x1 x2 x3 x4 x5 x6 x7) (host_in s k n p nm a r q x0 x1 x2 x3 x4 x5 x6 x7) rfl rfl _ rfl rfl ?_))
 refine (CE.out _).mono ?_
 rintro e w1 ⟨rfl, b1⟩
 have HU1 : Hid (P2 w (uRow s k nm n x0 x1 x2 x3 x4 x5 x6 x7 p a q r) (uRow s k nm n x0 x1 x2 x3 x4 x5 x6 x7 p a q r) w1) := HU.out.later b1
 clear b1 HU c0 d0 CE
 have c12 := HU1.out.1.1 12 _ rfl
 have d12 := HU1.out.2.1.1 12 _ rfl
 have c13 := HU1.out.1.1 13 _ rfl
 have d13 := HU1.out.2.1.1 13 _ rfl
 have c14 := HU1.out.1.1 14 _ rfl
 have d14 := HU1.out.2.1.1 14 _ rfl
 have c15 := HU1.out.1.1 15 _ rfl
 have d15 := HU1.out.2.1.1 15 _ rfl
 go_wp2_with fail
 go_ret
 exact ⟨rfl, HU1.out.2.2⟩
end Go.Proofs.YtgmfkgeepecknaaGreatDoor
