/- PunyEncWalk. -/
import Derived.Test.YtidecdlaeomfoaaGreatQA04
set_option maxHeartbeats 8000000
set_option maxRecDepth 20000
namespace Go.Proofs.YtidecdlaeomfoaaGreat
open Go.RowKit
theorem own_slice {w : World} {B : Nat} {e : TypeId} {v : Value} {n : Nat} {xs : List Value} (h : w.ownsRow B e 1 v n xs) : ∃ ao cap, v = .slice ao n cap := by
 rcases own_shape h with ⟨rfl, _, ao, cap, rfl⟩ | ⟨_, g, cap, rfl⟩
 ·exact ⟨ao, cap, rfl⟩
 exact ⟨_, cap, rfl⟩
theorem filter_snoc (l : List Nat) (k : Nat) (h : k < l.length) : (l.take (k + 1)).filter (· < 128) = (l.take k).filter (· < 128) ++ (if l.getD k 0 < 128 then [l.getD k 0] else []) := by
 have e : l.take (k + 1) = l.take k ++ [l.getD k 0] := by
  rw [List.take_succ_eq_append_getElem h]
  simp [List.getD, h]
 rw [e, List.filter_append]
 congr 1
 split
 ·next hc => rw [List.filter_cons_of_pos (by simpa using hc)]; rfl
 next hc => rw [List.filter_cons_of_neg (by simpa using hc)]; rfl
theorem codeV_len (basic : Nat) : ∀ (ds : List Nat) (h bias : Nat), (codeV basic h bias ds).length ≤ 28 * ds.length
 | [], _, _ => by simp [codeV]
 | d :: ds, h, bias => by
  have h1 := codeV_len basic ds (h + 1) (adaptN d (h + 1) (h == basic))
  have h2 := num_len bias 28 36 d
  show (numF 28 36 bias d ++ codeV basic (h + 1) (adaptN d (h + 1) (h == basic)) ds).length ≤ 28 * (d :: ds).length
  rw [List.length_append, List.length_cons]
  omega
theorem encC_len {l : List Nat} (h : encOk l = true) : (encC l).length ≤ 2000 := by
 obtain ⟨h1, h2⟩ := encOk_parts h
 have h3 := enc_count l h2 l.length 128 0
 have h4 := codeV_len (l.filter (· < 128)).length (encD l l.length 128 0 (l.filter (· < 128)).length) (l.filter (· < 128)).length 72
 have h5 := List.length_filter_le (fun x => decide (x < 128)) l
 unfold encC encV
 rw [List.length_append, List.length_append, List.length_map]
 have h6 : (if 0 < (l.filter (· < 128)).length then [45] else []).length ≤ 1 := by split <;> simp
 omega
theorem enc_done (l : List Nat) (f n d basic bias : Nat) (h : l.length ≤ (l.filter (· < n)).length) : codeV basic (l.filter (· < n)).length bias (encD l f n d (l.filter (· < n)).length) = [] := by
 cases f with
 | zero => rfl
 | succ f => rw [encD, if_neg (by omega)]; rfl
theorem runeN_ok {c : Nat} (h : runeN c = true) : runeOk (c : Int) := by
 simp [runeN] at h
 unfold runeOk
 omega
theorem encOk_rune {l : List Nat} (h : encOk l = true) (k : Nat) (hk : k < l.length) : runeN (l.getD k 0) = true := by
 simp only [encOk, Bool.and_eq_true, List.all_eq_true] at h
 refine h.2 _ ?_
 rw [List.getD_eq_getElem?_getD, List.getElem?_eq_getElem hk]
 exact List.getElem_mem _
theorem specPunyEncode_yes (l : List Nat) (N g cap B : Nat) (w : World) (hok : encOk l = true) (hN : l.length = N) (hown0 : w.ownsRow B 3 1 (.slice (some ⟨g, 0, none⟩) N cap) N (icN l)) :
  Calls Tryz.prog 88 #[.slice (some ⟨g, 0, none⟩) N cap] w fun e w' => e = .returned (.tuple #[.string ⟨(b8 (encC l)).toArray⟩, .bool true]) ∧ Below w.heap.size w w' := by
 have hN60 : (N : Int) ≤ 60 := by have := (encOk_parts hok).1; omega
 have HOK : Hid (encOk l = true) := hok
 have HL : Hid (l.length = N) := hN
 have HW : Hid (w.ownsRow B 3 1 (.slice (some ⟨g, 0, none⟩) N cap) N (icN l)) := hown0
 clear hok hN hown0
 go_enter Tryz.func88, Tryz.ntmps88
 go_wp2_with fail
 go_loopw [4, 5] (fun v i wr => ∃ k : Nat, k ≤ N ∧ i = .int .i64 k ∧ wr.ownsRow w.heap.size 5 1 v ((l.take k).filter (· < 128)).length (bcells (b8 ((l.take k).filter (· < 128)))) ∧ Below w.heap.size w wr)
  (fun _ i _ => N - (intOf i).toNat)
 case atStart => exact ⟨0, Nat.zero_le _, rfl, World.ownsRow_lit w #[] 0 (Nat.le_refl _) (by decide) rfl, (Below.refl _ _).alloc (Nat.le_refl _) _⟩
 obtain ⟨k, hk, rfl, hown, hbel⟩ := hrel
 have hsz := hbel.size
 by_cases hlt : k < N
 ·have ca := icN_at (own_below HW.out hbel) k hlt
  have hr := encOk_rune HOK.out k (by have := HL.out; omega)
  have hfl : ((l.take k).filter (· < 128)).length ≤ k := Nat.le_trans (List.length_filter_le _ _) (List.length_take_le _ _)
  have HS : Hid ((l.take (k + 1)).filter (· < 128) = (l.take k).filter (· < 128) ++ (if l.getD k 0 < 128 then [l.getD k 0] else [])) := filter_snoc l k (by have := HL.out; omega)
  generalize (l.take k).filter (· < 128) = o at hown HS hfl
  generalize l.getD k 0 = c at ca HS hr
  have HR : Hid (runeOk (c : Int)) := runeN_ok hr
  have hc1 : (c : Int) ≤ 1114111 := HR.out.2.1
  clear hr
  by_cases hc : (c : Int) < 128
  ·rw [if_pos (by omega)] at HS
   go_wp2_with fail
   refine (specL1IsRune_yes _ _ HR.out).mono ?_
   rintro e w' ⟨rfl, rfl⟩
   go_wp2_with (first | (at_builtin; refine wpList_append_new _ rfl _ _ 22 rfl w.heap.size 5 (.int .u8 0) 1 Tryz.underlying22 Tryz.info5 rfl _ _ _ rfl hown #[.int .u8 (c : Int)] 1 rfl rfl (byte_one' _) (by omega) (by unfold maxLen; omega) (by omega) ?_))
   intro v' w1 hown' hb1
   have R := own_nat c (by omega) rfl hown'
   have B1 : Below w.heap.size w w1 := hbel.trans hb1
   clear hown' hb1 hown hbel
   go_wp2_with fail
   go_roundw
   case rel => exact ⟨k + 1, by omega, by go_num, by rw [HS.out]; exact R, B1⟩
   case measure => simp [intOf]; omega
  rw [if_neg (by omega), List.append_nil] at HS
  go_wp2_with fail
  refine (specL1IsRune_yes _ _ HR.out).mono ?_
  rintro e w' ⟨rfl, rfl⟩
  go_wp2_with fail
  go_roundw
  case rel => exact ⟨k + 1, by omega, by go_num, by rw [HS.out]; exact hown, hbel⟩
  case measure => simp [intOf]; omega
 rw [List.take_of_length_le (by have := HL.out; omega)] at hown
 have hfl := List.length_filter_le (fun x => decide (x < 128)) l
 obtain ⟨basic, hbs⟩ : ∃ b, (l.filter (· < 128)).length = b := ⟨_, rfl⟩
 have hb60 : (basic : Int) ≤ 60 := by have := HL.out; omega
 obtain ⟨ao, cp, hu⟩ := own_slice hown
 rw [hbs] at hu
 subst hu
 have HBS : Hid ((l.filter (· < 128)).length = basic) := hbs
 have hO := hown
 rw [hbs] at hO
 have HO : Hid (wr.ownsRow w.heap.size 5 1 (.slice ao basic cp) basic (bcells (b8 (l.filter (· < 128))))) := hO
 clear hown hO hfl hbs
 by_cases hbz : 0 < basic
 ·have hbzi : 0 < (basic : Int) := by omega
  have HPRE : Hid ((l.filter (· < 128) ++ [45]) ++ (codeV basic basic 72 (encD l N 128 0 basic)).map digB = encC l) := by
   show _ = _
   unfold encC encV
   rw [HBS.out, if_pos hbz, HL.out]
  have hO := HO.out
  have hlen : (l.filter (· < 128)).length = basic := HBS.out
  go_wp2_with (at_builtin; refine wpList_append_new _ rfl _ _ 22 rfl w.heap.size 5 (.int .u8 0) 1 Tryz.underlying22 Tryz.info5 rfl _ _ _ rfl hO #[.int .u8 45] 1 rfl rfl (byte_one' _) (by omega) (by unfold maxLen; omega) (by omega) ?_)
  intro v' w1 hown' hb1
  have HO1 : Hid (w1.ownsRow w.heap.size 5 1 v' (l.filter (· < 128) ++ [45]).length (bcells (b8 (l.filter (· < 128) ++ [45])))) := own_nat 45 (by omega) rfl (by rw [hlen]; exact hown')
  have B1 : Below w.heap.size w w1 := hbel.trans hb1
  clear hown' hb1 hO hbel hsz hlen
  generalize l.filter (· < 128) ++ [45] = o1 at HPRE HO1
  go_wp2_with fail
  go_loopw [4, 7, 8, 9, 10] (fun v a b c e wr => ∃ (f n d bi h : Nat) (o : List Nat), a = .int .i64 h ∧ b = .int .i64 n ∧ c = .int .i64 d ∧ e = .int .i64 bi ∧ (l.filter (· < n)).length = h ∧ n ≤ 1114112 ∧ d ≤ 61 * n ∧ bi ≤ 2400 ∧ N ≤ h + f ∧ o ++ (codeV basic h bi (encD l f n d h)).map digB = encC l ∧ wr.ownsRow w.heap.size 5 1 v o.length (bcells (b8 o)) ∧ Below w.heap.size w wr)
   (fun _ a _ _ _ _ => N - (intOf a).toNat)
  case atStart => exact ⟨N, 128, 0, 72, basic, o1, rfl, rfl, rfl, rfl, HBS.out, by omega, by omega, by omega, by omega, HPRE.out, HO1.out, B1⟩
  clear B1
  obtain ⟨f, n, d, bi, h, o, rfl, rfl, rfl, rfl, hh, hn, hd, hbi, hf, he, hown, hbel⟩ := hrel
  have HE : Hid (o ++ (codeV basic h bi (encD l f n d h)).map digB = encC l) := he
  have HH : Hid ((l.filter (· < n)).length = h) := hh
  have hsz := hbel.size
  have hol : o.length ≤ 2000 := by
   have h1 := congrArg List.length HE.out
   rw [List.length_append] at h1
   have := encC_len HOK.out
   omega
  have hhN : h ≤ N := by
   have := List.length_filter_le (fun x => decide (x < n)) l
   have := HL.out
   omega
  clear he hh
  by_cases hlt2 : h < N
  ·obtain ⟨m1, m2, m3⟩ := least_of l n (encOk_parts HOK.out).2 (by have := HL.out; have := HH.out; omega)
   have hmv := (encOk_parts HOK.out).2 _ m1
   have HFS : Hid (l.filter (· < n) = l.filter (· < leastN n l)) := filter_same l n _ m2 m3
   have HMO : Hid ((l.filter (· < leastN n l)).length < (l.filter (· ≤ leastN n l)).length) := filter_more _ l m1
   have ctl := specLeast l n N cap g B wr HL.out (by omega) (encOk_parts HOK.out).2 (own_below HW.out hbel)
   obtain ⟨f', rfl⟩ : ∃ q, f = q + 1 := ⟨f - 1, by omega⟩
   have HD : Hid (encD l (f' + 1) n d h = (passD (leastN n l) l (d + (leastN n l - n) * (h + 1))).1 ++ encD l f' (leastN n l + 1) ((passD (leastN n l) l (d + (leastN n l - n) * (h + 1))).2 + 1) (h + (passD (leastN n l) l (d + (leastN n l - n) * (h + 1))).1.length)) := by
    show _ = _
    rw [encD, if_pos (by have := HL.out; omega)]
   clear m1 m3
   generalize leastN n l = m at *
   have hxb : (m - n) * (h + 1) ≤ (m - n) * 61 := Nat.mul_le_mul_left _ (by omega)
   have hc1 : ((m - n : Nat) : Int) = (m : Int) - (n : Int) := by omega
   have hx61 : d + (m - n) * (h + 1) ≤ 61 * m := by omega
   have hX : ((m : Int) - (n : Int)) * ((h : Int) + 1) = (((m - n) * (h + 1) : Nat) : Int) := by rw [← hc1]; norm_cast
   generalize (m - n) * (h + 1) = x at *
   have HPL : Hid ((l.filter (· < m)).length + (passD m l (d + x)).1.length = (l.filter (· ≤ m)).length) := pass_len m l (d + x)
   have HPB : Hid ((passD m l (d + x)).2 ≤ 61 * m + 60) := (pass_le m l (d + x) (61 * m + 60) (by have := HL.out; omega)).2
   obtain ⟨hE, HHE⟩ : ∃ q, Hid (h + (passD m l (d + x)).1.length = q) := ⟨_, rfl⟩
   obtain ⟨dE, HDE⟩ : ∃ q, Hid ((passD m l (d + x)).2 = q) := ⟨_, rfl⟩
   have hhE : (l.filter (· ≤ m)).length = hE := by
    have h1 := HPL.out; have h2 := HHE.out; have h3 := HH.out
    rw [HFS.out] at h3
    omega
   have hEN : hE ≤ N := by
    have := List.length_filter_le (fun x => decide (x ≤ m)) l
    have := HL.out
    omega
   have hgr : h < hE := by
    have h1 := HMO.out; have h3 := HH.out
    rw [HFS.out] at h3
    omega
   have HFE : Hid ((l.filter (· < m + 1)).length = hE) := by show _ = _; rw [filter_le_lt]; exact hhE
   obtain ⟨T, HT⟩ : ∃ q, Hid (encD l f' (m + 1) (dE + 1) hE = q) := ⟨_, rfl⟩
   have HE2 : Hid (o ++ (codeV basic h bi ((passD m l (d + x)).1 ++ T)).map digB = encC l) := by
    show _ = _
    rw [← HE.out, HD.out, ← HT.out, HHE.out, HDE.out]
   have hdE : dE ≤ 61 * m + 60 := by have h1 := HPB.out; rw [HDE.out] at h1; exact h1
   have CTL : Hid (CS 97 #[.slice (some ⟨g, 0, none⟩) N cap, .int .i64 (n : Int)] wr (.int .i64 (m : Int))) := ctl
   clear ctl HFS HMO HPL HPB HD HE hc1 hxb hhE
   go_wp2_with fail
   refine CTL.out.mono ?_
   rintro e w' ⟨rfl, rfl⟩
   go_wp2_with fail
   go_loopw [4, 7, 9, 10, 12] (fun v a c e i wi => ∃ (j d' h' b' : Nat) (o' : List Nat), a = .int .i64 h' ∧ c = .int .i64 d' ∧ e = .int .i64 b' ∧ i = .int .i64 j ∧ j ≤ N ∧ d' ≤ 61 * m + j ∧ b' ≤ 2400 ∧ h' + (passD m (l.drop j) d').1.length = hE ∧ (passD m (l.drop j) d').2 = dE ∧ o' ++ (codeV basic h' b' ((passD m (l.drop j) d').1 ++ T)).map digB = encC l ∧ wi.ownsRow w.heap.size 5 1 v o'.length (bcells (b8 o')) ∧ Below w.heap.size w wi)
    (fun _ _ _ _ i _ => N - (intOf i).toNat)
   case atStart => exact ⟨0, d + x, h, bi, o, rfl, by go_num, rfl, rfl, Nat.zero_le _, by omega, hbi, HHE.out, HDE.out, HE2.out, hown, hbel⟩
   clear hown hbel hsz
   obtain ⟨j, d', h', b', o', rfl, rfl, rfl, rfl, hj, hd', hb', q1, q2, q3, hown, hbel⟩ := hrel
   have Q1 : Hid (h' + (passD m (l.drop j) d').1.length = hE) := q1
   have Q2 : Hid ((passD m (l.drop j) d').2 = dE) := q2
   have Q3 : Hid (o' ++ (codeV basic h' b' ((passD m (l.drop j) d').1 ++ T)).map digB = encC l) := q3
   have hsz := hbel.size
   have hh' : h' ≤ hE := by omega
   have hol' : o'.length ≤ 2000 := by
    have h1 := congrArg List.length Q3.out
    rw [List.length_append] at h1
    have := encC_len HOK.out
    omega
   clear q1 q2 q3
   by_cases hlj : j < N
   ·have ca := icN_at (own_below HW.out hbel) j hlj
    have HS : Hid (l.drop j = l.getD j 0 :: l.drop (j + 1)) := nat_drop l j (by have := HL.out; omega)
    generalize l.getD j 0 = c at ca HS
    rcases Nat.lt_trichotomy c m with hc | hc | hc
    ·have EP : Hid (passD m (l.drop j) d' = passD m (l.drop (j + 1)) (d' + 1)) := by show _ = _; rw [HS.out, passD, if_pos hc]
     rw [EP.out] at Q1 Q2 Q3
     have hci : (c : Int) < (m : Int) := by omega
     have hcn : ¬ (c : Int) = (m : Int) := by omega
     go_wp2_with fail
     go_roundw
     case rel => exact ⟨j + 1, d' + 1, h', b', o', rfl, by go_num, rfl, by go_num, by omega, by omega, hb', Q1.out, Q2.out, Q3.out, hown, hbel⟩
     case measure => simp [intOf]; omega
    ·subst hc
     have EP : Hid (passD c (l.drop j) d' = (d' :: (passD c (l.drop (j + 1)) 0).1, (passD c (l.drop (j + 1)) 0).2)) := by show _ = _; rw [HS.out, passD, if_neg (by omega), if_pos rfl]
     rw [EP.out] at Q1 Q2 Q3
     have Q4 : Hid ((o' ++ (numF 28 36 b' d').map digB) ++ (codeV basic (h' + 1) (adaptN d' (h' + 1) (h' == basic)) ((passD c (l.drop (j + 1)) 0).1 ++ T)).map digB = encC l) := by
      show _ = _
      rw [← Q3.out]
      show _ = o' ++ (numF 28 36 b' d' ++ codeV basic (h' + 1) (adaptN d' (h' + 1) (h' == basic)) ((passD c (l.drop (j + 1)) 0).1 ++ T)).map digB
      rw [List.map_append, List.append_assoc]
     have Q5 : Hid (h' + 1 + (passD c (l.drop (j + 1)) 0).1.length = hE) := by
      show _ = _
      have h1 := Q1.out
      simp only [List.length_cons] at h1
      omega
     have hh1 : h' + 1 ≤ hE := by have := Q5.out; omega
     have cta := fun (first : Bool) (W : World) => specAdapt_in d' (h' + 1) first W (by omega) (by omega) (by omega)
     have hal := adaptN_le d' (h' + 1) (h' == basic)
     simp only [show ((h' + 1 : Nat) : Int) = (h' : Int) + 1 by omega] at cta
     have CTA : Hid (∀ (first : Bool) (W : World), CS 99 #[.int .i64 (d' : Int), .int .i64 ((h' : Int) + 1), .bool first] W (.int .i64 (adaptN d' (h' + 1) first : Int))) := cta
     clear cta Q3 Q1
     by_cases hbq : h' = basic
     ·subst hbq
      rw [show (h' == h') = true by simp] at Q4 hal
      go_wp2_with fail
      refine (specNumber d' b' o' _ w.heap.size _ (by omega) (by omega) hown hsz (by omega)).mono ?_
      rintro e w1 ⟨v', rfl, own1, hb1⟩
      have B2 : Below w.heap.size w w1 := hbel.trans hb1
      clear hb1 hown hbel
      go_wp2_with fail
      refine (CTA.out _ _).mono ?_
      rintro e w' ⟨rfl, rfl⟩
      go_wp2_with fail
      go_roundw
      case rel => exact ⟨j + 1, 0, h' + 1, _, _, by go_num, rfl, rfl, by go_num, by omega, by omega, hal, Q5.out, Q2.out, Q4.out, own1, B2⟩
      case measure => simp [intOf]; omega
     have hbi2 : ((h' : Int) == (basic : Int)) = false := by simp; omega
     rw [show (h' == basic) = false by simpa using hbq] at Q4 hal
     clear hbq
     go_wp2_with fail
     refine (specNumber d' b' o' _ w.heap.size _ (by omega) (by omega) hown hsz (by omega)).mono ?_
     rintro e w1 ⟨v', rfl, own1, hb1⟩
     have B2 : Below w.heap.size w w1 := hbel.trans hb1
     clear hb1 hown hbel
     go_wp2_with fail
     refine (CTA.out _ _).mono ?_
     rintro e w' ⟨rfl, rfl⟩
     go_wp2_with fail
     go_roundw
     case rel => exact ⟨j + 1, 0, h' + 1, _, _, by go_num, rfl, rfl, by go_num, by omega, by omega, hal, Q5.out, Q2.out, Q4.out, own1, B2⟩
     case measure => simp [intOf]; omega
    have EP : Hid (passD m (l.drop j) d' = passD m (l.drop (j + 1)) d') := by show _ = _; rw [HS.out, passD, if_neg (by omega), if_neg (by omega)]
    rw [EP.out] at Q1 Q2 Q3
    have hci : ¬ (c : Int) < (m : Int) := by omega
    have hcn : ¬ (c : Int) = (m : Int) := by omega
    go_wp2_with fail
    go_roundw
    case rel => exact ⟨j + 1, d', h', b', o', rfl, rfl, rfl, by go_num, by omega, by omega, hb', Q1.out, Q2.out, Q3.out, hown, hbel⟩
    case measure => simp [intOf]; omega
   have HNI : Hid (l.drop j = []) := List.drop_of_length_le (by have := HL.out; omega)
   rw [HNI.out] at Q1 Q2 Q3
   have z1 : h' = hE := by have := Q1.out; simpa [passD] using this
   have z2 : d' = dE := by have := Q2.out; simpa [passD] using this
   have Q4 : Hid (o' ++ (codeV basic hE b' (encD l f' (m + 1) (dE + 1) hE)).map digB = encC l) := by
    show _ = _
    rw [HT.out, ← z1]
    exact Q3.out
   clear Q1 Q2 Q3
   subst z1 z2
   go_wp2_with fail
   go_roundw
   case rel => exact ⟨f', m + 1, d' + 1, b', h', o', rfl, by go_num, by go_num, rfl, HFE.out, by omega, by omega, hb', by omega, Q4.out, hown, hbel⟩
   case measure => simp [intOf]; omega
  have HR : Hid (o = encC l) := by
   show _ = _
   have h1 := HE.out
   have h2 := enc_done l f n d basic bi (by have := HL.out; have := HH.out; omega)
   rw [HH.out] at h2
   rw [h2] at h1
   simpa using h1
  have hcv := run_string_own (P := Tryz.prog) wr 22 9 5 Tryz.underlying22 Tryz.underlying5 Tryz.underlying9 hown
  go_wp2_with fail
  go_ret2
  exact ⟨by rw [HR.out]; rfl, hbel⟩
 have hbzi : ¬ 0 < (basic : Int) := by omega
 have HPRE : Hid (l.filter (· < 128) ++ (codeV basic basic 72 (encD l N 128 0 basic)).map digB = encC l) := by
  show _ = _
  unfold encC encV
  rw [HBS.out, if_neg hbz, HL.out, List.append_nil]
 have HO1 : Hid (wr.ownsRow w.heap.size 5 1 (.slice ao basic cp) (l.filter (· < 128)).length (bcells (b8 (l.filter (· < 128))))) := by
  have h1 := HO.out
  rw [← HBS.out] at h1 ⊢
  exact h1
 have B1 : Below w.heap.size w wr := hbel
 clear hbel hsz HO
 obtain ⟨o1, ho1⟩ : ∃ q, l.filter (· < 128) = q := ⟨_, rfl⟩
 rw [ho1] at HPRE HO1
 go_wp2_with fail
 go_loopw [4, 7, 8, 9, 10] (fun v a b c e wr => ∃ (f n d bi h : Nat) (o : List Nat), a = .int .i64 h ∧ b = .int .i64 n ∧ c = .int .i64 d ∧ e = .int .i64 bi ∧ (l.filter (· < n)).length = h ∧ n ≤ 1114112 ∧ d ≤ 61 * n ∧ bi ≤ 2400 ∧ N ≤ h + f ∧ o ++ (codeV basic h bi (encD l f n d h)).map digB = encC l ∧ wr.ownsRow w.heap.size 5 1 v o.length (bcells (b8 o)) ∧ Below w.heap.size w wr)
  (fun _ a _ _ _ _ => N - (intOf a).toNat)
 case atStart => exact ⟨N, 128, 0, 72, basic, o1, rfl, rfl, rfl, rfl, HBS.out, by omega, by omega, by omega, by omega, HPRE.out, HO1.out, B1⟩
 clear B1
 obtain ⟨f, n, d, bi, h, o, rfl, rfl, rfl, rfl, hh, hn, hd, hbi, hf, he, hown, hbel⟩ := hrel
 have HE : Hid (o ++ (codeV basic h bi (encD l f n d h)).map digB = encC l) := he
 have HH : Hid ((l.filter (· < n)).length = h) := hh
 have hsz := hbel.size
 have hol : o.length ≤ 2000 := by
  have h1 := congrArg List.length HE.out
  rw [List.length_append] at h1
  have := encC_len HOK.out
  omega
 have hhN : h ≤ N := by
  have := List.length_filter_le (fun x => decide (x < n)) l
  have := HL.out
  omega
 clear he hh
 by_cases hlt2 : h < N
 ·obtain ⟨m1, m2, m3⟩ := least_of l n (encOk_parts HOK.out).2 (by have := HL.out; have := HH.out; omega)
  have hmv := (encOk_parts HOK.out).2 _ m1
  have HFS : Hid (l.filter (· < n) = l.filter (· < leastN n l)) := filter_same l n _ m2 m3
  have HMO : Hid ((l.filter (· < leastN n l)).length < (l.filter (· ≤ leastN n l)).length) := filter_more _ l m1
  have ctl := specLeast l n N cap g B wr HL.out (by omega) (encOk_parts HOK.out).2 (own_below HW.out hbel)
  obtain ⟨f', rfl⟩ : ∃ q, f = q + 1 := ⟨f - 1, by omega⟩
  have HD : Hid (encD l (f' + 1) n d h = (passD (leastN n l) l (d + (leastN n l - n) * (h + 1))).1 ++ encD l f' (leastN n l + 1) ((passD (leastN n l) l (d + (leastN n l - n) * (h + 1))).2 + 1) (h + (passD (leastN n l) l (d + (leastN n l - n) * (h + 1))).1.length)) := by
   show _ = _
   rw [encD, if_pos (by have := HL.out; omega)]
  clear m1 m3
  generalize leastN n l = m at *
  have hxb : (m - n) * (h + 1) ≤ (m - n) * 61 := Nat.mul_le_mul_left _ (by omega)
  have hc1 : ((m - n : Nat) : Int) = (m : Int) - (n : Int) := by omega
  have hx61 : d + (m - n) * (h + 1) ≤ 61 * m := by omega
  have hX : ((m : Int) - (n : Int)) * ((h : Int) + 1) = (((m - n) * (h + 1) : Nat) : Int) := by rw [← hc1]; norm_cast
  generalize (m - n) * (h + 1) = x at *
  have HPL : Hid ((l.filter (· < m)).length + (passD m l (d + x)).1.length = (l.filter (· ≤ m)).length) := pass_len m l (d + x)
  have HPB : Hid ((passD m l (d + x)).2 ≤ 61 * m + 60) := (pass_le m l (d + x) (61 * m + 60) (by have := HL.out; omega)).2
  obtain ⟨hE, HHE⟩ : ∃ q, Hid (h + (passD m l (d + x)).1.length = q) := ⟨_, rfl⟩
  obtain ⟨dE, HDE⟩ : ∃ q, Hid ((passD m l (d + x)).2 = q) := ⟨_, rfl⟩
  have hhE : (l.filter (· ≤ m)).length = hE := by
   have h1 := HPL.out; have h2 := HHE.out; have h3 := HH.out
   rw [HFS.out] at h3
   omega
  have hEN : hE ≤ N := by
   have := List.length_filter_le (fun x => decide (x ≤ m)) l
   have := HL.out
   omega
  have hgr : h < hE := by
   have h1 := HMO.out; have h3 := HH.out
   rw [HFS.out] at h3
   omega
  have HFE : Hid ((l.filter (· < m + 1)).length = hE) := by show _ = _; rw [filter_le_lt]; exact hhE
  obtain ⟨T, HT⟩ : ∃ q, Hid (encD l f' (m + 1) (dE + 1) hE = q) := ⟨_, rfl⟩
  have HE2 : Hid (o ++ (codeV basic h bi ((passD m l (d + x)).1 ++ T)).map digB = encC l) := by
   show _ = _
   rw [← HE.out, HD.out, ← HT.out, HHE.out, HDE.out]
  have hdE : dE ≤ 61 * m + 60 := by have h1 := HPB.out; rw [HDE.out] at h1; exact h1
  have CTL : Hid (CS 97 #[.slice (some ⟨g, 0, none⟩) N cap, .int .i64 (n : Int)] wr (.int .i64 (m : Int))) := ctl
  clear ctl HFS HMO HPL HPB HD HE hc1 hxb hhE
  go_wp2_with fail
  refine CTL.out.mono ?_
  rintro e w' ⟨rfl, rfl⟩
  go_wp2_with fail
  go_loopw [4, 7, 9, 10, 12] (fun v a c e i wi => ∃ (j d' h' b' : Nat) (o' : List Nat), a = .int .i64 h' ∧ c = .int .i64 d' ∧ e = .int .i64 b' ∧ i = .int .i64 j ∧ j ≤ N ∧ d' ≤ 61 * m + j ∧ b' ≤ 2400 ∧ h' + (passD m (l.drop j) d').1.length = hE ∧ (passD m (l.drop j) d').2 = dE ∧ o' ++ (codeV basic h' b' ((passD m (l.drop j) d').1 ++ T)).map digB = encC l ∧ wi.ownsRow w.heap.size 5 1 v o'.length (bcells (b8 o')) ∧ Below w.heap.size w wi)
   (fun _ _ _ _ i _ => N - (intOf i).toNat)
  case atStart => exact ⟨0, d + x, h, bi, o, rfl, by go_num, rfl, rfl, Nat.zero_le _, by omega, hbi, HHE.out, HDE.out, HE2.out, hown, hbel⟩
  clear hown hbel hsz
  obtain ⟨j, d', h', b', o', rfl, rfl, rfl, rfl, hj, hd', hb', q1, q2, q3, hown, hbel⟩ := hrel
  have Q1 : Hid (h' + (passD m (l.drop j) d').1.length = hE) := q1
  have Q2 : Hid ((passD m (l.drop j) d').2 = dE) := q2
  have Q3 : Hid (o' ++ (codeV basic h' b' ((passD m (l.drop j) d').1 ++ T)).map digB = encC l) := q3
  have hsz := hbel.size
  have hh' : h' ≤ hE := by omega
  have hol' : o'.length ≤ 2000 := by
   have h1 := congrArg List.length Q3.out
   rw [List.length_append] at h1
   have := encC_len HOK.out
   omega
  clear q1 q2 q3
  by_cases hlj : j < N
  ·have ca := icN_at (own_below HW.out hbel) j hlj
   have HS : Hid (l.drop j = l.getD j 0 :: l.drop (j + 1)) := nat_drop l j (by have := HL.out; omega)
   generalize l.getD j 0 = c at ca HS
   rcases Nat.lt_trichotomy c m with hc | hc | hc
   ·have EP : Hid (passD m (l.drop j) d' = passD m (l.drop (j + 1)) (d' + 1)) := by show _ = _; rw [HS.out, passD, if_pos hc]
    rw [EP.out] at Q1 Q2 Q3
    have hci : (c : Int) < (m : Int) := by omega
    have hcn : ¬ (c : Int) = (m : Int) := by omega
    go_wp2_with fail
    go_roundw
    case rel => exact ⟨j + 1, d' + 1, h', b', o', rfl, by go_num, rfl, by go_num, by omega, by omega, hb', Q1.out, Q2.out, Q3.out, hown, hbel⟩
    case measure => simp [intOf]; omega
   ·subst hc
    have EP : Hid (passD c (l.drop j) d' = (d' :: (passD c (l.drop (j + 1)) 0).1, (passD c (l.drop (j + 1)) 0).2)) := by show _ = _; rw [HS.out, passD, if_neg (by omega), if_pos rfl]
    rw [EP.out] at Q1 Q2 Q3
    have Q4 : Hid ((o' ++ (numF 28 36 b' d').map digB) ++ (codeV basic (h' + 1) (adaptN d' (h' + 1) (h' == basic)) ((passD c (l.drop (j + 1)) 0).1 ++ T)).map digB = encC l) := by
     show _ = _
     rw [← Q3.out]
     show _ = o' ++ (numF 28 36 b' d' ++ codeV basic (h' + 1) (adaptN d' (h' + 1) (h' == basic)) ((passD c (l.drop (j + 1)) 0).1 ++ T)).map digB
     rw [List.map_append, List.append_assoc]
    have Q5 : Hid (h' + 1 + (passD c (l.drop (j + 1)) 0).1.length = hE) := by
     show _ = _
     have h1 := Q1.out
     simp only [List.length_cons] at h1
     omega
    have hh1 : h' + 1 ≤ hE := by have := Q5.out; omega
    have cta := fun (first : Bool) (W : World) => specAdapt_in d' (h' + 1) first W (by omega) (by omega) (by omega)
    have hal := adaptN_le d' (h' + 1) (h' == basic)
    simp only [show ((h' + 1 : Nat) : Int) = (h' : Int) + 1 by omega] at cta
    have CTA : Hid (∀ (first : Bool) (W : World), CS 99 #[.int .i64 (d' : Int), .int .i64 ((h' : Int) + 1), .bool first] W (.int .i64 (adaptN d' (h' + 1) first : Int))) := cta
    clear cta Q3 Q1
    by_cases hbq : h' = basic
    ·subst hbq
     rw [show (h' == h') = true by simp] at Q4 hal
     go_wp2_with fail
     refine (specNumber d' b' o' _ w.heap.size _ (by omega) (by omega) hown hsz (by omega)).mono ?_
     rintro e w1 ⟨v', rfl, own1, hb1⟩
     have B2 : Below w.heap.size w w1 := hbel.trans hb1
     clear hb1 hown hbel
     go_wp2_with fail
     refine (CTA.out _ _).mono ?_
     rintro e w' ⟨rfl, rfl⟩
     go_wp2_with fail
     go_roundw
     case rel => exact ⟨j + 1, 0, h' + 1, _, _, by go_num, rfl, rfl, by go_num, by omega, by omega, hal, Q5.out, Q2.out, Q4.out, own1, B2⟩
     case measure => simp [intOf]; omega
    have hbi2 : ((h' : Int) == (basic : Int)) = false := by simp; omega
    rw [show (h' == basic) = false by simpa using hbq] at Q4 hal
    clear hbq
    go_wp2_with fail
    refine (specNumber d' b' o' _ w.heap.size _ (by omega) (by omega) hown hsz (by omega)).mono ?_
    rintro e w1 ⟨v', rfl, own1, hb1⟩
    have B2 : Below w.heap.size w w1 := hbel.trans hb1
    clear hb1 hown hbel
    go_wp2_with fail
    refine (CTA.out _ _).mono ?_
    rintro e w' ⟨rfl, rfl⟩
    go_wp2_with fail
    go_roundw
    case rel => exact ⟨j + 1, 0, h' + 1, _, _, by go_num, rfl, rfl, by go_num, by omega, by omega, hal, Q5.out, Q2.out, Q4.out, own1, B2⟩
    case measure => simp [intOf]; omega
   have EP : Hid (passD m (l.drop j) d' = passD m (l.drop (j + 1)) d') := by show _ = _; rw [HS.out, passD, if_neg (by omega), if_neg (by omega)]
   rw [EP.out] at Q1 Q2 Q3
   have hci : ¬ (c : Int) < (m : Int) := by omega
   have hcn : ¬ (c : Int) = (m : Int) := by omega
   go_wp2_with fail
   go_roundw
   case rel => exact ⟨j + 1, d', h', b', o', rfl, rfl, rfl, by go_num, by omega, by omega, hb', Q1.out, Q2.out, Q3.out, hown, hbel⟩
   case measure => simp [intOf]; omega
  have HNI : Hid (l.drop j = []) := List.drop_of_length_le (by have := HL.out; omega)
  rw [HNI.out] at Q1 Q2 Q3
  have z1 : h' = hE := by have := Q1.out; simpa [passD] using this
  have z2 : d' = dE := by have := Q2.out; simpa [passD] using this
  have Q4 : Hid (o' ++ (codeV basic hE b' (encD l f' (m + 1) (dE + 1) hE)).map digB = encC l) := by
   show _ = _
   rw [HT.out, ← z1]
   exact Q3.out
  clear Q1 Q2 Q3
  subst z1 z2
  go_wp2_with fail
  go_roundw
  case rel => exact ⟨f', m + 1, d' + 1, b', h', o', rfl, by go_num, by go_num, rfl, HFE.out, by omega, by omega, hb', by omega, Q4.out, hown, hbel⟩
  case measure => simp [intOf]; omega
 have HR : Hid (o = encC l) := by
  show _ = _
  have h1 := HE.out
  have h2 := enc_done l f n d basic bi (by have := HL.out; have := HH.out; omega)
  rw [HH.out] at h2
  rw [h2] at h1
  simpa using h1
 have hcv := run_string_own (P := Tryz.prog) wr 22 9 5 Tryz.underlying22 Tryz.underlying5 Tryz.underlying9 hown
 go_wp2_with fail
 go_ret2
 exact ⟨by rw [HR.out]; rfl, hbel⟩
theorem specPunyEncode_nil (ao : Option Addr) (cap : Nat) (w : World) :
  Calls Tryz.prog 88 #[.slice ao 0 cap] w fun e w' => e = .returned (.tuple #[.string ⟨#[]⟩, .bool true]) ∧ Below w.heap.size w w' := by
 have HO := run_string_own (P := Tryz.prog) (w.alloc (.cells #[] 5)) 22 9 5 Tryz.underlying22 Tryz.underlying5 Tryz.underlying9 (l := []) (World.ownsRow_lit w #[] 0 (Nat.le_refl _) (by decide) rfl)
 go_enter Tryz.func88, Tryz.ntmps88
 go_wp2_with fail
 refine wp_loop_rounds 1 ?_
 rw [rounds_succ]
 go_wp2_with fail
 refine wp_loop_rounds 1 ?_
 rw [rounds_succ]
 go_wp2_with fail
 go_ret2
 exact ⟨rfl, (Below.refl _ _).alloc (Nat.le_refl _) _⟩
def encOkZ (zl : List Int) : Prop := zl.length ≤ 60 ∧ ∀ z ∈ zl, runeOk z
theorem specPunyEncode_no (zl : List Int) (N g cap B : Nat) (w : World) (hno : ¬ encOkZ zl) (hN : zl.length = N) (hN1 : N ≤ 1048576) (hown0 : w.ownsRow B 3 1 (.slice (some ⟨g, 0, none⟩) N cap) N (icells zl)) :
  Calls Tryz.prog 88 #[.slice (some ⟨g, 0, none⟩) N cap] w fun e w' => e = .returned (.tuple #[.string ⟨#[]⟩, .bool false]) ∧ Below w.heap.size w w' := by
 have HOK : Hid (¬ encOkZ zl) := hno
 have HL : Hid (zl.length = N) := hN
 have HW : Hid (w.ownsRow B 3 1 (.slice (some ⟨g, 0, none⟩) N cap) N (icells zl)) := hown0
 have hpos : 0 < N := by
  rcases Nat.eq_zero_or_pos N with h | h
  ·refine absurd ⟨by omega, fun z hz => ?_⟩ hno
   rw [List.eq_nil_of_length_eq_zero (hN.trans h)] at hz
   simp at hz
  exact h
 clear hno hN hown0
 go_enter Tryz.func88, Tryz.ntmps88
 go_wp2_with fail
 go_loopw [4, 5] (fun v i wr => ∃ (k : Nat) (o : List Nat), k ≤ N ∧ i = .int .i64 k ∧ o.length ≤ k ∧ (0 < k → N ≤ 60) ∧ (∀ z ∈ zl.take k, runeOk z) ∧ wr.ownsRow w.heap.size 5 1 v o.length (bcells (b8 o)) ∧ Below w.heap.size w wr)
  (fun _ i _ => N - (intOf i).toNat)
 case atStart => exact ⟨0, [], Nat.zero_le _, rfl, Nat.zero_le _, fun h => by omega, fun z hz => by simp at hz, World.ownsRow_lit w #[] 0 (Nat.le_refl _) (by decide) rfl, (Below.refl _ _).alloc (Nat.le_refl _) _⟩
 obtain ⟨k, o, hk, rfl, hol, h60, hall, hown, hbel⟩ := hrel
 have H60 : Hid (0 < k → N ≤ 60) := h60
 have HA : Hid (∀ z ∈ zl.take k, runeOk z) := hall
 have hsz := hbel.size
 clear h60 hall
 by_cases hlt : k < N
 ·by_cases hbig : 60 < (N : Int)
  ·go_wp2_with fail
   go_ret2
   exact ⟨rfl, hbel⟩
  have ca := icell_at (own_below HW.out hbel) k hlt
  have HS : Hid (zl.take (k + 1) = zl.take k ++ [zl.getD k 0]) := ztake_snoc zl k (by have := HL.out; omega)
  generalize zl.getD k 0 = z at ca HS
  by_cases hr : runeOk z
  ·have HR : Hid (runeOk z) := hr
   have HA2 : Hid (∀ y ∈ zl.take (k + 1), runeOk y) := by
    intro y hy
    rw [HS.out] at hy
    rcases List.mem_append.1 hy with hy | hy
    ·exact HA.out y hy
    rw [List.mem_singleton.1 hy]; exact hr
   have hz0 : 0 ≤ z := hr.1
   have hz1 : z ≤ 1114111 := hr.2.1
   clear hr
   by_cases hc : z < 128
   ·obtain ⟨c, rfl⟩ := Int.eq_ofNat_of_zero_le hz0
    go_wp2_with fail
    refine (specL1IsRune_yes _ _ HR.out).mono ?_
    rintro e w' ⟨rfl, rfl⟩
    go_wp2_with (first | (at_builtin; refine wpList_append_new _ rfl _ _ 22 rfl w.heap.size 5 (.int .u8 0) 1 Tryz.underlying22 Tryz.info5 rfl _ _ _ rfl hown #[.int .u8 (c : Int)] 1 rfl rfl (byte_one' _) (by omega) (by unfold maxLen; omega) (by omega) ?_))
    intro v' w1 hown' hb1
    have R := own_nat c (by omega) rfl hown'
    have B1 : Below w.heap.size w w1 := hbel.trans hb1
    clear hown' hb1 hown hbel
    go_wp2_with fail
    go_roundw
    case rel => exact ⟨k + 1, o ++ [c], by omega, by go_num, by simp; omega, fun _ => by omega, HA2.out, R, B1⟩
    case measure => simp [intOf]; omega
   go_wp2_with fail
   refine (specL1IsRune_yes _ _ HR.out).mono ?_
   rintro e w' ⟨rfl, rfl⟩
   go_wp2_with fail
   go_roundw
   case rel => exact ⟨k + 1, o, by omega, by go_num, by omega, fun _ => by omega, HA2.out, hown, hbel⟩
   case measure => simp [intOf]; omega
  have HR : Hid (¬ runeOk z) := hr
  clear hr
  go_wp2_with fail
  refine (specL1IsRune_no _ _ HR.out).mono ?_
  rintro e w' ⟨rfl, rfl⟩
  go_wp2_with fail
  go_ret2
  exact ⟨rfl, hbel⟩
 refine absurd ⟨?_, ?_⟩ HOK.out
 ·have := HL.out
  have := H60.out (by omega)
  omega
 have h := HA.out
 rw [List.take_of_length_le (by have := HL.out; omega)] at h
 exact h
end Go.Proofs.YtidecdlaeomfoaaGreat
