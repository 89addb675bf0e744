/- PunyDecWalk. -/
import Derived.Test.YtidecdlaeomfoaaGreatQA06
set_option maxHeartbeats 16000000
set_option maxRecDepth 20000
namespace Go.Proofs.YtidecdlaeomfoaaGreat
open Go.RowKit
theorem own_set {w : World} {B : Nat} {e : TypeId} {g n cap : Nat} {xs : List Value} (h : w.ownsRow B e 1 (.slice (some ⟨g, 0, none⟩) n cap) n xs) (k : Nat) (u : Value) :
  (w.setCell ⟨g, k, none⟩ u).ownsRow B e 1 (.slice (some ⟨g, 0, none⟩) n cap) n (xs.set k u) := by
 have hl := h.1
 refine ⟨by simpa using hl, ?_⟩
 rcases h.2 with ⟨h0, _⟩ | ⟨g', cap', cur, hv, hb, hg, hnc, hcm, hcs, htake⟩
 ·cases h0
 injection hv with h1 h2 h3
 injection h1 with h1
 injection h1 with h1
 subst h1 h3
 refine .inr ⟨g, cap, cur.setIfInBounds k u, rfl, hb, heap_setCell_same w g k cur e u hg, hnc, hcm, by simpa using hcs, ?_⟩
 simp only [Nat.mul_one] at htake ⊢
 rw [← htake, Array.toList_setIfInBounds, List.take_set]
theorem own_frozen {w : World} {B : Nat} {e : TypeId} {g n cap : Nat} {xs : List Value} (h : w.ownsRow B e 1 (.slice (some ⟨g, 0, none⟩) n cap) n xs) (k : Nat) : w.frozen? ⟨g, k, none⟩ = false := by
 rcases h.2 with ⟨h0, _⟩ | ⟨g', cap', cur, hv, hb, hg, _⟩
 ·cases h0
 injection hv with h1 h2 h3
 injection h1 with h1
 injection h1 with h1
 subst h1
 exact frozen_of_row w g k cur e hg
theorem own_block {w : World} {B : Nat} {e : TypeId} {g n cap : Nat} {xs : List Value} (h : w.ownsRow B e 1 (.slice (some ⟨g, 0, none⟩) n cap) n xs) : B ≤ g := by
 rcases h.2 with ⟨h0, _⟩ | ⟨g', cap', cur, hv, hb, _⟩
 ·cases h0
 injection hv with h1 h2 h3
 injection h1 with h1
 injection h1 with h1
 subst h1
 exact hb
theorem icN_set (l : List Nat) (k y : Nat) : (icN l).set k (.int .i64 (y : Int)) = icN (l.set k y) := by
 unfold icN icells
 rw [List.map_set, List.map_set]
theorem icN_snoc (l : List Nat) (y : Nat) : icN (l ++ [y]) = icN l ++ [Value.int .i64 (y : Int)] := by simp [icN, icells]
theorem shift_set (a : List Nat) (k x y : Nat) (hk : k ≤ a.length) : (a.take k ++ x :: a.drop k).set k y = a.take k ++ y :: a.drop k := by
 have hl : (a.take k).length = k := by rw [List.length_take]; omega
 rw [List.set_append_right _ _ (by omega), hl, Nat.sub_self]
 rfl
theorem shift_down (a : List Nat) (k : Nat) (hk : k < a.length) : a.take (k + 1) ++ a.getD k 0 :: a.drop (k + 1) = a.take k ++ a.getD k 0 :: a.drop k := by
 have e : a.take (k + 1) = a.take k ++ [a.getD k 0] := by
  rw [List.take_succ_eq_append_getElem hk]
  simp [List.getD, hk]
 rw [e, nat_drop a k hk]
 simp
theorem shift_at (a : List Nat) (k x : Nat) (hk : k < a.length) : (a.take (k + 1) ++ x :: a.drop (k + 1)).getD k 0 = a.getD k 0 := by
 have hl : k < (a.take (k + 1)).length := by rw [List.length_take]; omega
 rw [List.getD_eq_getElem?_getD, List.getElem?_append_left hl, List.getElem?_take, if_pos (by omega), List.getD_eq_getElem?_getD]
theorem readL_le (bias : Nat) : ∀ (ds : List Nat) (k i w m : Nat) (r : List Nat), readL bias k i w ds = some (m, r) → m ≤ 39582418599936
 | [], _, _, _, _, _, h => by simp [readL] at h
 | d :: ds, k, i, w, m, r, h => by
  unfold readL at h
  split at h
  ·cases h
  next hc =>
  split at h
  ·next hd =>
   injection h with h
   injection h with h1 h2
   have : d * w ≤ 35 * w := Nat.mul_le_mul_right w (by omega)
   omega
  exact readL_le bias ds _ _ _ m r h
theorem encOk_Z {l : List Nat} : encOk l = true ↔ encOkZ (l.map fun (c : Nat) => (c : Int)) := by
 unfold encOkZ
 simp only [encOk, Bool.and_eq_true, decide_eq_true_eq, List.all_eq_true, List.length_map, List.mem_map]
 refine and_congr_right fun _ => ⟨?_, ?_⟩
 ·rintro h z ⟨c, hc, rfl⟩
  exact runeN_ok (h c hc)
 intro h c hc
 have := h _ ⟨c, hc, rfl⟩
 unfold runeOk at this
 simp [runeN]
 omega
def decAns (w w' : World) (r : Option (List Nat)) (e : Ending) : Prop :=
 match r with
 | some l => ∃ v, e = .returned (.tuple #[v, .bool true]) ∧ w'.ownsRow w.heap.size 3 1 v l.length (icN l)
 | none => ∃ v, e = .returned (.tuple #[v, .bool false]) ∧ w'.ownsRow w.heap.size 3 1 v 0 []
theorem sN_eq (s : ByteArray) (l : List Nat) (h : ∀ c ∈ l, c < 256) : (⟨(b8 l).toArray⟩ : ByteArray) = s ↔ l = sN s := by
 constructor
 ·rintro rfl
  unfold sN b8
  simp only [List.map_map]
  refine (List.map_id l).symm.trans (List.map_congr_left fun c hc => ?_)
  have := h c hc
  simp
  omega
 rintro rfl
 apply ByteArray.ext
 apply Array.ext'
 unfold b8 sN
 simp only [List.map_map]
 exact (List.map_congr_left (g := id) fun c _ => by simp).trans (List.map_id _)
theorem decAns_none {w w' : World} {r : Option (List Nat)} {e : Ending} {v : Value} (h : r = none) (ho : w'.ownsRow w.heap.size 3 1 v 0 []) (he : e = .returned (.tuple #[v, .bool false])) : decAns w w' r e := by
 subst h
 exact ⟨v, he, ho⟩
theorem decAns_some {w w' : World} {r : Option (List Nat)} {l : List Nat} {e : Ending} {v : Value} (h : r = some l) (ho : w'.ownsRow w.heap.size 3 1 v l.length (icN l)) (he : e = .returned (.tuple #[v, .bool true])) : decAns w w' r e := by
 subst h
 exact ⟨v, he, ho⟩
theorem own_wide {w : World} {B B' : Nat} {e : TypeId} {v : Value} {n : Nat} {xs : List Value} (h : w.ownsRow B e 1 v n xs) (hb : B' ≤ B) : w.ownsRow B' e 1 v n xs := by
 refine ⟨h.1, ?_⟩
 rcases h.2 with h0 | ⟨g, cap, cur, hv, hB, hr⟩
 ·exact .inl h0
 exact .inr ⟨g, cap, cur, hv, by omega, hr⟩
theorem Tryz.infoI : (Tryz.prog.info? 3).map (fun i => (i.zero, i.size, i.bytes)) = some (some (.int .i64 0), 1, 8) := by kernel_rfl
theorem specPunyDecode (s : ByteArray) (w : World) (hs600 : (s.size : Int) ≤ 600) :
  Calls Tryz.prog 100 #[.string s] w fun e w' => decAns w w' (decC (sN s)) e ∧ Below w.heap.size w w' := by
 obtain ⟨w0, hw0⟩ : ∃ q, w.alloc (.cells #[] 3) = q := ⟨_, rfl⟩
 have HZ : Hid (w0.heap.size = w.heap.size + 1) := by show _ = _; rw [← hw0]; simp
 have HB0 : Hid (∀ W, Below (w.heap.size + 1) w0 W → Below w.heap.size w W) := fun W h => by
  have h1 : Below w.heap.size w w0 := by rw [← hw0]; exact (Below.refl _ _).alloc (Nat.le_refl _) _
  exact h1.trans (h.mono (by omega))
 have HNO : Hid (∀ W, Below (w.heap.size + 1) w0 W → W.ownsRow w.heap.size 3 1 (.slice (some ⟨w.heap.size, 0, none⟩) 0 0) 0 []) := fun W h => by
  have h1 : w0.ownsRow w.heap.size 3 1 (.slice (some ⟨w.heap.size, 0, none⟩) 0 0) 0 [] := by rw [← hw0]; exact World.ownsRow_lit w #[] 0 (Nat.le_refl _) (by decide) rfl
  have h2 : Below w0.heap.size w0 W := by rw [HZ.out]; exact h
  exact own_below h1 h2
 go_enter Tryz.func100, Tryz.ntmps100
 go_wp2_with fail
 refine (specDash _ _ (by omega)).mono ?_
 rintro e wz ⟨r, rfl, rfl, hr⟩
 rcases hr with ⟨rfl, hsp⟩ | ⟨k0, hk0, rfl, hsp⟩
 ·have HST : Hid (rawL 0 s.size (((sN s).drop 0).map valB) 128 0 72 [] = rawC (sN s)) := by
   show _ = _
   unfold rawC headD tailD
   rw [hsp, sN_length]
   rfl
  have HO1 : Hid ((w0.alloc (.cells #[] 3)).ownsRow (w.heap.size + 1) 3 1 (.slice (some ⟨w0.heap.size, 0, none⟩) 0 0) ([] : List Nat).length (icN [])) := World.ownsRow_lit w0 #[] 0 (by rw [HZ.out]; exact Nat.le_refl _) (by decide) rfl
  have HB1 : Hid (Below (w.heap.size + 1) w0 (w0.alloc (.cells #[] 3))) := (Below.refl _ _).alloc (by rw [HZ.out]; exact Nat.le_refl _) _
  clear hsp hw0
  obtain ⟨at1, hat1⟩ : ∃ q : Nat, q = 0 := ⟨0, rfl⟩
  go_wp2_with fail
  refine wp_loop_rounds 1 ?_
  rw [rounds_succ]
  go_wp2_with fail
  go_loopw [5, 8, 9, 10, 11] (fun v a b c e wr => ∃ (f q n i bi : Nat) (out : List Nat), a = .int .i64 q ∧ b = .int .i64 n ∧ c = .int .i64 i ∧ e = .int .i64 bi ∧ q ≤ s.size ∧ s.size ≤ q + f ∧ n ≤ 1114111 ∧ i ≤ out.length ∧ out.length ≤ 700 ∧ bi ≤ 2400 ∧ rawL 0 f (((sN s).drop q).map valB) n i bi out = rawC (sN s) ∧ wr.ownsRow (w.heap.size + 1) 3 1 v out.length (icN out) ∧ Below (w.heap.size + 1) w0 wr)
   (fun _ a _ _ _ _ => s.size - (intOf a).toNat)
  case atStart => exact ⟨s.size, 0, 128, 0, 72, [], rfl, rfl, rfl, rfl, by omega, by omega, by omega, by first | omega | simp, by first | omega | simp, by omega, HST.out, HO1.out, HB1.out⟩
  clear HO1 HB1 HST
  obtain ⟨f, q, n, i, bi, out, rfl, rfl, rfl, rfl, hq, hf, hn, hi, hol, hbi, he, hown, hbel⟩ := hrel
  have HOW : Hid (wr.ownsRow (w.heap.size + 1) 3 1 u5 out.length (icN out)) := hown
  have HBL : Hid (Below (w.heap.size + 1) w0 wr) := hbel
  have hszr : w.heap.size + 1 ≤ wr.heap.size := by have := hbel.size; have := HZ.out; omega
  have HE : Hid (rawL 0 f (((sN s).drop q).map valB) n i bi out = rawC (sN s)) := he
  obtain ⟨ao, cp0, hu⟩ := own_slice hown
  clear hown hbel he
  by_cases hlt : q < s.size
  ·subst hu
   obtain ⟨f', rfl⟩ : ∃ j, f = j + 1 := ⟨f - 1, by omega⟩
   have crd := specRead s q bi wr hs600 hq (by omega)
   cases hrd : readL bi 36 0 1 (((sN s).drop q).map valB) with
   | none =>
    have HDN : Hid (decC (sN s) = none) := by
     have h1 := HE.out
     rw [sN_drop s q hlt, List.map_cons] at h1 hrd
     rw [rawL, hrd] at h1
     show _ = _
     unfold decC
     rw [← h1]
    have CRD : Hid (CS 104 #[.string s, .int .i64 (q : Int), .int .i64 (bi : Int)] wr (.tuple #[.int .i64 0, .int .i64 0, .bool false])) := crd.mono fun e w' ⟨h1, h2⟩ => ⟨by unfold readAns at h1; rw [hrd] at h1; exact h1, h2⟩
    clear crd hrd
    go_wp2_with fail
    refine CRD.out.mono ?_
    rintro e wx ⟨rfl, rfl⟩
    go_wp2_with fail
    go_ret2
    exact ⟨decAns_none HDN.out (HNO.out _ HBL.out) rfl, HB0.out _ HBL.out⟩
   | some mr =>
    obtain ⟨more, rest⟩ := mr
    have hmore := readL_le bi _ _ _ _ _ _ hrd
    have CRD : Hid (Calls Tryz.prog 104 #[.string s, .int .i64 (q : Int), .int .i64 (bi : Int)] wr fun e w' => (∃ next : Nat, q < next ∧ next ≤ s.size ∧ rest = ((sN s).drop next).map valB ∧ e = .returned (.tuple #[.int .i64 (more : Int), .int .i64 (next : Int), .bool true])) ∧ wr = w') := crd.mono fun e w' ⟨h1, h2⟩ => ⟨by unfold readAns at h1; rw [hrd] at h1; exact h1, h2⟩
    have hc3 : ((out.length + 1 : Nat) : Int) = (out.length : Int) + 1 := by omega
    have hdq1 : (i + more) / (out.length + 1) ≤ i + more := Nat.div_le_self _ _
    have hps1 : (i + more) % (out.length + 1) < out.length + 1 := Nat.mod_lt _ (by omega)
    have hQ : ((i : Int) + (more : Int)) / ((out.length : Int) + 1) = (((i + more) / (out.length + 1) : Nat) : Int) := by norm_cast
    have hM : ((i : Int) + (more : Int)) % ((out.length : Int) + 1) = (((i + more) % (out.length + 1) : Nat) : Int) := by norm_cast
    have HRAW : Hid ((if 60 < out.length + 1 ∨ 1114111 < n + (i + more) / (out.length + 1) then none else rawL 0 f' rest (n + (i + more) / (out.length + 1)) ((i + more) % (out.length + 1) + 1) (adaptN more (out.length + 1) (out.length == 0)) (insAt ((i + more) % (out.length + 1)) (n + (i + more) / (out.length + 1)) out)) = rawC (sN s)) := by
     have h1 := HE.out
     rw [sN_drop s q hlt, List.map_cons] at h1 hrd
     rw [rawL, hrd] at h1
     exact h1
    clear crd hrd hc3
    generalize (i + more) / (out.length + 1) = dq at hQ HRAW hdq1
    generalize (i + more) % (out.length + 1) = pos at hM HRAW hps1
    have hnz : ¬ (out.length : Int) + 1 = 0 := by omega
    by_cases h60 : 60 < (out.length : Int) + 1
    ·have HDN : Hid (decC (sN s) = none) := by
      have h1 := HRAW.out
      rw [if_pos (by omega)] at h1
      show _ = _
      unfold decC
      rw [← h1]
     clear HRAW
     go_wp2_with fail
     refine CRD.out.mono ?_
     rintro e wx ⟨⟨next, hx1, hx2, hx3, rfl⟩, rfl⟩
     clear hx3
     go_wp2_with fail
     go_ret2
     exact ⟨decAns_none HDN.out (HNO.out _ HBL.out) rfl, HB0.out _ HBL.out⟩
    by_cases hfb : out.length = 0
    ·have CTA : Hid (∀ W, CS 99 #[.int .i64 (more : Int), .int .i64 ((out.length : Int) + 1), .bool true] W (.int .i64 (adaptN more (out.length + 1) true : Int))) := fun W => by
      have h := specAdapt (more : Int) ((out.length : Int) + 1) true W
      rw [adaptZ_in ⟨by omega, by omega⟩, show ((out.length : Int) + 1).toNat = out.length + 1 by omega] at h
      exact h
     have hal := adaptN_le more (out.length + 1) true
     have hfm : ((out.length : Int) == -1) = false := beq_eq_false_iff_ne.2 (by omega)
     have hf0 : ((out.length : Int) == 0) = true := beq_iff_eq.2 (by omega)
     have HFQ : Hid ((out.length == 0) = true) := by show _ = _; simpa using hfb
     clear hfb
     have HRW : Hid (¬ 1114111 < n + dq → rawL 0 f' rest (n + dq) (pos + 1) (adaptN more (out.length + 1) true) (insAt pos (n + dq) out) = rawC (sN s)) := by
      intro hno
      have h1 := HRAW.out
      rw [if_neg (by omega), HFQ.out] at h1
      exact h1
     by_cases hnb : 1114111 < (n : Int) + (dq : Int)
     ·have HDN : Hid (decC (sN s) = none) := by
       have h1 := HRAW.out
       rw [if_pos (by omega)] at h1
       show _ = _
       unfold decC
       rw [← h1]
      go_wp2_with fail
      refine CRD.out.mono ?_
      rintro e wx ⟨⟨next, hx1, hx2, hx3, rfl⟩, rfl⟩
      have HX3 : Hid (rest = ((sN s).drop next).map valB) := hx3
      clear hx3
      go_wp2_with fail
      refine (CTA.out _).mono ?_
      rintro e wx ⟨rfl, rfl⟩
      go_wp2_with fail
      go_ret2
      exact ⟨decAns_none HDN.out (HNO.out _ HBL.out) rfl, HB0.out _ HBL.out⟩
     have HRW : Hid (rawL 0 f' rest (n + dq) (pos + 1) (adaptN more (out.length + 1) true) (insAt pos (n + dq) out) = rawC (sN s)) := HRW.out (by omega)
     go_wp2_with fail
     refine CRD.out.mono ?_
     rintro e wx ⟨⟨next, hx1, hx2, hx3, rfl⟩, rfl⟩
     have HX3 : Hid (rest = ((sN s).drop next).map valB) := hx3
     clear hx3
     go_wp2_with fail
     refine (CTA.out _).mono ?_
     rintro e wx ⟨rfl, rfl⟩
     go_wp2_with (at_builtin; refine wpList_append_new _ rfl _ _ 57 rfl (w.heap.size + 1) 3 (.int .i64 0) 8 Tryz.underlying57 Tryz.infoI rfl _ _ _ rfl HOW.out #[.int .i64 0] 1 rfl rfl (by intro u hu; simp at hu; subst hu; rfl) (by omega) (by unfold maxLen; omega) (by omega) ?_)
     intro v' w1 hown' hb1
     have B1 : Below (w.heap.size + 1) w0 w1 := HBL.out.trans hb1
     have O1 : w1.ownsRow (w.heap.size + 1) 3 1 v' (out.length + 1) (icN (out ++ [0])) := by rw [icN_snoc]; exact hown'
     clear hown' hb1
     rcases own_shape O1 with ⟨hz, _⟩ | ⟨_, g, cp, rfl⟩
     ·omega
     have hDg := own_block O1
     go_wp2_with fail
     go_loopw [16] (fun a wi => ∃ (k x : Nat), a = .int .i64 k ∧ pos ≤ k ∧ k ≤ out.length ∧ wi.ownsRow (w.heap.size + 1) 3 1 (.slice (some ⟨g, 0, none⟩) (out.length + 1) cp) (out.length + 1) (icN (out.take k ++ x :: out.drop k)) ∧ Below (w.heap.size + 1) w0 wi) (fun a _ => (intOf a).toNat)
     case atStart => exact ⟨out.length, 0, by go_num, by omega, Nat.le_refl _, by simpa using O1, B1⟩
     clear O1 B1
     obtain ⟨k, x, rfl, hk1, hk2, hown, hbel⟩ := hrel
     by_cases hgt : pos < k
     ·obtain ⟨k', rfl⟩ : ∃ j, k = j + 1 := ⟨k - 1, by omega⟩
      have ca := icN_at hown k' (by omega)
      rw [shift_at out k' x (by omega)] at ca
      have cf := own_frozen hown (k' + 1)
      obtain ⟨u, cb⟩ := own_some hown (k' + 1) (by omega)
      have hset := own_set hown (k' + 1) (.int .i64 (out.getD k' 0 : Int))
      rw [icN_set, shift_set out (k' + 1) x _ (by omega), shift_down out k' (by omega)] at hset
      have HSET : Hid ((wr.setCell ⟨g, k' + 1, none⟩ (.int .i64 (out.getD k' 0 : Int))).ownsRow (w.heap.size + 1) 3 1 (.slice (some ⟨g, 0, none⟩) (out.length + 1) cp) (out.length + 1) (icN (out.take k' ++ out.getD k' 0 :: out.drop k'))) := hset
      have HBS : Hid (Below (w.heap.size + 1) w0 (wr.setCell ⟨g, k' + 1, none⟩ (.int .i64 (out.getD k' 0 : Int)))) := hbel.setCell hDg _
      clear hset hown hbel
      generalize hy : out.getD k' 0 = y at ca HSET HBS
      go_wp2_with fail
      go_roundw
      case rel => exact ⟨k', y, by go_num, by omega, by omega, HSET.out, HBS.out⟩
      case measure => simp [intOf]
     have hkp2 : k = pos := by omega
     subst hkp2
     have cf := own_frozen hown k
     obtain ⟨u, cb⟩ := own_some hown k (by omega)
     have hset := own_set hown k (.int .i64 ((n + dq : Nat) : Int))
     rw [icN_set, shift_set out k x _ (by omega)] at hset
     have hbs := hbel.setCell hDg (p := ⟨g, k, none⟩) (.int .i64 ((n + dq : Nat) : Int))
     rw [show ((n + dq : Nat) : Int) = (n : Int) + (dq : Int) by omega] at hset hbs
     have HSET : Hid ((wr.setCell ⟨g, k, none⟩ (.int .i64 ((n : Int) + (dq : Int)))).ownsRow (w.heap.size + 1) 3 1 (.slice (some ⟨g, 0, none⟩) (out.length + 1) cp) (out.length + 1) (icN (out.take k ++ (n + dq) :: out.drop k))) := hset
     have HBS : Hid (Below (w.heap.size + 1) w0 (wr.setCell ⟨g, k, none⟩ (.int .i64 ((n : Int) + (dq : Int))))) := hbs
     clear hset hbs hown hbel
     go_wp2_with fail
     go_roundw
     case rel => exact ⟨f', next, n + dq, k + 1, _, insAt k (n + dq) out, rfl, by go_num, by go_num, rfl, hx2, by omega, by omega, by rw [insAt_length]; omega, by rw [insAt_length]; omega, hal, by rw [← HX3.out]; exact HRW.out, by rw [insAt_length]; exact HSET.out, HBS.out⟩
     case measure => simp [intOf]; omega
    have CTA : Hid (∀ W, CS 99 #[.int .i64 (more : Int), .int .i64 ((out.length : Int) + 1), .bool false] W (.int .i64 (adaptN more (out.length + 1) false : Int))) := fun W => by
     have h := specAdapt (more : Int) ((out.length : Int) + 1) false W
     rw [adaptZ_in ⟨by omega, by omega⟩, show ((out.length : Int) + 1).toNat = out.length + 1 by omega] at h
     exact h
    have hal := adaptN_le more (out.length + 1) false
    have hfm : ((out.length : Int) == -1) = false := beq_eq_false_iff_ne.2 (by omega)
    have hf0 : ((out.length : Int) == 0) = false := beq_eq_false_iff_ne.2 (by omega)
    have HFQ : Hid ((out.length == 0) = false) := by show _ = _; simpa using hfb
    clear hfb
    have HRW : Hid (¬ 1114111 < n + dq → rawL 0 f' rest (n + dq) (pos + 1) (adaptN more (out.length + 1) false) (insAt pos (n + dq) out) = rawC (sN s)) := by
     intro hno
     have h1 := HRAW.out
     rw [if_neg (by omega), HFQ.out] at h1
     exact h1
    by_cases hnb : 1114111 < (n : Int) + (dq : Int)
    ·have HDN : Hid (decC (sN s) = none) := by
      have h1 := HRAW.out
      rw [if_pos (by omega)] at h1
      show _ = _
      unfold decC
      rw [← h1]
     go_wp2_with fail
     refine CRD.out.mono ?_
     rintro e wx ⟨⟨next, hx1, hx2, hx3, rfl⟩, rfl⟩
     have HX3 : Hid (rest = ((sN s).drop next).map valB) := hx3
     clear hx3
     go_wp2_with fail
     refine (CTA.out _).mono ?_
     rintro e wx ⟨rfl, rfl⟩
     go_wp2_with fail
     go_ret2
     exact ⟨decAns_none HDN.out (HNO.out _ HBL.out) rfl, HB0.out _ HBL.out⟩
    have HRW : Hid (rawL 0 f' rest (n + dq) (pos + 1) (adaptN more (out.length + 1) false) (insAt pos (n + dq) out) = rawC (sN s)) := HRW.out (by omega)
    go_wp2_with fail
    refine CRD.out.mono ?_
    rintro e wx ⟨⟨next, hx1, hx2, hx3, rfl⟩, rfl⟩
    have HX3 : Hid (rest = ((sN s).drop next).map valB) := hx3
    clear hx3
    go_wp2_with fail
    refine (CTA.out _).mono ?_
    rintro e wx ⟨rfl, rfl⟩
    go_wp2_with (at_builtin; refine wpList_append_new _ rfl _ _ 57 rfl (w.heap.size + 1) 3 (.int .i64 0) 8 Tryz.underlying57 Tryz.infoI rfl _ _ _ rfl HOW.out #[.int .i64 0] 1 rfl rfl (by intro u hu; simp at hu; subst hu; rfl) (by omega) (by unfold maxLen; omega) (by omega) ?_)
    intro v' w1 hown' hb1
    have B1 : Below (w.heap.size + 1) w0 w1 := HBL.out.trans hb1
    have O1 : w1.ownsRow (w.heap.size + 1) 3 1 v' (out.length + 1) (icN (out ++ [0])) := by rw [icN_snoc]; exact hown'
    clear hown' hb1
    rcases own_shape O1 with ⟨hz, _⟩ | ⟨_, g, cp, rfl⟩
    ·omega
    have hDg := own_block O1
    go_wp2_with fail
    go_loopw [16] (fun a wi => ∃ (k x : Nat), a = .int .i64 k ∧ pos ≤ k ∧ k ≤ out.length ∧ wi.ownsRow (w.heap.size + 1) 3 1 (.slice (some ⟨g, 0, none⟩) (out.length + 1) cp) (out.length + 1) (icN (out.take k ++ x :: out.drop k)) ∧ Below (w.heap.size + 1) w0 wi) (fun a _ => (intOf a).toNat)
    case atStart => exact ⟨out.length, 0, by go_num, by omega, Nat.le_refl _, by simpa using O1, B1⟩
    clear O1 B1
    obtain ⟨k, x, rfl, hk1, hk2, hown, hbel⟩ := hrel
    by_cases hgt : pos < k
    ·obtain ⟨k', rfl⟩ : ∃ j, k = j + 1 := ⟨k - 1, by omega⟩
     have ca := icN_at hown k' (by omega)
     rw [shift_at out k' x (by omega)] at ca
     have cf := own_frozen hown (k' + 1)
     obtain ⟨u, cb⟩ := own_some hown (k' + 1) (by omega)
     have hset := own_set hown (k' + 1) (.int .i64 (out.getD k' 0 : Int))
     rw [icN_set, shift_set out (k' + 1) x _ (by omega), shift_down out k' (by omega)] at hset
     have HSET : Hid ((wr.setCell ⟨g, k' + 1, none⟩ (.int .i64 (out.getD k' 0 : Int))).ownsRow (w.heap.size + 1) 3 1 (.slice (some ⟨g, 0, none⟩) (out.length + 1) cp) (out.length + 1) (icN (out.take k' ++ out.getD k' 0 :: out.drop k'))) := hset
     have HBS : Hid (Below (w.heap.size + 1) w0 (wr.setCell ⟨g, k' + 1, none⟩ (.int .i64 (out.getD k' 0 : Int)))) := hbel.setCell hDg _
     clear hset hown hbel
     generalize hy : out.getD k' 0 = y at ca HSET HBS
     go_wp2_with fail
     go_roundw
     case rel => exact ⟨k', y, by go_num, by omega, by omega, HSET.out, HBS.out⟩
     case measure => simp [intOf]
    have hkp2 : k = pos := by omega
    subst hkp2
    have cf := own_frozen hown k
    obtain ⟨u, cb⟩ := own_some hown k (by omega)
    have hset := own_set hown k (.int .i64 ((n + dq : Nat) : Int))
    rw [icN_set, shift_set out k x _ (by omega)] at hset
    have hbs := hbel.setCell hDg (p := ⟨g, k, none⟩) (.int .i64 ((n + dq : Nat) : Int))
    rw [show ((n + dq : Nat) : Int) = (n : Int) + (dq : Int) by omega] at hset hbs
    have HSET : Hid ((wr.setCell ⟨g, k, none⟩ (.int .i64 ((n : Int) + (dq : Int)))).ownsRow (w.heap.size + 1) 3 1 (.slice (some ⟨g, 0, none⟩) (out.length + 1) cp) (out.length + 1) (icN (out.take k ++ (n + dq) :: out.drop k))) := hset
    have HBS : Hid (Below (w.heap.size + 1) w0 (wr.setCell ⟨g, k, none⟩ (.int .i64 ((n : Int) + (dq : Int))))) := hbs
    clear hset hbs hown hbel
    go_wp2_with fail
    go_roundw
    case rel => exact ⟨f', next, n + dq, k + 1, _, insAt k (n + dq) out, rfl, by go_num, by go_num, rfl, hx2, by omega, by omega, by rw [insAt_length]; omega, by rw [insAt_length]; omega, hal, by rw [← HX3.out]; exact HRW.out, by rw [insAt_length]; exact HSET.out, HBS.out⟩
    case measure => simp [intOf]; omega
  have HRC : Hid (rawC (sN s) = some out) := by
   show _ = _
   rw [← HE.out, sN_end s q (by omega)]
   cases f <;> rfl
  have HDY : Hid ((⟨(b8 (encC out)).toArray⟩ : ByteArray) = s → encOk out = true → decC (sN s) = some out) := by
   intro h1 h2
   unfold decC
   rw [HRC.out]
   exact if_pos ⟨h2, (sN_eq s _ (fun c hc => by have := enc_ascii c hc; omega)).1 h1⟩
  have HDN : Hid (¬ ((⟨(b8 (encC out)).toArray⟩ : ByteArray) = s ∧ encOk out = true) → decC (sN s) = none) := by
   intro h1
   unfold decC
   rw [HRC.out]
   exact if_neg (fun h => h1 ⟨(sN_eq s _ (fun c hc => by have := enc_ascii c hc; omega)).2 h.2, h.1⟩)
  rcases own_shape HOW.out with ⟨hz, hnil, ao2, cp2, hv⟩ | ⟨hpos, g, cp2, hv⟩
  ·have ho : out = [] := List.eq_nil_of_length_eq_zero hz
   subst ho
   have CE : Hid (CB 88 #[u5] wr (.tuple #[.string ⟨#[]⟩, .bool true])) := by rw [hv]; exact specPunyEncode_nil ao2 cp2 wr
   have HDY2 : Hid ((⟨#[]⟩ : ByteArray) = s → decC (sN s) = some []) := fun h => HDY.out h rfl
   have HDN2 : Hid (¬ (⟨#[]⟩ : ByteArray) = s → decC (sN s) = none) := fun h => HDN.out (fun h2 => h h2.1)
   clear hv hnil hu HDY HDN
   generalize (⟨#[]⟩ : ByteArray) = T at CE HDY2 HDN2
   by_cases hse : T = s
   ·have HD : Hid (decC (sN s) = some []) := HDY2.out hse
    clear HDY2 HDN2
    subst hse
    go_wp2_with fail
    refine CE.out.mono ?_
    rintro e w2 ⟨rfl, b2⟩
    have O2 := own_below HOW.out b2
    have B2 : Below (w.heap.size + 1) w0 w2 := HBL.out.trans (b2.mono hszr)
    go_wp2_with fail
    go_ret2
    exact ⟨decAns_some HD.out (own_wide O2 (by omega)) rfl, HB0.out _ B2⟩
   have HD : Hid (decC (sN s) = none) := HDN2.out hse
   have hneq : (T.toList == s.toList) = false := str_ne hse
   clear HDY2 HDN2
   go_wp2_with fail
   refine CE.out.mono ?_
   rintro e w2 ⟨rfl, b2⟩
   have B2 : Below (w.heap.size + 1) w0 w2 := HBL.out.trans (b2.mono hszr)
   go_wp2_with fail
   go_ret2
   exact ⟨decAns_none HD.out (HNO.out _ B2) rfl, HB0.out _ B2⟩
  cases hok : encOk out with
  | true =>
   have CE : Hid (CB 88 #[u5] wr (.tuple #[.string ⟨(b8 (encC out)).toArray⟩, .bool true])) := by
    have h1 := HOW.out
    rw [hv] at h1 ⊢
    exact specPunyEncode_yes out _ g cp2 _ wr hok rfl h1
   have HDY2 : Hid ((⟨(b8 (encC out)).toArray⟩ : ByteArray) = s → decC (sN s) = some out) := fun h => HDY.out h hok
   have HDN2 : Hid (¬ (⟨(b8 (encC out)).toArray⟩ : ByteArray) = s → decC (sN s) = none) := fun h => HDN.out (fun h2 => h h2.1)
   clear hv hu HDY HDN
   generalize (⟨(b8 (encC out)).toArray⟩ : ByteArray) = T at CE HDY2 HDN2
   by_cases hse : T = s
   ·have HD : Hid (decC (sN s) = some out) := HDY2.out hse
    clear HDY2 HDN2
    subst hse
    go_wp2_with fail
    refine CE.out.mono ?_
    rintro e w2 ⟨rfl, b2⟩
    have O2 := own_below HOW.out b2
    have B2 : Below (w.heap.size + 1) w0 w2 := HBL.out.trans (b2.mono hszr)
    go_wp2_with fail
    go_ret2
    exact ⟨decAns_some HD.out (own_wide O2 (by omega)) rfl, HB0.out _ B2⟩
   have HD : Hid (decC (sN s) = none) := HDN2.out hse
   have hneq : (T.toList == s.toList) = false := str_ne hse
   clear HDY2 HDN2
   go_wp2_with fail
   refine CE.out.mono ?_
   rintro e w2 ⟨rfl, b2⟩
   have B2 : Below (w.heap.size + 1) w0 w2 := HBL.out.trans (b2.mono hszr)
   go_wp2_with fail
   go_ret2
   exact ⟨decAns_none HD.out (HNO.out _ B2) rfl, HB0.out _ B2⟩
  | false =>
   have HD : Hid (decC (sN s) = none) := HDN.out (fun h2 => by rw [hok] at h2; cases h2.2)
   have CE : Hid (CB 88 #[u5] wr (.tuple #[.string ⟨#[]⟩, .bool false])) := by
    have h1 := HOW.out
    rw [hv] at h1 ⊢
    exact specPunyEncode_no (out.map fun (c : Nat) => (c : Int)) _ g cp2 _ wr (fun h => by rw [encOk_Z.2 h] at hok; cases hok) (by simp) (by omega) h1
   clear hv hu HDY HDN hok
   go_wp2_with fail
   refine CE.out.mono ?_
   rintro e w2 ⟨rfl, b2⟩
   have B2 : Below (w.heap.size + 1) w0 w2 := HBL.out.trans (b2.mono hszr)
   go_wp2_with fail
   go_ret2
   exact ⟨decAns_none HD.out (HNO.out _ B2) rfl, HB0.out _ B2⟩
 have hk0i : (k0 : Int) < (s.size : Int) := by omega
 have HST : Hid (rawL k0 s.size (((sN s).drop (k0 + 1)).map valB) 128 0 72 ((sN s).take k0) = rawC (sN s)) := by
  show _ = _
  unfold rawC headD tailD
  rw [hsp]
  simp only
  rw [List.length_take, sN_length, Nat.min_eq_left (by omega)]
 have HO0 : Hid ((w0.alloc (.cells #[] 3)).ownsRow (w.heap.size + 1) 3 1 (.slice (some ⟨w0.heap.size, 0, none⟩) 0 0) ([] : List Nat).length (icN [])) := World.ownsRow_lit w0 #[] 0 (by rw [HZ.out]; exact Nat.le_refl _) (by decide) rfl
 have HBB : Hid (Below (w.heap.size + 1) w0 (w0.alloc (.cells #[] 3))) := (Below.refl _ _).alloc (by rw [HZ.out]; exact Nat.le_refl _) _
 clear hsp hw0
 go_wp2_with fail
 go_loopw [5, 7] (fun v i wr => ∃ j : Nat, j ≤ k0 ∧ i = .int .i64 j ∧ wr.ownsRow (w.heap.size + 1) 3 1 v j (icN ((sN s).take j)) ∧ Below (w.heap.size + 1) w0 wr) (fun _ i _ => k0 - (intOf i).toNat)
 case atStart => exact ⟨0, Nat.zero_le _, rfl, HO0.out, HBB.out⟩
 clear HO0 HBB
 obtain ⟨j, hj, rfl, hown, hbel⟩ := hrel
 have hsz0 : w.heap.size + 1 ≤ wr.heap.size := by have := hbel.size; have := HZ.out; omega
 by_cases hlt0 : j < k0
 ·have hjs : j < s.size := by omega
  obtain ⟨d, hd⟩ : ∃ d : Nat, s[j].toNat = d := ⟨_, rfl⟩
  have hd1 : (d : Int) ≤ 255 := by have := s[j].toNat_lt; omega
  have HS : Hid ((sN s).take (j + 1) = (sN s).take j ++ [d]) := by
   show _ = _
   rw [List.take_succ_eq_append_getElem (by rw [sN_length]; exact hjs)]
   congr 2
   unfold sN
   rw [List.getElem_map]
   exact hd
  go_wp2_with (at_builtin; refine wpList_append_new _ rfl _ _ 57 rfl (w.heap.size + 1) 3 (.int .i64 0) 8 Tryz.underlying57 Tryz.infoI rfl _ _ _ rfl hown #[.int .i64 (d : Int)] 1 rfl rfl (by intro u hu; simp at hu; subst hu; rfl) (by omega) (by unfold maxLen; omega) (by omega) ?_)
  intro v' w1 hown' hb1
  have R : w1.ownsRow (w.heap.size + 1) 3 1 v' (j + 1) (icN ((sN s).take (j + 1))) := by rw [HS.out, icN_snoc]; exact hown'
  have B1 : Below (w.heap.size + 1) w0 w1 := hbel.trans hb1
  clear hown' hb1 hown hbel
  go_wp2_with fail
  go_roundw
  case rel => exact ⟨j + 1, by omega, by go_num, R, B1⟩
  case measure => simp [intOf]; omega
 have hjk : j = k0 := by omega
 subst hjk
 have HO1 : Hid (wr.ownsRow (w.heap.size + 1) 3 1 u5 ((sN s).take j).length (icN ((sN s).take j))) := by
  show World.ownsRow _ _ _ _ _ _ _
  rw [show ((sN s).take j).length = j by rw [List.length_take, sN_length]; omega]
  exact hown
 have HB1 : Hid (Below (w.heap.size + 1) w0 wr) := hbel
 have hl1 : ((sN s).take j).length ≤ 600 := by rw [List.length_take, sN_length]; omega
 clear hown hbel hsz0
 generalize (sN s).take j = out1 at HO1 HST hl1
 go_wp2_with fail
 go_loopw [5, 8, 9, 10, 11] (fun v a b c e wr => ∃ (f q n i bi : Nat) (out : List Nat), a = .int .i64 q ∧ b = .int .i64 n ∧ c = .int .i64 i ∧ e = .int .i64 bi ∧ q ≤ s.size ∧ s.size ≤ q + f ∧ n ≤ 1114111 ∧ i ≤ out.length ∧ out.length ≤ 700 ∧ bi ≤ 2400 ∧ rawL j f (((sN s).drop q).map valB) n i bi out = rawC (sN s) ∧ wr.ownsRow (w.heap.size + 1) 3 1 v out.length (icN out) ∧ Below (w.heap.size + 1) w0 wr)
  (fun _ a _ _ _ _ => s.size - (intOf a).toNat)
 case atStart => exact ⟨s.size, j + 1, 128, 0, 72, out1, by go_num, rfl, rfl, rfl, by omega, by omega, by omega, by first | omega | simp, by first | omega | simp, by omega, HST.out, HO1.out, HB1.out⟩
 clear HO1 HB1 HST
 obtain ⟨f, q, n, i, bi, out, rfl, rfl, rfl, rfl, hq, hf, hn, hi, hol, hbi, he, hown, hbel⟩ := hrel
 have HOW : Hid (wr.ownsRow (w.heap.size + 1) 3 1 u5 out.length (icN out)) := hown
 have HBL : Hid (Below (w.heap.size + 1) w0 wr) := hbel
 have hszr : w.heap.size + 1 ≤ wr.heap.size := by have := hbel.size; have := HZ.out; omega
 have HE : Hid (rawL j f (((sN s).drop q).map valB) n i bi out = rawC (sN s)) := he
 obtain ⟨ao, cp0, hu⟩ := own_slice hown
 clear hown hbel he
 by_cases hlt : q < s.size
 ·subst hu
  obtain ⟨f', rfl⟩ : ∃ j, f = j + 1 := ⟨f - 1, by omega⟩
  have crd := specRead s q bi wr hs600 hq (by omega)
  cases hrd : readL bi 36 0 1 (((sN s).drop q).map valB) with
  | none =>
   have HDN : Hid (decC (sN s) = none) := by
    have h1 := HE.out
    rw [sN_drop s q hlt, List.map_cons] at h1 hrd
    rw [rawL, hrd] at h1
    show _ = _
    unfold decC
    rw [← h1]
   have CRD : Hid (CS 104 #[.string s, .int .i64 (q : Int), .int .i64 (bi : Int)] wr (.tuple #[.int .i64 0, .int .i64 0, .bool false])) := crd.mono fun e w' ⟨h1, h2⟩ => ⟨by unfold readAns at h1; rw [hrd] at h1; exact h1, h2⟩
   clear crd hrd
   go_wp2_with fail
   refine CRD.out.mono ?_
   rintro e wx ⟨rfl, rfl⟩
   go_wp2_with fail
   go_ret2
   exact ⟨decAns_none HDN.out (HNO.out _ HBL.out) rfl, HB0.out _ HBL.out⟩
  | some mr =>
   obtain ⟨more, rest⟩ := mr
   have hmore := readL_le bi _ _ _ _ _ _ hrd
   have CRD : Hid (Calls Tryz.prog 104 #[.string s, .int .i64 (q : Int), .int .i64 (bi : Int)] wr fun e w' => (∃ next : Nat, q < next ∧ next ≤ s.size ∧ rest = ((sN s).drop next).map valB ∧ e = .returned (.tuple #[.int .i64 (more : Int), .int .i64 (next : Int), .bool true])) ∧ wr = w') := crd.mono fun e w' ⟨h1, h2⟩ => ⟨by unfold readAns at h1; rw [hrd] at h1; exact h1, h2⟩
   have hc3 : ((out.length + 1 : Nat) : Int) = (out.length : Int) + 1 := by omega
   have hdq1 : (i + more) / (out.length + 1) ≤ i + more := Nat.div_le_self _ _
   have hps1 : (i + more) % (out.length + 1) < out.length + 1 := Nat.mod_lt _ (by omega)
   have hQ : ((i : Int) + (more : Int)) / ((out.length : Int) + 1) = (((i + more) / (out.length + 1) : Nat) : Int) := by norm_cast
   have hM : ((i : Int) + (more : Int)) % ((out.length : Int) + 1) = (((i + more) % (out.length + 1) : Nat) : Int) := by norm_cast
   have HRAW : Hid ((if 60 < out.length + 1 ∨ 1114111 < n + (i + more) / (out.length + 1) then none else rawL j f' rest (n + (i + more) / (out.length + 1)) ((i + more) % (out.length + 1) + 1) (adaptN more (out.length + 1) (out.length == j)) (insAt ((i + more) % (out.length + 1)) (n + (i + more) / (out.length + 1)) out)) = rawC (sN s)) := by
    have h1 := HE.out
    rw [sN_drop s q hlt, List.map_cons] at h1 hrd
    rw [rawL, hrd] at h1
    exact h1
   clear crd hrd hc3
   generalize (i + more) / (out.length + 1) = dq at hQ HRAW hdq1
   generalize (i + more) % (out.length + 1) = pos at hM HRAW hps1
   have hnz : ¬ (out.length : Int) + 1 = 0 := by omega
   by_cases h60 : 60 < (out.length : Int) + 1
   ·have HDN : Hid (decC (sN s) = none) := by
     have h1 := HRAW.out
     rw [if_pos (by omega)] at h1
     show _ = _
     unfold decC
     rw [← h1]
    clear HRAW
    go_wp2_with fail
    refine CRD.out.mono ?_
    rintro e wx ⟨⟨next, hx1, hx2, hx3, rfl⟩, rfl⟩
    clear hx3
    go_wp2_with fail
    go_ret2
    exact ⟨decAns_none HDN.out (HNO.out _ HBL.out) rfl, HB0.out _ HBL.out⟩
   by_cases hfb : out.length = j
   ·have CTA : Hid (∀ W, CS 99 #[.int .i64 (more : Int), .int .i64 ((out.length : Int) + 1), .bool true] W (.int .i64 (adaptN more (out.length + 1) true : Int))) := fun W => by
     have h := specAdapt (more : Int) ((out.length : Int) + 1) true W
     rw [adaptZ_in ⟨by omega, by omega⟩, show ((out.length : Int) + 1).toNat = out.length + 1 by omega] at h
     exact h
    have hal := adaptN_le more (out.length + 1) true
    have hf0 : ((out.length : Int) == (j : Int)) = true := beq_iff_eq.2 (by omega)
    have HFQ : Hid ((out.length == j) = true) := by show _ = _; simpa using hfb
    clear hfb
    have HRW : Hid (¬ 1114111 < n + dq → rawL j f' rest (n + dq) (pos + 1) (adaptN more (out.length + 1) true) (insAt pos (n + dq) out) = rawC (sN s)) := by
     intro hno
     have h1 := HRAW.out
     rw [if_neg (by omega), HFQ.out] at h1
     exact h1
    by_cases hnb : 1114111 < (n : Int) + (dq : Int)
    ·have HDN : Hid (decC (sN s) = none) := by
      have h1 := HRAW.out
      rw [if_pos (by omega)] at h1
      show _ = _
      unfold decC
      rw [← h1]
     go_wp2_with fail
     refine CRD.out.mono ?_
     rintro e wx ⟨⟨next, hx1, hx2, hx3, rfl⟩, rfl⟩
     have HX3 : Hid (rest = ((sN s).drop next).map valB) := hx3
     clear hx3
     go_wp2_with fail
     refine (CTA.out _).mono ?_
     rintro e wx ⟨rfl, rfl⟩
     go_wp2_with fail
     go_ret2
     exact ⟨decAns_none HDN.out (HNO.out _ HBL.out) rfl, HB0.out _ HBL.out⟩
    have HRW : Hid (rawL j f' rest (n + dq) (pos + 1) (adaptN more (out.length + 1) true) (insAt pos (n + dq) out) = rawC (sN s)) := HRW.out (by omega)
    go_wp2_with fail
    refine CRD.out.mono ?_
    rintro e wx ⟨⟨next, hx1, hx2, hx3, rfl⟩, rfl⟩
    have HX3 : Hid (rest = ((sN s).drop next).map valB) := hx3
    clear hx3
    go_wp2_with fail
    refine (CTA.out _).mono ?_
    rintro e wx ⟨rfl, rfl⟩
    go_wp2_with (at_builtin; refine wpList_append_new _ rfl _ _ 57 rfl (w.heap.size + 1) 3 (.int .i64 0) 8 Tryz.underlying57 Tryz.infoI rfl _ _ _ rfl HOW.out #[.int .i64 0] 1 rfl rfl (by intro u hu; simp at hu; subst hu; rfl) (by omega) (by unfold maxLen; omega) (by omega) ?_)
    intro v' w1 hown' hb1
    have B1 : Below (w.heap.size + 1) w0 w1 := HBL.out.trans hb1
    have O1 : w1.ownsRow (w.heap.size + 1) 3 1 v' (out.length + 1) (icN (out ++ [0])) := by rw [icN_snoc]; exact hown'
    clear hown' hb1
    rcases own_shape O1 with ⟨hz, _⟩ | ⟨_, g, cp, rfl⟩
    ·omega
    have hDg := own_block O1
    go_wp2_with fail
    go_loopw [16] (fun a wi => ∃ (k x : Nat), a = .int .i64 k ∧ pos ≤ k ∧ k ≤ out.length ∧ wi.ownsRow (w.heap.size + 1) 3 1 (.slice (some ⟨g, 0, none⟩) (out.length + 1) cp) (out.length + 1) (icN (out.take k ++ x :: out.drop k)) ∧ Below (w.heap.size + 1) w0 wi) (fun a _ => (intOf a).toNat)
    case atStart => exact ⟨out.length, 0, by go_num, by omega, Nat.le_refl _, by simpa using O1, B1⟩
    clear O1 B1
    obtain ⟨k, x, rfl, hk1, hk2, hown, hbel⟩ := hrel
    by_cases hgt : pos < k
    ·obtain ⟨k', rfl⟩ : ∃ j, k = j + 1 := ⟨k - 1, by omega⟩
     have ca := icN_at hown k' (by omega)
     rw [shift_at out k' x (by omega)] at ca
     have cf := own_frozen hown (k' + 1)
     obtain ⟨u, cb⟩ := own_some hown (k' + 1) (by omega)
     have hset := own_set hown (k' + 1) (.int .i64 (out.getD k' 0 : Int))
     rw [icN_set, shift_set out (k' + 1) x _ (by omega), shift_down out k' (by omega)] at hset
     have HSET : Hid ((wr.setCell ⟨g, k' + 1, none⟩ (.int .i64 (out.getD k' 0 : Int))).ownsRow (w.heap.size + 1) 3 1 (.slice (some ⟨g, 0, none⟩) (out.length + 1) cp) (out.length + 1) (icN (out.take k' ++ out.getD k' 0 :: out.drop k'))) := hset
     have HBS : Hid (Below (w.heap.size + 1) w0 (wr.setCell ⟨g, k' + 1, none⟩ (.int .i64 (out.getD k' 0 : Int)))) := hbel.setCell hDg _
     clear hset hown hbel
     generalize hy : out.getD k' 0 = y at ca HSET HBS
     go_wp2_with fail
     go_roundw
     case rel => exact ⟨k', y, by go_num, by omega, by omega, HSET.out, HBS.out⟩
     case measure => simp [intOf]
    have hkp2 : k = pos := by omega
    subst hkp2
    have cf := own_frozen hown k
    obtain ⟨u, cb⟩ := own_some hown k (by omega)
    have hset := own_set hown k (.int .i64 ((n + dq : Nat) : Int))
    rw [icN_set, shift_set out k x _ (by omega)] at hset
    have hbs := hbel.setCell hDg (p := ⟨g, k, none⟩) (.int .i64 ((n + dq : Nat) : Int))
    rw [show ((n + dq : Nat) : Int) = (n : Int) + (dq : Int) by omega] at hset hbs
    have HSET : Hid ((wr.setCell ⟨g, k, none⟩ (.int .i64 ((n : Int) + (dq : Int)))).ownsRow (w.heap.size + 1) 3 1 (.slice (some ⟨g, 0, none⟩) (out.length + 1) cp) (out.length + 1) (icN (out.take k ++ (n + dq) :: out.drop k))) := hset
    have HBS : Hid (Below (w.heap.size + 1) w0 (wr.setCell ⟨g, k, none⟩ (.int .i64 ((n : Int) + (dq : Int))))) := hbs
    clear hset hbs hown hbel
    go_wp2_with fail
    go_roundw
    case rel => exact ⟨f', next, n + dq, k + 1, _, insAt k (n + dq) out, rfl, by go_num, by go_num, rfl, hx2, by omega, by omega, by rw [insAt_length]; omega, by rw [insAt_length]; omega, hal, by rw [← HX3.out]; exact HRW.out, by rw [insAt_length]; exact HSET.out, HBS.out⟩
    case measure => simp [intOf]; omega
   have CTA : Hid (∀ W, CS 99 #[.int .i64 (more : Int), .int .i64 ((out.length : Int) + 1), .bool false] W (.int .i64 (adaptN more (out.length + 1) false : Int))) := fun W => by
    have h := specAdapt (more : Int) ((out.length : Int) + 1) false W
    rw [adaptZ_in ⟨by omega, by omega⟩, show ((out.length : Int) + 1).toNat = out.length + 1 by omega] at h
    exact h
   have hal := adaptN_le more (out.length + 1) false
   have hf0 : ((out.length : Int) == (j : Int)) = false := beq_eq_false_iff_ne.2 (by omega)
   have hkp : ¬ (j : Int) < 0 := by omega
   have HFQ : Hid ((out.length == j) = false) := by show _ = _; simpa using hfb
   clear hfb
   have HRW : Hid (¬ 1114111 < n + dq → rawL j f' rest (n + dq) (pos + 1) (adaptN more (out.length + 1) false) (insAt pos (n + dq) out) = rawC (sN s)) := by
    intro hno
    have h1 := HRAW.out
    rw [if_neg (by omega), HFQ.out] at h1
    exact h1
   by_cases hnb : 1114111 < (n : Int) + (dq : Int)
   ·have HDN : Hid (decC (sN s) = none) := by
     have h1 := HRAW.out
     rw [if_pos (by omega)] at h1
     show _ = _
     unfold decC
     rw [← h1]
    go_wp2_with fail
    refine CRD.out.mono ?_
    rintro e wx ⟨⟨next, hx1, hx2, hx3, rfl⟩, rfl⟩
    have HX3 : Hid (rest = ((sN s).drop next).map valB) := hx3
    clear hx3
    go_wp2_with fail
    refine (CTA.out _).mono ?_
    rintro e wx ⟨rfl, rfl⟩
    go_wp2_with fail
    go_ret2
    exact ⟨decAns_none HDN.out (HNO.out _ HBL.out) rfl, HB0.out _ HBL.out⟩
   have HRW : Hid (rawL j f' rest (n + dq) (pos + 1) (adaptN more (out.length + 1) false) (insAt pos (n + dq) out) = rawC (sN s)) := HRW.out (by omega)
   go_wp2_with fail
   refine CRD.out.mono ?_
   rintro e wx ⟨⟨next, hx1, hx2, hx3, rfl⟩, rfl⟩
   have HX3 : Hid (rest = ((sN s).drop next).map valB) := hx3
   clear hx3
   go_wp2_with fail
   refine (CTA.out _).mono ?_
   rintro e wx ⟨rfl, rfl⟩
   go_wp2_with (at_builtin; refine wpList_append_new _ rfl _ _ 57 rfl (w.heap.size + 1) 3 (.int .i64 0) 8 Tryz.underlying57 Tryz.infoI rfl _ _ _ rfl HOW.out #[.int .i64 0] 1 rfl rfl (by intro u hu; simp at hu; subst hu; rfl) (by omega) (by unfold maxLen; omega) (by omega) ?_)
   intro v' w1 hown' hb1
   have B1 : Below (w.heap.size + 1) w0 w1 := HBL.out.trans hb1
   have O1 : w1.ownsRow (w.heap.size + 1) 3 1 v' (out.length + 1) (icN (out ++ [0])) := by rw [icN_snoc]; exact hown'
   clear hown' hb1
   rcases own_shape O1 with ⟨hz, _⟩ | ⟨_, g, cp, rfl⟩
   ·omega
   have hDg := own_block O1
   go_wp2_with fail
   go_loopw [16] (fun a wi => ∃ (k x : Nat), a = .int .i64 k ∧ pos ≤ k ∧ k ≤ out.length ∧ wi.ownsRow (w.heap.size + 1) 3 1 (.slice (some ⟨g, 0, none⟩) (out.length + 1) cp) (out.length + 1) (icN (out.take k ++ x :: out.drop k)) ∧ Below (w.heap.size + 1) w0 wi) (fun a _ => (intOf a).toNat)
   case atStart => exact ⟨out.length, 0, by go_num, by omega, Nat.le_refl _, by simpa using O1, B1⟩
   clear O1 B1
   obtain ⟨k, x, rfl, hk1, hk2, hown, hbel⟩ := hrel
   by_cases hgt : pos < k
   ·obtain ⟨k', rfl⟩ : ∃ j, k = j + 1 := ⟨k - 1, by omega⟩
    have ca := icN_at hown k' (by omega)
    rw [shift_at out k' x (by omega)] at ca
    have cf := own_frozen hown (k' + 1)
    obtain ⟨u, cb⟩ := own_some hown (k' + 1) (by omega)
    have hset := own_set hown (k' + 1) (.int .i64 (out.getD k' 0 : Int))
    rw [icN_set, shift_set out (k' + 1) x _ (by omega), shift_down out k' (by omega)] at hset
    have HSET : Hid ((wr.setCell ⟨g, k' + 1, none⟩ (.int .i64 (out.getD k' 0 : Int))).ownsRow (w.heap.size + 1) 3 1 (.slice (some ⟨g, 0, none⟩) (out.length + 1) cp) (out.length + 1) (icN (out.take k' ++ out.getD k' 0 :: out.drop k'))) := hset
    have HBS : Hid (Below (w.heap.size + 1) w0 (wr.setCell ⟨g, k' + 1, none⟩ (.int .i64 (out.getD k' 0 : Int)))) := hbel.setCell hDg _
    clear hset hown hbel
    generalize hy : out.getD k' 0 = y at ca HSET HBS
    go_wp2_with fail
    go_roundw
    case rel => exact ⟨k', y, by go_num, by omega, by omega, HSET.out, HBS.out⟩
    case measure => simp [intOf]
   have hkp2 : k = pos := by omega
   subst hkp2
   have cf := own_frozen hown k
   obtain ⟨u, cb⟩ := own_some hown k (by omega)
   have hset := own_set hown k (.int .i64 ((n + dq : Nat) : Int))
   rw [icN_set, shift_set out k x _ (by omega)] at hset
   have hbs := hbel.setCell hDg (p := ⟨g, k, none⟩) (.int .i64 ((n + dq : Nat) : Int))
   rw [show ((n + dq : Nat) : Int) = (n : Int) + (dq : Int) by omega] at hset hbs
   have HSET : Hid ((wr.setCell ⟨g, k, none⟩ (.int .i64 ((n : Int) + (dq : Int)))).ownsRow (w.heap.size + 1) 3 1 (.slice (some ⟨g, 0, none⟩) (out.length + 1) cp) (out.length + 1) (icN (out.take k ++ (n + dq) :: out.drop k))) := hset
   have HBS : Hid (Below (w.heap.size + 1) w0 (wr.setCell ⟨g, k, none⟩ (.int .i64 ((n : Int) + (dq : Int))))) := hbs
   clear hset hbs hown hbel
   go_wp2_with fail
   go_roundw
   case rel => exact ⟨f', next, n + dq, k + 1, _, insAt k (n + dq) out, rfl, by go_num, by go_num, rfl, hx2, by omega, by omega, by rw [insAt_length]; omega, by rw [insAt_length]; omega, hal, by rw [← HX3.out]; exact HRW.out, by rw [insAt_length]; exact HSET.out, HBS.out⟩
   case measure => simp [intOf]; omega
 have HRC : Hid (rawC (sN s) = some out) := by
  show _ = _
  rw [← HE.out, sN_end s q (by omega)]
  cases f <;> rfl
 have HDY : Hid ((⟨(b8 (encC out)).toArray⟩ : ByteArray) = s → encOk out = true → decC (sN s) = some out) := by
  intro h1 h2
  unfold decC
  rw [HRC.out]
  exact if_pos ⟨h2, (sN_eq s _ (fun c hc => by have := enc_ascii c hc; omega)).1 h1⟩
 have HDN : Hid (¬ ((⟨(b8 (encC out)).toArray⟩ : ByteArray) = s ∧ encOk out = true) → decC (sN s) = none) := by
  intro h1
  unfold decC
  rw [HRC.out]
  exact if_neg (fun h => h1 ⟨(sN_eq s _ (fun c hc => by have := enc_ascii c hc; omega)).2 h.2, h.1⟩)
 rcases own_shape HOW.out with ⟨hz, hnil, ao2, cp2, hv⟩ | ⟨hpos, g, cp2, hv⟩
 ·have ho : out = [] := List.eq_nil_of_length_eq_zero hz
  subst ho
  have CE : Hid (CB 88 #[u5] wr (.tuple #[.string ⟨#[]⟩, .bool true])) := by rw [hv]; exact specPunyEncode_nil ao2 cp2 wr
  have HDY2 : Hid ((⟨#[]⟩ : ByteArray) = s → decC (sN s) = some []) := fun h => HDY.out h rfl
  have HDN2 : Hid (¬ (⟨#[]⟩ : ByteArray) = s → decC (sN s) = none) := fun h => HDN.out (fun h2 => h h2.1)
  clear hv hnil hu HDY HDN
  generalize (⟨#[]⟩ : ByteArray) = T at CE HDY2 HDN2
  by_cases hse : T = s
  ·have HD : Hid (decC (sN s) = some []) := HDY2.out hse
   clear HDY2 HDN2
   subst hse
   go_wp2_with fail
   refine CE.out.mono ?_
   rintro e w2 ⟨rfl, b2⟩
   have O2 := own_below HOW.out b2
   have B2 : Below (w.heap.size + 1) w0 w2 := HBL.out.trans (b2.mono hszr)
   go_wp2_with fail
   go_ret2
   exact ⟨decAns_some HD.out (own_wide O2 (by omega)) rfl, HB0.out _ B2⟩
  have HD : Hid (decC (sN s) = none) := HDN2.out hse
  have hneq : (T.toList == s.toList) = false := str_ne hse
  clear HDY2 HDN2
  go_wp2_with fail
  refine CE.out.mono ?_
  rintro e w2 ⟨rfl, b2⟩
  have B2 : Below (w.heap.size + 1) w0 w2 := HBL.out.trans (b2.mono hszr)
  go_wp2_with fail
  go_ret2
  exact ⟨decAns_none HD.out (HNO.out _ B2) rfl, HB0.out _ B2⟩
 cases hok : encOk out with
 | true =>
  have CE : Hid (CB 88 #[u5] wr (.tuple #[.string ⟨(b8 (encC out)).toArray⟩, .bool true])) := by
   have h1 := HOW.out
   rw [hv] at h1 ⊢
   exact specPunyEncode_yes out _ g cp2 _ wr hok rfl h1
  have HDY2 : Hid ((⟨(b8 (encC out)).toArray⟩ : ByteArray) = s → decC (sN s) = some out) := fun h => HDY.out h hok
  have HDN2 : Hid (¬ (⟨(b8 (encC out)).toArray⟩ : ByteArray) = s → decC (sN s) = none) := fun h => HDN.out (fun h2 => h h2.1)
  clear hv hu HDY HDN
  generalize (⟨(b8 (encC out)).toArray⟩ : ByteArray) = T at CE HDY2 HDN2
  by_cases hse : T = s
  ·have HD : Hid (decC (sN s) = some out) := HDY2.out hse
   clear HDY2 HDN2
   subst hse
   go_wp2_with fail
   refine CE.out.mono ?_
   rintro e w2 ⟨rfl, b2⟩
   have O2 := own_below HOW.out b2
   have B2 : Below (w.heap.size + 1) w0 w2 := HBL.out.trans (b2.mono hszr)
   go_wp2_with fail
   go_ret2
   exact ⟨decAns_some HD.out (own_wide O2 (by omega)) rfl, HB0.out _ B2⟩
  have HD : Hid (decC (sN s) = none) := HDN2.out hse
  have hneq : (T.toList == s.toList) = false := str_ne hse
  clear HDY2 HDN2
  go_wp2_with fail
  refine CE.out.mono ?_
  rintro e w2 ⟨rfl, b2⟩
  have B2 : Below (w.heap.size + 1) w0 w2 := HBL.out.trans (b2.mono hszr)
  go_wp2_with fail
  go_ret2
  exact ⟨decAns_none HD.out (HNO.out _ B2) rfl, HB0.out _ B2⟩
 | false =>
  have HD : Hid (decC (sN s) = none) := HDN.out (fun h2 => by rw [hok] at h2; cases h2.2)
  have CE : Hid (CB 88 #[u5] wr (.tuple #[.string ⟨#[]⟩, .bool false])) := by
   have h1 := HOW.out
   rw [hv] at h1 ⊢
   exact specPunyEncode_no (out.map fun (c : Nat) => (c : Int)) _ g cp2 _ wr (fun h => by rw [encOk_Z.2 h] at hok; cases hok) (by simp) (by omega) h1
  clear hv hu HDY HDN hok
  go_wp2_with fail
  refine CE.out.mono ?_
  rintro e w2 ⟨rfl, b2⟩
  have B2 : Below (w.heap.size + 1) w0 w2 := HBL.out.trans (b2.mono hszr)
  go_wp2_with fail
  go_ret2
  exact ⟨decAns_none HD.out (HNO.out _ B2) rfl, HB0.out _ B2⟩
end Go.Proofs.YtidecdlaeomfoaaGreat
