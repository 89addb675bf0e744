/- Loose4Walk, TxtOne. -/
import Derived.Test.YtidecdlaeomfoaaGreatQA09
set_option maxHeartbeats 8000000
set_option maxRecDepth 20000
namespace Go.Proofs.YtidecdlaeomfoaaGreat
open Go.RowKit
set_option linter.unusedSimpArgs false
theorem drop_bytes (fs : List ByteArray) (k : Nat) (h : k < fs.length) : fs.drop k = fs.getD k ByteArray.empty :: fs.drop (k + 1) := by
 rw [List.drop_eq_getElem_cons h]
 simp [List.getD, h]
theorem lo_end (fs : List ByteArray) (k n r : Nat) (h : ¬ k < fs.length) : loF n r ((fs.drop k).map toL) = none := by
 rw [List.drop_of_length_le (by omega)]; rfl
theorem lo_last (fs : List ByteArray) (k n r : Nat) (h : k + 1 = fs.length) : loF n r ((fs.drop k).map toL) = match looseP (toL (fs.getD k ByteArray.empty)) with
  | none => none
  | some v => if v < r then some (n * r + v) else none := by
 rw [drop_bytes fs k (by omega), List.drop_of_length_le (by omega)]
 rfl
theorem lo_step (fs : List ByteArray) (k n r : Nat) (h : k + 1 < fs.length) : loF n r ((fs.drop k).map toL) = match looseP (toL (fs.getD k ByteArray.empty)) with
  | none => none
  | some v => if v < 256 then loF (n * 256 + v) (r / 256) ((fs.drop (k + 1)).map toL) else none := by
 rw [drop_bytes fs k (by omega), drop_bytes fs (k + 1) h]
 rfl
theorem lo_over {fs : List ByteArray} (h : 4 < fs.length) : lo4 (fs.map toL) = none := by
 unfold lo4
 rw [if_neg (by simp; omega)]
theorem lo_in {fs : List ByteArray} (h : fs.length ≤ 4) : lo4 (fs.map toL) = loF 0 4294967296 (fs.map toL) := by
 unfold lo4
 rw [if_pos (by simpa using h)]
theorem mem_getD {fs : List ByteArray} {k : Nat} (h : k < fs.length) : fs.getD k ByteArray.empty ∈ fs := by
 rw [List.getD_eq_getElem?_getD, List.getElem?_eq_getElem h]
 exact List.getElem_mem h
theorem pow256 {k : Nat} (h : k ≤ 3) : 256 ^ k ≤ 16777216 := Nat.pow_le_pow_right (n := 256) (j := 3) (by decide) h
theorem specLooseIp4 (s : ByteArray) (w : World) (hs : s.size ≤ 1048576) :
  Calls Tryz.prog 62 #[.string s] w fun e w' => e = .returned (numA (loA s)) ∧ Below w.heap.size w w' := by
 have CF : Hid (Calls Tryz.prog 74 #[.string s, .int .u8 46] w fun e w' => ∃ v, e = .returned v ∧ w'.ownsRow w.heap.size 9 1 v (fieldsL s 46).length (scells (fieldsL s 46)) ∧ Below w.heap.size w w') := specFields s 46 w hs
 have hpos : 0 < (fieldsL s 46).length := by simp [fieldsL]
 have hlen : (fieldsL s 46).length ≤ 1048577 := by
  have := (fieldsTo_le s 46 s.size).2
  simp [fieldsL]; omega
 have HSZ0 : Hid (∀ x ∈ fieldsL s 46, x.size ≤ 1048576) := fields_sizes46 s hs
 have HNM0 : Hid (loA s = lo4 ((dropE (fieldsL s 46)).map toL)) := rfl
 generalize fieldsL s 46 = f0 at CF hpos hlen HSZ0 HNM0
 go_enter Tryz.func62, Tryz.ntmps62
 go_wp2_with fail
 refine CF.out.mono ?_
 rintro e wa ⟨va, rfl, oa, ba⟩
 rcases own_shape oa with ⟨h, _⟩ | ⟨_, g, cap, rfl⟩
 ·omega
 have hc := scell_at oa (f0.length - 1) (by omega)
 have hcap := own_cap oa
 have hi : ((f0.length : Int) - 1) = ((f0.length - 1 : Nat) : Int) := by omega
 have OA : Hid (wa.ownsRow w.heap.size 9 1 (.slice (some ⟨g, 0, none⟩) f0.length cap) f0.length (scells f0)) := oa
 have HP : Hid (0 < f0.length ∧ f0.length ≤ 1048577) := ⟨hpos, hlen⟩
 clear oa CF
 obtain ⟨b, hb⟩ : ∃ b, decide (1 < f0.length ∧ (f0.getD (f0.length - 1) ByteArray.empty).size = 0) = b := ⟨_, rfl⟩
 have HB : Hid (decide (1 < f0.length ∧ (f0.getD (f0.length - 1) ByteArray.empty).size = 0) = b) := hb
 clear hb
 go_upto_region 2 with fail
 go_cut [22] (fun v wx => v = .bool b ∧ wx = wa)
 case first =>
  by_cases hl1 : 1 < f0.length
  ·have hl1' : 1 < (f0.length : Int) := by omega
   by_cases hz : (f0.getD (f0.length - 1) ByteArray.empty).size = 0
   ·have hem := empty_yes hz
    have HT : Hid (b = true) := HB.out.symm.trans (decide_eq_true ⟨hl1, hz⟩)
    generalize f0.getD (f0.length - 1) ByteArray.empty = q at hc hem
    clear hz
    go_wp2_with fail
    go_meet
    exact ⟨by rw [HT.out], rfl⟩
   have hem := empty_no (u := f0.getD (f0.length - 1) ByteArray.empty) (by omega)
   have HT : Hid (b = false) := HB.out.symm.trans (decide_eq_false fun h => hz h.2)
   generalize f0.getD (f0.length - 1) ByteArray.empty = q at hc hem
   clear hz
   go_wp2_with fail
   go_meet
   exact ⟨by rw [HT.out], rfl⟩
  have hl1' : ¬ 1 < (f0.length : Int) := by omega
  have HT : Hid (b = false) := HB.out.symm.trans (decide_eq_false fun h => hl1 h.1)
  go_wp2_with fail
  go_meet
  exact ⟨by rw [HT.out], rfl⟩
 obtain ⟨rfl, hw⟩ := hcut
 obtain rfl := hw.symm
 clear hc
 go_upto_if 22 with fail
 go_cut [4] (fun v wx => ∃ (fs : List ByteArray) (cap' : Nat), v = .slice (some ⟨g, 0, none⟩) fs.length cap' ∧ wx = wa ∧ wa.ownsRow w.heap.size 9 1 (.slice (some ⟨g, 0, none⟩) fs.length cap') fs.length (scells fs) ∧ Hid (loA s = lo4 (fs.map toL)) ∧ Hid (∀ x ∈ fs, x.size ≤ 1048576) ∧ 1 ≤ fs.length ∧ fs.length ≤ 1048577)
 case first =>
  cases b with
  | true =>
   have hd := of_decide_eq_true HB.out
   have OV := own_take OA.out (f0.length - 1) (by omega)
   rw [scells_take] at OV
   have HNM : Hid (loA s = lo4 ((f0.take (f0.length - 1)).map toL)) := by
    have h := HNM0.out
    unfold dropE at h
    rw [if_pos hd] at h
    exact h
   have HSZ : Hid (∀ x ∈ f0.take (f0.length - 1), x.size ≤ 1048576) := fun x hx => HSZ0.out x (List.mem_of_mem_take hx)
   have hl1 : 1 < (f0.length : Int) := by omega
   have hml : (f0.take (f0.length - 1)).length = f0.length - 1 := by rw [List.length_take]; omega
   obtain ⟨fs, hfs⟩ : ∃ fs, f0.take (f0.length - 1) = fs := ⟨_, rfl⟩
   rw [hfs] at OV HNM HSZ hml
   have HML : Hid (fs.length = f0.length - 1) := hml
   have HOV : Hid (wa.ownsRow w.heap.size 9 1 (.slice (some ⟨g, 0, none⟩) (f0.length - 1) cap) (f0.length - 1) (scells fs)) := OV
   clear hd hfs hml OV
   go_wp2_with fail
   go_meet
   have hp := HP.out
   have hm := HML.out
   exact ⟨fs, cap, by rw [hm], rfl, by rw [hm]; exact HOV.out, HNM, HSZ, by omega, by omega⟩
  | false =>
   have hd := of_decide_eq_false HB.out
   have HNM : Hid (loA s = lo4 (f0.map toL)) := by
    have h := HNM0.out
    unfold dropE at h
    rw [if_neg hd] at h
    exact h
   clear hd
   go_wp2_with fail
   go_meet
   have hp := HP.out
   exact ⟨f0, cap, rfl, rfl, OA.out, HNM, HSZ0, by omega, by omega⟩
 obtain ⟨fs, cap', rfl, hw, OV, HNM, HSZ, hq1, hq2⟩ := hcut
 obtain rfl := hw.symm
 clear OA HP HB HNM0 HSZ0 hi hcap
 by_cases h5 : 4 < fs.length
 ·have HZ : Hid (loA s = none) := by
   show _ = _
   rw [HNM.out, lo_over h5]
  have h5' : 4 < (fs.length : Int) := by omega
  go_wp2_with fail
  go_ret2
  exact ⟨by rw [HZ.out]; rfl, ba⟩
 have h5' : ¬ 4 < (fs.length : Int) := by omega
 go_wp2_with fail
 have hlen2 : 1 ≤ fs.length ∧ fs.length ≤ 4 := by omega
 clear hpos hlen h5' h5 hq1 hq2
 have h4 : fs.length = 1 ∨ fs.length = 2 ∨ fs.length = 3 ∨ fs.length = 4 := by omega
 rcases h4 with hM | hM | hM | hM
 ·have HF : Hid (loA s = loF 0 4294967296 (fs.map toL)) := by
   show _ = _
   rw [HNM.out, lo_in (by omega)]
  have HM : Hid (fs.length = 1) := hM
  rw [hM] at OV ⊢
  simp only [show ((1 : Nat) : Int) = (1 : Int) from rfl, show decide ((4 : Int) < (1 : Int)) = false from by decide, show decide ((1 : Int) < (1 : Int)) = false from by decide, Nat.reduceSub, Int.reduceSub, show ((0 : Nat) : Int) = (0 : Int) from rfl]
  clear hM hlen2
  go_loop [5, 6] (fun x i => ∃ k n : Nat, k ≤ 1 ∧ i = .int .i64 k ∧ x = .int .i64 n ∧ n < 256 ^ k ∧ loF n (4294967296 / 256 ^ k) ((fs.drop k).map toL) = loF 0 4294967296 (fs.map toL)) (fun _ i => 1 - (intOf i).toNat)
  case atStart => exact ⟨0, 0, Nat.zero_le _, rfl, rfl, by decide, rfl⟩
  obtain ⟨k, n, hk, rfl, rfl, hn, hf⟩ := hrel
  have HR : Hid (loF n (4294967296 / 256 ^ k) ((fs.drop k).map toL) = loF 0 4294967296 (fs.map toL)) := hf
  have HN : Hid (n < 256 ^ k) := hn
  clear hf
  have HN2 : Hid (k < 1 → (n : Int) < 16777216) := fun h => by have h2 := pow256 (k := k) (by omega); omega
  clear hn
  by_cases hlt : k < 1
  ·obtain ⟨a, ha⟩ : ∃ a : Int, (n : Int) = a := ⟨_, rfl⟩
   have hn3 : a < 16777216 := by rw [← ha]; exact HN2.out hlt
   have hn0 : 0 ≤ a := by omega
   have HAN : Hid ((n : Int) = a) := ha
   rw [ha]
   clear ha
   have hc := scell_at OV k (by omega)
   have hsy := HSZ.out _ (mem_getD (k := k) (by have := HM.out; omega))
   have CT : Hid (∀ W, CS 78 #[.string (fs.getD k ByteArray.empty)] W (.int .i64 (numZ (looseP (toL (fs.getD k ByteArray.empty)))))) := fun W => specLoose _ W hsy
   have hki : (k : Int) < 1 := by omega
   by_cases hl : k + 1 = 1
   ·have HS : Hid (_ = _) := lo_last fs k n (4294967296 / 256 ^ k) (by have := HM.out; omega)
    obtain rfl : k = 1 - 1 := by omega
    rw [show 4294967296 / 256 ^ (1 - 1) = 4294967296 from by decide] at HS HR
    generalize fs.getD (1 - 1) ByteArray.empty = y at hc CT HS hsy
    clear hl hsy
    cases hv : looseP (toL y) with
    | none =>
     rw [hv] at CT HS
     have HZ : Hid (loA s = none) := by
      show _ = _
      rw [HF.out, ← HR.out, HS.out]
     clear hv
     have hng : (-1 : Int) < 0 := by decide
     go_wp2_with fail
     refine (CT.out _).mono ?_
     rintro e w' ⟨rfl, rfl⟩
     simp only [numZ]
     go_wp2_with fail
     go_ret2
     exact ⟨by rw [HZ.out]; rfl, ba⟩
    | some v =>
     rw [hv] at CT HS
     clear hv
     by_cases hvr : v < 4294967296
     ·have HZ : Hid (loA s = some (n * 4294967296 + v)) := by
       show _ = _
       rw [HF.out, ← HR.out, HS.out]
       exact if_pos hvr
      have hv1 : (v : Int) < 4294967296 := by omega
      have hv0 : ¬ (v : Int) < 0 := by omega
      obtain ⟨x, hx⟩ : ∃ x : Int, (v : Int) = x := ⟨_, rfl⟩
      rw [hx] at hv1 hv0
      have e2 : bits .or .i64 (a * 4294967296) x = a * 4294967296 + x := i64_join 32 _ _ (by omega) (by omega) (by omega) (by omega) (by omega) (by omega)
      have HX : Hid ((v : Int) = x) := hx
      clear hx
      have HV : Hid (v < 4294967296) := hvr
      clear hvr
      go_wp2_with fail
      refine (CT.out _).mono ?_
      rintro e w' ⟨rfl, rfl⟩
      simp only [numZ]
      rw [HX.out]
      go_wp2_with fail
      go_ret2
      exact ⟨by rw [HZ.out]; have h1 := HAN.out; have h2 := HX.out; simp [numA]; omega, ba⟩
     have HZ : Hid (loA s = none) := by
      show _ = _
      rw [HF.out, ← HR.out, HS.out]
      exact if_neg hvr
     have hv1 : ¬ (v : Int) < 4294967296 := by omega
     have hv0 : ¬ (v : Int) < 0 := by omega
     have HV : Hid (¬ v < 4294967296) := hvr
     clear hvr
     go_wp2_with fail
     refine (CT.out _).mono ?_
     rintro e w' ⟨rfl, rfl⟩
     simp only [numZ]
     go_wp2_with fail
     go_ret2
     exact ⟨by rw [HZ.out]; rfl, ba⟩
   exfalso; omega
  have HZ : Hid (loA s = none) := by
   show _ = _
   rw [HF.out, ← HR.out]
   exact lo_end fs k _ _ (by have := HM.out; omega)
  have hki : ¬ (k : Int) < 1 := by omega
  go_wp2_with fail
  go_ret2
  exact ⟨by rw [HZ.out]; rfl, ba⟩
 ·have HF : Hid (loA s = loF 0 4294967296 (fs.map toL)) := by
   show _ = _
   rw [HNM.out, lo_in (by omega)]
  have HM : Hid (fs.length = 2) := hM
  rw [hM] at OV ⊢
  simp only [show ((2 : Nat) : Int) = (2 : Int) from rfl, show decide ((4 : Int) < (2 : Int)) = false from by decide, show decide ((1 : Int) < (2 : Int)) = true from by decide, Nat.reduceSub, Int.reduceSub, show ((1 : Nat) : Int) = (1 : Int) from rfl]
  clear hM hlen2
  go_loop [5, 6] (fun x i => ∃ k n : Nat, k ≤ 2 ∧ i = .int .i64 k ∧ x = .int .i64 n ∧ n < 256 ^ k ∧ loF n (4294967296 / 256 ^ k) ((fs.drop k).map toL) = loF 0 4294967296 (fs.map toL)) (fun _ i => 2 - (intOf i).toNat)
  case atStart => exact ⟨0, 0, Nat.zero_le _, rfl, rfl, by decide, rfl⟩
  obtain ⟨k, n, hk, rfl, rfl, hn, hf⟩ := hrel
  have HR : Hid (loF n (4294967296 / 256 ^ k) ((fs.drop k).map toL) = loF 0 4294967296 (fs.map toL)) := hf
  have HN : Hid (n < 256 ^ k) := hn
  clear hf
  have HN2 : Hid (k < 2 → (n : Int) < 16777216) := fun h => by have h2 := pow256 (k := k) (by omega); omega
  clear hn
  by_cases hlt : k < 2
  ·obtain ⟨a, ha⟩ : ∃ a : Int, (n : Int) = a := ⟨_, rfl⟩
   have hn3 : a < 16777216 := by rw [← ha]; exact HN2.out hlt
   have hn0 : 0 ≤ a := by omega
   have HAN : Hid ((n : Int) = a) := ha
   rw [ha]
   clear ha
   have hc := scell_at OV k (by omega)
   have hsy := HSZ.out _ (mem_getD (k := k) (by have := HM.out; omega))
   have CT : Hid (∀ W, CS 78 #[.string (fs.getD k ByteArray.empty)] W (.int .i64 (numZ (looseP (toL (fs.getD k ByteArray.empty)))))) := fun W => specLoose _ W hsy
   have hki : (k : Int) < 2 := by omega
   by_cases hl : k + 1 = 2
   ·have HS : Hid (_ = _) := lo_last fs k n (4294967296 / 256 ^ k) (by have := HM.out; omega)
    obtain rfl : k = 2 - 1 := by omega
    rw [show 4294967296 / 256 ^ (2 - 1) = 16777216 from by decide] at HS HR
    generalize fs.getD (2 - 1) ByteArray.empty = y at hc CT HS hsy
    clear hl hsy
    cases hv : looseP (toL y) with
    | none =>
     rw [hv] at CT HS
     have HZ : Hid (loA s = none) := by
      show _ = _
      rw [HF.out, ← HR.out, HS.out]
     clear hv
     have hng : (-1 : Int) < 0 := by decide
     go_wp2_with fail
     refine (CT.out _).mono ?_
     rintro e w' ⟨rfl, rfl⟩
     simp only [numZ]
     go_wp2_with fail
     go_ret2
     exact ⟨by rw [HZ.out]; rfl, ba⟩
    | some v =>
     rw [hv] at CT HS
     clear hv
     by_cases hvr : v < 16777216
     ·have HZ : Hid (loA s = some (n * 16777216 + v)) := by
       show _ = _
       rw [HF.out, ← HR.out, HS.out]
       exact if_pos hvr
      have hv1 : (v : Int) < 16777216 := by omega
      have hv0 : ¬ (v : Int) < 0 := by omega
      obtain ⟨x, hx⟩ : ∃ x : Int, (v : Int) = x := ⟨_, rfl⟩
      rw [hx] at hv1 hv0
      have e2 : bits .or .i64 (a * 16777216) x = a * 16777216 + x := i64_join 24 _ _ (by omega) (by omega) (by omega) (by omega) (by omega) (by omega)
      have HX : Hid ((v : Int) = x) := hx
      clear hx
      have HV : Hid (v < 16777216) := hvr
      clear hvr
      go_wp2_with fail
      refine (CT.out _).mono ?_
      rintro e w' ⟨rfl, rfl⟩
      simp only [numZ]
      rw [HX.out]
      go_wp2_with fail
      go_ret2
      exact ⟨by rw [HZ.out]; have h1 := HAN.out; have h2 := HX.out; simp [numA]; omega, ba⟩
     have HZ : Hid (loA s = none) := by
      show _ = _
      rw [HF.out, ← HR.out, HS.out]
      exact if_neg hvr
     have hv1 : ¬ (v : Int) < 16777216 := by omega
     have hv0 : ¬ (v : Int) < 0 := by omega
     have HV : Hid (¬ v < 16777216) := hvr
     clear hvr
     go_wp2_with fail
     refine (CT.out _).mono ?_
     rintro e w' ⟨rfl, rfl⟩
     simp only [numZ]
     go_wp2_with fail
     go_ret2
     exact ⟨by rw [HZ.out]; rfl, ba⟩
   have HS : Hid (_ = _) := lo_step fs k n (4294967296 / 256 ^ k) (by have := HM.out; omega)
   have HL : Hid (k + 1 < 2) := by show _ < _; omega
   have hkq : ((k : Int) == 1) = false := by simp; omega
   generalize fs.getD k ByteArray.empty = y at hc CT HS hsy
   clear hl hsy
   cases hv : looseP (toL y) with
   | none =>
    rw [hv] at CT HS
    have HZ : Hid (loA s = none) := by
     show _ = _
     rw [HF.out, ← HR.out, HS.out]
    clear hv
    go_wp2_with fail
    refine (CT.out _).mono ?_
    rintro e w' ⟨rfl, rfl⟩
    simp only [numZ]
    go_wp2_with fail
    go_ret2
    exact ⟨by rw [HZ.out]; rfl, ba⟩
   | some v =>
    rw [hv] at CT HS
    clear hv
    by_cases hvr : v < 256
    ·have HG : Hid (loF (n * 256 + v) (4294967296 / 256 ^ k / 256) ((fs.drop (k + 1)).map toL) = loF 0 4294967296 (fs.map toL)) := by
      show _ = _
      rw [← HR.out, HS.out]
      exact (if_pos hvr).symm
     have hv1 : ¬ 255 < (v : Int) := by omega
     have hv0 : ¬ (v : Int) < 0 := by omega
     obtain ⟨x, hx⟩ : ∃ x : Int, (v : Int) = x := ⟨_, rfl⟩
     rw [hx] at hv1 hv0
     have e2 : bits .or .i64 (a * 256) x = a * 256 + x := i64_join 8 _ _ (by omega) (by omega) (by omega) (by omega) (by omega) (by omega)
     have HX : Hid ((v : Int) = x) := hx
     clear hx
     have HV : Hid (v < 256) := hvr
     clear hvr
     go_wp2_with fail
     refine (CT.out _).mono ?_
     rintro e w' ⟨rfl, rfl⟩
     simp only [numZ]
     rw [HX.out]
     go_wp2_with fail
     go_round
     case rel =>
      refine ⟨k + 1, n * 256 + v, by have := HL.out; omega, by go_num, by have h1 := HAN.out; have h2 := HX.out; go_num, ?_, ?_⟩
      ·have h1 := HN.out
       have h2 := HV.out
       rw [Nat.pow_succ]; omega
      rw [Nat.pow_succ, ← Nat.div_div_eq_div_mul]
      exact HG.out
     case measure => simp [intOf]; have := HL.out; omega
    have HZ : Hid (loA s = none) := by
     show _ = _
     rw [HF.out, ← HR.out, HS.out]
     exact if_neg hvr
    have hv1 : 255 < (v : Int) := by omega
    have hv0 : ¬ (v : Int) < 0 := by omega
    have HV : Hid (¬ v < 256) := hvr
    clear hvr
    go_wp2_with fail
    refine (CT.out _).mono ?_
    rintro e w' ⟨rfl, rfl⟩
    simp only [numZ]
    go_wp2_with fail
    go_ret2
    exact ⟨by rw [HZ.out]; rfl, ba⟩
  have HZ : Hid (loA s = none) := by
   show _ = _
   rw [HF.out, ← HR.out]
   exact lo_end fs k _ _ (by have := HM.out; omega)
  have hki : ¬ (k : Int) < 2 := by omega
  go_wp2_with fail
  go_ret2
  exact ⟨by rw [HZ.out]; rfl, ba⟩
 ·have HF : Hid (loA s = loF 0 4294967296 (fs.map toL)) := by
   show _ = _
   rw [HNM.out, lo_in (by omega)]
  have HM : Hid (fs.length = 3) := hM
  rw [hM] at OV ⊢
  simp only [show ((3 : Nat) : Int) = (3 : Int) from rfl, show decide ((4 : Int) < (3 : Int)) = false from by decide, show decide ((1 : Int) < (3 : Int)) = true from by decide, Nat.reduceSub, Int.reduceSub, show ((2 : Nat) : Int) = (2 : Int) from rfl]
  clear hM hlen2
  go_loop [5, 6] (fun x i => ∃ k n : Nat, k ≤ 3 ∧ i = .int .i64 k ∧ x = .int .i64 n ∧ n < 256 ^ k ∧ loF n (4294967296 / 256 ^ k) ((fs.drop k).map toL) = loF 0 4294967296 (fs.map toL)) (fun _ i => 3 - (intOf i).toNat)
  case atStart => exact ⟨0, 0, Nat.zero_le _, rfl, rfl, by decide, rfl⟩
  obtain ⟨k, n, hk, rfl, rfl, hn, hf⟩ := hrel
  have HR : Hid (loF n (4294967296 / 256 ^ k) ((fs.drop k).map toL) = loF 0 4294967296 (fs.map toL)) := hf
  have HN : Hid (n < 256 ^ k) := hn
  clear hf
  have HN2 : Hid (k < 3 → (n : Int) < 16777216) := fun h => by have h2 := pow256 (k := k) (by omega); omega
  clear hn
  by_cases hlt : k < 3
  ·obtain ⟨a, ha⟩ : ∃ a : Int, (n : Int) = a := ⟨_, rfl⟩
   have hn3 : a < 16777216 := by rw [← ha]; exact HN2.out hlt
   have hn0 : 0 ≤ a := by omega
   have HAN : Hid ((n : Int) = a) := ha
   rw [ha]
   clear ha
   have hc := scell_at OV k (by omega)
   have hsy := HSZ.out _ (mem_getD (k := k) (by have := HM.out; omega))
   have CT : Hid (∀ W, CS 78 #[.string (fs.getD k ByteArray.empty)] W (.int .i64 (numZ (looseP (toL (fs.getD k ByteArray.empty)))))) := fun W => specLoose _ W hsy
   have hki : (k : Int) < 3 := by omega
   by_cases hl : k + 1 = 3
   ·have HS : Hid (_ = _) := lo_last fs k n (4294967296 / 256 ^ k) (by have := HM.out; omega)
    obtain rfl : k = 3 - 1 := by omega
    rw [show 4294967296 / 256 ^ (3 - 1) = 65536 from by decide] at HS HR
    generalize fs.getD (3 - 1) ByteArray.empty = y at hc CT HS hsy
    clear hl hsy
    cases hv : looseP (toL y) with
    | none =>
     rw [hv] at CT HS
     have HZ : Hid (loA s = none) := by
      show _ = _
      rw [HF.out, ← HR.out, HS.out]
     clear hv
     have hng : (-1 : Int) < 0 := by decide
     go_wp2_with fail
     refine (CT.out _).mono ?_
     rintro e w' ⟨rfl, rfl⟩
     simp only [numZ]
     go_wp2_with fail
     go_ret2
     exact ⟨by rw [HZ.out]; rfl, ba⟩
    | some v =>
     rw [hv] at CT HS
     clear hv
     by_cases hvr : v < 65536
     ·have HZ : Hid (loA s = some (n * 65536 + v)) := by
       show _ = _
       rw [HF.out, ← HR.out, HS.out]
       exact if_pos hvr
      have hv1 : (v : Int) < 65536 := by omega
      have hv0 : ¬ (v : Int) < 0 := by omega
      obtain ⟨x, hx⟩ : ∃ x : Int, (v : Int) = x := ⟨_, rfl⟩
      rw [hx] at hv1 hv0
      have e2 : bits .or .i64 (a * 65536) x = a * 65536 + x := i64_join 16 _ _ (by omega) (by omega) (by omega) (by omega) (by omega) (by omega)
      have HX : Hid ((v : Int) = x) := hx
      clear hx
      have HV : Hid (v < 65536) := hvr
      clear hvr
      go_wp2_with fail
      refine (CT.out _).mono ?_
      rintro e w' ⟨rfl, rfl⟩
      simp only [numZ]
      rw [HX.out]
      go_wp2_with fail
      go_ret2
      exact ⟨by rw [HZ.out]; have h1 := HAN.out; have h2 := HX.out; simp [numA]; omega, ba⟩
     have HZ : Hid (loA s = none) := by
      show _ = _
      rw [HF.out, ← HR.out, HS.out]
      exact if_neg hvr
     have hv1 : ¬ (v : Int) < 65536 := by omega
     have hv0 : ¬ (v : Int) < 0 := by omega
     have HV : Hid (¬ v < 65536) := hvr
     clear hvr
     go_wp2_with fail
     refine (CT.out _).mono ?_
     rintro e w' ⟨rfl, rfl⟩
     simp only [numZ]
     go_wp2_with fail
     go_ret2
     exact ⟨by rw [HZ.out]; rfl, ba⟩
   have HS : Hid (_ = _) := lo_step fs k n (4294967296 / 256 ^ k) (by have := HM.out; omega)
   have HL : Hid (k + 1 < 3) := by show _ < _; omega
   have hkq : ((k : Int) == 2) = false := by simp; omega
   generalize fs.getD k ByteArray.empty = y at hc CT HS hsy
   clear hl hsy
   cases hv : looseP (toL y) with
   | none =>
    rw [hv] at CT HS
    have HZ : Hid (loA s = none) := by
     show _ = _
     rw [HF.out, ← HR.out, HS.out]
    clear hv
    go_wp2_with fail
    refine (CT.out _).mono ?_
    rintro e w' ⟨rfl, rfl⟩
    simp only [numZ]
    go_wp2_with fail
    go_ret2
    exact ⟨by rw [HZ.out]; rfl, ba⟩
   | some v =>
    rw [hv] at CT HS
    clear hv
    by_cases hvr : v < 256
    ·have HG : Hid (loF (n * 256 + v) (4294967296 / 256 ^ k / 256) ((fs.drop (k + 1)).map toL) = loF 0 4294967296 (fs.map toL)) := by
      show _ = _
      rw [← HR.out, HS.out]
      exact (if_pos hvr).symm
     have hv1 : ¬ 255 < (v : Int) := by omega
     have hv0 : ¬ (v : Int) < 0 := by omega
     obtain ⟨x, hx⟩ : ∃ x : Int, (v : Int) = x := ⟨_, rfl⟩
     rw [hx] at hv1 hv0
     have e2 : bits .or .i64 (a * 256) x = a * 256 + x := i64_join 8 _ _ (by omega) (by omega) (by omega) (by omega) (by omega) (by omega)
     have HX : Hid ((v : Int) = x) := hx
     clear hx
     have HV : Hid (v < 256) := hvr
     clear hvr
     go_wp2_with fail
     refine (CT.out _).mono ?_
     rintro e w' ⟨rfl, rfl⟩
     simp only [numZ]
     rw [HX.out]
     go_wp2_with fail
     go_round
     case rel =>
      refine ⟨k + 1, n * 256 + v, by have := HL.out; omega, by go_num, by have h1 := HAN.out; have h2 := HX.out; go_num, ?_, ?_⟩
      ·have h1 := HN.out
       have h2 := HV.out
       rw [Nat.pow_succ]; omega
      rw [Nat.pow_succ, ← Nat.div_div_eq_div_mul]
      exact HG.out
     case measure => simp [intOf]; have := HL.out; omega
    have HZ : Hid (loA s = none) := by
     show _ = _
     rw [HF.out, ← HR.out, HS.out]
     exact if_neg hvr
    have hv1 : 255 < (v : Int) := by omega
    have hv0 : ¬ (v : Int) < 0 := by omega
    have HV : Hid (¬ v < 256) := hvr
    clear hvr
    go_wp2_with fail
    refine (CT.out _).mono ?_
    rintro e w' ⟨rfl, rfl⟩
    simp only [numZ]
    go_wp2_with fail
    go_ret2
    exact ⟨by rw [HZ.out]; rfl, ba⟩
  have HZ : Hid (loA s = none) := by
   show _ = _
   rw [HF.out, ← HR.out]
   exact lo_end fs k _ _ (by have := HM.out; omega)
  have hki : ¬ (k : Int) < 3 := by omega
  go_wp2_with fail
  go_ret2
  exact ⟨by rw [HZ.out]; rfl, ba⟩
 have HF : Hid (loA s = loF 0 4294967296 (fs.map toL)) := by
  show _ = _
  rw [HNM.out, lo_in (by omega)]
 have HM : Hid (fs.length = 4) := hM
 rw [hM] at OV ⊢
 simp only [show ((4 : Nat) : Int) = (4 : Int) from rfl, show decide ((4 : Int) < (4 : Int)) = false from by decide, show decide ((1 : Int) < (4 : Int)) = true from by decide, Nat.reduceSub, Int.reduceSub, show ((3 : Nat) : Int) = (3 : Int) from rfl]
 clear hM hlen2
 go_loop [5, 6] (fun x i => ∃ k n : Nat, k ≤ 4 ∧ i = .int .i64 k ∧ x = .int .i64 n ∧ n < 256 ^ k ∧ loF n (4294967296 / 256 ^ k) ((fs.drop k).map toL) = loF 0 4294967296 (fs.map toL)) (fun _ i => 4 - (intOf i).toNat)
 case atStart => exact ⟨0, 0, Nat.zero_le _, rfl, rfl, by decide, rfl⟩
 obtain ⟨k, n, hk, rfl, rfl, hn, hf⟩ := hrel
 have HR : Hid (loF n (4294967296 / 256 ^ k) ((fs.drop k).map toL) = loF 0 4294967296 (fs.map toL)) := hf
 have HN : Hid (n < 256 ^ k) := hn
 clear hf
 have HN2 : Hid (k < 4 → (n : Int) < 16777216) := fun h => by have h2 := pow256 (k := k) (by omega); omega
 clear hn
 by_cases hlt : k < 4
 ·obtain ⟨a, ha⟩ : ∃ a : Int, (n : Int) = a := ⟨_, rfl⟩
  have hn3 : a < 16777216 := by rw [← ha]; exact HN2.out hlt
  have hn0 : 0 ≤ a := by omega
  have HAN : Hid ((n : Int) = a) := ha
  rw [ha]
  clear ha
  have hc := scell_at OV k (by omega)
  have hsy := HSZ.out _ (mem_getD (k := k) (by have := HM.out; omega))
  have CT : Hid (∀ W, CS 78 #[.string (fs.getD k ByteArray.empty)] W (.int .i64 (numZ (looseP (toL (fs.getD k ByteArray.empty)))))) := fun W => specLoose _ W hsy
  have hki : (k : Int) < 4 := by omega
  by_cases hl : k + 1 = 4
  ·have HS : Hid (_ = _) := lo_last fs k n (4294967296 / 256 ^ k) (by have := HM.out; omega)
   obtain rfl : k = 4 - 1 := by omega
   rw [show 4294967296 / 256 ^ (4 - 1) = 256 from by decide] at HS HR
   generalize fs.getD (4 - 1) ByteArray.empty = y at hc CT HS hsy
   clear hl hsy
   cases hv : looseP (toL y) with
   | none =>
    rw [hv] at CT HS
    have HZ : Hid (loA s = none) := by
     show _ = _
     rw [HF.out, ← HR.out, HS.out]
    clear hv
    have hng : (-1 : Int) < 0 := by decide
    go_wp2_with fail
    refine (CT.out _).mono ?_
    rintro e w' ⟨rfl, rfl⟩
    simp only [numZ]
    go_wp2_with fail
    go_ret2
    exact ⟨by rw [HZ.out]; rfl, ba⟩
   | some v =>
    rw [hv] at CT HS
    clear hv
    by_cases hvr : v < 256
    ·have HZ : Hid (loA s = some (n * 256 + v)) := by
      show _ = _
      rw [HF.out, ← HR.out, HS.out]
      exact if_pos hvr
     have hv1 : (v : Int) < 256 := by omega
     have hv0 : ¬ (v : Int) < 0 := by omega
     obtain ⟨x, hx⟩ : ∃ x : Int, (v : Int) = x := ⟨_, rfl⟩
     rw [hx] at hv1 hv0
     have e2 : bits .or .i64 (a * 256) x = a * 256 + x := i64_join 8 _ _ (by omega) (by omega) (by omega) (by omega) (by omega) (by omega)
     have HX : Hid ((v : Int) = x) := hx
     clear hx
     have HV : Hid (v < 256) := hvr
     clear hvr
     go_wp2_with fail
     refine (CT.out _).mono ?_
     rintro e w' ⟨rfl, rfl⟩
     simp only [numZ]
     rw [HX.out]
     go_wp2_with fail
     go_ret2
     exact ⟨by rw [HZ.out]; have h1 := HAN.out; have h2 := HX.out; simp [numA]; omega, ba⟩
    have HZ : Hid (loA s = none) := by
     show _ = _
     rw [HF.out, ← HR.out, HS.out]
     exact if_neg hvr
    have hv1 : ¬ (v : Int) < 256 := by omega
    have hv0 : ¬ (v : Int) < 0 := by omega
    have HV : Hid (¬ v < 256) := hvr
    clear hvr
    go_wp2_with fail
    refine (CT.out _).mono ?_
    rintro e w' ⟨rfl, rfl⟩
    simp only [numZ]
    go_wp2_with fail
    go_ret2
    exact ⟨by rw [HZ.out]; rfl, ba⟩
  have HS : Hid (_ = _) := lo_step fs k n (4294967296 / 256 ^ k) (by have := HM.out; omega)
  have HL : Hid (k + 1 < 4) := by show _ < _; omega
  have hkq : ((k : Int) == 3) = false := by simp; omega
  generalize fs.getD k ByteArray.empty = y at hc CT HS hsy
  clear hl hsy
  cases hv : looseP (toL y) with
  | none =>
   rw [hv] at CT HS
   have HZ : Hid (loA s = none) := by
    show _ = _
    rw [HF.out, ← HR.out, HS.out]
   clear hv
   go_wp2_with fail
   refine (CT.out _).mono ?_
   rintro e w' ⟨rfl, rfl⟩
   simp only [numZ]
   go_wp2_with fail
   go_ret2
   exact ⟨by rw [HZ.out]; rfl, ba⟩
  | some v =>
   rw [hv] at CT HS
   clear hv
   by_cases hvr : v < 256
   ·have HG : Hid (loF (n * 256 + v) (4294967296 / 256 ^ k / 256) ((fs.drop (k + 1)).map toL) = loF 0 4294967296 (fs.map toL)) := by
     show _ = _
     rw [← HR.out, HS.out]
     exact (if_pos hvr).symm
    have hv1 : ¬ 255 < (v : Int) := by omega
    have hv0 : ¬ (v : Int) < 0 := by omega
    obtain ⟨x, hx⟩ : ∃ x : Int, (v : Int) = x := ⟨_, rfl⟩
    rw [hx] at hv1 hv0
    have e2 : bits .or .i64 (a * 256) x = a * 256 + x := i64_join 8 _ _ (by omega) (by omega) (by omega) (by omega) (by omega) (by omega)
    have HX : Hid ((v : Int) = x) := hx
    clear hx
    have HV : Hid (v < 256) := hvr
    clear hvr
    go_wp2_with fail
    refine (CT.out _).mono ?_
    rintro e w' ⟨rfl, rfl⟩
    simp only [numZ]
    rw [HX.out]
    go_wp2_with fail
    go_round
    case rel =>
     refine ⟨k + 1, n * 256 + v, by have := HL.out; omega, by go_num, by have h1 := HAN.out; have h2 := HX.out; go_num, ?_, ?_⟩
     ·have h1 := HN.out
      have h2 := HV.out
      rw [Nat.pow_succ]; omega
     rw [Nat.pow_succ, ← Nat.div_div_eq_div_mul]
     exact HG.out
    case measure => simp [intOf]; have := HL.out; omega
   have HZ : Hid (loA s = none) := by
    show _ = _
    rw [HF.out, ← HR.out, HS.out]
    exact if_neg hvr
   have hv1 : 255 < (v : Int) := by omega
   have hv0 : ¬ (v : Int) < 0 := by omega
   have HV : Hid (¬ v < 256) := hvr
   clear hvr
   go_wp2_with fail
   refine (CT.out _).mono ?_
   rintro e w' ⟨rfl, rfl⟩
   simp only [numZ]
   go_wp2_with fail
   go_ret2
   exact ⟨by rw [HZ.out]; rfl, ba⟩
 have HZ : Hid (loA s = none) := by
  show _ = _
  rw [HF.out, ← HR.out]
  exact lo_end fs k _ _ (by have := HM.out; omega)
 have hki : ¬ (k : Int) < 4 := by omega
 go_wp2_with fail
 go_ret2
 exact ⟨by rw [HZ.out]; rfl, ba⟩
end Go.Proofs.YtidecdlaeomfoaaGreat
namespace Go.Proofs.YtidecdlaeomfoaaGreat
open Go.RowKit
theorem cat_bytes (a b : List UInt8) : ((⟨a.toArray⟩ : ByteArray) ++ (⟨b.toArray⟩ : ByteArray)) = ⟨(a ++ b).toArray⟩ := by
 apply ByteArray.ext
 rw [ByteArray.data_append]
 simp
def digT (v : Nat) : ByteArray := ⟨#[UInt8.ofNat (48 + v)]⟩
def decT (x : Int) : ByteArray := ⟨(dec3 x.toNat).toArray⟩
theorem decT_1 {x : Int} (h0 : 0 ≤ x) (h : x < 10) : decT x = digT x.toNat := by
 unfold decT digT dec3
 rw [if_pos (by omega)]
theorem decT_2 {x : Int} (h0 : 10 ≤ x) (h : x < 100) : decT x = decT (x / 10) ++ digT (x % 10).toNat := by
 rw [decT_1 (x := x / 10) (by omega) (by omega)]
 unfold decT digT dec3
 rw [if_neg (by omega), if_pos (by omega), show (⟨#[UInt8.ofNat (48 + (x / 10).toNat)]⟩ : ByteArray) = ⟨[UInt8.ofNat (48 + (x / 10).toNat)].toArray⟩ from rfl, show (⟨#[UInt8.ofNat (48 + (x % 10).toNat)]⟩ : ByteArray) = ⟨[UInt8.ofNat (48 + (x % 10).toNat)].toArray⟩ from rfl, cat_bytes]
 have e1 : (x / 10).toNat = x.toNat / 10 := by omega
 have e2 : (x % 10).toNat = x.toNat % 10 := by omega
 rw [e1, e2]
 rfl
theorem decT_3 {x : Int} (h0 : 100 ≤ x) (h : x < 1000) : decT x = decT (x / 10) ++ digT (x % 10).toNat := by
 unfold decT digT dec3
 rw [if_neg (by omega), if_neg (by omega), if_neg (by omega), if_pos (by omega), show (⟨#[UInt8.ofNat (48 + (x % 10).toNat)]⟩ : ByteArray) = ⟨[UInt8.ofNat (48 + (x % 10).toNat)].toArray⟩ from rfl, cat_bytes]
 have e1 : (x / 10).toNat / 10 = x.toNat / 100 := by omega
 have e3 : (x / 10).toNat % 10 = x.toNat / 10 % 10 := by omega
 have e2 : (x % 10).toNat = x.toNat % 10 := by omega
 rw [e1, e2, e3]
 rfl
theorem decT_size (x : Int) : (decT x).size ≤ 3 := by
 unfold decT
 show (dec3 x.toNat).toArray.size ≤ 3
 rw [List.size_toArray]
 exact dec3_len _
theorem conv_at (W : World) (B : Nat) (c : Nat) (hc : c < 256) (x : Int) (hx : x = (c : Int)) (h : W.cell? ⟨B, 0, none⟩ = some (.int .u8 x)) :
  (convert 22 9 (.slice (some ⟨B, 0, none⟩) 1 1)).run Tryz.prog W = .ok (.string ⟨#[UInt8.ofNat c]⟩) W := by
 subst hx
 have h := run_convert_bytes_back (P := Tryz.prog) W 22 9 5 ⟨B, 0, none⟩ 1 [UInt8.ofNat c] Tryz.underlying22 Tryz.underlying5 Tryz.underlying9 (fun j hj => by
  have : j = 0 := by simpa using hj
  subst this
  rw [Addr.add_lit, h]
  simp
  omega)
 simpa using h
theorem conv_new (W : World) (c : Nat) (hc : c < 256) (x : Int) (hx : x = (c : Int)) :
  (convert 22 9 (.slice (some ⟨W.heap.size, 0, none⟩) 1 1)).run Tryz.prog (W.alloc (.cells #[.int .u8 x] 5)) = .ok (.string ⟨#[UInt8.ofNat c]⟩) (W.alloc (.cells #[.int .u8 x] 5)) :=
 conv_at _ _ c hc x hx (by rw [World.cell?_alloc_at _ _ _ _ rfl]; rfl)
theorem specText1 (x : Int) (w : World) (h0 : 0 ≤ x) (h1 : x < 10) :
  Calls Tryz.prog 67 #[.int .i64 x] w fun e w' => e = .returned (.string (decT x)) ∧ Below w.heap.size w w' := by
 have HD := decT_1 h0 h1
 have hcv := conv_new w (48 + x.toNat) (by omega) (48 + x) (by omega)
 rw [show (⟨#[UInt8.ofNat (48 + x.toNat)]⟩ : ByteArray) = digT x.toNat from rfl, ← HD] at hcv
 generalize decT x = T at hcv ⊢
 clear HD
 go_enter Tryz.func67, Tryz.ntmps67
 go_wp2
 go_ret
 exact ⟨rfl, (Below.refl _ _).alloc (Nat.le_refl _) _⟩
end Go.Proofs.YtidecdlaeomfoaaGreat
