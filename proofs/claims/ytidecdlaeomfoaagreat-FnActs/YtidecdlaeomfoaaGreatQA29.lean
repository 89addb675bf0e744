/- NameSpec, NameImpl, HostImpl, HostTextImpl, HostParse, Ip6Spec. -/
import Derived.Test.YtidecdlaeomfoaaGreatQA28
set_option maxHeartbeats 4000000
set_option maxRecDepth 20000
namespace Go.Proofs.YtidecdlaeomfoaaGreat
open Go.RowKit
theorem ansS_asc (s : ByteArray) : ansS (ascL s.data.toList) = match ascB s with
  | some a => .tuple #[.string a, .bool true]
  | none => .tuple #[.string ⟨#[]⟩, .bool false] := by
 unfold ascB ansS
 cases ascL s.data.toList <;> rfl
theorem take_ascs {fs ls : List ByteArray} {k : Nat} (hk : k < fs.length) (h : ascs (fs.take k) = some ls) : ascs (fs.take (k + 1)) = match ascB (fs.getD k ByteArray.empty) with
  | some a => some (ls ++ [a])
  | none => none := by
 rw [btake_snoc fs k hk, ascs_append, h]
 simp only [ascs]
 cases ascB (fs.getD k ByteArray.empty) <;> rfl
theorem ascs_none_of {fs : List ByteArray} {k : Nat} (h : ascs (fs.take k) = none) : ascs fs = none := by
 rw [← List.take_append_drop k fs, ascs_append, h]
theorem names_over {fs ls : List ByteArray} {k : Nat} (h : ascs (fs.take k) = some ls) (h2 : ¬ (jn 46 ls).length ≤ 253) : namesL fs = none := by
 have e := ascs_append (fs.take k) (fs.drop k)
 rw [List.take_append_drop, h] at e
 cases hd : ascs (fs.drop k) with
 | none => rw [hd] at e; exact namesL_no e
 | some ms =>
  rw [hd] at e
  refine namesL_big e fun hh => h2 (Nat.le_trans (jn_le 46 ls ms) hh)
theorem name_ans_no {r : Option (List UInt8)} (h : r = none) : ansS r = .tuple #[.string ⟨#[]⟩, .bool false] := by rw [h]; rfl
theorem name_ans_yes {r : Option (List UInt8)} {t : List UInt8} (h : r = some t) : ansS r = .tuple #[.string ⟨t.toArray⟩, .bool true] := by rw [h]; rfl
theorem len_data (z : ByteArray) : z.data.toList.length = z.size := by simp
theorem arr_data (z : ByteArray) : (⟨z.data.toList.toArray⟩ : ByteArray) = z := by
 apply ByteArray.ext
 apply Array.toList_inj.1
 rfl
theorem specNameOf (s : ByteArray) (w : World) (hs : s.size ≤ 1048576) :
  Calls Tryz.prog 59 #[.string s] w fun e w' => e = .returned (ansS (nameL s)) ∧ Below w.heap.size w w' := by
 have CF : Hid (Calls Tryz.prog 74 #[.string s, .int .u8 46] w fun e w' => ∃ v, e = .returned v ∧ w'.ownsRow w.heap.size 9 1 v (fieldsL s 46).length (scells (fieldsL s 46)) ∧ Below w.heap.size w w') := specFields s 46 w hs
 have hpos : 0 < (fieldsL s 46).length := by simp [fieldsL]
 have hlen : (fieldsL s 46).length ≤ 1048577 := by
  have := (fieldsTo_le s 46 s.size).2
  simp [fieldsL]; omega
 have HSZ0 : Hid (∀ x ∈ fieldsL s 46, x.size ≤ 1048576) := fields_sizes46 s hs
 have HNM0 : Hid (nameL s = namesL (dropE (fieldsL s 46))) := rfl
 generalize fieldsL s 46 = f0 at CF hpos hlen HSZ0 HNM0
 by_cases hd : 1 < f0.length ∧ (f0.getD (f0.length - 1) ByteArray.empty).size = 0
 ·have HNM : Hid (nameL s = namesL (f0.take (f0.length - 1))) := by
   have h := HNM0.out
   unfold dropE at h
   rw [if_pos hd] at h
   exact h
  have HSZ : Hid (∀ x ∈ f0.take (f0.length - 1), x.size ≤ 1048576) := fun x hx => HSZ0.out x (List.mem_of_mem_take hx)
  have hl1 : 1 < (f0.length : Int) := by omega
  have hem := empty_yes hd.2
  clear hd
  go_enter Tryz.func59, Tryz.ntmps59
  go_wp2_with fail
  refine CF.out.mono ?_
  rintro e wa ⟨va, rfl, oa, ba⟩
  rcases own_shape oa with ⟨h, _⟩ | ⟨_, g, cap, rfl⟩
  ·omega
  have hc := scell_at oa (f0.length - 1) (by omega)
  have hcap : f0.length ≤ cap := by
   rcases oa.2 with ⟨h, _⟩ | ⟨_, _, _, h, _, _, h3, _⟩
   ·cases h
   cases h; exact h3
  have OV := own_take oa (f0.length - 1) (by omega)
  rw [scells_take] at OV
  have hi : ((f0.length : Int) - 1) = ((f0.length - 1 : Nat) : Int) := by omega
  generalize f0.getD (f0.length - 1) ByteArray.empty = q at hc hem
  clear oa
  go_wp2_with fail
  obtain ⟨m, hm⟩ : ∃ m, f0.length - 1 = m := ⟨_, rfl⟩
  rw [hm] at OV HNM HSZ ⊢
  obtain ⟨fs, hfs⟩ : ∃ fs, f0.take m = fs := ⟨_, rfl⟩
  rw [hfs] at OV HNM HSZ
  have hml : m = fs.length := by rw [← hfs, List.length_take]; omega
  have hlen2 : fs.length ≤ 1048577 := by omega
  clear hfs hm hc hi
  subst hml
  go_loopw [5, 6] (fun o i wr => ∃ (k : Nat) (ls : List ByteArray) (z : ByteArray), k ≤ fs.length ∧ i = .int .i64 k ∧ ascs (fs.take k) = some ls ∧ o = .string z ∧ z.data.toList = jn 46 ls ∧ z.size ≤ 253 ∧ wr.ownsRow w.heap.size 9 1 (.slice (some ⟨g, 0, none⟩) fs.length cap) fs.length (scells fs) ∧ Below w.heap.size w wr)
   (fun _ i _ => fs.length - (intOf i).toNat)
  case atStart => exact ⟨0, [], ⟨#[]⟩, Nat.zero_le _, rfl, rfl, rfl, rfl, by decide, OV, ba⟩
  obtain ⟨k, ls, z, hk, rfl, hls, rfl, hz, hz2, ow, hbel⟩ := hrel
  have HLS : Hid (ascs (fs.take k) = some ls) := hls
  have HZ : Hid (z.data.toList = jn 46 ls) := hz
  have HLN : Hid (ls.length = k) := by show _ = _; rw [ascs_len hls, List.length_take]; omega
  have hz3 : (z.size : Int) ≤ 253 := by omega
  clear hls hz
  by_cases hlt : k < fs.length
  ·have hc := scell_at ow k hlt
   have hTA := take_ascs hlt HLS.out
   have hsz := hbel.size
   have CT : Hid (∀ W, CB 75 #[.string (fs.getD k ByteArray.empty)] W (ansS (ascL (fs.getD k ByteArray.empty).data.toList))) := fun W => specToAscii _ W (HSZ.out _ (by rw [List.getD_eq_getElem?_getD, List.getElem?_eq_getElem hlt]; exact List.getElem_mem hlt))
   rw [ansS_asc] at CT
   generalize fs.getD k ByteArray.empty = y at hc hTA CT
   have hkl : (k : Int) < fs.length := by omega
   cases ha : ascB y with
   | none =>
    rw [ha] at CT hTA
    have HF : Hid (ansS (nameL s) = .tuple #[.string ⟨#[]⟩, .bool false]) := name_ans_no (HNM.out.trans (namesL_no (ascs_none_of hTA)))
    clear ha hTA
    go_wp2_with fail
    refine (CT.out _).mono ?_
    rintro e wb ⟨rfl, bb⟩
    have b2 := hbel.trans (bb.mono hsz)
    clear hbel bb ow
    go_wp2_with fail
    go_ret2
    exact ⟨by rw [HF.out]; rfl, b2⟩
   | some a =>
    rw [ha] at CT hTA
    have hal : a.size ≤ 63 := by
     have := (labL_parts (ascB_lab ha).1).2.1
     simpa using this
    have HTA : Hid (ascs (fs.take (k + 1)) = some (ls ++ [a])) := hTA
    clear ha hTA
    by_cases hk0 : 0 < k
    ·first
     | (exfalso; omega)
     | (
       have HJ : Hid (((z ++ ⟨#[46]⟩) ++ a).data.toList = jn 46 (ls ++ [a])) := by
        show _ = _
        rw [jn_snoc 46 ls a (by intro h; have := HLN.out; rw [h] at this; simp at this; omega), ← HZ.out]
        simp
       have hzs : ((z ++ (⟨#[46]⟩ : ByteArray)) ++ a).size = z.size + 1 + a.size := by
        rw [ByteArray.size_append, ByteArray.size_append]; rfl
       by_cases hov : ((z ++ (⟨#[46]⟩ : ByteArray)) ++ a).size ≤ 253
       ·have hov' : ¬ 253 < ((((z ++ (⟨#[46]⟩ : ByteArray)) ++ a).size : Nat) : Int) := by omega
        go_wp2_with fail
        refine (CT.out _).mono ?_
        rintro e wb ⟨rfl, bb⟩
        have b2 := hbel.trans (bb.mono hsz)
        have o2 := own_below ow bb
        clear hbel bb ow
        go_wp2_with fail
        go_roundw
        case rel => exact ⟨k + 1, ls ++ [a], _, by omega, by go_num, HTA.out, rfl, HJ.out, hov, o2, b2⟩
        case measure => simp [intOf]; omega
       have hov' : 253 < ((((z ++ (⟨#[46]⟩ : ByteArray)) ++ a).size : Nat) : Int) := by omega
       have HF : Hid (ansS (nameL s) = .tuple #[.string ⟨#[]⟩, .bool false]) := name_ans_no (HNM.out.trans (names_over HTA.out (by
        rw [← HJ.out]
        have e := len_data ((z ++ (⟨#[46]⟩ : ByteArray)) ++ a)
        omega)))
       go_wp2_with fail
       refine (CT.out _).mono ?_
       rintro e wb ⟨rfl, bb⟩
       have b2 := hbel.trans (bb.mono hsz)
       clear hbel bb ow
       go_wp2_with fail
       go_ret2
       exact ⟨by rw [HF.out]; rfl, b2⟩)
    have hk00 : k = 0 := by omega
    subst hk00
    have hl0 : ls = [] := List.eq_nil_of_length_eq_zero HLN.out
    subst hl0
    have hz0 : z = ⟨#[]⟩ := by
     rw [← arr_data z, HZ.out]; rfl
    subst hz0
    have HJ : Hid (((⟨#[]⟩ : ByteArray) ++ a).data.toList = jn 46 ([] ++ [a])) := by
     show _ = _
     rw [jn_one]
     simp
    have hzs : ((⟨#[]⟩ : ByteArray) ++ a).size = a.size := by
     rw [ByteArray.size_append]; exact Nat.zero_add _
    have hov' : ¬ 253 < ((((⟨#[]⟩ : ByteArray) ++ a).size : Nat) : Int) := by omega
    go_wp2_with fail
    refine (CT.out _).mono ?_
    rintro e wb ⟨rfl, bb⟩
    have b2 := hbel.trans (bb.mono hsz)
    have o2 := own_below ow bb
    clear hbel bb ow
    go_wp2_with fail
    go_roundw
    case rel => exact ⟨0 + 1, [] ++ [a], _, by omega, by go_num, HTA.out, rfl, HJ.out, by omega, o2, b2⟩
    case measure => simp [intOf]; omega
  have hks : k = fs.length := by omega
  have HF : Hid (ansS (nameL s) = .tuple #[.string z, .bool true]) := by
   have h := HLS.out
   rw [hks, List.take_length] at h
   have h2 : (jn 46 ls).length ≤ 253 := by
    rw [← HZ.out]
    have e := len_data z
    omega
   have h3 := name_ans_yes (HNM.out.trans (namesL_yes h h2))
   rw [← HZ.out, arr_data] at h3
   exact h3
  subst hks
  go_wp2_with fail
  go_ret2
  exact ⟨by rw [HF.out]; rfl, hbel⟩
 have HNM : Hid (nameL s = namesL f0) := by
  have h := HNM0.out
  unfold dropE at h
  rw [if_neg hd] at h
  exact h
 by_cases hl1 : 1 < f0.length
 ·have hl1' : 1 < (f0.length : Int) := by omega
  have hem := empty_no (u := f0.getD (f0.length - 1) ByteArray.empty) (by apply Nat.pos_of_ne_zero; intro h; exact hd ⟨hl1, h⟩)
  clear hd
  go_enter Tryz.func59, Tryz.ntmps59
  go_wp2_with fail
  refine CF.out.mono ?_
  rintro e wa ⟨va, rfl, OV, ba⟩
  rcases own_shape OV with ⟨h, _⟩ | ⟨_, g, cap, rfl⟩
  ·omega
  have hc := scell_at OV (f0.length - 1) (by omega)
  have hi : ((f0.length : Int) - 1) = ((f0.length - 1 : Nat) : Int) := by omega
  generalize f0.getD (f0.length - 1) ByteArray.empty = q at hc hem
  go_wp2_with fail
  clear hc hi hem hl1 hl1'
  have HSZ := HSZ0
  go_loopw [5, 6] (fun o i wr => ∃ (k : Nat) (ls : List ByteArray) (z : ByteArray), k ≤ f0.length ∧ i = .int .i64 k ∧ ascs (f0.take k) = some ls ∧ o = .string z ∧ z.data.toList = jn 46 ls ∧ z.size ≤ 253 ∧ wr.ownsRow w.heap.size 9 1 (.slice (some ⟨g, 0, none⟩) f0.length cap) f0.length (scells f0) ∧ Below w.heap.size w wr)
   (fun _ i _ => f0.length - (intOf i).toNat)
  case atStart => exact ⟨0, [], ⟨#[]⟩, Nat.zero_le _, rfl, rfl, rfl, rfl, by decide, OV, ba⟩
  obtain ⟨k, ls, z, hk, rfl, hls, rfl, hz, hz2, ow, hbel⟩ := hrel
  have HLS : Hid (ascs (f0.take k) = some ls) := hls
  have HZ : Hid (z.data.toList = jn 46 ls) := hz
  have HLN : Hid (ls.length = k) := by show _ = _; rw [ascs_len hls, List.length_take]; omega
  have hz3 : (z.size : Int) ≤ 253 := by omega
  clear hls hz
  by_cases hlt : k < f0.length
  ·have hc := scell_at ow k hlt
   have hTA := take_ascs hlt HLS.out
   have hsz := hbel.size
   have CT : Hid (∀ W, CB 75 #[.string (f0.getD k ByteArray.empty)] W (ansS (ascL (f0.getD k ByteArray.empty).data.toList))) := fun W => specToAscii _ W (HSZ.out _ (by rw [List.getD_eq_getElem?_getD, List.getElem?_eq_getElem hlt]; exact List.getElem_mem hlt))
   rw [ansS_asc] at CT
   generalize f0.getD k ByteArray.empty = y at hc hTA CT
   have hkl : (k : Int) < f0.length := by omega
   cases ha : ascB y with
   | none =>
    rw [ha] at CT hTA
    have HF : Hid (ansS (nameL s) = .tuple #[.string ⟨#[]⟩, .bool false]) := name_ans_no (HNM.out.trans (namesL_no (ascs_none_of hTA)))
    clear ha hTA
    go_wp2_with fail
    refine (CT.out _).mono ?_
    rintro e wb ⟨rfl, bb⟩
    have b2 := hbel.trans (bb.mono hsz)
    clear hbel bb ow
    go_wp2_with fail
    go_ret2
    exact ⟨by rw [HF.out]; rfl, b2⟩
   | some a =>
    rw [ha] at CT hTA
    have hal : a.size ≤ 63 := by
     have := (labL_parts (ascB_lab ha).1).2.1
     simpa using this
    have HTA : Hid (ascs (f0.take (k + 1)) = some (ls ++ [a])) := hTA
    clear ha hTA
    by_cases hk0 : 0 < k
    ·first
     | (exfalso; omega)
     | (
       have HJ : Hid (((z ++ ⟨#[46]⟩) ++ a).data.toList = jn 46 (ls ++ [a])) := by
        show _ = _
        rw [jn_snoc 46 ls a (by intro h; have := HLN.out; rw [h] at this; simp at this; omega), ← HZ.out]
        simp
       have hzs : ((z ++ (⟨#[46]⟩ : ByteArray)) ++ a).size = z.size + 1 + a.size := by
        rw [ByteArray.size_append, ByteArray.size_append]; rfl
       by_cases hov : ((z ++ (⟨#[46]⟩ : ByteArray)) ++ a).size ≤ 253
       ·have hov' : ¬ 253 < ((((z ++ (⟨#[46]⟩ : ByteArray)) ++ a).size : Nat) : Int) := by omega
        go_wp2_with fail
        refine (CT.out _).mono ?_
        rintro e wb ⟨rfl, bb⟩
        have b2 := hbel.trans (bb.mono hsz)
        have o2 := own_below ow bb
        clear hbel bb ow
        go_wp2_with fail
        go_roundw
        case rel => exact ⟨k + 1, ls ++ [a], _, by omega, by go_num, HTA.out, rfl, HJ.out, hov, o2, b2⟩
        case measure => simp [intOf]; omega
       have hov' : 253 < ((((z ++ (⟨#[46]⟩ : ByteArray)) ++ a).size : Nat) : Int) := by omega
       have HF : Hid (ansS (nameL s) = .tuple #[.string ⟨#[]⟩, .bool false]) := name_ans_no (HNM.out.trans (names_over HTA.out (by
        rw [← HJ.out]
        have e := len_data ((z ++ (⟨#[46]⟩ : ByteArray)) ++ a)
        omega)))
       go_wp2_with fail
       refine (CT.out _).mono ?_
       rintro e wb ⟨rfl, bb⟩
       have b2 := hbel.trans (bb.mono hsz)
       clear hbel bb ow
       go_wp2_with fail
       go_ret2
       exact ⟨by rw [HF.out]; rfl, b2⟩)
    have hk00 : k = 0 := by omega
    subst hk00
    have hl0 : ls = [] := List.eq_nil_of_length_eq_zero HLN.out
    subst hl0
    have hz0 : z = ⟨#[]⟩ := by
     rw [← arr_data z, HZ.out]; rfl
    subst hz0
    have HJ : Hid (((⟨#[]⟩ : ByteArray) ++ a).data.toList = jn 46 ([] ++ [a])) := by
     show _ = _
     rw [jn_one]
     simp
    have hzs : ((⟨#[]⟩ : ByteArray) ++ a).size = a.size := by
     rw [ByteArray.size_append]; exact Nat.zero_add _
    have hov' : ¬ 253 < ((((⟨#[]⟩ : ByteArray) ++ a).size : Nat) : Int) := by omega
    go_wp2_with fail
    refine (CT.out _).mono ?_
    rintro e wb ⟨rfl, bb⟩
    have b2 := hbel.trans (bb.mono hsz)
    have o2 := own_below ow bb
    clear hbel bb ow
    go_wp2_with fail
    go_roundw
    case rel => exact ⟨0 + 1, [] ++ [a], _, by omega, by go_num, HTA.out, rfl, HJ.out, by omega, o2, b2⟩
    case measure => simp [intOf]; omega
  have hks : k = f0.length := by omega
  have HF : Hid (ansS (nameL s) = .tuple #[.string z, .bool true]) := by
   have h := HLS.out
   rw [hks, List.take_length] at h
   have h2 : (jn 46 ls).length ≤ 253 := by
    rw [← HZ.out]
    have e := len_data z
    omega
   have h3 := name_ans_yes (HNM.out.trans (namesL_yes h h2))
   rw [← HZ.out, arr_data] at h3
   exact h3
  subst hks
  go_wp2_with fail
  go_ret2
  exact ⟨by rw [HF.out]; rfl, hbel⟩
 have hl1' : ¬ 1 < (f0.length : Int) := by omega
 clear hd
 go_enter Tryz.func59, Tryz.ntmps59
 go_wp2_with fail
 refine CF.out.mono ?_
 rintro e wa ⟨va, rfl, OV, ba⟩
 rcases own_shape OV with ⟨h, _⟩ | ⟨_, g, cap, rfl⟩
 ·omega
 go_wp2_with fail
 clear hl1 hl1'
 have HSZ := HSZ0
 go_loopw [5, 6] (fun o i wr => ∃ (k : Nat) (ls : List ByteArray) (z : ByteArray), k ≤ f0.length ∧ i = .int .i64 k ∧ ascs (f0.take k) = some ls ∧ o = .string z ∧ z.data.toList = jn 46 ls ∧ z.size ≤ 253 ∧ wr.ownsRow w.heap.size 9 1 (.slice (some ⟨g, 0, none⟩) f0.length cap) f0.length (scells f0) ∧ Below w.heap.size w wr)
  (fun _ i _ => f0.length - (intOf i).toNat)
 case atStart => exact ⟨0, [], ⟨#[]⟩, Nat.zero_le _, rfl, rfl, rfl, rfl, by decide, OV, ba⟩
 obtain ⟨k, ls, z, hk, rfl, hls, rfl, hz, hz2, ow, hbel⟩ := hrel
 have HLS : Hid (ascs (f0.take k) = some ls) := hls
 have HZ : Hid (z.data.toList = jn 46 ls) := hz
 have HLN : Hid (ls.length = k) := by show _ = _; rw [ascs_len hls, List.length_take]; omega
 have hz3 : (z.size : Int) ≤ 253 := by omega
 clear hls hz
 by_cases hlt : k < f0.length
 ·have hc := scell_at ow k hlt
  have hTA := take_ascs hlt HLS.out
  have hsz := hbel.size
  have CT : Hid (∀ W, CB 75 #[.string (f0.getD k ByteArray.empty)] W (ansS (ascL (f0.getD k ByteArray.empty).data.toList))) := fun W => specToAscii _ W (HSZ.out _ (by rw [List.getD_eq_getElem?_getD, List.getElem?_eq_getElem hlt]; exact List.getElem_mem hlt))
  rw [ansS_asc] at CT
  generalize f0.getD k ByteArray.empty = y at hc hTA CT
  have hkl : (k : Int) < f0.length := by omega
  cases ha : ascB y with
  | none =>
   rw [ha] at CT hTA
   have HF : Hid (ansS (nameL s) = .tuple #[.string ⟨#[]⟩, .bool false]) := name_ans_no (HNM.out.trans (namesL_no (ascs_none_of hTA)))
   clear ha hTA
   go_wp2_with fail
   refine (CT.out _).mono ?_
   rintro e wb ⟨rfl, bb⟩
   have b2 := hbel.trans (bb.mono hsz)
   clear hbel bb ow
   go_wp2_with fail
   go_ret2
   exact ⟨by rw [HF.out]; rfl, b2⟩
  | some a =>
   rw [ha] at CT hTA
   have hal : a.size ≤ 63 := by
    have := (labL_parts (ascB_lab ha).1).2.1
    simpa using this
   have HTA : Hid (ascs (f0.take (k + 1)) = some (ls ++ [a])) := hTA
   clear ha hTA
   by_cases hk0 : 0 < k
   ·first
    | (exfalso; omega)
    | (
      have HJ : Hid (((z ++ ⟨#[46]⟩) ++ a).data.toList = jn 46 (ls ++ [a])) := by
       show _ = _
       rw [jn_snoc 46 ls a (by intro h; have := HLN.out; rw [h] at this; simp at this; omega), ← HZ.out]
       simp
      have hzs : ((z ++ (⟨#[46]⟩ : ByteArray)) ++ a).size = z.size + 1 + a.size := by
       rw [ByteArray.size_append, ByteArray.size_append]; rfl
      by_cases hov : ((z ++ (⟨#[46]⟩ : ByteArray)) ++ a).size ≤ 253
      ·have hov' : ¬ 253 < ((((z ++ (⟨#[46]⟩ : ByteArray)) ++ a).size : Nat) : Int) := by omega
       go_wp2_with fail
       refine (CT.out _).mono ?_
       rintro e wb ⟨rfl, bb⟩
       have b2 := hbel.trans (bb.mono hsz)
       have o2 := own_below ow bb
       clear hbel bb ow
       go_wp2_with fail
       go_roundw
       case rel => exact ⟨k + 1, ls ++ [a], _, by omega, by go_num, HTA.out, rfl, HJ.out, hov, o2, b2⟩
       case measure => simp [intOf]; omega
      have hov' : 253 < ((((z ++ (⟨#[46]⟩ : ByteArray)) ++ a).size : Nat) : Int) := by omega
      have HF : Hid (ansS (nameL s) = .tuple #[.string ⟨#[]⟩, .bool false]) := name_ans_no (HNM.out.trans (names_over HTA.out (by
       rw [← HJ.out]
       have e := len_data ((z ++ (⟨#[46]⟩ : ByteArray)) ++ a)
       omega)))
      go_wp2_with fail
      refine (CT.out _).mono ?_
      rintro e wb ⟨rfl, bb⟩
      have b2 := hbel.trans (bb.mono hsz)
      clear hbel bb ow
      go_wp2_with fail
      go_ret2
      exact ⟨by rw [HF.out]; rfl, b2⟩)
   have hk00 : k = 0 := by omega
   subst hk00
   have hl0 : ls = [] := List.eq_nil_of_length_eq_zero HLN.out
   subst hl0
   have hz0 : z = ⟨#[]⟩ := by
    rw [← arr_data z, HZ.out]; rfl
   subst hz0
   have HJ : Hid (((⟨#[]⟩ : ByteArray) ++ a).data.toList = jn 46 ([] ++ [a])) := by
    show _ = _
    rw [jn_one]
    simp
   have hzs : ((⟨#[]⟩ : ByteArray) ++ a).size = a.size := by
    rw [ByteArray.size_append]; exact Nat.zero_add _
   have hov' : ¬ 253 < ((((⟨#[]⟩ : ByteArray) ++ a).size : Nat) : Int) := by omega
   go_wp2_with fail
   refine (CT.out _).mono ?_
   rintro e wb ⟨rfl, bb⟩
   have b2 := hbel.trans (bb.mono hsz)
   have o2 := own_below ow bb
   clear hbel bb ow
   go_wp2_with fail
   go_roundw
   case rel => exact ⟨0 + 1, [] ++ [a], _, by omega, by go_num, HTA.out, rfl, HJ.out, by omega, o2, b2⟩
   case measure => simp [intOf]; omega
 have hks : k = f0.length := by omega
 have HF : Hid (ansS (nameL s) = .tuple #[.string z, .bool true]) := by
  have h := HLS.out
  rw [hks, List.take_length] at h
  have h2 : (jn 46 ls).length ≤ 253 := by
   rw [← HZ.out]
   have e := len_data z
   omega
  have h3 := name_ans_yes (HNM.out.trans (namesL_yes h h2))
  rw [← HZ.out, arr_data] at h3
  exact h3
 subst hks
 go_wp2_with fail
 go_ret2
 exact ⟨by rw [HF.out]; rfl, hbel⟩

theorem bqB (a b : ByteArray) : (a.toList == b.toList) = decide (a = b) := by
 by_cases h : a = b
 ·rw [str_eq h, decide_eq_true h]
 rw [str_ne h, decide_eq_false h]
theorem size_nil (s : ByteArray) : s.size = 0 ↔ (⟨#[]⟩ : ByteArray) = s := by
 constructor
 ·intro h
  apply toL_inj
  exact (List.eq_nil_of_length_eq_zero (by simpa [toL] using h)).symm
 intro h
 rw [← h]
 rfl
theorem hOk2 (s : ByteArray) (n : Int) (z : List Int) : hOk ⟨2, s, n, z⟩ = (decide (0 ≤ n ∧ n < 4294967296) && eqHB 2 ⟨#[]⟩ n zeros 2 s n z) := by
 unfold hOk eqHB eqB
 rw [if_neg (show ¬ (2 : Int) = 1 by decide), if_pos rfl, Bool.eq_iff_iff, bqB]
 simp only [Bool.and_eq_true, decide_eq_true_eq, beq_self_eq_true, true_and, size_nil]
 constructor
 ·rintro ⟨⟨h1, h2⟩, h3⟩
  exact ⟨h2, h1, h3.symm⟩
 rintro ⟨h1, h2, h3⟩
 exact ⟨⟨h2, h1⟩, h3.symm⟩
theorem hOk3 (s : ByteArray) (n : Int) (z : List Int) : hOk ⟨3, s, n, z⟩ = (okG z && eqHB 3 ⟨#[]⟩ 0 z 3 s n z) := by
 unfold hOk eqHB eqB
 rw [if_neg (show ¬ (3 : Int) = 1 by decide), if_neg (show ¬ (3 : Int) = 2 by decide), if_pos rfl, Bool.eq_iff_iff, bqB]
 simp only [Bool.and_eq_true, decide_eq_true_eq, beq_self_eq_true, true_and, size_nil, beq_iff_eq, and_true]
 constructor
 ·rintro ⟨⟨h1, h2⟩, h3⟩
  exact ⟨h3, h1, h2.symm⟩
 rintro ⟨h1, h2, h3⟩
 exact ⟨⟨h2, h3.symm⟩, h1⟩
theorem hOk0 (k n : Int) (s : ByteArray) (z : List Int) (h1 : ¬ k = 1) (h2 : ¬ k = 2) (h3 : ¬ k = 3) : hOk ⟨k, s, n, z⟩ = false := by
 unfold hOk
 rw [if_neg h1, if_neg h2, if_neg h3]
theorem six_len {x0 x1 x2 x3 x4 x5 x6 x7 : Int} (h : okG [x0, x1, x2, x3, x4, x5, x6, x7] = true) : (⟨(ip6L [x0, x1, x2, x3, x4, x5, x6, x7]).toArray⟩ : ByteArray).size ≤ 39 := by
 show (ip6L [x0, x1, x2, x3, x4, x5, x6, x7]).toArray.size ≤ 39
 rw [List.size_toArray]
 unfold ip6L
 rw [if_pos h]
 exact (ip6_len rfl (row_le (row_ok x0 x1 x2 x3 x4 x5 x6 x7)).2).2
theorem six_text (l : List UInt8) : (⟨(91 :: (l ++ [93])).toArray⟩ : ByteArray) = (⟨#[91]⟩ : ByteArray) ++ ⟨l.toArray⟩ ++ (⟨#[93]⟩ : ByteArray) := by
 apply toL_inj
 simp [toL]
theorem hTx_no {h : HV} (e : hOk h = false) : hTx h = ⟨#[]⟩ := by unfold hTx; rw [if_neg (by rw [e]; decide)]
theorem hTx1 {n : Int} {s : ByteArray} {z : List Int} (e : hOk ⟨1, s, n, z⟩ = true) : hTx ⟨1, s, n, z⟩ = s := by unfold hTx; rw [if_pos e, if_pos rfl]
theorem hTx2 {n : Int} {s : ByteArray} {z : List Int} (e : hOk ⟨2, s, n, z⟩ = true) : hTx ⟨2, s, n, z⟩ = ip4T n := by unfold hTx; rw [if_pos e, if_neg (show ¬ (2 : Int) = 1 by decide), if_pos rfl]
theorem hTx3 {n : Int} {s : ByteArray} {z : List Int} (e : hOk ⟨3, s, n, z⟩ = true) : hTx ⟨3, s, n, z⟩ = ⟨(91 :: (ip6L z ++ [93])).toArray⟩ := by unfold hTx; rw [if_pos e, if_neg (show ¬ (3 : Int) = 1 by decide), if_neg (show ¬ (3 : Int) = 2 by decide)]
theorem ip4T_le (n : Int) : (ip4T n).size ≤ 100 := by
 unfold ip4T
 show (ip4L n.toNat).toArray.size ≤ 100
 rw [List.size_toArray]
 unfold ip4L
 have h1 := dec3_len (n.toNat / 16777216)
 have h2 := dec3_len (n.toNat / 65536 % 256)
 have h3 := dec3_len (n.toNat / 256 % 256)
 have h4 := dec3_len (n.toNat % 256)
 simp
 omega
theorem hTx_size {k n : Int} {s : ByteArray} {x0 x1 x2 x3 x4 x5 x6 x7 : Int} (hs : s.size ≤ 1048576) : (hTx ⟨k, s, n, [x0, x1, x2, x3, x4, x5, x6, x7]⟩).size ≤ 1048576 := by
 cases hok : hOk ⟨k, s, n, [x0, x1, x2, x3, x4, x5, x6, x7]⟩ with
 | false => rw [hTx_no hok]; decide
 | true =>
  by_cases h1 : k = 1
  ·subst h1; rw [hTx1 hok]; exact hs
  by_cases h2 : k = 2
  ·subst h2
   rw [hTx2 hok]
   have := ip4T_le n
   omega
  by_cases h3 : k = 3
  ·subst h3
   have hr : okG [x0, x1, x2, x3, x4, x5, x6, x7] = true := by
    have h := hok
    rw [hOk3, Bool.and_eq_true] at h
    exact h.1
   rw [hTx3 hok, six_text, ByteArray.size_append, ByteArray.size_append]
   have := six_len hr
   have e1 : (⟨#[91]⟩ : ByteArray).size = 1 := rfl
   have e2 : (⟨#[93]⟩ : ByteArray).size = 1 := rfl
   omega
  rw [hOk0 k n s _ h1 h2 h3] at hok
  cases hok
def hostVal (h : HV) : Value := .agg (#[.int .i64 h.k, .string h.s, .int .i64 h.n] ++ (h.z.map (Value.int .i64)).toArray)
theorem readS_yes {r : List UInt8} (h : r.getLast? = some 93) : readS r = readB (par6 r.dropLast) := by unfold readS; rw [if_pos h]
theorem readS_no {r : List UInt8} (h : ¬ r.getLast? = some 93) : readS r = .bad 2 := by unfold readS; rw [if_neg h]
theorem readH_eight (s : ByteArray) : (rV (readH s)).z.length = 8 := by
 unfold readH
 split
 ·rfl
 split
 ·unfold readS
  split
  ·cases h : par6 _ with
   | none => rfl
   | some g =>
    show (g.map fun (x : Nat) => (x : Int)).length = 8
    rw [List.length_map]
    exact par6_eight _ g h
  rfl
 unfold readN
 split
 ·rfl
 unfold readM
 split
 ·split <;> rfl
 rfl
def hexT (x : Int) : ByteArray := ⟨(hex4 x.toNat).toArray⟩
def hxT (n : Nat) : ByteArray := ⟨#[hxU n]⟩
theorem hexT_1 {x : Int} (h0 : 0 ≤ x) (h : x < 16) : hexT x = hxT x.toNat := by
 unfold hexT hxT hex4
 rw [if_pos (by omega)]
theorem hexT_2 {x : Int} (h0 : 16 ≤ x) (h : x < 65536) : hexT x = hexT (x / 16) ++ hxT (x % 16).toNat := by
 have e0 : (x % 16).toNat = x.toNat % 16 := by omega
 have e1 : (x / 16).toNat = x.toNat / 16 := by omega
 unfold hexT hxT
 rw [show (⟨#[hxU (x % 16).toNat]⟩ : ByteArray) = ⟨[hxU (x % 16).toNat].toArray⟩ from rfl, cat_bytes, e0, e1]
 generalize hn : x.toNat = n
 have hn0 : 16 ≤ n := by omega
 have hn1 : n < 65536 := by omega
 unfold hex4
 by_cases c2 : n < 256
 ·rw [if_neg (by omega), if_pos c2, if_pos (by omega)]; rfl
 by_cases c3 : n < 4096
 ·rw [if_neg (by omega), if_neg c2, if_pos c3, if_neg (by omega), if_pos (by omega), show n / 16 / 16 = n / 256 by omega]; rfl
 rw [if_neg (by omega), if_neg c2, if_neg c3, if_neg (by omega), if_neg (by omega), if_pos (by omega), show n / 16 / 256 = n / 4096 by omega, show n / 16 / 16 % 16 = n / 256 % 16 by omega]; rfl
theorem hexT_size (x : Int) : (hexT x).size ≤ 4 := by
 unfold hexT
 show (hex4 x.toNat).toArray.size ≤ 4
 rw [List.size_toArray]
 exact (hex4_len _).2
theorem small16 : ∀ k, k < 16 → ((#[48, 49, 50, 51, 52, 53, 54, 55, 56, 57, 97, 98, 99, 100, 101, 102] : Array UInt8).getD k 0) = hxU k := by decide +kernel
theorem small_at (x : Int) (h0 : 0 ≤ x) (h : x < 16) (W : World) :
  (Instr.index 9 (.string ⟨#[48, 49, 50, 51, 52, 53, 54, 55, 56, 57, 97, 98, 99, 100, 101, 102]⟩) (.int .i64 x)).run Tryz.prog W = .ok (.int .u8 ((hxU x.toNat).toNat : Int)) W := by
 rw [run_index_string W 9 _ .i64 _ Tryz.underlying9, dif_pos ⟨h0, by show x < 16; exact h⟩]
 congr 3
 rw [← small16 x.toNat (by omega)]
 rw [Array.getD_eq_getD_getElem?, Array.getElem?_eq_getElem (by show x.toNat < 16; omega)]
 rfl
theorem conv_hx (W : World) (B n : Nat) (x : Int) (hx : x = ((hxU n).toNat : Int)) (h : W.cell? ⟨B, 0, none⟩ = some (.int .u8 x)) :
  (convert 22 9 (.slice (some ⟨B, 0, none⟩) 1 1)).run Tryz.prog W = .ok (.string (hxT n)) W := by
 have := conv_at W B (hxU n).toNat (hxU n).toNat_lt x hx h
 rw [UInt8.ofNat_toNat] at this
 exact this
theorem specGroup1 (x : Int) (w : World) (h0 : 0 ≤ x) (h1 : x < 16) :
  Calls Tryz.prog 93 #[.int .i64 x] w fun e w' => e = .returned (.string (hexT x)) ∧ Below w.heap.size w w' := by
 rw [hexT_1 h0 h1]
 have hix := small_at x h0 h1
 obtain ⟨d, hd⟩ : ∃ d : Int, ((hxU x.toNat).toNat : Int) = d := ⟨_, rfl⟩
 have hcv : (convert 22 9 (.slice (some ⟨w.heap.size, 0, none⟩) 1 1)).run Tryz.prog (w.alloc (.cells #[.int .u8 d] 5)) = .ok (.string (hxT x.toNat)) (w.alloc (.cells #[.int .u8 d] 5)) := conv_hx _ _ _ d hd.symm (by rw [World.cell?_alloc_at _ _ _ _ rfl]; rfl)
 rw [hd] at hix
 clear hd
 generalize hxT x.toNat = T at hcv ⊢
 go_enter Tryz.func93, Tryz.ntmps93
 go_wp2
 go_ret
 exact ⟨rfl, (Below.refl _ _).alloc (Nat.le_refl _) _⟩
theorem specGroup2 (x : Int) (w : World) (h0 : 16 ≤ x) (h1 : x < 65536) (CT : Hid (∀ W, Calls Tryz.prog 93 #[.int .i64 (x / 16)] W fun e w' => e = .returned (.string (hexT (x / 16))) ∧ Below W.heap.size W w')) :
  Calls Tryz.prog 93 #[.int .i64 x] w fun e w' => e = .returned (.string (hexT x)) ∧ Below w.heap.size w w' := by
 have HD : Hid (hexT x = hexT (x / 16) ++ hxT (x % 16).toNat) := hexT_2 h0 h1
 have hs1 := hexT_size (x / 16)
 have hs2 : (hxT (x % 16).toNat).size = 1 := rfl
 have hix := small_at (x % 16) (by omega) (by omega)
 obtain ⟨d, hd⟩ : ∃ d : Int, ((hxU (x % 16).toNat).toNat : Int) = d := ⟨_, rfl⟩
 rw [hd] at hix
 have ho : Hid (∀ (W' : World) (B : Nat), W'.cell? ⟨B, 0, none⟩ = some (.int .u8 d) → (convert 22 9 (.slice (some ⟨B, 0, none⟩) 1 1)).run Tryz.prog W' = .ok (.string (hxT (x % 16).toNat)) W') := fun W' B h => conv_hx W' B _ d hd.symm h
 clear hd
 have hn : Hid (∀ W : World, (convert 22 9 (.slice (some ⟨W.heap.size, 0, none⟩) 1 1)).run Tryz.prog (W.alloc (.cells #[.int .u8 d] 5)) = .ok (.string (hxT (x % 16).toNat)) (W.alloc (.cells #[.int .u8 d] 5))) := fun W => ho.out _ _ (by rw [World.cell?_alloc_at _ _ _ _ rfl]; rfl)
 obtain ⟨z, hz⟩ : ∃ z : Int, x % 16 = z := ⟨_, rfl⟩
 obtain ⟨y, hy⟩ : ∃ y : Int, x / 16 = y := ⟨_, rfl⟩
 rw [hz] at hn ho hs2 HD hix
 rw [hy] at CT hs1 HD
 have hz0 : 0 ≤ z := by omega
 have hz1 : z < 16 := by omega
 have hy0 : 0 ≤ y := by omega
 have hy1 : y < 4096 := by omega
 generalize hxT z.toNat = T2 at hn ho hs2 HD
 generalize hexT y = T1 at CT hs1 HD
 rw [HD.out]
 clear HD
 have hn2 := hn.out
 have hce : (w.alloc (.cells #[.int .u8 d] 5)).drew.cell? ⟨w.heap.size, 0, none⟩ = some (.int .u8 d) := by
  show (w.alloc (.cells #[.int .u8 d] 5)).cell? ⟨w.heap.size, 0, none⟩ = _
  rw [World.cell?_alloc_at _ _ _ _ rfl]; rfl
 have hn3 := ho.out _ _ hce
 have HCE : Hid ((w.alloc (.cells #[.int .u8 d] 5)).drew.cell? ⟨w.heap.size, 0, none⟩ = some (.int .u8 d)) := hce
 clear hce
 have t1 : IntKind.i64.wrap (x.tdiv 16) = y := by rw [Int.tdiv_eq_ediv_of_nonneg (by omega), hy]; exact i64_wrap_small _ (by omega) (by omega)
 have t2 : x.tmod 16 = z := by rw [Int.tmod_eq_emod_of_nonneg (by omega), hz]
 clear hy hz
 go_enter Tryz.func93, Tryz.ntmps93
 go_wp2_with fail
 go_region_with (go_at_call 93; refine (CT.out _).mono ?_; rintro e wc ⟨rfl, hbc⟩; first | have hcc := ho.out _ _ (cell_later hbc HCE.out) | skip)
 all_goals
  go_wp2
  go_ret
  refine ⟨rfl, ?_⟩
  first
   | exact ((Below.drew (Below.refl _ w)).trans hbc).alloc (Nat.le_trans (Nat.le_refl _) hbc.size) _
   | exact (((Below.refl w.heap.size w).alloc (Nat.le_refl _) _).drew).trans (hbc.mono (by simp))
theorem specGroup (x : Int) (w : World) (h0 : 0 ≤ x) (h1 : x < 65536) :
  Calls Tryz.prog 93 #[.int .i64 x] w fun e w' => e = .returned (.string (hexT x)) ∧ Below w.heap.size w w' := by
 have g1 : ∀ (x : Int) (w : World), 0 ≤ x → x < 256 → CB 93 #[.int .i64 x] w (.string (hexT x)) := fun x w h0 h1 => by
  by_cases c : x < 16
  ·exact specGroup1 x w h0 c
  exact specGroup2 x w (by omega) (by omega) fun W => specGroup1 _ W (by omega) (by omega)
 have g2 : ∀ (x : Int) (w : World), 0 ≤ x → x < 4096 → CB 93 #[.int .i64 x] w (.string (hexT x)) := fun x w h0 h1 => by
  by_cases c : x < 256
  ·exact g1 x w h0 c
  exact specGroup2 x w (by omega) (by omega) fun W => g1 _ W (by omega) (by omega)
 by_cases c : x < 4096
 ·exact g2 x w h0 c
 exact specGroup2 x w (by omega) (by omega) fun W => g2 _ W (by omega) (by omega)
end Go.Proofs.YtidecdlaeomfoaaGreat
