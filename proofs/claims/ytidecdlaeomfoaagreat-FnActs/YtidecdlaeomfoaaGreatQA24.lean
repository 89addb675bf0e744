/- DropDotsSpec, UrlSpec1. -/
import Derived.Test.YtidecdlaeomfoaaGreatQA23
set_option maxHeartbeats 4000000
set_option maxRecDepth 100000
namespace Go.Proofs.YtidecdlaeomfoaaGreat
open Go.RowKit
theorem rooted_yes {p : ByteArray} (h0 : 0 < p.size) (h : p[0].toNat = 47) : rooted p = true := by
 unfold rooted
 have e : p.data.toList.head? = some p[0] := by
  rw [List.head?_eq_getElem?, List.getElem?_eq_getElem (by simpa using h0)]
  rfl
 rw [e, UInt8.toNat_inj.1 (show p[0].toNat = (47 : UInt8).toNat from h)]
 rfl
theorem rooted_no {p : ByteArray} (h0 : 0 < p.size) (h : p[0].toNat ≠ 47) : rooted p = false := by
 unfold rooted
 have e : p.data.toList.head? = some p[0] := by
  rw [List.head?_eq_getElem?, List.getElem?_eq_getElem (by simpa using h0)]
  rfl
 rw [e, beq_eq_false_iff_ne]
 intro e2
 exact h (by rw [Option.some.inj e2]; rfl)
theorem rooted_empty {p : ByteArray} (h0 : p.size = 0) : rooted p = false := by
 unfold rooted
 rw [List.eq_nil_of_length_eq_zero (show p.data.toList.length = 0 by simpa using h0)]
 rfl
theorem dropT_no {p : ByteArray} (h : rooted p = false) : dropT p = p := by unfold dropT; rw [h]; rfl
theorem dropT_yes {p : ByteArray} (h : rooted p = true) : (⟨(slL (keptD (partsD p))).toArray⟩ : ByteArray) = dropT p := by unfold dropT; rw [h]; rfl
def curD (l : List ByteArray) (k : Nat) : List ByteArray := if k = l.length then keptD l else foldD (l.take k)
theorem cur_at {l : List ByteArray} {k : Nat} (h : k < l.length) : curD l k = foldD (l.take k) := by unfold curD; rw [if_neg (by omega)]
theorem cur_end (l : List ByteArray) : curD l l.length = keptD l := by unfold curD; rw [if_pos rfl]
theorem last_get {l : List ByteArray} {k : Nat} (h : k + 1 = l.length) : lastD l = l.getD k ByteArray.empty := by unfold lastD; rw [← h]; rfl
theorem fold_all {l : List ByteArray} {k : Nat} (h : k + 1 = l.length) : foldD l = stepD (foldD (l.take k)) (l.getD k ByteArray.empty) := by
 rw [← fold_take l k (by omega), h, List.take_length]
theorem cur_step {l : List ByteArray} {k : Nat} (h : k + 1 < l.length) : curD l (k + 1) = stepD (curD l k) (l.getD k ByteArray.empty) := by
 rw [cur_at h, fold_take l k (by omega), cur_at (by omega)]
theorem cur_last {l : List ByteArray} {k : Nat} (h : k + 1 = l.length) : curD l (k + 1) = if isd (toL (l.getD k ByteArray.empty)) = 0 then stepD (curD l k) (l.getD k ByteArray.empty) else stepD (curD l k) (l.getD k ByteArray.empty) ++ [ByteArray.empty] := by
 rw [h, cur_end]
 unfold keptD
 rw [last_get h, fold_all h, cur_at (show k < l.length by omega)]
theorem cur_length (l : List ByteArray) (k : Nat) : (curD l k).length ≤ l.length := by
 unfold curD
 split
 ·exact kept_length l
 exact Nat.le_trans (fold_length _) (by rw [List.length_take]; omega)
theorem cur_zero {l : List ByteArray} {k : Nat} {x : ByteArray} (hk : k < l.length) (hx : l.getD k ByteArray.empty = x) (h : isd x.data.toList = 0) : curD l (k + 1) = curD l k ++ [x] := by
 by_cases hl : k + 1 = l.length
 ·rw [cur_last hl, hx, if_pos (show isd (toL x) = 0 from h), step_zero h]
 rw [cur_step (by omega), hx, step_zero h]
theorem cur_dot {l : List ByteArray} {k : Nat} {x : ByteArray} (hk : k < l.length) (hx : l.getD k ByteArray.empty = x) (h : isd x.data.toList ≠ 0) : curD l (k + 1) = stepD (curD l k) x ++ (if k + 1 = l.length then [ByteArray.empty] else []) := by
 by_cases hl : k + 1 = l.length
 ·rw [if_pos hl, cur_last hl, hx, if_neg (show ¬ isd (toL x) = 0 from h)]
 rw [if_neg hl, cur_step (by omega), hx, List.append_nil]
theorem own_snoc {w1 : World} {B : Nat} {v : Value} {e : TypeId} {o : List ByteArray} {x : ByteArray} {m : Nat} (hm : m = o.length) (h : w1.ownsRow B e 1 v (m + 1) (scells o ++ #[Value.string x].toList)) : w1.ownsRow B e 1 v (o ++ [x]).length (scells (o ++ [x])) := by
 subst hm
 rw [scells_snoc, List.length_append]
 exact h
theorem sl_round {l : List ByteArray} {k : Nat} (hk : k < l.length) {z y : ByteArray} (hz : z.data.toList = slL (l.take k)) (hy : l.getD k ByteArray.empty = y) : ((z ++ (⟨#[47]⟩ : ByteArray)) ++ y).data.toList = slL (l.take (k + 1)) := by
 rw [btake_snoc l k hk, hy, sl_snoc, ← hz]
 simp [toL]
theorem sl_size {l : List ByteArray} {k n : Nat} {z : ByteArray} (h : z.data.toList = slL (l.take k)) (hl : (slL l).length ≤ n) : z.size ≤ n := by
 have h1 := sl_take l k
 rw [← h] at h1
 have h2 : z.data.toList.length = z.size := by simp
 omega
theorem specDropDotsB (p : ByteArray) (w : World) (hs : p.size ≤ 16777216) :
  Calls Tryz.prog 70 #[.string p] w fun e w' => e = .returned (.string (dropT p)) ∧ Below w.heap.size w w' := by
 by_cases h0 : p.size = 0
 ·have HD : Hid (p = dropT p) := (dropT_no (rooted_empty h0)).symm
  have he := empty_yes h0
  go_enter Tryz.func70, Tryz.ntmps70
  go_wp2
  go_ret
  exact ⟨ret_bytes HD.out, Below.refl _ _⟩
 have he := empty_no (show 0 < p.size by omega)
 by_cases h47 : p[0].toNat = 47
 ·have hr := rooted_yes (by omega) h47
  have HD : Hid ((⟨(slL (keptD (partsD p))).toArray⟩ : ByteArray) = dropT p) := dropT_yes hr
  have hpl := parts_rooted hr
  have hlp := parts_pos hr
  have hll : (partsD p).length ≤ 16777217 := by
   rw [hpl]
   have h1 := (fieldsTo_le (p.extract 1 p.size) 47 (p.extract 1 p.size).size).2
   have h2 : (p.extract 1 p.size).size ≤ p.size := by rw [ByteArray.size_extract]; omega
   unfold fieldsL
   rw [List.length_append, List.length_singleton]
   omega
  have hxs : ∀ j, ((partsD p).getD j ByteArray.empty).size ≤ 16777216 := fun j => by
   by_cases hj : j < (partsD p).length
   ·have hm : (partsD p).getD j ByteArray.empty ∈ partsD p := by
     rw [List.getD_eq_getElem?_getD, List.getElem?_eq_getElem hj]
     exact List.getElem_mem hj
    generalize (partsD p).getD j ByteArray.empty = y at hm
    rw [hpl] at hm
    have h1 := fieldsL_sizes _ _ _ hm
    rw [ByteArray.size_extract] at h1
    omega
   rw [List.getD_eq_getElem?_getD, List.getElem?_eq_none (by omega)]
   decide
  have hkz : (slL (keptD (partsD p))).length ≤ 16777216 := by
   have h1 := kept_size (partsD p)
   rw [sl_parts hr] at h1
   have h2 : p.data.toList.length = p.size := by simp
   omega
  have CF : Hid (∀ W, Calls Tryz.prog 74 #[.string (p.extract 1 p.size), .int .u8 47] W fun e w' => ∃ v, e = .returned v ∧ w'.ownsRow W.heap.size 9 1 v (partsD p).length (scells (partsD p)) ∧ Below W.heap.size W w') := fun W => by
   have h1 := specFieldsB (p.extract 1 p.size) 47 W (by rw [ByteArray.size_extract]; omega)
   rw [← hpl] at h1
   exact h1
  clear hpl
  generalize partsD p = l at HD hlp hll hxs hkz CF
  have HX : Hid (∀ j, (l.getD j ByteArray.empty).size ≤ 16777216) := hxs
  clear hxs hr
  go_enter Tryz.func70, Tryz.ntmps70
  go_wp2_with fail
  refine (CF.out _).mono ?_
  rintro e wa ⟨va, rfl, oa, ba⟩
  have za := ba.size
  rcases own_shape oa with ⟨h, _⟩ | ⟨_, g, cp, rfl⟩
  ·omega
  have hglt := (oa.lt g rfl).2
  have HC : Hid (∀ j, j < l.length → wa.cell? ⟨g, j, none⟩ = some (.string (l.getD j ByteArray.empty))) := fun j hj => scell_at oa j hj
  clear oa
  go_wp2_with fail
  go_loopw [4, 5] (fun o i wr => ∃ k : Nat, k ≤ l.length ∧ i = .int .i64 k ∧ wr.ownsRow wa.heap.size 9 1 o (curD l k).length (scells (curD l k)) ∧ Below wa.heap.size wa wr)
   (fun _ i _ => l.length - (intOf i).toNat)
  case atStart => exact ⟨0, Nat.zero_le _, rfl, by rw [cur_at hlp]; exact World.ownsRow_lit wa #[] 0 (Nat.le_refl _) (by decide) rfl, (Below.refl _ _).alloc (Nat.le_refl _) _⟩
  obtain ⟨k, hk, rfl, hown, hbel⟩ := hrel
  have hsz := hbel.size
  have hcl := cur_length l k
  by_cases hlt : k < l.length
  ·have hcell : wr.cell? ⟨g, k, none⟩ = some (.string (l.getD k ByteArray.empty)) := by
    rw [cell_same (hbel.block g hglt) k]
    exact HC.out k hlt
   have hx1 := HX.out k
   obtain ⟨x, hx⟩ : ∃ x, l.getD k ByteArray.empty = x := ⟨_, rfl⟩
   rw [hx] at hcell hx1
   have hxi : (x.size : Int) ≤ 16777216 := by omega
   have HXE : Hid (l.getD k ByteArray.empty = x) := hx
   have hd := isd_le x.data.toList
   have CI : Hid (∀ W, CS 84 #[.string x] W (.int .i64 (isd x.data.toList : Int))) := fun W => specIsDotB x W hx1
   clear hx
   by_cases d0 : isd x.data.toList = 0
   ·have HN : Hid (curD l (k + 1) = curD l k ++ [x]) := cur_zero hlt HXE.out d0
    rw [d0] at CI
    clear d0 hd
    obtain ⟨O, hO⟩ : ∃ O, curD l k = O := ⟨_, rfl⟩
    rw [hO] at hown hcl HN
    clear hO
    go_wp2_with fail
    refine (CI.out _).mono ?_
    rintro e w' ⟨rfl, rfl⟩
    go_wp2_with (at_builtin; refine wpList_append_new _ rfl _ _ 59 rfl wa.heap.size 9 (.string ⟨#[]⟩) 16 Tryz.underlying59 Tryz.infoStr rfl _ _ _ rfl hown #[.string x] 1 rfl rfl (str_one _) (by omega) (by unfold maxLen; omega) (by omega) ?_)
    intro v' w1 hown' hb1
    have B1 : Below wa.heap.size wa w1 := hbel.trans hb1
    clear hb1 hbel
    go_wp2
    go_roundw
    case rel => exact ⟨k + 1, by omega, by go_num, by rw [HN.out]; exact own_snoc rfl hown', B1⟩
    case measure => simp [intOf]; omega
   have HD2 : Hid (curD l (k + 1) = stepD (curD l k) x ++ (if k + 1 = l.length then [ByteArray.empty] else [])) := cur_dot hlt HXE.out d0
   obtain ⟨O, hO⟩ : ∃ O, curD l k = O := ⟨_, rfl⟩
   rw [hO] at hown hcl HD2
   clear hO
   by_cases d2 : isd x.data.toList = 2
   ·rw [step_two d2] at HD2
    rw [d2] at CI
    clear d0 d2 hd
    rcases own_shape hown with ⟨hl, hnil, ao, cap, rfl⟩ | ⟨hl, b, cap, rfl⟩
    ·have hO : O.take (O.length - 1) = O := List.take_of_length_le (by omega)
     rw [hO] at HD2
     clear hO
     have HO0 : Hid (O.length = 0) := hl
     have hown2 : wr.ownsRow wa.heap.size 9 1 (.slice ao 0 cap) 0 (scells O) := by have h5 := hown; rw [hl] at h5; exact h5
     clear hnil
     by_cases hla : k + 1 = l.length
     ·rw [if_pos hla] at HD2
      have HN : Hid (curD l (k + 1) = O ++ [ByteArray.empty]) := HD2.out
      have hki : (((k : Int) : Int) == (l.length : Int) - 1) = true := by rw [beq_iff_eq]; omega
      clear hla HD2 hown hl
      go_wp2_with fail
      refine (CI.out _).mono ?_
      rintro e w' ⟨rfl, rfl⟩
      go_wp2_with (at_builtin; refine wpList_append_new _ rfl _ _ 59 rfl wa.heap.size 9 (.string ⟨#[]⟩) 16 Tryz.underlying59 Tryz.infoStr rfl _ _ _ rfl hown2 #[.string ⟨#[]⟩] 1 rfl rfl (str_one _) (by omega) (by unfold maxLen; omega) (by omega) ?_)
      intro v' w1 hown' hb1
      have B1 : Below wa.heap.size wa w1 := hbel.trans hb1
      clear hb1 hbel
      go_wp2
      go_roundw
      case rel => exact ⟨k + 1, by omega, by go_num, by rw [HN.out]; exact own_snoc HO0.out.symm hown', B1⟩
      case measure => simp [intOf]; omega
     rw [if_neg hla, List.append_nil] at HD2
     have HN : Hid (curD l (k + 1) = O) := HD2.out
     have hki : (((k : Int) : Int) == (l.length : Int) - 1) = false := by rw [beq_eq_false_iff_ne]; omega
     clear hla HD2 hl
     go_wp2_with fail
     refine (CI.out _).mono ?_
     rintro e w' ⟨rfl, rfl⟩
     go_wp2
     go_roundw
     case rel => exact ⟨k + 1, by omega, by go_num, by rw [HN.out]; exact hown, hbel⟩
     case measure => simp [intOf]; omega
    have hcap := own_cap hown
    have hown2 := own_take hown (O.length - 1) (by omega)
    rw [scells_take] at hown2
    have HL : Hid (O.length - 1 = (O.take (O.length - 1)).length) := by show _ = _; rw [List.length_take]; omega
    by_cases hla : k + 1 = l.length
    ·rw [if_pos hla] at HD2
     have HN : Hid (curD l (k + 1) = O.take (O.length - 1) ++ [ByteArray.empty]) := HD2.out
     have hki : (((k : Int) : Int) == (l.length : Int) - 1) = true := by rw [beq_iff_eq]; omega
     clear hla HD2 hown
     go_wp2_with fail
     refine (CI.out _).mono ?_
     rintro e w' ⟨rfl, rfl⟩
     go_wp2_with (at_builtin; refine wpList_append_new _ rfl _ _ 59 rfl wa.heap.size 9 (.string ⟨#[]⟩) 16 Tryz.underlying59 Tryz.infoStr rfl _ _ _ rfl hown2 #[.string ⟨#[]⟩] 1 rfl rfl (str_one _) (by omega) (by unfold maxLen; omega) (by omega) ?_)
     intro v' w1 hown' hb1
     have B1 : Below wa.heap.size wa w1 := hbel.trans hb1
     clear hb1 hbel
     go_wp2
     go_roundw
     case rel => exact ⟨k + 1, by omega, by go_num, by rw [HN.out]; exact own_snoc HL.out hown', B1⟩
     case measure => simp [intOf]; omega
    rw [if_neg hla, List.append_nil] at HD2
    have HN : Hid (curD l (k + 1) = O.take (O.length - 1)) := HD2.out
    have hki : (((k : Int) : Int) == (l.length : Int) - 1) = false := by rw [beq_eq_false_iff_ne]; omega
    have hown3 : wr.ownsRow wa.heap.size 9 1 (.slice (some ⟨b, 0, none⟩) (O.length - 1) cap) (O.take (O.length - 1)).length (scells (O.take (O.length - 1))) := by rw [← HL.out]; exact hown2
    clear hla HD2 hown hown2
    go_wp2_with fail
    refine (CI.out _).mono ?_
    rintro e w' ⟨rfl, rfl⟩
    go_wp2
    go_roundw
    case rel => exact ⟨k + 1, by omega, by go_num, by rw [HN.out]; exact hown3, hbel⟩
    case measure => simp [intOf]; omega
   have d1 : isd x.data.toList = 1 := by omega
   rw [step_one d1] at HD2
   rw [d1] at CI
   clear d0 d2 d1 hd
   by_cases hla : k + 1 = l.length
   ·rw [if_pos hla] at HD2
    have HN : Hid (curD l (k + 1) = O ++ [ByteArray.empty]) := HD2.out
    have hki : (((k : Int) : Int) == (l.length : Int) - 1) = true := by rw [beq_iff_eq]; omega
    clear hla HD2
    go_wp2_with fail
    refine (CI.out _).mono ?_
    rintro e w' ⟨rfl, rfl⟩
    go_wp2_with (at_builtin; refine wpList_append_new _ rfl _ _ 59 rfl wa.heap.size 9 (.string ⟨#[]⟩) 16 Tryz.underlying59 Tryz.infoStr rfl _ _ _ rfl hown #[.string ⟨#[]⟩] 1 rfl rfl (str_one _) (by omega) (by unfold maxLen; omega) (by omega) ?_)
    intro v' w1 hown' hb1
    have B1 : Below wa.heap.size wa w1 := hbel.trans hb1
    clear hb1 hbel
    go_wp2
    go_roundw
    case rel => exact ⟨k + 1, by omega, by go_num, by rw [HN.out]; exact own_snoc rfl hown', B1⟩
    case measure => simp [intOf]; omega
   rw [if_neg hla, List.append_nil] at HD2
   have HN : Hid (curD l (k + 1) = O) := HD2.out
   have hki : (((k : Int) : Int) == (l.length : Int) - 1) = false := by rw [beq_eq_false_iff_ne]; omega
   clear hla HD2
   go_wp2_with fail
   refine (CI.out _).mono ?_
   rintro e w' ⟨rfl, rfl⟩
   go_wp2
   go_roundw
   case rel => exact ⟨k + 1, by omega, by go_num, by rw [HN.out]; exact hown, hbel⟩
   case measure => simp [intOf]; omega
  have hke : k = l.length := by omega
  rw [hke, cur_end] at hown
  clear hcl
  have hKn := kept_ne hlp
  have hKl := kept_length l
  generalize keptD l = K at hown hKn hKl HD hkz
  have HK : Hid (K ≠ []) := hKn
  clear hKn
  rcases own_shape hown with ⟨h, _⟩ | ⟨hK0, b, cap, rfl⟩
  ·exact absurd (List.eq_nil_of_length_eq_zero h) HK.out
  have HCK : Hid (∀ j, j < K.length → wr.cell? ⟨b, j, none⟩ = some (.string (K.getD j ByteArray.empty))) := fun j hj => scell_at hown j hj
  have hcap := own_cap hown
  have BW : Below w.heap.size w wr := ba.trans (hbel.mono za)
  clear hown hbel hke
  go_wp2_with fail
  go_loop [7, 8] (fun t i => ∃ (k : Nat) (z : ByteArray), k ≤ K.length ∧ i = .int .i64 k ∧ t = .string z ∧ z.data.toList = slL (K.take k)) (fun _ i => K.length - (intOf i).toNat)
  case atStart => exact ⟨0, ⟨#[]⟩, Nat.zero_le _, rfl, rfl, rfl⟩
  obtain ⟨j, z, hj, rfl, rfl, hz⟩ := hrel
  have HZ : Hid (z.data.toList = slL (K.take j)) := hz
  have hzs := sl_size hz hkz
  clear hz
  by_cases hjl : j < K.length
  ·have hc := HCK.out j hjl
   obtain ⟨y, hy⟩ : ∃ y, K.getD j ByteArray.empty = y := ⟨_, rfl⟩
   rw [hy] at hc
   have HN : Hid (((z ++ (⟨#[47]⟩ : ByteArray)) ++ y).data.toList = slL (K.take (j + 1))) := sl_round hjl HZ.out hy
   have hns := sl_size HN.out hkz
   have hd1 : (⟨#[47]⟩ : ByteArray).size = 1 := rfl
   have hys : y.size ≤ 16777216 := by rw [ByteArray.size_append, ByteArray.size_append, hd1] at hns; omega
   clear hy hns
   go_wp2_with fail
   go_round
   case rel => exact ⟨j + 1, _, by omega, by go_num, rfl, HN.out⟩
   case measure => simp [intOf]; omega
  have HE : Hid (z = dropT p) := by
   show _ = _
   rw [← HD.out]
   apply toL_inj
   show z.data.toList = _
   rw [HZ.out, List.take_of_length_le (by omega)]
   rfl
  go_wp2
  go_ret
  exact ⟨ret_bytes HE.out, BW⟩
 have HD : Hid (p = dropT p) := (dropT_no (rooted_no (by omega) h47)).symm
 go_enter Tryz.func70, Tryz.ntmps70
 go_wp2
 go_ret
 exact ⟨ret_bytes HD.out, Below.refl _ _⟩
theorem slB_yes {c : UInt8} (h : c.toNat = 47 ∨ c.toNat = 92) : slB c = true := by
 unfold slB
 rcases h with h | h
 ·rw [UInt8.toNat_inj.1 (show c.toNat = (47 : UInt8).toNat from h)]; rfl
 rw [UInt8.toNat_inj.1 (show c.toNat = (92 : UInt8).toNat from h)]; rfl
theorem slB_no {c : UInt8} (h1 : c.toNat ≠ 47) (h2 : c.toNat ≠ 92) : slB c = false := by
 unfold slB
 rw [Bool.or_eq_false_iff, beq_eq_false_iff_ne, beq_eq_false_iff_ne]
 exact ⟨fun e => h1 (by rw [e]; rfl), fun e => h2 (by rw [e]; rfl)⟩
theorem specSlash (c : UInt8) (d : Nat) (hd : c.toNat = d) (w : World) :
  Calls Tryz.prog 45 #[.int .u8 (d : Int)] w fun e w' => e = .returned (.bool (slB c)) ∧ w = w' := by
 by_cases h1 : d = 47
 ·have HS : Hid (slB c = true) := slB_yes (by omega)
  subst h1
  clear hd
  go_enter Tryz.func45, Tryz.ntmps45
  go_wp2
  go_ret
  exact ⟨ret_bool HS.out.symm, rfl⟩
 have q1 : ((d : Int) == 47) = false := beq_eq_false_iff_ne.2 (by omega)
 by_cases h2 : d = 92
 ·have HS : Hid (slB c = true) := slB_yes (by omega)
  subst h2
  clear hd
  go_enter Tryz.func45, Tryz.ntmps45
  go_wp2
  go_ret
  exact ⟨ret_bool HS.out.symm, rfl⟩
 have q2 : ((d : Int) == 92) = false := beq_eq_false_iff_ne.2 (by omega)
 have HS : Hid (slB c = false) := slB_no (by omega) (by omega)
 clear hd h1 h2
 go_enter Tryz.func45, Tryz.ntmps45
 go_wp2
 go_ret
 exact ⟨ret_bool HS.out.symm, rfl⟩
def clL (l : List UInt8) : List UInt8 := (l.takeWhile fun c => c != 35).filter fun c => c != 9 && c != 10 && c != 13
theorem cl_mark {c : UInt8} (h : c.toNat = 35) (r : List UInt8) : clL (c :: r) = [] := by
 rw [UInt8.toNat_inj.1 (show c.toNat = (35 : UInt8).toNat from h)]
 rfl
theorem ne_of {c : UInt8} {n : UInt8} (h : c.toNat ≠ n.toNat) : (c != n) = true := by
 rw [bne_iff_ne]
 intro e
 exact h (by rw [e])
theorem cl_skip {c : UInt8} (h : c.toNat = 9 ∨ c.toNat = 10 ∨ c.toNat = 13) (r : List UInt8) : clL (c :: r) = clL r := by
 unfold clL
 rw [List.takeWhile_cons, if_pos (ne_of (n := 35) (by show c.toNat ≠ 35; omega)), List.filter_cons, if_neg]
 rcases h with h | h | h
 ·rw [UInt8.toNat_inj.1 (show c.toNat = (9 : UInt8).toNat from h)]; decide
 ·rw [UInt8.toNat_inj.1 (show c.toNat = (10 : UInt8).toNat from h)]; decide
 rw [UInt8.toNat_inj.1 (show c.toNat = (13 : UInt8).toNat from h)]; decide
theorem cl_keep {c : UInt8} (h0 : c.toNat ≠ 35) (h1 : c.toNat ≠ 9) (h2 : c.toNat ≠ 10) (h3 : c.toNat ≠ 13) (r : List UInt8) : clL (c :: r) = c :: clL r := by
 unfold clL
 rw [List.takeWhile_cons, if_pos (ne_of (n := 35) h0), List.filter_cons, if_pos]
 rw [ne_of (n := 9) h1, ne_of (n := 10) h2, ne_of (n := 13) h3]
 rfl
theorem specClean (s : ByteArray) (w : World) (hs : s.size ≤ 1048576) :
  Calls Tryz.prog 43 #[.string s] w fun e w' => e = .returned (.string ⟨(cleanL s.data.toList).toArray⟩) ∧ Below w.heap.size w w' := by
 have hts : (⟨(Lib.trimS s.data.toList blanks4).toArray⟩ : ByteArray).size ≤ 1048576 := by
  have h1 := trimS_le s.data.toList blanks4
  have h2 : (⟨(Lib.trimS s.data.toList blanks4).toArray⟩ : ByteArray).size = (Lib.trimS s.data.toList blanks4).length := List.size_toArray
  have h3 : s.data.toList.length = s.size := by simp
  omega
 have HF : Hid (cleanL s.data.toList = clL (⟨(Lib.trimS s.data.toList blanks4).toArray⟩ : ByteArray).data.toList) := rfl
 have CT : Hid (∀ W, CS 56 #[.string s] W (.string ⟨(Lib.trimS s.data.toList blanks4).toArray⟩)) := fun W => specTrim s W (by omega)
 generalize (⟨(Lib.trimS s.data.toList blanks4).toArray⟩ : ByteArray) = t at hts HF CT
 go_enter Tryz.func43, Tryz.ntmps43
 go_wp2_with fail
 refine (CT.out _).mono ?_
 rintro e w' ⟨rfl, rfl⟩
 go_wp2_with fail
 go_loopw [3, 5] (fun b i wr => ∃ (k : Nat) (o : List UInt8), k ≤ t.size ∧ i = .int .i64 k ∧ o.length ≤ k ∧ wr.ownsRow w.heap.size 5 1 b o.length (bcells o) ∧ o ++ clL (t.data.toList.drop k) = clL t.data.toList ∧ Below w.heap.size w wr)
  (fun _ i _ => t.size - (intOf i).toNat)
 case atStart => exact ⟨0, [], Nat.zero_le _, rfl, Nat.zero_le _, World.ownsRow_lit w #[] 0 (Nat.le_refl _) (by decide) rfl, rfl, (Below.refl _ _).alloc (Nat.le_refl _) _⟩
 obtain ⟨k, o, hk, rfl, hol, hown, he, hbel⟩ := hrel
 have HE : Hid (o ++ clL (t.data.toList.drop k) = clL t.data.toList) := he
 clear he
 have hsz := hbel.size
 by_cases hlt : k < t.size
 ·have hdr := drop_at t k hlt
  rw [hdr] at HE
  clear hdr
  obtain ⟨d, hd⟩ : ∃ d : Nat, t[k].toNat = d := ⟨_, rfl⟩
  have hd2 : d < 256 := by rw [← hd]; exact t[k].toNat_lt
  by_cases h35 : d = 35
  ·have HN : Hid (o = clL t.data.toList) := by show _ = _; rw [← HE.out, cl_mark (by omega), List.append_nil]
   have HO := run_string_own (P := Tryz.prog) wr 22 9 5 Tryz.underlying22 Tryz.underlying5 Tryz.underlying9 hown
   subst h35
   go_wp2
   go_ret
   exact ⟨ret_str (HN.out.trans HF.out.symm), hbel⟩
  have q35 : ((d : Int) != 35) = true := bne_iff_ne.2 (by omega)
  by_cases hw : d = 9 ∨ d = 10 ∨ d = 13
  ·have HN : Hid (o ++ clL (t.data.toList.drop (k + 1)) = clL t.data.toList) := by show _ = _; rw [← HE.out, cl_skip (by omega)]
   rcases hw with h | h | h
   all_goals
    subst h
    go_wp2
    go_roundw
    case rel => exact ⟨k + 1, o, by omega, by go_num, by omega, hown, HN.out, hbel⟩
    case measure => simp [intOf]; omega
  have HN : Hid ((o ++ [t[k]]) ++ clL (t.data.toList.drop (k + 1)) = clL t.data.toList) := by show _ = _; rw [← HE.out, cl_keep (by omega) (by omega) (by omega) (by omega)]; simp
  have q9 : ((d : Int) != 9) = true := bne_iff_ne.2 (by omega)
  have q10 : ((d : Int) != 10) = true := bne_iff_ne.2 (by omega)
  have q13 : ((d : Int) != 13) = true := bne_iff_ne.2 (by omega)
  have HD : Hid ((d : Int) = (t[k].toNat : Int)) := by show _ = _; omega
  clear hw h35
  go_wp2_with (at_builtin; refine wpList_append_new _ rfl _ _ 22 rfl w.heap.size 5 (.int .u8 0) 1 Tryz.underlying22 Tryz.info5 rfl _ _ _ rfl hown #[.int .u8 (d : Int)] 1 rfl rfl (byte_one _) (by omega) (by unfold maxLen; omega) (by omega) ?_)
  intro v' w1 hown' hb1
  have R := own_byte t[k] HD.out hown'
  have B1 : Below w.heap.size w w1 := hbel.trans hb1
  clear hown' hb1 hown hbel
  go_wp2
  go_roundw
  case rel => exact ⟨k + 1, _, by omega, by go_num, by simp; omega, R, HN.out, B1⟩
  case measure => simp [intOf]; omega
 have HN : Hid (o = clL t.data.toList) := by
  show _ = _
  rw [← HE.out, List.drop_of_length_le (by simp; omega)]
  simp [clL]
 have HO := run_string_own (P := Tryz.prog) wr 22 9 5 Tryz.underlying22 Tryz.underlying5 Tryz.underlying9 hown
 go_wp2
 go_ret
 exact ⟨ret_str (HN.out.trans HF.out.symm), hbel⟩
def backC (c : UInt8) : UInt8 := if c = 92 then 47 else c
def backTo (l : List UInt8) (k : Nat) : List UInt8 := (l.take k).map backC ++ l.drop k
theorem backTo_zero (l : List UInt8) : backTo l 0 = l := by simp [backTo]
theorem backTo_length (l : List UInt8) (k : Nat) : (backTo l k).length = l.length := by simp [backTo]; omega
theorem backTo_at (s : ByteArray) (k : Nat) (h : k < s.size) (h' : k < (backTo s.data.toList k).length) : (backTo s.data.toList k)[k] = s[k] := by
 have hk : k < s.data.toList.length := by simpa using h
 have e : (backTo s.data.toList k)[k]? = some s[k] := by
  unfold backTo
  rw [List.getElem?_append_right (by simp; omega)]
  simp only [List.length_map, List.length_take, Nat.min_eq_left (Nat.le_of_lt hk), Nat.sub_self, List.getElem?_drop, Nat.add_zero]
  rw [List.getElem?_eq_getElem hk]
  rfl
 rw [List.getElem?_eq_getElem h'] at e
 exact Option.some.inj e
theorem backTo_succ (s : ByteArray) (k : Nat) (h : k < s.size) : (backTo s.data.toList k).set k (backC s[k]) = backTo s.data.toList (k + 1) := by
 have hk : k < s.data.toList.length := by simpa using h
 unfold backTo
 rw [List.set_append_right _ _ (by simp; omega)]
 rw [take_snoc s k h, List.drop_eq_getElem_cons hk]
 simp [Nat.min_eq_left (Nat.le_of_lt h)]
theorem backTo_keep (s : ByteArray) (k : Nat) (h : k < s.size) (hc : backC s[k] = s[k]) : backTo s.data.toList k = backTo s.data.toList (k + 1) := by
 rw [← backTo_succ s k h, hc]
 have h' : k < (backTo s.data.toList k).length := by rw [backTo_length]; simpa using h
 rw [← backTo_at s k h h', List.set_getElem_self]
theorem backTo_all (s : ByteArray) (k : Nat) (h : s.size ≤ k) : backTo s.data.toList k = backL s.data.toList := by
 unfold backTo backL
 rw [take_all s k h, List.drop_eq_nil_of_le (by simp; omega), List.append_nil]
 rfl
theorem backL_length (l : List UInt8) : (backL l).length = l.length := by simp [backL]
theorem specPath (s : ByteArray) (w : World) (hs : s.size ≤ 4194304) :
  Calls Tryz.prog 63 #[.string s] w fun e w' => e = .returned (.string (dropT (plB 1 ⟨(backL s.data.toList).toArray⟩))) ∧ Below w.heap.size w w' := by
 obtain ⟨cap, hcap⟩ : ∃ cap, grownCap w s.size 0 5 = cap := ⟨_, rfl⟩
 have hconv := run_bytes_of_string w 9 22 5 s Tryz.underlying9 Tryz.underlying22 Tryz.underlying5
 rw [hcap] at hconv
 have hmade := bytesAt_made w s cap 5
 generalize hC : bytesRow s cap = C at hconv hmade
 clear hC hcap
 have hbs : (⟨(backL s.data.toList).toArray⟩ : ByteArray).size ≤ 4194304 := by
  show (backL s.data.toList).toArray.size ≤ _
  rw [List.size_toArray, backL_length]
  simpa using hs
 have CP : Hid (∀ W, CB 64 #[.string ⟨(backL s.data.toList).toArray⟩, .int .i64 1] W (.string (plB 1 ⟨(backL s.data.toList).toArray⟩))) := fun W => specPlainly ⟨(backL s.data.toList).toArray⟩ 1 W (by omega)
 have hps : (plB 1 ⟨(backL s.data.toList).toArray⟩).size ≤ 16777216 := by
  show (plL 1 (backL s.data.toList)).toArray.size ≤ _
  rw [List.size_toArray]
  have h1 := pl_len 1 (backL s.data.toList)
  rw [backL_length] at h1
  have h2 : s.data.toList.length = s.size := by simp
  omega
 have CD : Hid (∀ W, CB 70 #[.string (plB 1 ⟨(backL s.data.toList).toArray⟩)] W (.string (dropT (plB 1 ⟨(backL s.data.toList).toArray⟩)))) := fun W => specDropDotsB _ W hps
 generalize plB 1 ⟨(backL s.data.toList).toArray⟩ = T at CP CD hps
 go_enter Tryz.func63, Tryz.ntmps63
 go_wp2_with fail
 go_loopw [4] (fun i wr => ∃ k : Nat, k ≤ s.size ∧ i = .int .i64 k ∧ bytesAt wr w.heap.size (backTo s.data.toList k) ∧ Below w.heap.size w wr)
  (fun i _ => s.size - (intOf i).toNat)
 case atStart => exact ⟨0, Nat.zero_le _, rfl, by rw [backTo_zero]; exact hmade, ((Below.refl _ _).alloc (Nat.le_refl _) _).drew⟩
 obtain ⟨k, hk, rfl, hat, hbel⟩ := hrel
 clear hmade hconv
 by_cases hlt : k < s.size
 ·have hl : k < (backTo s.data.toList k).length := by rw [backTo_length]; simpa using hlt
  obtain ⟨hc, hf⟩ := hat k hl
  rw [backTo_at s k hlt hl] at hc
  obtain ⟨d, hd⟩ : ∃ d : Nat, s[k].toNat = d := ⟨_, rfl⟩
  rw [hd] at hc
  by_cases h92 : d = 92
  ·have HB : Hid (backC s[k] = 47) := by
    show _ = _
    unfold backC
    rw [if_pos (UInt8.toNat_inj.1 (show s[k].toNat = (92 : UInt8).toNat from hd.trans h92))]
   have HS := backTo_succ s k hlt
   have HSS : Hid ((backTo s.data.toList k).set k (backC s[k]) = backTo s.data.toList (k + 1)) := HS
   subst h92
   clear HS hd
   go_wp2
   go_roundw
   case rel =>
    refine ⟨k + 1, by omega, by go_num, ?_, hbel.setCell (Nat.le_refl _) _⟩
    rw [← HSS.out]
    exact hat.set k hl (backC s[k]) (by rw [HB.out]; rfl)
   case measure => simp [intOf]; omega
  have q92 : ((d : Int) == 92) = false := beq_eq_false_iff_ne.2 (by omega)
  have HB : Hid (backC s[k] = s[k]) := by
   show _ = _
   unfold backC
   rw [if_neg]
   intro e
   exact h92 (by rw [← hd, e]; rfl)
  have HK : Hid (backTo s.data.toList k = backTo s.data.toList (k + 1)) := backTo_keep s k hlt HB.out
  clear hd h92
  go_wp2
  go_roundw
  case rel => exact ⟨k + 1, by omega, by go_num, by rw [← HK.out]; exact hat, hbel⟩
  case measure => simp [intOf]; omega
 rw [backTo_all s k (by omega)] at hat
 have HO := run_string_at (P := Tryz.prog) wr 22 9 5 Tryz.underlying22 Tryz.underlying5 Tryz.underlying9 (n := s.size) (cap := cap) (by rw [backL_length]; simp) hat
 generalize (⟨(backL s.data.toList).toArray⟩ : ByteArray) = Z at HO CP hbs
 go_wp2_with fail
 refine (CP.out _).mono ?_
 rintro e wa ⟨rfl, ba⟩
 have Ba : Below w.heap.size w wa := hbel.trans (ba.mono hbel.size)
 clear ba hbel
 go_wp2_with fail
 refine (CD.out _).mono ?_
 rintro e wb ⟨rfl, bb⟩
 have Bb : Below w.heap.size w wb := Ba.trans (bb.mono Ba.size)
 clear bb Ba
 go_wp2
 go_ret
 exact ⟨rfl, Bb⟩
def colZ (l : List UInt8) : Int := match colI l with
 | none => -1
 | some k => (k : Int)
theorem lastB_hit {s : ByteArray} {k : Nat} (hk : k < s.size) (h : s[k].toNat = 93) : lastB s.data.toList (k + 1) = k := by
 unfold lastB
 rw [if_pos]
 rw [getD_at s k hk]
 exact UInt8.toNat_inj.1 h
theorem lastB_miss {s : ByteArray} {k : Nat} (hk : k < s.size) (h : s[k].toNat ≠ 93) : lastB s.data.toList (k + 1) = lastB s.data.toList k := by
 conv => lhs; unfold lastB
 rw [if_neg]
 rw [getD_at s k hk]
 intro e
 exact h (by rw [e]; rfl)
theorem lastB_le (l : List UInt8) : ∀ k, lastB l k ≤ k
 | 0 => Nat.le_refl _
 | k + 1 => by
  have := lastB_le l k
  unfold lastB
  split <;> omega
theorem find_miss {c : UInt8} {r : List UInt8} (h : c.toNat ≠ 58) : (c :: r).findIdx? (fun c => c == 58) = (r.findIdx? fun c => c == 58).map (· + 1) := by
 rw [List.findIdx?_cons, if_neg]
 intro e
 rw [beq_iff_eq] at e
 exact h (by rw [e]; rfl)
theorem find_hit {c : UInt8} {r : List UInt8} (h : c.toNat = 58) : (c :: r).findIdx? (fun c => c == 58) = some 0 := by
 rw [List.findIdx?_cons, if_pos]
 rw [beq_iff_eq]
 exact UInt8.toNat_inj.1 h
theorem col_hit {s : ByteArray} {j : Nat} (hj : j < s.size) (h : s[j].toNat = 58) (he : colI s.data.toList = ((s.data.toList.drop j).findIdx? fun c => c == 58).map (· + j)) : (j : Int) = colZ s.data.toList := by
 unfold colZ
 rw [he, drop_at s j hj, find_hit h]
 simp
theorem col_miss {s : ByteArray} {j : Nat} (hj : j < s.size) (h : s[j].toNat ≠ 58) (he : colI s.data.toList = ((s.data.toList.drop j).findIdx? fun c => c == 58).map (· + j)) : colI s.data.toList = ((s.data.toList.drop (j + 1)).findIdx? fun c => c == 58).map (· + (j + 1)) := by
 rw [he, drop_at s j hj, find_miss h, Option.map_map]
 congr 1
 funext x
 show x + 1 + j = _
 omega
theorem col_end {s : ByteArray} {j : Nat} (hj : s.size ≤ j) (he : colI s.data.toList = ((s.data.toList.drop j).findIdx? fun c => c == 58).map (· + j)) : (-1 : Int) = colZ s.data.toList := by
 unfold colZ
 rw [he, List.drop_of_length_le (by simpa using hj)]
 rfl
theorem specPort (s : ByteArray) (w : World) (hs : s.size ≤ 1048576) :
  Calls Tryz.prog 49 #[.string s] w fun e w' => e = .returned (.int .i64 (colZ s.data.toList)) ∧ w = w' := by
 go_enter Tryz.func49, Tryz.ntmps49
 go_wp2
 go_loop [3, 4] (fun f i => ∃ k : Nat, k ≤ s.size ∧ i = .int .i64 k ∧ f = .int .i64 (lastB s.data.toList k)) (fun _ i => s.size - (intOf i).toNat)
 case atStart => exact ⟨0, Nat.zero_le _, rfl, rfl⟩
 obtain ⟨k, hk, rfl, rfl⟩ := hrel
 have hlb := lastB_le s.data.toList k
 by_cases hlt : k < s.size
 ·obtain ⟨d, hd⟩ : ∃ d : Nat, s[k].toNat = d := ⟨_, rfl⟩
  by_cases h93 : d = 93
  ·have HN : Hid (lastB s.data.toList (k + 1) = k) := lastB_hit hlt (by omega)
   subst h93
   go_wp2
   go_round
   case rel => exact ⟨k + 1, by omega, by go_num, by rw [HN.out]⟩
   case measure => simp [intOf]; omega
  have q : ((d : Int) == 93) = false := beq_eq_false_iff_ne.2 (by omega)
  have HN : Hid (lastB s.data.toList (k + 1) = lastB s.data.toList k) := lastB_miss hlt (by omega)
  clear h93
  go_wp2
  go_round
  case rel => exact ⟨k + 1, by omega, by go_num, by rw [HN.out]⟩
  case measure => simp [intOf]; omega
 have hke : k = s.size := by omega
 rw [hke]
 have hle := lastB_le s.data.toList s.size
 have HC : Hid (colI s.data.toList = ((s.data.toList.drop (lastB s.data.toList s.size)).findIdx? fun c => c == 58).map (· + lastB s.data.toList s.size)) := by
  show _ = _
  unfold colI
  rw [show s.data.toList.length = s.size by simp]
 clear hlb hlt hke hk
 generalize lastB s.data.toList s.size = F at hle HC
 go_wp2_with fail
 go_loop [5] (fun i => ∃ j : Nat, j ≤ s.size ∧ i = .int .i64 j ∧ colI s.data.toList = ((s.data.toList.drop j).findIdx? fun c => c == 58).map (· + j)) (fun i => s.size - (intOf i).toNat)
 case atStart => exact ⟨F, hle, rfl, HC.out⟩
 obtain ⟨j, hj, rfl, he⟩ := hrel
 have HE : Hid (colI s.data.toList = ((s.data.toList.drop j).findIdx? fun c => c == 58).map (· + j)) := he
 clear he
 by_cases hlt : j < s.size
 ·obtain ⟨d, hd⟩ : ∃ d : Nat, s[j].toNat = d := ⟨_, rfl⟩
  by_cases h58 : d = 58
  ·have HN : Hid ((j : Int) = colZ s.data.toList) := col_hit hlt (by omega) HE.out
   subst h58
   go_wp2
   go_ret
   exact ⟨ret_int HN.out, rfl⟩
  have q : ((d : Int) == 58) = false := beq_eq_false_iff_ne.2 (by omega)
  have HN := col_miss hlt (by omega) HE.out
  have HM : Hid (colI s.data.toList = ((s.data.toList.drop (j + 1)).findIdx? fun c => c == 58).map (· + (j + 1))) := HN
  clear HN h58
  go_wp2
  go_round
  case rel => exact ⟨j + 1, by omega, by go_num, HM.out⟩
  case measure => simp [intOf]; omega
 have HN : Hid ((-1 : Int) = colZ s.data.toList) := col_end (by omega) HE.out
 go_wp2
 go_ret
 exact ⟨ret_int HN.out, rfl⟩
end Go.Proofs.YtidecdlaeomfoaaGreat
