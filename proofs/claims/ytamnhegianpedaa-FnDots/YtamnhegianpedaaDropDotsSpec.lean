/- The contract of the specification's DropDots. -/
import Derived.Test.YtamnhegianpedaaRows
import Derived.Test.YtamnhegianpedaaDotSpec
import Derived.Test.YtamnhegianpedaaKeepBox
import Derived.Test.YtamnhegianpedaaFieldsWalk
namespace Go.Proofs.Ytamnhegianpedaa
open Go.RowKit

theorem rooted_yes {p : ByteArray} (h0 : 0 < p.size) (h : p[0].toNat = 47) : rooted p = true := by
  unfold rooted
  have e : p.data.toList.head? = some p[0] := by
    rw [List.head?_eq_getElem?, List.getElem?_eq_getElem (by simpa using h0)]
    rfl
  rw [e, UInt8.toNat_inj.1 (show p[0].toNat = (47 : UInt8).toNat from h)]
  rfl
theorem rooted_no {p : ByteArray} (h0 : 0 < p.size) (h : p[0].toNat ≠ 47) : rooted p = false := by
  unfold rooted
  have e : p.data.toList.head? = some p[0] := by
    rw [List.head?_eq_getElem?, List.getElem?_eq_getElem (by simpa using h0)]
    rfl
  rw [e, beq_eq_false_iff_ne]
  intro e2
  exact h (by rw [Option.some.inj e2]; rfl)
theorem rooted_empty {p : ByteArray} (h0 : p.size = 0) : rooted p = false := by
  unfold rooted
  rw [List.eq_nil_of_length_eq_zero (show p.data.toList.length = 0 by simpa using h0)]
  rfl
theorem dropT_no {p : ByteArray} (h : rooted p = false) : dropT p = p := by unfold dropT; rw [h]; rfl
theorem dropT_yes {p : ByteArray} (h : rooted p = true) : (⟨(slL (keptD (partsD p))).toArray⟩ : ByteArray) = dropT p := by unfold dropT; rw [h]; rfl

/-- What is kept behind k parts. -/
def curD (l : List ByteArray) (k : Nat) : List ByteArray := if k = l.length then keptD l else foldD (l.take k)
theorem cur_at {l : List ByteArray} {k : Nat} (h : k < l.length) : curD l k = foldD (l.take k) := by unfold curD; rw [if_neg (by omega)]
theorem cur_end (l : List ByteArray) : curD l l.length = keptD l := by unfold curD; rw [if_pos rfl]
theorem last_get {l : List ByteArray} {k : Nat} (h : k + 1 = l.length) : lastD l = l.getD k ByteArray.empty := by unfold lastD; rw [← h]; rfl
theorem fold_all {l : List ByteArray} {k : Nat} (h : k + 1 = l.length) : foldD l = stepD (foldD (l.take k)) (l.getD k ByteArray.empty) := by
  rw [← fold_take l k (by omega), h, List.take_length]
theorem cur_step {l : List ByteArray} {k : Nat} (h : k + 1 < l.length) : curD l (k + 1) = stepD (curD l k) (l.getD k ByteArray.empty) := by
  rw [cur_at h, fold_take l k (by omega), cur_at (by omega)]
theorem cur_last {l : List ByteArray} {k : Nat} (h : k + 1 = l.length) : curD l (k + 1) = if isd (toL (l.getD k ByteArray.empty)) = 0 then stepD (curD l k) (l.getD k ByteArray.empty) else stepD (curD l k) (l.getD k ByteArray.empty) ++ [ByteArray.empty] := by
  rw [h, cur_end]
  unfold keptD
  rw [last_get h, fold_all h, cur_at (show k < l.length by omega)]
theorem cur_length (l : List ByteArray) (k : Nat) : (curD l k).length ≤ l.length := by
  unfold curD
  split
  · exact kept_length l
  · exact Nat.le_trans (fold_length _) (by rw [List.length_take]; omega)
theorem cur_zero {l : List ByteArray} {k : Nat} {x : ByteArray} (hk : k < l.length) (hx : l.getD k ByteArray.empty = x) (h : isd x.data.toList = 0) : curD l (k + 1) = curD l k ++ [x] := by
  by_cases hl : k + 1 = l.length
  · rw [cur_last hl, hx, if_pos (show isd (toL x) = 0 from h), step_zero h]
  · rw [cur_step (by omega), hx, step_zero h]
theorem cur_dot {l : List ByteArray} {k : Nat} {x : ByteArray} (hk : k < l.length) (hx : l.getD k ByteArray.empty = x) (h : isd x.data.toList ≠ 0) : curD l (k + 1) = stepD (curD l k) x ++ (if k + 1 = l.length then [ByteArray.empty] else []) := by
  by_cases hl : k + 1 = l.length
  · rw [if_pos hl, cur_last hl, hx, if_neg (show ¬ isd (toL x) = 0 from h)]
  · rw [if_neg hl, cur_step (by omega), hx, List.append_nil]

theorem own_snoc {w1 : World} {B : Nat} {v : Value} {e : TypeId} {o : List ByteArray} {x : ByteArray} {m : Nat} (hm : m = o.length) (h : w1.ownsRow B e 1 v (m + 1) (scells o ++ #[Value.string x].toList)) : w1.ownsRow B e 1 v (o ++ [x]).length (scells (o ++ [x])) := by
  subst hm
  rw [scells_snoc, List.length_append]
  exact h

theorem sl_round {l : List ByteArray} {k : Nat} (hk : k < l.length) {z y : ByteArray} (hz : z.data.toList = slL (l.take k)) (hy : l.getD k ByteArray.empty = y) : ((z ++ (⟨#[47]⟩ : ByteArray)) ++ y).data.toList = slL (l.take (k + 1)) := by
  rw [btake_snoc l k hk, hy, sl_snoc, ← hz]
  simp [toL]

theorem sl_size {l : List ByteArray} {k n : Nat} {z : ByteArray} (h : z.data.toList = slL (l.take k)) (hl : (slL l).length ≤ n) : z.size ≤ n := by
  have h1 := sl_take l k
  rw [← h] at h1
  have h2 : z.data.toList.length = z.size := by simp
  omega

set_option maxRecDepth 100000 in
set_option maxHeartbeats 4000000 in
theorem specDropDots (p : ByteArray) (w : World) (hs : p.size ≤ 1048576) :
    Calls Try.prog 16 #[.string p] w fun e w' => e = .returned (.string (dropT p)) ∧ Below w.heap.size w w' := by
  by_cases h0 : p.size = 0
  · have HD : Hid (p = dropT p) := (dropT_no (rooted_empty h0)).symm
    have he := empty_yes h0
    go_enter Try.func16, Try.ntmps16
    go_wp2
    go_ret
    exact ⟨ret_bytes HD.out, Below.refl _ _⟩
  · have he := empty_no (show 0 < p.size by omega)
    by_cases h47 : p[0].toNat = 47
    · have hr := rooted_yes (by omega) h47
      have HD : Hid ((⟨(slL (keptD (partsD p))).toArray⟩ : ByteArray) = dropT p) := dropT_yes hr
      have hpl := parts_rooted hr
      have hlp := parts_pos hr
      have hll : (partsD p).length ≤ 1048577 := by
        rw [hpl]
        have h1 := (fieldsTo_le (p.extract 1 p.size) 47 (p.extract 1 p.size).size).2
        have h2 : (p.extract 1 p.size).size ≤ p.size := by rw [ByteArray.size_extract]; omega
        unfold fieldsL
        rw [List.length_append, List.length_singleton]
        omega
      have hxs : ∀ j, ((partsD p).getD j ByteArray.empty).size ≤ 1048576 := fun j => by
        by_cases hj : j < (partsD p).length
        · have hm : (partsD p).getD j ByteArray.empty ∈ partsD p := by
            rw [List.getD_eq_getElem?_getD, List.getElem?_eq_getElem hj]
            exact List.getElem_mem hj
          generalize (partsD p).getD j ByteArray.empty = y at hm
          rw [hpl] at hm
          have h1 := fieldsL_sizes _ _ _ hm
          rw [ByteArray.size_extract] at h1
          omega
        · rw [List.getD_eq_getElem?_getD, List.getElem?_eq_none (by omega)]
          decide
      have hkz : (slL (keptD (partsD p))).length ≤ 1048576 := by
        have h1 := kept_size (partsD p)
        rw [sl_parts hr] at h1
        have h2 : p.data.toList.length = p.size := by simp
        omega
      have CF : Hid (∀ W, Calls Try.prog 30 #[.string (p.extract 1 p.size), .int .u8 47] W fun e w' => ∃ v, e = .returned v ∧ w'.ownsRow W.heap.size 9 1 v (partsD p).length (scells (partsD p)) ∧ Below W.heap.size W w') := fun W => by
        have h1 := specFields (p.extract 1 p.size) 47 W (by rw [ByteArray.size_extract]; omega)
        rw [← hpl] at h1
        exact h1
      clear hpl
      generalize partsD p = l at HD hlp hll hxs hkz CF
      have HX : Hid (∀ j, (l.getD j ByteArray.empty).size ≤ 1048576) := hxs
      clear hxs hr
      go_enter Try.func16, Try.ntmps16
      go_wp2_with fail
      refine (CF.out _).mono ?_
      rintro e wa ⟨va, rfl, oa, ba⟩
      have za := ba.size
      rcases own_shape oa with ⟨h, _⟩ | ⟨_, g, cp, rfl⟩
      · omega
      have hglt := (oa.lt g rfl).2
      have HC : Hid (∀ j, j < l.length → wa.cell? ⟨g, j, none⟩ = some (.string (l.getD j ByteArray.empty))) := fun j hj => scell_at oa j hj
      clear oa
      go_wp2_with fail
      go_loopw [4, 5] (fun o i wr => ∃ k : Nat, k ≤ l.length ∧ i = .int .i64 k ∧ wr.ownsRow wa.heap.size 9 1 o (curD l k).length (scells (curD l k)) ∧ Below wa.heap.size wa wr)
        (fun _ i _ => l.length - (intOf i).toNat)
      case atStart => exact ⟨0, Nat.zero_le _, rfl, by rw [cur_at hlp]; exact World.ownsRow_lit wa #[] 0 (Nat.le_refl _) (by decide) rfl, (Below.refl _ _).alloc (Nat.le_refl _) _⟩
      case round =>
        obtain ⟨k, hk, rfl, hown, hbel⟩ := hrel
        have hsz := hbel.size
        have hcl := cur_length l k
        by_cases hlt : k < l.length
        · have hcell : wr.cell? ⟨g, k, none⟩ = some (.string (l.getD k ByteArray.empty)) := by
            rw [cell_same (hbel.block g hglt) k]
            exact HC.out k hlt
          have hx1 := HX.out k
          obtain ⟨x, hx⟩ : ∃ x, l.getD k ByteArray.empty = x := ⟨_, rfl⟩
          rw [hx] at hcell hx1
          have hxi : (x.size : Int) ≤ 1048576 := by omega
          have HXE : Hid (l.getD k ByteArray.empty = x) := hx
          have hd := isd_le x.data.toList
          have CI : Hid (∀ W, Calls Try.prog 15 #[.string x] W fun e w' => e = .returned (.int .i64 (isd x.data.toList : Int)) ∧ W = w') := fun W => specIsDot x W hx1
          clear hx
          by_cases d0 : isd x.data.toList = 0
          · have HN : Hid (curD l (k + 1) = curD l k ++ [x]) := cur_zero hlt HXE.out d0
            rw [d0] at CI
            clear d0 hd
            obtain ⟨O, hO⟩ : ∃ O, curD l k = O := ⟨_, rfl⟩
            rw [hO] at hown hcl HN
            clear hO
            go_wp2_with fail
            refine (CI.out _).mono ?_
            rintro e w' ⟨rfl, rfl⟩
            go_wp2_with (at_builtin; refine wpList_append_new _ rfl _ _ 26 rfl wa.heap.size 9 (.string ⟨#[]⟩) 16 Try.underlying26 Try.infoStr rfl _ _ _ rfl hown #[.string x] 1 rfl rfl (str_one _) (by omega) (by unfold maxLen; omega) (by omega) ?_)
            intro v' w1 hown' hb1
            have B1 : Below wa.heap.size wa w1 := hbel.trans hb1
            clear hb1 hbel
            go_wp2
            go_roundw
            case rel => exact ⟨k + 1, by omega, by go_num, by rw [HN.out]; exact own_snoc rfl hown', B1⟩
            case measure => simp [intOf]; omega
          · have HD2 : Hid (curD l (k + 1) = stepD (curD l k) x ++ (if k + 1 = l.length then [ByteArray.empty] else [])) := cur_dot hlt HXE.out d0
            obtain ⟨O, hO⟩ : ∃ O, curD l k = O := ⟨_, rfl⟩
            rw [hO] at hown hcl HD2
            clear hO
            by_cases d2 : isd x.data.toList = 2
            · rw [step_two d2] at HD2
              rw [d2] at CI
              clear d0 d2 hd
              rcases own_shape hown with ⟨hl, hnil, ao, cap, rfl⟩ | ⟨hl, b, cap, rfl⟩
              · have hO : O.take (O.length - 1) = O := List.take_of_length_le (by omega)
                rw [hO] at HD2
                clear hO
                have HO0 : Hid (O.length = 0) := hl
                have hown2 : wr.ownsRow wa.heap.size 9 1 (.slice ao 0 cap) 0 (scells O) := by have h5 := hown; rw [hl] at h5; exact h5
                clear hnil
                by_cases hla : k + 1 = l.length
                · rw [if_pos hla] at HD2
                  have HN : Hid (curD l (k + 1) = O ++ [ByteArray.empty]) := HD2.out
                  have hki : (((k : Int) : Int) == (l.length : Int) - 1) = true := by rw [beq_iff_eq]; omega
                  clear hla HD2 hown hl
                  go_wp2_with fail
                  refine (CI.out _).mono ?_
                  rintro e w' ⟨rfl, rfl⟩
                  go_wp2_with (at_builtin; refine wpList_append_new _ rfl _ _ 26 rfl wa.heap.size 9 (.string ⟨#[]⟩) 16 Try.underlying26 Try.infoStr rfl _ _ _ rfl hown2 #[.string ⟨#[]⟩] 1 rfl rfl (str_one _) (by omega) (by unfold maxLen; omega) (by omega) ?_)
                  intro v' w1 hown' hb1
                  have B1 : Below wa.heap.size wa w1 := hbel.trans hb1
                  clear hb1 hbel
                  go_wp2
                  go_roundw
                  case rel => exact ⟨k + 1, by omega, by go_num, by rw [HN.out]; exact own_snoc HO0.out.symm hown', B1⟩
                  case measure => simp [intOf]; omega
                · rw [if_neg hla, List.append_nil] at HD2
                  have HN : Hid (curD l (k + 1) = O) := HD2.out
                  have hki : (((k : Int) : Int) == (l.length : Int) - 1) = false := by rw [beq_eq_false_iff_ne]; omega
                  clear hla HD2 hl
                  go_wp2_with fail
                  refine (CI.out _).mono ?_
                  rintro e w' ⟨rfl, rfl⟩
                  go_wp2
                  go_roundw
                  case rel => exact ⟨k + 1, by omega, by go_num, by rw [HN.out]; exact hown, hbel⟩
                  case measure => simp [intOf]; omega
              · have hcap := own_cap hown
                have hown2 := own_take hown (O.length - 1) (by omega)
                rw [scells_take] at hown2
                have HL : Hid (O.length - 1 = (O.take (O.length - 1)).length) := by show _ = _; rw [List.length_take]; omega
                by_cases hla : k + 1 = l.length
                · rw [if_pos hla] at HD2
                  have HN : Hid (curD l (k + 1) = O.take (O.length - 1) ++ [ByteArray.empty]) := HD2.out
                  have hki : (((k : Int) : Int) == (l.length : Int) - 1) = true := by rw [beq_iff_eq]; omega
                  clear hla HD2 hown
                  go_wp2_with fail
                  refine (CI.out _).mono ?_
                  rintro e w' ⟨rfl, rfl⟩
                  go_wp2_with (at_builtin; refine wpList_append_new _ rfl _ _ 26 rfl wa.heap.size 9 (.string ⟨#[]⟩) 16 Try.underlying26 Try.infoStr rfl _ _ _ rfl hown2 #[.string ⟨#[]⟩] 1 rfl rfl (str_one _) (by omega) (by unfold maxLen; omega) (by omega) ?_)
                  intro v' w1 hown' hb1
                  have B1 : Below wa.heap.size wa w1 := hbel.trans hb1
                  clear hb1 hbel
                  go_wp2
                  go_roundw
                  case rel => exact ⟨k + 1, by omega, by go_num, by rw [HN.out]; exact own_snoc HL.out hown', B1⟩
                  case measure => simp [intOf]; omega
                · rw [if_neg hla, List.append_nil] at HD2
                  have HN : Hid (curD l (k + 1) = O.take (O.length - 1)) := HD2.out
                  have hki : (((k : Int) : Int) == (l.length : Int) - 1) = false := by rw [beq_eq_false_iff_ne]; omega
                  have hown3 : wr.ownsRow wa.heap.size 9 1 (.slice (some ⟨b, 0, none⟩) (O.length - 1) cap) (O.take (O.length - 1)).length (scells (O.take (O.length - 1))) := by rw [← HL.out]; exact hown2
                  clear hla HD2 hown hown2
                  go_wp2_with fail
                  refine (CI.out _).mono ?_
                  rintro e w' ⟨rfl, rfl⟩
                  go_wp2
                  go_roundw
                  case rel => exact ⟨k + 1, by omega, by go_num, by rw [HN.out]; exact hown3, hbel⟩
                  case measure => simp [intOf]; omega
            · have d1 : isd x.data.toList = 1 := by omega
              rw [step_one d1] at HD2
              rw [d1] at CI
              clear d0 d2 d1 hd
              by_cases hla : k + 1 = l.length
              · rw [if_pos hla] at HD2
                have HN : Hid (curD l (k + 1) = O ++ [ByteArray.empty]) := HD2.out
                have hki : (((k : Int) : Int) == (l.length : Int) - 1) = true := by rw [beq_iff_eq]; omega
                clear hla HD2
                go_wp2_with fail
                refine (CI.out _).mono ?_
                rintro e w' ⟨rfl, rfl⟩
                go_wp2_with (at_builtin; refine wpList_append_new _ rfl _ _ 26 rfl wa.heap.size 9 (.string ⟨#[]⟩) 16 Try.underlying26 Try.infoStr rfl _ _ _ rfl hown #[.string ⟨#[]⟩] 1 rfl rfl (str_one _) (by omega) (by unfold maxLen; omega) (by omega) ?_)
                intro v' w1 hown' hb1
                have B1 : Below wa.heap.size wa w1 := hbel.trans hb1
                clear hb1 hbel
                go_wp2
                go_roundw
                case rel => exact ⟨k + 1, by omega, by go_num, by rw [HN.out]; exact own_snoc rfl hown', B1⟩
                case measure => simp [intOf]; omega
              · rw [if_neg hla, List.append_nil] at HD2
                have HN : Hid (curD l (k + 1) = O) := HD2.out
                have hki : (((k : Int) : Int) == (l.length : Int) - 1) = false := by rw [beq_eq_false_iff_ne]; omega
                clear hla HD2
                go_wp2_with fail
                refine (CI.out _).mono ?_
                rintro e w' ⟨rfl, rfl⟩
                go_wp2
                go_roundw
                case rel => exact ⟨k + 1, by omega, by go_num, by rw [HN.out]; exact hown, hbel⟩
                case measure => simp [intOf]; omega
        · have hke : k = l.length := by omega
          rw [hke, cur_end] at hown
          clear hcl
          have hKn := kept_ne hlp
          have hKl := kept_length l
          generalize keptD l = K at hown hKn hKl HD hkz
          have HK : Hid (K ≠ []) := hKn
          clear hKn
          rcases own_shape hown with ⟨h, _⟩ | ⟨hK0, b, cap, rfl⟩
          · exact absurd (List.eq_nil_of_length_eq_zero h) HK.out
          have HCK : Hid (∀ j, j < K.length → wr.cell? ⟨b, j, none⟩ = some (.string (K.getD j ByteArray.empty))) := fun j hj => scell_at hown j hj
          have hcap := own_cap hown
          have BW : Below w.heap.size w wr := ba.trans (hbel.mono za)
          clear hown hbel hke
          go_wp2_with fail
          go_loop [7, 8] (fun t i => ∃ (k : Nat) (z : ByteArray), k ≤ K.length ∧ i = .int .i64 k ∧ t = .string z ∧ z.data.toList = slL (K.take k)) (fun _ i => K.length - (intOf i).toNat)
          case atStart => exact ⟨0, ⟨#[]⟩, Nat.zero_le _, rfl, rfl, rfl⟩
          case round =>
            obtain ⟨j, z, hj, rfl, rfl, hz⟩ := hrel
            have HZ : Hid (z.data.toList = slL (K.take j)) := hz
            have hzs := sl_size hz hkz
            clear hz
            by_cases hjl : j < K.length
            · have hc := HCK.out j hjl
              obtain ⟨y, hy⟩ : ∃ y, K.getD j ByteArray.empty = y := ⟨_, rfl⟩
              rw [hy] at hc
              have HN : Hid (((z ++ (⟨#[47]⟩ : ByteArray)) ++ y).data.toList = slL (K.take (j + 1))) := sl_round hjl HZ.out hy
              have hns := sl_size HN.out hkz
              have hd1 : (⟨#[47]⟩ : ByteArray).size = 1 := rfl
              have hys : y.size ≤ 1048576 := by rw [ByteArray.size_append, ByteArray.size_append, hd1] at hns; omega
              clear hy hns
              go_wp2_with fail
              go_round
              case rel => exact ⟨j + 1, _, by omega, by go_num, rfl, HN.out⟩
              case measure => simp [intOf]; omega
            · have HE : Hid (z = dropT p) := by
                show _ = _
                rw [← HD.out]
                apply toL_inj
                show z.data.toList = _
                rw [HZ.out, List.take_of_length_le (by omega)]
                rfl
              go_wp2
              go_ret
              exact ⟨ret_bytes HE.out, BW⟩
    · have HD : Hid (p = dropT p) := (dropT_no (rooted_no (by omega) h47)).symm
      go_enter Try.func16, Try.ntmps16
      go_wp2
      go_ret
      exact ⟨ret_bytes HD.out, Below.refl _ _⟩
end Go.Proofs.Ytamnhegianpedaa
