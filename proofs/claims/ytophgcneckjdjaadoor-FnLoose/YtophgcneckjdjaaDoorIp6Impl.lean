/- Contract of the program's Ip6Text. -/
import Derived.Test.YtophgcneckjdjaaDoorRows
import Derived.Test.YtophgcneckjdjaaDoorGroupsText
import Derived.Test.YtophgcneckjdjaaDoorRowWalk
namespace Go.Proofs.YtophgcneckjdjaaDoor
open Go.RowKit

/-- The text of eight groups; nothing, where one is none. -/
def ip6L (z : List Int) : List UInt8 := if okG z = true then ip6T (z.map Int.toNat) (rowI 0 (0, 0, 0) (zb z)).1 (rowI 0 (0, 0, 0) (zb z)).2.1 else []

theorem okG_all {z : List Int} (h : okG z = true) : ∀ x ∈ z, 0 ≤ x ∧ x ≤ 65535 := by
  unfold okG at h
  rw [List.all_eq_true] at h
  intro x hx
  simpa using h x hx

theorem row_ok (x0 x1 x2 x3 x4 x5 x6 x7 : Int) : rowOkB (zb [x0, x1, x2, x3, x4, x5, x6, x7]) = true := rows_ok _ _ _ _ _ _ _ _

theorem row_le {z : List Int} (h : rowOkB (zb z) = true) : (rowI 0 (0, 0, 0) (zb z)).1 ≤ (rowI 0 (0, 0, 0) (zb z)).2.1 ∧ (rowI 0 (0, 0, 0) (zb z)).2.1 ≤ 8 := by
  unfold rowOkB at h
  simp only [Bool.and_eq_true, decide_eq_true_eq] at h
  exact h.1

theorem grpAt_of {w : World} {B : Nat} {z : List Int} (hc : ∀ k, k < 8 → w.cell? ⟨B, k, none⟩ = some (.int .i64 (z.getD k 0))) (hz : z.length = 8) (ha : ∀ x ∈ z, 0 ≤ x ∧ x ≤ 65535) (off m : Nat) (h : off + m ≤ 8) :
    GrpAt w B off (((z.map Int.toNat).drop off).take m) ∧ (((z.map Int.toNat).drop off).take m).length = m ∧ ∀ x ∈ ((z.map Int.toNat).drop off).take m, x < 65536 := by
  have hl : (((z.map Int.toNat).drop off).take m).length = m := by simp; omega
  refine ⟨fun j hj => ?_, hl, fun x hx => ?_⟩
  · rw [hl] at hj
    rw [hc (off + j) (by omega)]
    have h1 : z[off + j]'(by omega) ∈ z := List.getElem_mem _
    have h2 := ha _ h1
    simp only [List.getD_eq_getElem?_getD]
    rw [List.getElem?_eq_getElem (by omega), List.getElem?_eq_getElem (by omega), List.getElem_take, List.getElem_drop, List.getElem_map]
    simp only [Option.getD_some]
    congr 2
    omega
  · have h1 := List.mem_of_mem_drop (List.mem_of_mem_take hx)
    obtain ⟨y, hy, rfl⟩ := List.mem_map.1 h1
    have := ha y hy
    omega

theorem len8 : Tryd.prog.arrayLen 24 = 8 := by kernel_rfl
theorem elem8 : Tryd.prog.elem 24 = 3 := by kernel_rfl
theorem under8 : Tryd.prog.underlying 24 = some (.array (Tryd.prog.arrayLen 24) (Tryd.prog.elem 24)) := by kernel_rfl
theorem slice_hm (B f : Nat) (hf : f ≤ 8) (W : World) : (Instr.sliceAt 24 (.pointer (some ⟨B, 0, none⟩)) none (some (.int .i64 (f : Int))) (some (.int .i64 (f : Int)))).run Tryd.prog W = .ok (.slice (some ⟨B, 0, none⟩) f f) W := by
  rw [run_sliceAt_array_hm (P := Tryd.prog) W 24 ⟨B, 0, none⟩ under8 .i64 .i64 f f (by omega) (by omega) (by rw [len8]; omega), elem8]
  simp [slicedAt, Tryd.sizeOf3, Result.andThen, Addr.add_lit]
theorem slice_l (B t : Nat) (ht : t ≤ 8) (W : World) : (Instr.sliceAt 24 (.pointer (some ⟨B, 0, none⟩)) (some (.int .i64 (t : Int))) none none).run Tryd.prog W = .ok (.slice (some ⟨B, if 8 = t then 0 else t, none⟩) (8 - t) (8 - t)) W := by
  rw [run_sliceAt_array_l (P := Tryd.prog) W 24 ⟨B, 0, none⟩ under8 .i64 t (by omega) (by rw [len8]; omega), elem8, len8]
  by_cases h : 8 = t
  · subst h
    simp [slicedAt, Tryd.sizeOf3, Result.andThen]
  · simp [slicedAt, Tryd.sizeOf3, Result.andThen, Addr.add_lit, h]

set_option maxRecDepth 20000 in
set_option maxHeartbeats 4000000 in
theorem implIp6Text (x0 x1 x2 x3 x4 x5 x6 x7 : Int) (w : World) (hT : Bruijn w) :
    Calls Tryd.prog 14 #[.agg #[.int .i64 x0, .int .i64 x1, .int .i64 x2, .int .i64 x3, .int .i64 x4, .int .i64 x5, .int .i64 x6, .int .i64 x7]] w fun e w' => e = .returned (.string ⟨(ip6L [x0, x1, x2, x3, x4, x5, x6, x7]).toArray⟩) ∧ Below w.heap.size w w' := by
  have CG : Hid (∀ W, Calls Tryd.prog 31 #[.agg #[.int .i64 x0, .int .i64 x1, .int .i64 x2, .int .i64 x3, .int .i64 x4, .int .i64 x5, .int .i64 x6, .int .i64 x7]] W fun e w' => e = .returned (.bool (okG [x0, x1, x2, x3, x4, x5, x6, x7])) ∧ Below W.heap.size W w') := fun W => implGroupsOk x0 x1 x2 x3 x4 x5 x6 x7 W
  have CR : Hid (∀ W, Calls Tryd.prog 32 #[.agg #[.int .i64 x0, .int .i64 x1, .int .i64 x2, .int .i64 x3, .int .i64 x4, .int .i64 x5, .int .i64 x6, .int .i64 x7]] W fun e w' => e = .returned (rowV (rowI 0 (0, 0, 0) (zb [x0, x1, x2, x3, x4, x5, x6, x7]))) ∧ Below W.heap.size W w') := fun W => implLongest x0 x1 x2 x3 x4 x5 x6 x7 W
  have HT : Hid (Bruijn w) := hT
  clear hT
  have hrow := row_le (row_ok x0 x1 x2 x3 x4 x5 x6 x7)
  cases hok : okG [x0, x1, x2, x3, x4, x5, x6, x7] with
  | false =>
    have HL : Hid (ip6L [x0, x1, x2, x3, x4, x5, x6, x7] = []) := by show _ = _; unfold ip6L; rw [hok]; rfl
    rw [hok] at CG
    generalize ip6L [x0, x1, x2, x3, x4, x5, x6, x7] = L at HL ⊢
    clear hok hrow CR
    go_enter Tryd.func14, Tryd.ntmps14
    go_wp2_with fail
    refine (CG.out _).mono ?_
    rintro e w1 ⟨rfl, b1⟩
    have B1 : Below w.heap.size w w1 := ((Below.refl _ w).alloc (Nat.le_refl _) _).trans (b1.mono (by simp))
    clear b1
    go_wp2_with fail
    go_ret
    exact ⟨by rw [HL.out]; rfl, B1⟩
  | true =>
    have HL : Hid (ip6L [x0, x1, x2, x3, x4, x5, x6, x7] = ip6T ([x0, x1, x2, x3, x4, x5, x6, x7].map Int.toNat) (rowI 0 (0, 0, 0) (zb [x0, x1, x2, x3, x4, x5, x6, x7])).1 (rowI 0 (0, 0, 0) (zb [x0, x1, x2, x3, x4, x5, x6, x7])).2.1) := by show _ = _; unfold ip6L; rw [if_pos hok]
    have HA : Hid (∀ x ∈ [x0, x1, x2, x3, x4, x5, x6, x7], 0 ≤ x ∧ x ≤ 65535) := okG_all hok
    rw [hok] at CG
    clear hok
    generalize rowI 0 (0, 0, 0) (zb [x0, x1, x2, x3, x4, x5, x6, x7]) = r at HL CR hrow
    obtain ⟨f, t, b⟩ := r
    simp only [rowV] at HL CR hrow
    obtain ⟨hr1, hr2⟩ := hrow
    generalize ip6L [x0, x1, x2, x3, x4, x5, x6, x7] = L at HL ⊢
    go_enter Tryd.func14, Tryd.ntmps14
    go_wp2_with fail
    refine (CG.out _).mono ?_
    rintro e w1 ⟨rfl, b1⟩
    have B1 : Below w.heap.size w w1 := ((Below.refl _ w).alloc (Nat.le_refl _) _).trans (b1.mono (by simp))
    have HC1 : Hid (∀ k, k < 8 → w1.cell? ⟨w.heap.size, k, none⟩ = some (.int .i64 ([x0, x1, x2, x3, x4, x5, x6, x7].getD k 0))) := fun k hk => cell_later b1 (cell8 w x0 x1 x2 x3 x4 x5 x6 x7 k hk)
    clear b1
    have a0 : w1.cell? ⟨w.heap.size, 0, none⟩ = some (.int .i64 x0) := HC1.out 0 (by decide)
    have a1 : w1.cell? ⟨w.heap.size, 1, none⟩ = some (.int .i64 x1) := HC1.out 1 (by decide)
    have a2 : w1.cell? ⟨w.heap.size, 2, none⟩ = some (.int .i64 x2) := HC1.out 2 (by decide)
    have a3 : w1.cell? ⟨w.heap.size, 3, none⟩ = some (.int .i64 x3) := HC1.out 3 (by decide)
    have a4 : w1.cell? ⟨w.heap.size, 4, none⟩ = some (.int .i64 x4) := HC1.out 4 (by decide)
    have a5 : w1.cell? ⟨w.heap.size, 5, none⟩ = some (.int .i64 x5) := HC1.out 5 (by decide)
    have a6 : w1.cell? ⟨w.heap.size, 6, none⟩ = some (.int .i64 x6) := HC1.out 6 (by decide)
    have a7 : w1.cell? ⟨w.heap.size, 7, none⟩ = some (.int .i64 x7) := HC1.out 7 (by decide)
    go_wp2_with fail
    refine (CR.out _).mono ?_
    rintro e w2 ⟨rfl, b2⟩
    have B2 : Below w.heap.size w w2 := B1.trans (b2.mono B1.size)
    have HC2 : Hid (∀ k, k < 8 → w2.cell? ⟨w.heap.size, k, none⟩ = some (.int .i64 ([x0, x1, x2, x3, x4, x5, x6, x7].getD k 0))) := fun k hk => cell_later b2 (HC1.out k hk)
    have HT2 : Hid (Bruijn w2) := bruijn_below HT.out B2
    clear a0 a1 a2 a3 a4 a5 a6 a7 b2 B1 HC1 CG CR
    by_cases h2 : (t : Int) - f < 2
    · obtain ⟨g1, g2, g3⟩ := grpAt_of HC2.out rfl HA.out 0 8 (by decide)
      have CT := implGroupsText w.heap.size 0 8 _ w2 (by omega) g3 g1 HT2.out
      rw [g2] at CT
      have CT : Hid (Calls Tryd.prog 33 #[.slice (some ⟨w.heap.size, 0, none⟩) 8 8] w2 fun e w' => e = .returned (.string ⟨L.toArray⟩) ∧ Below w2.heap.size w2 w') := by
        rw [HL.out]
        unfold ip6T
        rw [if_pos (by omega)]
        exact CT
      clear g1 g2 g3 HL
      go_wp2_with fail
      refine CT.out.mono ?_
      rintro e w3 ⟨rfl, b3⟩
      have B3 := B2.trans (b3.mono B2.size)
      clear b3
      go_wp2_with fail
      go_ret
      exact ⟨rfl, B3⟩
    · obtain ⟨g1, g2, g3⟩ := grpAt_of HC2.out rfl HA.out 0 f (by omega)
      have CT1 := implGroupsText w.heap.size 0 f _ w2 (by omega) g3 g1 HT2.out
      rw [g2, List.drop_zero] at CT1
      clear CT1
      have CT1 : Hid (∀ W, Below w2.heap.size w2 W → Calls Tryd.prog 33 #[.slice (some ⟨w.heap.size, 0, none⟩) f f] W fun e w' => e = .returned (.string ⟨(gtL (([x0, x1, x2, x3, x4, x5, x6, x7].map Int.toNat).take f)).toArray⟩) ∧ Below W.heap.size W w') := fun W hb => by
        have h := implGroupsText w.heap.size 0 f _ W (by omega) g3 (g1.later hb) (bruijn_below HT2.out hb)
        rw [g2, List.drop_zero] at h
        exact h
      have CT2 : Hid (∀ W, Below w2.heap.size w2 W → Calls Tryd.prog 33 #[.slice (some ⟨w.heap.size, if 8 = t then 0 else t, none⟩) (8 - t) (8 - t)] W fun e w' => e = .returned (.string ⟨(gtL (([x0, x1, x2, x3, x4, x5, x6, x7].map Int.toNat).drop t)).toArray⟩) ∧ Below W.heap.size W w') := fun W hb => by
        obtain ⟨k1, k2, k3⟩ := grpAt_of HC2.out rfl HA.out t (8 - t) (by omega)
        have k4 : GrpAt w2 w.heap.size (if 8 = t then 0 else t) ((([x0, x1, x2, x3, x4, x5, x6, x7].map Int.toNat).drop t).take (8 - t)) := by
          by_cases h8 : 8 = t
          · intro j hj
            rw [k2] at hj
            omega
          · rw [if_neg h8]
            exact k1
        have h := implGroupsText w.heap.size (if 8 = t then 0 else t) (8 - t) _ W (by omega) k3 (k4.later hb) (bruijn_below HT2.out hb)
        rw [k2, List.take_of_length_le (by simp)] at h
        exact h
      have HLL : Hid (L = gtL (([x0, x1, x2, x3, x4, x5, x6, x7].map Int.toNat).take f) ++ 58 :: 58 :: gtL (([x0, x1, x2, x3, x4, x5, x6, x7].map Int.toNat).drop t)) := by
        show _ = _
        rw [HL.out]
        unfold ip6T
        rw [if_neg (by omega)]
      clear g1 g2 g3 HL
      have s1 := (gt_len (([x0, x1, x2, x3, x4, x5, x6, x7].map Int.toNat).take f)).1
      have s2 := (gt_len (([x0, x1, x2, x3, x4, x5, x6, x7].map Int.toNat).drop t)).1
      rw [List.length_take] at s1
      rw [List.length_drop] at s2
      have h8 : ([x0, x1, x2, x3, x4, x5, x6, x7].map Int.toNat).length = 8 := rfl
      rw [h8] at s1 s2
      clear h8
      generalize gtL (([x0, x1, x2, x3, x4, x5, x6, x7].map Int.toNat).take f) = L1 at CT1 HLL s1
      generalize gtL (([x0, x1, x2, x3, x4, x5, x6, x7].map Int.toNat).drop t) = L2 at CT2 HLL s2
      have z1 : (⟨L1.toArray⟩ : ByteArray).size ≤ 100 := by show L1.toArray.size ≤ 100; rw [List.size_toArray]; omega
      have z2 : (⟨L2.toArray⟩ : ByteArray).size ≤ 100 := by show L2.toArray.size ≤ 100; rw [List.size_toArray]; omega
      have HLT : Hid ((⟨L.toArray⟩ : ByteArray) = ⟨L1.toArray⟩ ++ ⟨#[58, 58]⟩ ++ ⟨L2.toArray⟩) := by
        show _ = _
        rw [HLL.out, show (⟨#[58, 58]⟩ : ByteArray) = ⟨[58, 58].toArray⟩ from rfl, cat_bytes, cat_bytes]
        simp
      generalize (⟨L1.toArray⟩ : ByteArray) = T1 at CT1 HLT z1
      generalize (⟨L2.toArray⟩ : ByteArray) = T2 at CT2 HLT z2
      clear HLL s1 s2
      have z0 : (⟨#[58, 58]⟩ : ByteArray).size = 2 := rfl
      have CT1d : Hid (Calls Tryd.prog 33 #[.slice (some ⟨w.heap.size, 0, none⟩) f f] w2.drew fun e w' => e = .returned (.string T1) ∧ Below w2.heap.size w2 w') := (CT1.out w2.drew (Below.drew (Below.refl _ w2))).mono fun e w' h => ⟨h.1, (Below.drew (Below.refl _ w2)).trans h.2⟩
      have sl1 := slice_hm w.heap.size f (by omega)
      have sl2 := slice_l w.heap.size t hr2
      generalize (if 8 = t then 0 else t) = o2 at sl2 CT2
      go_wp2_with fail
      go_region_with (go_at_call 33; first | (with_reducible refine CT1d.out.mono ?_; rintro e w3 ⟨rfl, k3⟩) | (with_reducible refine (CT2.out _ k3).mono ?_; rintro e w4 ⟨rfl, b4⟩))
      all_goals
        go_wp2_with fail
        go_ret
        exact ⟨by rw [HLT.out]; rfl, (B2.trans (k3.mono B2.size)).trans (b4.mono (Nat.le_trans B2.size k3.size))⟩
end Go.Proofs.YtophgcneckjdjaaDoor
