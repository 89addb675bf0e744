/- Contract of the program's Ip4Text. -/
import Derived.Test.YtophgcneckjdjaaDoorRows
import Derived.Test.YtophgcneckjdjaaDoorIp4Spec
import Derived.Test.YtophgcneckjdjaaDoorShelf
import Derived.Lib.AppendIntMem
namespace Go.Proofs.YtophgcneckjdjaaDoor
open Go.RowKit

/-- The library's table of powers of ten is as it was laid. -/
def Pow (w : World) : Prop := Lib.TabIs Tryd.prog w "internal/strconv.uint64pow10" .u64 Lib.pow10Tab
theorem pow_below {w w' : World} (h : Pow w) (hb : Below w.heap.size w w') : Pow w' := Lib.tabBelow_of_tabIs h w' hb

theorem itoa_dec3 {i : Int} (h0 : 0 ≤ i) (h1 : i < 1000) : Lib.itoa i = dec3 i.toNat := by
  obtain ⟨u, rfl⟩ := Int.eq_ofNat_of_zero_le h0
  rw [Lib.itoa_nonneg, Int.toNat_natCast]
  have hu : u < 1000 := by omega
  unfold dec3
  by_cases c1 : u < 10
  · rw [if_pos c1, Lib.decDigits_one c1]
  · by_cases c2 : u < 100
    · rw [if_neg c1, if_pos c2, Lib.decDigits_two c1 c2]
    · rw [if_neg c1, if_neg c2, Lib.decDigits, dif_neg c1, Lib.decDigits_two (by omega) (by omega)]
      rw [show u / 10 / 10 = u / 100 by omega]
      rfl

theorem implAppDec (B : Nat) (i : Int) (v : Value) (l : List UInt8) (w : World) (h0 : 0 ≤ i) (h1 : i < 1000) (hown : w.ownsRow B 5 1 v l.length (bcells l)) (hB : B ≤ w.heap.size) (hl : l.length ≤ 1000)
    (hT : Lib.TabBelow Tryd.prog B w "internal/strconv.uint64pow10" .u64 Lib.pow10Tab) :
    Calls Tryd.prog 27 #[v, .int .i64 i, .int .i64 10] w fun e w' => ∃ v', e = .returned v' ∧ w'.ownsRow B 5 1 v' (l ++ dec3 i.toNat).length (bcells (l ++ dec3 i.toNat)) ∧ Below B w w' := by
  refine (Tryd.strconv_AppendInt_10 B l.length i (by omega) (by omega) v (bcells l) w hown hB (by omega) hT).mono ?_
  rintro e w' ⟨v', rfl, h2, h3, _⟩
  refine ⟨v', rfl, ?_, h3⟩
  rw [itoa_dec3 h0 h1] at h2
  rw [bcells_append, List.length_append]
  exact h2

/-- The text of the k first bytes of an address, each with its dot. -/
def pre4 (n : Int) : Nat → List UInt8
  | 0 => []
  | 1 => dec3 (n / 16777216).toNat ++ [46]
  | 2 => dec3 (n / 16777216).toNat ++ [46] ++ dec3 (n / 65536 % 256).toNat ++ [46]
  | _ => dec3 (n / 16777216).toNat ++ [46] ++ dec3 (n / 65536 % 256).toNat ++ [46] ++ dec3 (n / 256 % 256).toNat ++ [46]
theorem pre4_len (n : Int) (k : Nat) : (pre4 n k).length ≤ 100 := by
  have h1 := dec3_len (n / 16777216).toNat
  have h2 := dec3_len (n / 65536 % 256).toNat
  have h3 := dec3_len (n / 256 % 256).toNat
  match k with
  | 0 => simp [pre4]
  | 1 => simp [pre4]; omega
  | 2 => simp [pre4]; omega
  | _ + 3 => simp [pre4]; omega
theorem pre4_end {n : Int} (h0 : 0 ≤ n) : (⟨(pre4 n 3 ++ dec3 (n % 256).toNat).toArray⟩ : ByteArray) = ip4T n := by
  unfold ip4T ip4L pre4
  have e1 : (n / 16777216).toNat = n.toNat / 16777216 := by omega
  have e2 : (n / 65536 % 256).toNat = n.toNat / 65536 % 256 := by omega
  have e3 : (n / 256 % 256).toNat = n.toNat / 256 % 256 := by omega
  have e4 : (n % 256).toNat = n.toNat % 256 := by omega
  rw [e1, e2, e3, e4]
  simp

def room4 : Nat → Int
  | 0 => 16777216
  | 1 => 65536
  | 2 => 256
  | 3 => 1
  | _ => 0


set_option maxRecDepth 20000 in
set_option maxHeartbeats 8000000 in
theorem implIp4Text (n : Int) (w : World) (h0 : 0 ≤ n) (h1 : n < 4294967296) (hT : Pow w) :
    Calls Tryd.prog 11 #[.int .i64 n] w fun e w' => e = .returned (.string (ip4T n)) ∧ Below w.heap.size w w' := by
  obtain ⟨i0, hi, hz0, hz1, hz2⟩ := info_parts Tryd.info5
  have HT : Hid (Lib.TabBelow Tryd.prog w.heap.size w "internal/strconv.uint64pow10" .u64 Lib.pow10Tab) := Lib.tabBelow_of_tabIs hT
  clear hT
  go_enter Tryd.func11, Tryd.ntmps11
  go_wp2_with (at_make; refine wpList_make_own _ rfl _ _ 22 rfl w.heap.size 5 i0 (.int .u8 0) 1 Tryd.underlying22 hi hz0 hz1 _ _ _ 15 rfl rfl (by omega) (by rw [hz2]; omega) (by unfold maxLen; omega) (Nat.le_refl _) ?_)
  intro wm hmo hgm
  have Bm : Below w.heap.size w wm := (Below.refl _ _).grown hgm (Nat.le_refl _) (fun k hk => by cases hk)
  have om : wm.ownsRow w.heap.size 5 1 (.slice (some ⟨w.heap.size, 0, none⟩) 0 15) 0 [] := hmo
  clear hmo hgm
  go_wp2_with fail
  go_loopw [3, 4] (fun v r wr => ∃ k : Nat, k ≤ 4 ∧ r = .int .i64 (room4 k) ∧ (k ≤ 3 → wr.ownsRow w.heap.size 5 1 v (pre4 n k).length (bcells (pre4 n k))) ∧ (k = 4 → wr.ownsRow w.heap.size 5 1 v (pre4 n 3 ++ dec3 (n % 256).toNat).length (bcells (pre4 n 3 ++ dec3 (n % 256).toNat))) ∧ Below w.heap.size w wr)
    (fun _ r _ => (intOf r).toNat)
  case atStart => exact ⟨0, by omega, rfl, fun _ => om, fun h => by omega, Bm⟩
  case round =>
    obtain ⟨k, hk, rfl, hin, hend, hbel⟩ := hrel
    clear om Bm hi hz0 hz1 hz2
    have hsz := hbel.size
    have h5 : k = 0 ∨ k = 1 ∨ k = 2 ∨ k = 3 ∨ k = 4 := by omega
    have HTW : Hid (Lib.TabBelow Tryd.prog w.heap.size wr "internal/strconv.uint64pow10" .u64 Lib.pow10Tab) := HT.out.on hbel
    rcases h5 with rfl | rfl | rfl | rfl | rfl
    · have e0 : n / 16777216 % 256 = n / 16777216 := by omega
      have HI : Hid (∀ (v : Value) (W : World), W.ownsRow w.heap.size 5 1 v (pre4 n 0).length (bcells (pre4 n 0)) → w.heap.size ≤ W.heap.size → Lib.TabBelow Tryd.prog w.heap.size W "internal/strconv.uint64pow10" .u64 Lib.pow10Tab → Calls Tryd.prog 27 #[v, .int .i64 (n/16777216), .int .i64 10] W fun e w' => ∃ v', e = .returned v' ∧ w'.ownsRow w.heap.size 5 1 v' (pre4 n 0 ++ dec3 (n/16777216).toNat).length (bcells (pre4 n 0 ++ dec3 (n/16777216).toNat)) ∧ Below w.heap.size W w') := fun v W ho hB hT => implAppDec w.heap.size _ v _ W (by omega) (by omega) ho hB (by have := pre4_len n 0; omega) hT
      have o1 := hin (by omega)
      have hl := pre4_len n 0
      have hl2 := dec3_len (n/16777216).toNat
      clear hin hend
      simp only [room4]
      go_wp2_with fail
      refine (HI.out _ _ o1 hsz HTW.out).mono ?_
      rintro e wb ⟨vb, rfl, o2, b2⟩
      have B2 := hbel.trans b2
      have z2 := B2.size
      have hl3 : (pre4 n 0 ++ dec3 (n/16777216).toNat).length ≤ 200 := by rw [List.length_append]; omega
      clear o1 hbel b2 HTW HI
      obtain ⟨L, hL⟩ : ∃ L, pre4 n 0 ++ dec3 (n/16777216).toNat = L := ⟨_, rfl⟩
      rw [hL] at o2 hl3
      have HL : Hid (pre4 n 0 ++ dec3 (n/16777216).toNat = L) := hL
      clear hL
      go_wp2_with (at_builtin; refine wpList_append_new _ rfl _ _ 22 rfl w.heap.size 5 (.int .u8 0) 1 Tryd.underlying22 Tryd.info5 rfl _ _ _ rfl o2 #[.int .u8 46] 1 rfl rfl (by intro u hu; simp at hu; subst hu; rfl) (by omega) (by unfold maxLen; omega) z2 ?_)
      intro v' w1 o3 b3
      have R : w1.ownsRow w.heap.size 5 1 v' (pre4 n 1).length (bcells (pre4 n 1)) := by
        rw [show pre4 n 1 = L ++ [46] by rw [← HL.out]; simp [pre4], bcells_snoc, List.length_append]
        exact o3
      have B3 := B2.trans b3
      clear o2 o3 b3 B2
      go_wp2_with fail
      go_roundw
      case rel => exact ⟨1, by omega, rfl, fun _ => R, fun h => by omega, B3⟩
      case measure => simp [intOf]
    · have HI : Hid (∀ (v : Value) (W : World), W.ownsRow w.heap.size 5 1 v (pre4 n 1).length (bcells (pre4 n 1)) → w.heap.size ≤ W.heap.size → Lib.TabBelow Tryd.prog w.heap.size W "internal/strconv.uint64pow10" .u64 Lib.pow10Tab → Calls Tryd.prog 27 #[v, .int .i64 (n/65536%256), .int .i64 10] W fun e w' => ∃ v', e = .returned v' ∧ w'.ownsRow w.heap.size 5 1 v' (pre4 n 1 ++ dec3 (n/65536%256).toNat).length (bcells (pre4 n 1 ++ dec3 (n/65536%256).toNat)) ∧ Below w.heap.size W w') := fun v W ho hB hT => implAppDec w.heap.size _ v _ W (by omega) (by omega) ho hB (by have := pre4_len n 1; omega) hT
      have o1 := hin (by omega)
      have hl := pre4_len n 1
      have hl2 := dec3_len (n/65536%256).toNat
      clear hin hend
      simp only [room4]
      go_wp2_with fail
      refine (HI.out _ _ o1 hsz HTW.out).mono ?_
      rintro e wb ⟨vb, rfl, o2, b2⟩
      have B2 := hbel.trans b2
      have z2 := B2.size
      have hl3 : (pre4 n 1 ++ dec3 (n/65536%256).toNat).length ≤ 200 := by rw [List.length_append]; omega
      clear o1 hbel b2 HTW HI
      obtain ⟨L, hL⟩ : ∃ L, pre4 n 1 ++ dec3 (n/65536%256).toNat = L := ⟨_, rfl⟩
      rw [hL] at o2 hl3
      have HL : Hid (pre4 n 1 ++ dec3 (n/65536%256).toNat = L) := hL
      clear hL
      go_wp2_with (at_builtin; refine wpList_append_new _ rfl _ _ 22 rfl w.heap.size 5 (.int .u8 0) 1 Tryd.underlying22 Tryd.info5 rfl _ _ _ rfl o2 #[.int .u8 46] 1 rfl rfl (by intro u hu; simp at hu; subst hu; rfl) (by omega) (by unfold maxLen; omega) z2 ?_)
      intro v' w1 o3 b3
      have R : w1.ownsRow w.heap.size 5 1 v' (pre4 n 2).length (bcells (pre4 n 2)) := by
        rw [show pre4 n 2 = L ++ [46] by rw [← HL.out]; simp [pre4], bcells_snoc, List.length_append]
        exact o3
      have B3 := B2.trans b3
      clear o2 o3 b3 B2
      go_wp2_with fail
      go_roundw
      case rel => exact ⟨2, by omega, rfl, fun _ => R, fun h => by omega, B3⟩
      case measure => simp [intOf]
    · have HI : Hid (∀ (v : Value) (W : World), W.ownsRow w.heap.size 5 1 v (pre4 n 2).length (bcells (pre4 n 2)) → w.heap.size ≤ W.heap.size → Lib.TabBelow Tryd.prog w.heap.size W "internal/strconv.uint64pow10" .u64 Lib.pow10Tab → Calls Tryd.prog 27 #[v, .int .i64 (n/256%256), .int .i64 10] W fun e w' => ∃ v', e = .returned v' ∧ w'.ownsRow w.heap.size 5 1 v' (pre4 n 2 ++ dec3 (n/256%256).toNat).length (bcells (pre4 n 2 ++ dec3 (n/256%256).toNat)) ∧ Below w.heap.size W w') := fun v W ho hB hT => implAppDec w.heap.size _ v _ W (by omega) (by omega) ho hB (by have := pre4_len n 2; omega) hT
      have o1 := hin (by omega)
      have hl := pre4_len n 2
      have hl2 := dec3_len (n/256%256).toNat
      clear hin hend
      simp only [room4]
      go_wp2_with fail
      refine (HI.out _ _ o1 hsz HTW.out).mono ?_
      rintro e wb ⟨vb, rfl, o2, b2⟩
      have B2 := hbel.trans b2
      have z2 := B2.size
      have hl3 : (pre4 n 2 ++ dec3 (n/256%256).toNat).length ≤ 200 := by rw [List.length_append]; omega
      clear o1 hbel b2 HTW HI
      obtain ⟨L, hL⟩ : ∃ L, pre4 n 2 ++ dec3 (n/256%256).toNat = L := ⟨_, rfl⟩
      rw [hL] at o2 hl3
      have HL : Hid (pre4 n 2 ++ dec3 (n/256%256).toNat = L) := hL
      clear hL
      go_wp2_with (at_builtin; refine wpList_append_new _ rfl _ _ 22 rfl w.heap.size 5 (.int .u8 0) 1 Tryd.underlying22 Tryd.info5 rfl _ _ _ rfl o2 #[.int .u8 46] 1 rfl rfl (by intro u hu; simp at hu; subst hu; rfl) (by omega) (by unfold maxLen; omega) z2 ?_)
      intro v' w1 o3 b3
      have R : w1.ownsRow w.heap.size 5 1 v' (pre4 n 3).length (bcells (pre4 n 3)) := by
        rw [show pre4 n 3 = L ++ [46] by rw [← HL.out]; simp [pre4], bcells_snoc, List.length_append]
        exact o3
      have B3 := B2.trans b3
      clear o2 o3 b3 B2
      go_wp2_with fail
      go_roundw
      case rel => exact ⟨3, by omega, rfl, fun _ => R, fun h => by omega, B3⟩
      case measure => simp [intOf]
    · have HI : Hid (∀ (v : Value) (W : World), W.ownsRow w.heap.size 5 1 v (pre4 n 3).length (bcells (pre4 n 3)) → w.heap.size ≤ W.heap.size → Lib.TabBelow Tryd.prog w.heap.size W "internal/strconv.uint64pow10" .u64 Lib.pow10Tab → Calls Tryd.prog 27 #[v, .int .i64 (n % 256), .int .i64 10] W fun e w' => ∃ v', e = .returned v' ∧ w'.ownsRow w.heap.size 5 1 v' (pre4 n 3 ++ dec3 (n % 256).toNat).length (bcells (pre4 n 3 ++ dec3 (n % 256).toNat)) ∧ Below w.heap.size W w') := fun v W ho hB hT => implAppDec w.heap.size _ v _ W (by omega) (by omega) ho hB (by have := pre4_len n 3; omega) hT
      have o1 := hin (by omega)
      clear hin hend
      simp only [room4]
      go_wp2_with fail
      refine (HI.out _ _ o1 hsz HTW.out).mono ?_
      rintro e wb ⟨vb, rfl, o2, b2⟩
      have B2 := hbel.trans b2
      clear o1 hbel b2 HTW HI
      go_wp2_with fail
      go_roundw
      case rel => exact ⟨4, by omega, rfl, fun h => by omega, fun _ => o2, B2⟩
      case measure => simp [intOf]
    · have o1 := hend rfl
      clear hin hend
      have hcv := run_string_own (P := Tryd.prog) wr 22 9 5 Tryd.underlying22 Tryd.underlying5 Tryd.underlying9 o1
      rw [pre4_end h0] at hcv
      simp only [room4]
      go_wp2_with fail
      go_ret
      exact ⟨rfl, hbel⟩

set_option maxHeartbeats 1000000 in
theorem implIp4Text_no (n : Int) (w : World) (h : n < 0 ∨ 4294967295 < n) :
    Calls Tryd.prog 11 #[.int .i64 n] w fun e w' => e = .returned (.string ⟨#[]⟩) ∧ Below w.heap.size w w' := by
  by_cases h0 : n < 0
  · clear h
    go_enter Tryd.func11, Tryd.ntmps11
    go_wp2_with fail
    go_ret
    exact ⟨rfl, Below.refl _ _⟩
  · have h1 : 4294967296 ≤ n := by omega
    clear h
    go_enter Tryd.func11, Tryd.ntmps11
    go_wp2_with fail
    go_ret
    exact ⟨rfl, Below.refl _ _⟩
end Go.Proofs.YtophgcneckjdjaaDoor
