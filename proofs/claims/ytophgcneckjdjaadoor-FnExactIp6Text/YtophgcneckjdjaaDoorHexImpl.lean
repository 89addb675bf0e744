/- Contracts of the library's printing of a number to sixteen, below 65536, behind a row that the call owns. -/
import Derived.Test.YtophgcneckjdjaaDoorRows
import Derived.Test.YtophgcneckjdjaaDoorIp6Plain
import Derived.Test.YtophgcneckjdjaaDoorIp4Impl
import Derived.Test.YtophgcneckjdjaaDoorPctPlain
namespace Go.Proofs.YtophgcneckjdjaaDoor
open Go.RowKit
set_option linter.unusedSimpArgs false

/-- The library's table of powers of two is as it was laid, where it is read. -/
def Bruijn (w : World) : Prop := w.cell? ⟨3, 15, none⟩ = some (.int .u8 4)

theorem implPow2 (w : World) : Calls Tryd.prog 79 #[.int .i64 16] w fun e w' => e = .returned (.bool true) ∧ w = w' := by
  go_enter Tryd.func79, Tryd.ntmps79
  go_wp2
  go_ret
  exact ⟨rfl, rfl⟩

theorem implTz64 (w : World) (h : Bruijn w) : Calls Tryd.prog 84 #[.int .u64 16] w fun e w' => e = .returned (.int .i64 4) ∧ w = w' := by
  unfold Bruijn at h
  have e1 : bits .and .u64 16 (IntKind.u64.wrap (-16)) = 16 := by kernel_rfl
  have e2 : IntKind.u64.wrap (16 * 285870213051353865) = 4573923408821661840 := by kernel_rfl
  have e3 : IntKind.u64.wrap 4573923408821661840 = 4573923408821661840 := by kernel_rfl
  have e4 : (4573923408821661840 : Int) / 288230376151711744 = 15 := by decide
  go_enter Tryd.func84, Tryd.ntmps84
  go_wp2
  go_ret
  exact ⟨rfl, rfl⟩

theorem implTz (w : World) (h : Bruijn w) : Calls Tryd.prog 80 #[.int .u64 16] w fun e w' => e = .returned (.int .i64 4) ∧ w = w' := by
  have H : Hid (Bruijn w) := h
  clear h
  go_enter Tryd.func80, Tryd.ntmps80
  go_wp2_with fail
  refine (implTz64 _ H.out).mono ?_
  rintro e w' ⟨rfl, rfl⟩
  go_wp2_with fail
  go_ret
  exact ⟨rfl, rfl⟩

theorem bruijn_below {w w' : World} (h : Bruijn w) (hb : Below w.heap.size w w') : Bruijn w' := cell_later hb h

theorem dig36 : ∀ k, k < 16 → ((#[48, 49, 50, 51, 52, 53, 54, 55, 56, 57, 97, 98, 99, 100, 101, 102, 103, 104, 105, 106, 107, 108, 109, 110, 111, 112, 113, 114, 115, 116, 117, 118, 119, 120, 121, 122] : Array UInt8).getD k 0) = hxU k := by decide +kernel
theorem hex36_at (k : Nat) (h : k < 16) (hp : k < (⟨#[48, 49, 50, 51, 52, 53, 54, 55, 56, 57, 97, 98, 99, 100, 101, 102, 103, 104, 105, 106, 107, 108, 109, 110, 111, 112, 113, 114, 115, 116, 117, 118, 119, 120, 121, 122]⟩ : ByteArray).size) :
    (⟨#[48, 49, 50, 51, 52, 53, 54, 55, 56, 57, 97, 98, 99, 100, 101, 102, 103, 104, 105, 106, 107, 108, 109, 110, 111, 112, 113, 114, 115, 116, 117, 118, 119, 120, 121, 122]⟩ : ByteArray)[k]'hp = hxU k := by
  rw [← dig36 k h]
  rw [Array.getD_eq_getD_getElem?, Array.getElem?_eq_getElem hp]
  rfl
theorem zero65 : Tryd.zeroCells88.size = 65 := by kernel_rfl

theorem u64_wrap_small (n : Int) (h0 : 0 ≤ n) (h1 : n < 18446744073709551616) : IntKind.u64.wrap n = n := by
  simp [IntKind.wrap, IntKind.bits, IntKind.signed]; omega
theorem u64_and15 (x : Int) (h0 : 0 ≤ x) (h1 : x < 18446744073709551616) : bits .and .u64 x 15 = x % 16 := by
  obtain ⟨a, rfl⟩ := Int.eq_ofNat_of_zero_le h0
  have ha : (BitVec.ofInt 64 (a : Int)).toNat = a := by
    rw [BitVec.ofInt_natCast, BitVec.toNat_ofNat]; exact Nat.mod_eq_of_lt (by omega)
  have hb : (BitVec.ofInt 64 (15 : Int)).toNat = 15 := by decide
  show IntKind.u64.wrap ((BitVec.ofInt 64 (a : Int) &&& BitVec.ofInt 64 (15 : Int)).toNat : Int) = _
  rw [BitVec.toNat_and, ha, hb, show (15 : Nat) = 2 ^ 4 - 1 from rfl, Nat.and_two_pow_sub_one_eq_mod, u64_wrap_small _ (by omega) (by omega)]
  omega

/-- What the rest of the walk asks of the row of digits. -/
theorem tail_at {w : World} {cs : Array Value} {T : TypeId} {o : Nat} {l : List UInt8} (h : ∀ j (hj : j < l.length), cs[o + j]? = some (.int .u8 (l[j].toNat : Int))) :
    ∀ (j : Nat) (x : Value), (bcells l)[j]? = some x → (w.alloc (.cells cs T)).cell? ((⟨w.heap.size, o, none⟩ : Addr).add j) = some x := by
  intro j x hj
  rw [Addr.add_lit, World.cell?_alloc_at _ _ _ _ rfl]
  unfold bcells at hj
  rw [List.getElem?_map] at hj
  obtain ⟨c, hc, rfl⟩ := Option.map_eq_some_iff.1 hj
  obtain ⟨hl, rfl⟩ := List.getElem?_eq_some_iff.1 hc
  exact h j hl




set_option maxRecDepth 20000 in
set_option maxHeartbeats 4000000 in
theorem implFormat1 (u : Int) (B : Nat) (v : Value) (l : List UInt8) (w : World) (h0 : 0 ≤ u) (h1 : u < 16) (hT : Bruijn w) (hown : w.ownsRow B 5 1 v l.length (bcells l)) (hB : B ≤ w.heap.size) (hl : l.length ≤ 1000) :
    Calls Tryd.prog 69 #[v, .int .u64 u, .int .i64 16, .bool false, .bool true] w fun e w' => ∃ v', e = .returned (.tuple #[v', .string ⟨#[]⟩]) ∧ w'.ownsRow B 5 1 v' (l ++ hex4 u.toNat).length (bcells (l ++ hex4 u.toNat)) ∧ Below B w w' := by
  have HH : Hid (hex4 u.toNat = [hxU u.toNat]) := by show _ = _; unfold hex4; rw [if_pos (by omega)]
  obtain ⟨i0, hi, hz0, hz1, hz2⟩ := info_parts Tryd.info5
  have HT : Hid (Bruijn w) := hT
  clear hT
  have HO : Hid (w.ownsRow B 5 1 v l.length (bcells l)) := hown
  clear hown
  go_enter Tryd.func69, Tryd.ntmps69
  go_wp2_with fail
  refine (implPow2 _).mono ?_
  rintro e w' ⟨rfl, rfl⟩
  go_wp2_with fail
  refine (implTz _ (bruijn_below HT.out ((Below.refl _ _).alloc (Nat.le_refl _) _))).mono ?_
  rintro e w' ⟨rfl, rfl⟩
  go_wp2_with fail
  refine wp_loop_rounds 1 ?_
  rw [rounds_succ]
  go_wp2_with (at_builtin; refine wpList_append_own _ rfl _ _ 22 rfl B 5 i0 (.int .u8 0) 1 1 Tryd.underlying22 hi hz0 hz1 hz2 rfl (by decide) _ _ _ rfl (HO.out.alloc _) ⟨w.heap.size, 64, none⟩ 1 1 (bcells (hex4 u.toNat)) rfl (by rw [bcells_length, HH.out]; rfl) (tail_at ?_) (bcells_oneCell _) (by unfold maxLen; omega) (by omega) (by simp; omega) ?_)
  · rw [HH.out]
    intro j hj
    obtain rfl : j = 0 := by simpa using hj
    rw [Array.getElem?_setIfInBounds_self_of_lt (by rw [zero65]; decide), hex36_at _ (by omega)]
    rfl
  · intro v' w1 h2 h3 _
    have B1 : Below B w w1 := ((Below.refl B w).alloc hB _).grown h3 (by simp; omega) (fun k hk => (HO.out.lt k hk).1)
    have R : w1.ownsRow B 5 1 v' (l ++ hex4 u.toNat).length (bcells (l ++ hex4 u.toNat)) := by
      rw [bcells_append, List.length_append, show (hex4 u.toNat).length = 1 by rw [HH.out]; rfl]
      exact h2
    clear h2 h3
    go_wp2_with fail
    go_ret2
    exact ⟨_, rfl, R, B1⟩

set_option maxRecDepth 20000 in
set_option maxHeartbeats 4000000 in
theorem implFormat2 (u : Int) (B : Nat) (v : Value) (l : List UInt8) (w : World) (h0 : 16 ≤ u) (h1 : u < 256) (hT : Bruijn w) (hown : w.ownsRow B 5 1 v l.length (bcells l)) (hB : B ≤ w.heap.size) (hl : l.length ≤ 1000) :
    Calls Tryd.prog 69 #[v, .int .u64 u, .int .i64 16, .bool false, .bool true] w fun e w' => ∃ v', e = .returned (.tuple #[v', .string ⟨#[]⟩]) ∧ w'.ownsRow B 5 1 v' (l ++ hex4 u.toNat).length (bcells (l ++ hex4 u.toNat)) ∧ Below B w w' := by
  obtain ⟨q1, hq1⟩ : ∃ q1 : Int, u / 16 = q1 := ⟨_, rfl⟩
  obtain ⟨r0, hr0⟩ : ∃ r0 : Int, u % 16 = r0 := ⟨_, rfl⟩
  have HH : Hid (hex4 u.toNat = [hxU q1.toNat, hxU r0.toNat]) := by
    show _ = _
    unfold hex4
    rw [if_neg (by omega), if_pos (by omega), show u.toNat / 16 = q1.toNat by omega, show u.toNat % 16 = r0.toNat by omega]
  have c1 : 0 ≤ q1 := by omega
  have c2 : q1 < 16 := by omega
  have c3 : 0 ≤ r0 := by omega
  have c4 : r0 < 16 := by omega
  have b0 : bits .and .u64 u 15 = r0 := by rw [u64_and15 _ (by omega) (by omega), hr0]
  clear hr0
  obtain ⟨i0, hi, hz0, hz1, hz2⟩ := info_parts Tryd.info5
  have HT : Hid (Bruijn w) := hT
  clear hT
  have HO : Hid (w.ownsRow B 5 1 v l.length (bcells l)) := hown
  clear hown
  go_enter Tryd.func69, Tryd.ntmps69
  go_wp2_with fail
  refine (implPow2 _).mono ?_
  rintro e w' ⟨rfl, rfl⟩
  go_wp2_with fail
  refine (implTz _ (bruijn_below HT.out ((Below.refl _ _).alloc (Nat.le_refl _) _))).mono ?_
  rintro e w' ⟨rfl, rfl⟩
  go_wp2_with fail
  refine wp_loop_rounds 2 ?_
  rw [rounds_succ]
  go_wp2_with fail
  rw [rounds_succ]
  go_wp2_with (at_builtin; refine wpList_append_own _ rfl _ _ 22 rfl B 5 i0 (.int .u8 0) 1 1 Tryd.underlying22 hi hz0 hz1 hz2 rfl (by decide) _ _ _ rfl (HO.out.alloc _) ⟨w.heap.size, 63, none⟩ 2 2 (bcells (hex4 u.toNat)) rfl (by rw [bcells_length, HH.out]; rfl) (tail_at ?_) (bcells_oneCell _) (by unfold maxLen; omega) (by omega) (by simp; omega) ?_)
  · rw [HH.out, hex36_at r0.toNat (by omega), hex36_at q1.toNat (by omega)]
    intro j hj
    have h3 : j = 0 ∨ j = 1 := by simp at hj; omega
    rcases h3 with rfl | rfl <;> simp [Array.getElem?_setIfInBounds, zero65]
  · intro v' w1 h2 h3 _
    have B1 : Below B w w1 := ((Below.refl B w).alloc hB _).grown h3 (by simp; omega) (fun k hk => (HO.out.lt k hk).1)
    have R : w1.ownsRow B 5 1 v' (l ++ hex4 u.toNat).length (bcells (l ++ hex4 u.toNat)) := by
      rw [bcells_append, List.length_append, show (hex4 u.toNat).length = 2 by rw [HH.out]; rfl]
      exact h2
    clear h2 h3
    go_wp2_with fail
    go_ret2
    exact ⟨_, rfl, R, B1⟩

set_option maxRecDepth 20000 in
set_option maxHeartbeats 4000000 in
theorem implFormat3 (u : Int) (B : Nat) (v : Value) (l : List UInt8) (w : World) (h0 : 256 ≤ u) (h1 : u < 4096) (hT : Bruijn w) (hown : w.ownsRow B 5 1 v l.length (bcells l)) (hB : B ≤ w.heap.size) (hl : l.length ≤ 1000) :
    Calls Tryd.prog 69 #[v, .int .u64 u, .int .i64 16, .bool false, .bool true] w fun e w' => ∃ v', e = .returned (.tuple #[v', .string ⟨#[]⟩]) ∧ w'.ownsRow B 5 1 v' (l ++ hex4 u.toNat).length (bcells (l ++ hex4 u.toNat)) ∧ Below B w w' := by
  obtain ⟨q1, hq1⟩ : ∃ q1 : Int, u / 16 = q1 := ⟨_, rfl⟩
  obtain ⟨r0, hr0⟩ : ∃ r0 : Int, u % 16 = r0 := ⟨_, rfl⟩
  obtain ⟨q2, hq2⟩ : ∃ q2 : Int, q1 / 16 = q2 := ⟨_, rfl⟩
  obtain ⟨r1, hr1⟩ : ∃ r1 : Int, q1 % 16 = r1 := ⟨_, rfl⟩
  have HH : Hid (hex4 u.toNat = [hxU q2.toNat, hxU r1.toNat, hxU r0.toNat]) := by
    show _ = _
    unfold hex4
    rw [if_neg (by omega), if_neg (by omega), if_pos (by omega), show u.toNat / 256 = q2.toNat by omega, show u.toNat / 16 % 16 = r1.toNat by omega, show u.toNat % 16 = r0.toNat by omega]
  have c1 : 16 ≤ q1 := by omega
  have c2 : q1 < 256 := by omega
  have c3 : 0 ≤ r0 := by omega
  have c4 : r0 < 16 := by omega
  have c5 : 0 ≤ q2 := by omega
  have c6 : q2 < 16 := by omega
  have c7 : 0 ≤ r1 := by omega
  have c8 : r1 < 16 := by omega
  have b0 : bits .and .u64 u 15 = r0 := by rw [u64_and15 _ (by omega) (by omega), hr0]
  have b1 : bits .and .u64 q1 15 = r1 := by rw [u64_and15 _ (by omega) (by omega), hr1]
  clear hr0 hr1
  obtain ⟨i0, hi, hz0, hz1, hz2⟩ := info_parts Tryd.info5
  have HT : Hid (Bruijn w) := hT
  clear hT
  have HO : Hid (w.ownsRow B 5 1 v l.length (bcells l)) := hown
  clear hown
  go_enter Tryd.func69, Tryd.ntmps69
  go_wp2_with fail
  refine (implPow2 _).mono ?_
  rintro e w' ⟨rfl, rfl⟩
  go_wp2_with fail
  refine (implTz _ (bruijn_below HT.out ((Below.refl _ _).alloc (Nat.le_refl _) _))).mono ?_
  rintro e w' ⟨rfl, rfl⟩
  go_wp2_with fail
  refine wp_loop_rounds 3 ?_
  rw [rounds_succ]
  go_wp2_with fail
  rw [rounds_succ]
  go_wp2_with fail
  rw [rounds_succ]
  go_wp2_with (at_builtin; refine wpList_append_own _ rfl _ _ 22 rfl B 5 i0 (.int .u8 0) 1 1 Tryd.underlying22 hi hz0 hz1 hz2 rfl (by decide) _ _ _ rfl (HO.out.alloc _) ⟨w.heap.size, 62, none⟩ 3 3 (bcells (hex4 u.toNat)) rfl (by rw [bcells_length, HH.out]; rfl) (tail_at ?_) (bcells_oneCell _) (by unfold maxLen; omega) (by omega) (by simp; omega) ?_)
  · rw [HH.out, hex36_at r0.toNat (by omega), hex36_at r1.toNat (by omega), hex36_at q2.toNat (by omega)]
    intro j hj
    have h3 : j = 0 ∨ j = 1 ∨ j = 2 := by simp at hj; omega
    rcases h3 with rfl | rfl | rfl <;> simp [Array.getElem?_setIfInBounds, zero65]
  · intro v' w1 h2 h3 _
    have B1 : Below B w w1 := ((Below.refl B w).alloc hB _).grown h3 (by simp; omega) (fun k hk => (HO.out.lt k hk).1)
    have R : w1.ownsRow B 5 1 v' (l ++ hex4 u.toNat).length (bcells (l ++ hex4 u.toNat)) := by
      rw [bcells_append, List.length_append, show (hex4 u.toNat).length = 3 by rw [HH.out]; rfl]
      exact h2
    clear h2 h3
    go_wp2_with fail
    go_ret2
    exact ⟨_, rfl, R, B1⟩

set_option maxRecDepth 20000 in
set_option maxHeartbeats 4000000 in
theorem implFormat4 (u : Int) (B : Nat) (v : Value) (l : List UInt8) (w : World) (h0 : 4096 ≤ u) (h1 : u < 65536) (hT : Bruijn w) (hown : w.ownsRow B 5 1 v l.length (bcells l)) (hB : B ≤ w.heap.size) (hl : l.length ≤ 1000) :
    Calls Tryd.prog 69 #[v, .int .u64 u, .int .i64 16, .bool false, .bool true] w fun e w' => ∃ v', e = .returned (.tuple #[v', .string ⟨#[]⟩]) ∧ w'.ownsRow B 5 1 v' (l ++ hex4 u.toNat).length (bcells (l ++ hex4 u.toNat)) ∧ Below B w w' := by
  obtain ⟨q1, hq1⟩ : ∃ q1 : Int, u / 16 = q1 := ⟨_, rfl⟩
  obtain ⟨r0, hr0⟩ : ∃ r0 : Int, u % 16 = r0 := ⟨_, rfl⟩
  obtain ⟨q2, hq2⟩ : ∃ q2 : Int, q1 / 16 = q2 := ⟨_, rfl⟩
  obtain ⟨r1, hr1⟩ : ∃ r1 : Int, q1 % 16 = r1 := ⟨_, rfl⟩
  obtain ⟨q3, hq3⟩ : ∃ q3 : Int, q2 / 16 = q3 := ⟨_, rfl⟩
  obtain ⟨r2, hr2⟩ : ∃ r2 : Int, q2 % 16 = r2 := ⟨_, rfl⟩
  have HH : Hid (hex4 u.toNat = [hxU q3.toNat, hxU r2.toNat, hxU r1.toNat, hxU r0.toNat]) := by
    show _ = _
    unfold hex4
    rw [if_neg (by omega), if_neg (by omega), if_neg (by omega), show u.toNat / 4096 = q3.toNat by omega, show u.toNat / 256 % 16 = r2.toNat by omega, show u.toNat / 16 % 16 = r1.toNat by omega, show u.toNat % 16 = r0.toNat by omega]
  have c1 : 256 ≤ q1 := by omega
  have c2 : q1 < 4096 := by omega
  have c3 : 0 ≤ r0 := by omega
  have c4 : r0 < 16 := by omega
  have c5 : 16 ≤ q2 := by omega
  have c6 : q2 < 256 := by omega
  have c7 : 0 ≤ r1 := by omega
  have c8 : r1 < 16 := by omega
  have d5 : 0 ≤ q3 := by omega
  have d6 : q3 < 16 := by omega
  have d7 : 0 ≤ r2 := by omega
  have d8 : r2 < 16 := by omega
  have b0 : bits .and .u64 u 15 = r0 := by rw [u64_and15 _ (by omega) (by omega), hr0]
  have b1 : bits .and .u64 q1 15 = r1 := by rw [u64_and15 _ (by omega) (by omega), hr1]
  have b2 : bits .and .u64 q2 15 = r2 := by rw [u64_and15 _ (by omega) (by omega), hr2]
  clear hr0 hr1 hr2
  obtain ⟨i0, hi, hz0, hz1, hz2⟩ := info_parts Tryd.info5
  have HT : Hid (Bruijn w) := hT
  clear hT
  have HO : Hid (w.ownsRow B 5 1 v l.length (bcells l)) := hown
  clear hown
  go_enter Tryd.func69, Tryd.ntmps69
  go_wp2_with fail
  refine (implPow2 _).mono ?_
  rintro e w' ⟨rfl, rfl⟩
  go_wp2_with fail
  refine (implTz _ (bruijn_below HT.out ((Below.refl _ _).alloc (Nat.le_refl _) _))).mono ?_
  rintro e w' ⟨rfl, rfl⟩
  go_wp2_with fail
  refine wp_loop_rounds 4 ?_
  rw [rounds_succ]
  go_wp2_with fail
  rw [rounds_succ]
  go_wp2_with fail
  rw [rounds_succ]
  go_wp2_with fail
  rw [rounds_succ]
  go_wp2_with (at_builtin; refine wpList_append_own _ rfl _ _ 22 rfl B 5 i0 (.int .u8 0) 1 1 Tryd.underlying22 hi hz0 hz1 hz2 rfl (by decide) _ _ _ rfl (HO.out.alloc _) ⟨w.heap.size, 61, none⟩ 4 4 (bcells (hex4 u.toNat)) rfl (by rw [bcells_length, HH.out]; rfl) (tail_at ?_) (bcells_oneCell _) (by unfold maxLen; omega) (by omega) (by simp; omega) ?_)
  · rw [HH.out, hex36_at r0.toNat (by omega), hex36_at r1.toNat (by omega), hex36_at r2.toNat (by omega), hex36_at q3.toNat (by omega)]
    intro j hj
    have h3 : j = 0 ∨ j = 1 ∨ j = 2 ∨ j = 3 := by simp at hj; omega
    rcases h3 with rfl | rfl | rfl | rfl <;> simp [Array.getElem?_setIfInBounds, zero65]
  · intro v' w1 h2 h3 _
    have B1 : Below B w w1 := ((Below.refl B w).alloc hB _).grown h3 (by simp; omega) (fun k hk => (HO.out.lt k hk).1)
    have R : w1.ownsRow B 5 1 v' (l ++ hex4 u.toNat).length (bcells (l ++ hex4 u.toNat)) := by
      rw [bcells_append, List.length_append, show (hex4 u.toNat).length = 4 by rw [HH.out]; rfl]
      exact h2
    clear h2 h3
    go_wp2_with fail
    go_ret2
    exact ⟨_, rfl, R, B1⟩

theorem implFormat (u : Int) (B : Nat) (v : Value) (l : List UInt8) (w : World) (h0 : 0 ≤ u) (h1 : u < 65536) (hT : Bruijn w) (hown : w.ownsRow B 5 1 v l.length (bcells l)) (hB : B ≤ w.heap.size) (hl : l.length ≤ 1000) :
    Calls Tryd.prog 69 #[v, .int .u64 u, .int .i64 16, .bool false, .bool true] w fun e w' => ∃ v', e = .returned (.tuple #[v', .string ⟨#[]⟩]) ∧ w'.ownsRow B 5 1 v' (l ++ hex4 u.toNat).length (bcells (l ++ hex4 u.toNat)) ∧ Below B w w' := by
  by_cases c1 : u < 16
  · exact implFormat1 u B v l w h0 c1 hT hown hB hl
  · by_cases c2 : u < 256
    · exact implFormat2 u B v l w (by omega) c2 hT hown hB hl
    · by_cases c3 : u < 4096
      · exact implFormat3 u B v l w (by omega) c3 hT hown hB hl
      · exact implFormat4 u B v l w (by omega) h1 hT hown hB hl

set_option maxHeartbeats 2000000 in
theorem implAppHex (u : Int) (B : Nat) (v : Value) (l : List UInt8) (w : World) (h0 : 0 ≤ u) (h1 : u < 65536) (hT : Bruijn w) (hown : w.ownsRow B 5 1 v l.length (bcells l)) (hB : B ≤ w.heap.size) (hl : l.length ≤ 1000) :
    Calls Tryd.prog 27 #[v, .int .i64 u, .int .i64 16] w fun e w' => ∃ v', e = .returned v' ∧ w'.ownsRow B 5 1 v' (l ++ hex4 u.toNat).length (bcells (l ++ hex4 u.toNat)) ∧ Below B w w' := by
  have CF : Hid (∀ W, W = w → Calls Tryd.prog 69 #[v, .int .u64 u, .int .i64 16, .bool false, .bool true] W fun e w' => ∃ v', e = .returned (.tuple #[v', .string ⟨#[]⟩]) ∧ w'.ownsRow B 5 1 v' (l ++ hex4 u.toNat).length (bcells (l ++ hex4 u.toNat)) ∧ Below B w w') := fun W h => by subst h; exact implFormat u B v l _ h0 h1 hT hown hB hl
  clear hT hown
  have CU : Calls Tryd.prog 59 #[v, .int .u64 u, .int .i64 16] w fun e w' => ∃ v', e = .returned v' ∧ w'.ownsRow B 5 1 v' (l ++ hex4 u.toNat).length (bcells (l ++ hex4 u.toNat)) ∧ Below B w w' := by
    go_enter Tryd.func59, Tryd.ntmps59
    go_wp2_with fail
    refine (CF.out _ rfl).mono ?_
    rintro e w' ⟨v', rfl, h2, h3⟩
    go_wp2_with fail
    go_ret
    exact ⟨_, rfl, h2, h3⟩
  have CU : Hid (Calls Tryd.prog 59 #[v, .int .u64 u, .int .i64 16] w fun e w' => ∃ v', e = .returned v' ∧ w'.ownsRow B 5 1 v' (l ++ hex4 u.toNat).length (bcells (l ++ hex4 u.toNat)) ∧ Below B w w') := CU
  clear CF
  have CI : Calls Tryd.prog 51 #[v, .int .i64 u, .int .i64 16] w fun e w' => ∃ v', e = .returned v' ∧ w'.ownsRow B 5 1 v' (l ++ hex4 u.toNat).length (bcells (l ++ hex4 u.toNat)) ∧ Below B w w' := by
    go_enter Tryd.func51, Tryd.ntmps51
    go_wp2_with fail
    refine CU.out.mono ?_
    rintro e w' ⟨v', rfl, h2, h3⟩
    go_wp2_with fail
    go_ret
    exact ⟨_, rfl, h2, h3⟩
  have CI : Hid (Calls Tryd.prog 51 #[v, .int .i64 u, .int .i64 16] w fun e w' => ∃ v', e = .returned v' ∧ w'.ownsRow B 5 1 v' (l ++ hex4 u.toNat).length (bcells (l ++ hex4 u.toNat)) ∧ Below B w w') := CI
  clear CU
  go_enter Tryd.func27, Tryd.ntmps27
  go_wp2_with fail
  refine CI.out.mono ?_
  rintro e w' ⟨v', rfl, h2, h3⟩
  go_wp2_with fail
  go_ret
  exact ⟨_, rfl, h2, h3⟩
end Go.Proofs.YtophgcneckjdjaaDoor
