/- HexImpl, LaidBru, LaidHost, KeepWalk, LaidMarks, LaidUrl, AsciiWalk. -/
import Derived.Test.YtgmfkgeepecknaaGreatDoorQ05
import Derived.OpenVars
import Derived.LaidHandle
set_option maxHeartbeats 4000000
set_option maxRecDepth 20000
namespace Go.Proofs.YtgmfkgeepecknaaGreatDoor
open Go.RowKit
set_option linter.unusedSimpArgs false
def Bruijn (w : World) : Prop := w.cell? ⟨6, 15, none⟩ = some (.int .u8 4)
theorem implPow2 (w : World) : Calls Tryz.prog 207 #[.int .i64 16] w fun e w' => e = .returned (.bool true) ∧ w = w' := by
 go_enter Tryz.func207, Tryz.ntmps207
 go_wp2
 go_ret
 exact ⟨rfl, rfl⟩
theorem implTz64 (w : World) (h : Bruijn w) : Calls Tryz.prog 232 #[.int .u64 16] w fun e w' => e = .returned (.int .i64 4) ∧ w = w' := by
 unfold Bruijn at h
 have e1 : bits .and .u64 16 (IntKind.u64.wrap (-16)) = 16 := by kernel_rfl
 have e2 : IntKind.u64.wrap (16 * 285870213051353865) = 4573923408821661840 := by kernel_rfl
 have e3 : IntKind.u64.wrap 4573923408821661840 = 4573923408821661840 := by kernel_rfl
 have e4 : (4573923408821661840 : Int) / 288230376151711744 = 15 := by decide
 go_enter Tryz.func232, Tryz.ntmps232
 go_wp2
 go_ret
 exact ⟨rfl, rfl⟩
theorem implTz (w : World) (h : Bruijn w) : Calls Tryz.prog 208 #[.int .u64 16] w fun e w' => e = .returned (.int .i64 4) ∧ w = w' := by
 have H : Hid (Bruijn w) := h
 clear h
 go_enter Tryz.func208, Tryz.ntmps208
 go_wp2_with fail
 refine (implTz64 _ H.out).mono ?_
 rintro e w' ⟨rfl, rfl⟩
 go_wp2_with fail
 go_ret
 exact ⟨rfl, rfl⟩
theorem bruijn_below {w w' : World} (h : Bruijn w) (hb : Below w.heap.size w w') : Bruijn w' := cell_later hb h
theorem dig36 : ∀ k, k < 16 → ((#[48, 49, 50, 51, 52, 53, 54, 55, 56, 57, 97, 98, 99, 100, 101, 102, 103, 104, 105, 106, 107, 108, 109, 110, 111, 112, 113, 114, 115, 116, 117, 118, 119, 120, 121, 122] : Array UInt8).getD k 0) = hxU k := by decide +kernel
theorem hex36_at (k : Nat) (h : k < 16) (hp : k < (⟨#[48, 49, 50, 51, 52, 53, 54, 55, 56, 57, 97, 98, 99, 100, 101, 102, 103, 104, 105, 106, 107, 108, 109, 110, 111, 112, 113, 114, 115, 116, 117, 118, 119, 120, 121, 122]⟩ : ByteArray).size) :
  (⟨#[48, 49, 50, 51, 52, 53, 54, 55, 56, 57, 97, 98, 99, 100, 101, 102, 103, 104, 105, 106, 107, 108, 109, 110, 111, 112, 113, 114, 115, 116, 117, 118, 119, 120, 121, 122]⟩ : ByteArray)[k]'hp = hxU k := by
 rw [← dig36 k h]
 rw [Array.getD_eq_getD_getElem?, Array.getElem?_eq_getElem hp]
 rfl
theorem zero65 : Tryz.zeroCells200.size = 65 := by kernel_rfl
theorem u64_wrap_small (n : Int) (h0 : 0 ≤ n) (h1 : n < 18446744073709551616) : IntKind.u64.wrap n = n := by
 simp [IntKind.wrap, IntKind.bits, IntKind.signed]; omega
theorem u64_and15 (x : Int) (h0 : 0 ≤ x) (h1 : x < 18446744073709551616) : bits .and .u64 x 15 = x % 16 := by
 obtain ⟨a, rfl⟩ := Int.eq_ofNat_of_zero_le h0
 have ha : (BitVec.ofInt 64 (a : Int)).toNat = a := by
  rw [BitVec.ofInt_natCast, BitVec.toNat_ofNat]; exact Nat.mod_eq_of_lt (by omega)
 have hb : (BitVec.ofInt 64 (15 : Int)).toNat = 15 := by decide
 show IntKind.u64.wrap ((BitVec.ofInt 64 (a : Int) &&& BitVec.ofInt 64 (15 : Int)).toNat : Int) = _
 rw [BitVec.toNat_and, ha, hb, show (15 : Nat) = 2 ^ 4 - 1 from rfl, Nat.and_two_pow_sub_one_eq_mod, u64_wrap_small _ (by omega) (by omega)]
 omega
theorem tail_at {w : World} {cs : Array Value} {T : TypeId} {o : Nat} {l : List UInt8} (h : ∀ j (hj : j < l.length), cs[o + j]? = some (.int .u8 (l[j].toNat : Int))) :
  ∀ (j : Nat) (x : Value), (bcells l)[j]? = some x → (w.alloc (.cells cs T)).cell? ((⟨w.heap.size, o, none⟩ : Addr).add j) = some x := by
 intro j x hj
 rw [Addr.add_lit, World.cell?_alloc_at _ _ _ _ rfl]
 unfold bcells at hj
 rw [List.getElem?_map] at hj
 obtain ⟨c, hc, rfl⟩ := Option.map_eq_some_iff.1 hj
 obtain ⟨hl, rfl⟩ := List.getElem?_eq_some_iff.1 hc
 exact h j hl
theorem implFormat1 (u : Int) (B : Nat) (v : Value) (l : List UInt8) (w : World) (h0 : 0 ≤ u) (h1 : u < 16) (hT : Bruijn w) (hown : w.ownsRow B 5 1 v l.length (bcells l)) (hB : B ≤ w.heap.size) (hl : l.length ≤ 1000) :
  Calls Tryz.prog 172 #[v, .int .u64 u, .int .i64 16, .bool false, .bool true] w fun e w' => ∃ v', e = .returned (.tuple #[v', .string ⟨#[]⟩]) ∧ w'.ownsRow B 5 1 v' (l ++ hex4 u.toNat).length (bcells (l ++ hex4 u.toNat)) ∧ Below B w w' := by
 have HH : Hid (hex4 u.toNat = [hxU u.toNat]) := by show _ = _; unfold hex4; rw [if_pos (by omega)]
 obtain ⟨i0, hi, hz0, hz1, hz2⟩ := info_parts Tryz.info5
 have HT : Hid (Bruijn w) := hT
 clear hT
 have HO : Hid (w.ownsRow B 5 1 v l.length (bcells l)) := hown
 clear hown
 go_enter Tryz.func172, Tryz.ntmps172
 go_wp2_with fail
 refine (implPow2 _).mono ?_
 rintro e w' ⟨rfl, rfl⟩
 go_wp2_with fail
 refine (implTz _ (bruijn_below HT.out ((Below.refl _ _).alloc (Nat.le_refl _) _))).mono ?_
 rintro e w' ⟨rfl, rfl⟩
 go_wp2_with fail
 refine wp_loop_rounds 1 ?_
 rw [rounds_succ]
 go_wp2_with (at_builtin; refine wpList_append_own _ rfl _ _ 22 rfl B 5 i0 (.int .u8 0) 1 1 Tryz.underlying22 hi hz0 hz1 hz2 rfl (by decide) _ _ _ rfl (HO.out.alloc _) ⟨w.heap.size, 64, none⟩ 1 1 (bcells (hex4 u.toNat)) rfl (by rw [bcells_length, HH.out]; rfl) (tail_at ?_) (bcells_oneCell _) (by unfold maxLen; omega) (by omega) (by simp; omega) ?_)
 ·rw [HH.out]
  intro j hj
  obtain rfl : j = 0 := by simpa using hj
  rw [Array.getElem?_setIfInBounds_self_of_lt (by rw [zero65]; decide), hex36_at _ (by omega)]
  rfl
 intro v' w1 h2 h3 _
 have B1 : Below B w w1 := ((Below.refl B w).alloc hB _).grown h3 (by simp; omega) (fun k hk => (HO.out.lt k hk).1)
 have R : w1.ownsRow B 5 1 v' (l ++ hex4 u.toNat).length (bcells (l ++ hex4 u.toNat)) := by
  rw [bcells_append, List.length_append, show (hex4 u.toNat).length = 1 by rw [HH.out]; rfl]
  exact h2
 clear h2 h3
 go_wp2_with fail
 go_ret2
 exact ⟨_, rfl, R, B1⟩
theorem implFormat2 (u : Int) (B : Nat) (v : Value) (l : List UInt8) (w : World) (h0 : 16 ≤ u) (h1 : u < 256) (hT : Bruijn w) (hown : w.ownsRow B 5 1 v l.length (bcells l)) (hB : B ≤ w.heap.size) (hl : l.length ≤ 1000) :
  Calls Tryz.prog 172 #[v, .int .u64 u, .int .i64 16, .bool false, .bool true] w fun e w' => ∃ v', e = .returned (.tuple #[v', .string ⟨#[]⟩]) ∧ w'.ownsRow B 5 1 v' (l ++ hex4 u.toNat).length (bcells (l ++ hex4 u.toNat)) ∧ Below B w w' := by
 obtain ⟨q1, hq1⟩ : ∃ q1 : Int, u / 16 = q1 := ⟨_, rfl⟩
 obtain ⟨r0, hr0⟩ : ∃ r0 : Int, u % 16 = r0 := ⟨_, rfl⟩
 have HH : Hid (hex4 u.toNat = [hxU q1.toNat, hxU r0.toNat]) := by
  show _ = _
  unfold hex4
  rw [if_neg (by omega), if_pos (by omega), show u.toNat / 16 = q1.toNat by omega, show u.toNat % 16 = r0.toNat by omega]
 have c1 : 0 ≤ q1 := by omega
 have c2 : q1 < 16 := by omega
 have c3 : 0 ≤ r0 := by omega
 have c4 : r0 < 16 := by omega
 have b0 : bits .and .u64 u 15 = r0 := by rw [u64_and15 _ (by omega) (by omega), hr0]
 clear hr0
 obtain ⟨i0, hi, hz0, hz1, hz2⟩ := info_parts Tryz.info5
 have HT : Hid (Bruijn w) := hT
 clear hT
 have HO : Hid (w.ownsRow B 5 1 v l.length (bcells l)) := hown
 clear hown
 go_enter Tryz.func172, Tryz.ntmps172
 go_wp2_with fail
 refine (implPow2 _).mono ?_
 rintro e w' ⟨rfl, rfl⟩
 go_wp2_with fail
 refine (implTz _ (bruijn_below HT.out ((Below.refl _ _).alloc (Nat.le_refl _) _))).mono ?_
 rintro e w' ⟨rfl, rfl⟩
 go_wp2_with fail
 refine wp_loop_rounds 2 ?_
 rw [rounds_succ]
 go_wp2_with fail
 rw [rounds_succ]
 go_wp2_with (at_builtin; refine wpList_append_own _ rfl _ _ 22 rfl B 5 i0 (.int .u8 0) 1 1 Tryz.underlying22 hi hz0 hz1 hz2 rfl (by decide) _ _ _ rfl (HO.out.alloc _) ⟨w.heap.size, 63, none⟩ 2 2 (bcells (hex4 u.toNat)) rfl (by rw [bcells_length, HH.out]; rfl) (tail_at ?_) (bcells_oneCell _) (by unfold maxLen; omega) (by omega) (by simp; omega) ?_)
 ·rw [HH.out, hex36_at r0.toNat (by omega), hex36_at q1.toNat (by omega)]
  intro j hj
  have h3 : j = 0 ∨ j = 1 := by simp at hj; omega
  rcases h3 with rfl | rfl <;> simp [Array.getElem?_setIfInBounds, zero65]
 intro v' w1 h2 h3 _
 have B1 : Below B w w1 := ((Below.refl B w).alloc hB _).grown h3 (by simp; omega) (fun k hk => (HO.out.lt k hk).1)
 have R : w1.ownsRow B 5 1 v' (l ++ hex4 u.toNat).length (bcells (l ++ hex4 u.toNat)) := by
  rw [bcells_append, List.length_append, show (hex4 u.toNat).length = 2 by rw [HH.out]; rfl]
  exact h2
 clear h2 h3
 go_wp2_with fail
 go_ret2
 exact ⟨_, rfl, R, B1⟩
theorem implFormat3 (u : Int) (B : Nat) (v : Value) (l : List UInt8) (w : World) (h0 : 256 ≤ u) (h1 : u < 4096) (hT : Bruijn w) (hown : w.ownsRow B 5 1 v l.length (bcells l)) (hB : B ≤ w.heap.size) (hl : l.length ≤ 1000) :
  Calls Tryz.prog 172 #[v, .int .u64 u, .int .i64 16, .bool false, .bool true] w fun e w' => ∃ v', e = .returned (.tuple #[v', .string ⟨#[]⟩]) ∧ w'.ownsRow B 5 1 v' (l ++ hex4 u.toNat).length (bcells (l ++ hex4 u.toNat)) ∧ Below B w w' := by
 obtain ⟨q1, hq1⟩ : ∃ q1 : Int, u / 16 = q1 := ⟨_, rfl⟩
 obtain ⟨r0, hr0⟩ : ∃ r0 : Int, u % 16 = r0 := ⟨_, rfl⟩
 obtain ⟨q2, hq2⟩ : ∃ q2 : Int, q1 / 16 = q2 := ⟨_, rfl⟩
 obtain ⟨r1, hr1⟩ : ∃ r1 : Int, q1 % 16 = r1 := ⟨_, rfl⟩
 have HH : Hid (hex4 u.toNat = [hxU q2.toNat, hxU r1.toNat, hxU r0.toNat]) := by
  show _ = _
  unfold hex4
  rw [if_neg (by omega), if_neg (by omega), if_pos (by omega), show u.toNat / 256 = q2.toNat by omega, show u.toNat / 16 % 16 = r1.toNat by omega, show u.toNat % 16 = r0.toNat by omega]
 have c1 : 16 ≤ q1 := by omega
 have c2 : q1 < 256 := by omega
 have c3 : 0 ≤ r0 := by omega
 have c4 : r0 < 16 := by omega
 have c5 : 0 ≤ q2 := by omega
 have c6 : q2 < 16 := by omega
 have c7 : 0 ≤ r1 := by omega
 have c8 : r1 < 16 := by omega
 have b0 : bits .and .u64 u 15 = r0 := by rw [u64_and15 _ (by omega) (by omega), hr0]
 have b1 : bits .and .u64 q1 15 = r1 := by rw [u64_and15 _ (by omega) (by omega), hr1]
 clear hr0 hr1
 obtain ⟨i0, hi, hz0, hz1, hz2⟩ := info_parts Tryz.info5
 have HT : Hid (Bruijn w) := hT
 clear hT
 have HO : Hid (w.ownsRow B 5 1 v l.length (bcells l)) := hown
 clear hown
 go_enter Tryz.func172, Tryz.ntmps172
 go_wp2_with fail
 refine (implPow2 _).mono ?_
 rintro e w' ⟨rfl, rfl⟩
 go_wp2_with fail
 refine (implTz _ (bruijn_below HT.out ((Below.refl _ _).alloc (Nat.le_refl _) _))).mono ?_
 rintro e w' ⟨rfl, rfl⟩
 go_wp2_with fail
 refine wp_loop_rounds 3 ?_
 rw [rounds_succ]
 go_wp2_with fail
 rw [rounds_succ]
 go_wp2_with fail
 rw [rounds_succ]
 go_wp2_with (at_builtin; refine wpList_append_own _ rfl _ _ 22 rfl B 5 i0 (.int .u8 0) 1 1 Tryz.underlying22 hi hz0 hz1 hz2 rfl (by decide) _ _ _ rfl (HO.out.alloc _) ⟨w.heap.size, 62, none⟩ 3 3 (bcells (hex4 u.toNat)) rfl (by rw [bcells_length, HH.out]; rfl) (tail_at ?_) (bcells_oneCell _) (by unfold maxLen; omega) (by omega) (by simp; omega) ?_)
 ·rw [HH.out, hex36_at r0.toNat (by omega), hex36_at r1.toNat (by omega), hex36_at q2.toNat (by omega)]
  intro j hj
  have h3 : j = 0 ∨ j = 1 ∨ j = 2 := by simp at hj; omega
  rcases h3 with rfl | rfl | rfl <;> simp [Array.getElem?_setIfInBounds, zero65]
 intro v' w1 h2 h3 _
 have B1 : Below B w w1 := ((Below.refl B w).alloc hB _).grown h3 (by simp; omega) (fun k hk => (HO.out.lt k hk).1)
 have R : w1.ownsRow B 5 1 v' (l ++ hex4 u.toNat).length (bcells (l ++ hex4 u.toNat)) := by
  rw [bcells_append, List.length_append, show (hex4 u.toNat).length = 3 by rw [HH.out]; rfl]
  exact h2
 clear h2 h3
 go_wp2_with fail
 go_ret2
 exact ⟨_, rfl, R, B1⟩
theorem implFormat4 (u : Int) (B : Nat) (v : Value) (l : List UInt8) (w : World) (h0 : 4096 ≤ u) (h1 : u < 65536) (hT : Bruijn w) (hown : w.ownsRow B 5 1 v l.length (bcells l)) (hB : B ≤ w.heap.size) (hl : l.length ≤ 1000) :
  Calls Tryz.prog 172 #[v, .int .u64 u, .int .i64 16, .bool false, .bool true] w fun e w' => ∃ v', e = .returned (.tuple #[v', .string ⟨#[]⟩]) ∧ w'.ownsRow B 5 1 v' (l ++ hex4 u.toNat).length (bcells (l ++ hex4 u.toNat)) ∧ Below B w w' := by
 obtain ⟨q1, hq1⟩ : ∃ q1 : Int, u / 16 = q1 := ⟨_, rfl⟩
 obtain ⟨r0, hr0⟩ : ∃ r0 : Int, u % 16 = r0 := ⟨_, rfl⟩
 obtain ⟨q2, hq2⟩ : ∃ q2 : Int, q1 / 16 = q2 := ⟨_, rfl⟩
 obtain ⟨r1, hr1⟩ : ∃ r1 : Int, q1 % 16 = r1 := ⟨_, rfl⟩
 obtain ⟨q3, hq3⟩ : ∃ q3 : Int, q2 / 16 = q3 := ⟨_, rfl⟩
 obtain ⟨r2, hr2⟩ : ∃ r2 : Int, q2 % 16 = r2 := ⟨_, rfl⟩
 have HH : Hid (hex4 u.toNat = [hxU q3.toNat, hxU r2.toNat, hxU r1.toNat, hxU r0.toNat]) := by
  show _ = _
  unfold hex4
  rw [if_neg (by omega), if_neg (by omega), if_neg (by omega), show u.toNat / 4096 = q3.toNat by omega, show u.toNat / 256 % 16 = r2.toNat by omega, show u.toNat / 16 % 16 = r1.toNat by omega, show u.toNat % 16 = r0.toNat by omega]
 have c1 : 256 ≤ q1 := by omega
 have c2 : q1 < 4096 := by omega
 have c3 : 0 ≤ r0 := by omega
 have c4 : r0 < 16 := by omega
 have c5 : 16 ≤ q2 := by omega
 have c6 : q2 < 256 := by omega
 have c7 : 0 ≤ r1 := by omega
 have c8 : r1 < 16 := by omega
 have d5 : 0 ≤ q3 := by omega
 have d6 : q3 < 16 := by omega
 have d7 : 0 ≤ r2 := by omega
 have d8 : r2 < 16 := by omega
 have b0 : bits .and .u64 u 15 = r0 := by rw [u64_and15 _ (by omega) (by omega), hr0]
 have b1 : bits .and .u64 q1 15 = r1 := by rw [u64_and15 _ (by omega) (by omega), hr1]
 have b2 : bits .and .u64 q2 15 = r2 := by rw [u64_and15 _ (by omega) (by omega), hr2]
 clear hr0 hr1 hr2
 obtain ⟨i0, hi, hz0, hz1, hz2⟩ := info_parts Tryz.info5
 have HT : Hid (Bruijn w) := hT
 clear hT
 have HO : Hid (w.ownsRow B 5 1 v l.length (bcells l)) := hown
 clear hown
 go_enter Tryz.func172, Tryz.ntmps172
 go_wp2_with fail
 refine (implPow2 _).mono ?_
 rintro e w' ⟨rfl, rfl⟩
 go_wp2_with fail
 refine (implTz _ (bruijn_below HT.out ((Below.refl _ _).alloc (Nat.le_refl _) _))).mono ?_
 rintro e w' ⟨rfl, rfl⟩
 go_wp2_with fail
 refine wp_loop_rounds 4 ?_
 rw [rounds_succ]
 go_wp2_with fail
 rw [rounds_succ]
 go_wp2_with fail
 rw [rounds_succ]
 go_wp2_with fail
 rw [rounds_succ]
 go_wp2_with (at_builtin; refine wpList_append_own _ rfl _ _ 22 rfl B 5 i0 (.int .u8 0) 1 1 Tryz.underlying22 hi hz0 hz1 hz2 rfl (by decide) _ _ _ rfl (HO.out.alloc _) ⟨w.heap.size, 61, none⟩ 4 4 (bcells (hex4 u.toNat)) rfl (by rw [bcells_length, HH.out]; rfl) (tail_at ?_) (bcells_oneCell _) (by unfold maxLen; omega) (by omega) (by simp; omega) ?_)
 ·rw [HH.out, hex36_at r0.toNat (by omega), hex36_at r1.toNat (by omega), hex36_at r2.toNat (by omega), hex36_at q3.toNat (by omega)]
  intro j hj
  have h3 : j = 0 ∨ j = 1 ∨ j = 2 ∨ j = 3 := by simp at hj; omega
  rcases h3 with rfl | rfl | rfl | rfl <;> simp [Array.getElem?_setIfInBounds, zero65]
 intro v' w1 h2 h3 _
 have B1 : Below B w w1 := ((Below.refl B w).alloc hB _).grown h3 (by simp; omega) (fun k hk => (HO.out.lt k hk).1)
 have R : w1.ownsRow B 5 1 v' (l ++ hex4 u.toNat).length (bcells (l ++ hex4 u.toNat)) := by
  rw [bcells_append, List.length_append, show (hex4 u.toNat).length = 4 by rw [HH.out]; rfl]
  exact h2
 clear h2 h3
 go_wp2_with fail
 go_ret2
 exact ⟨_, rfl, R, B1⟩
theorem implFormat (u : Int) (B : Nat) (v : Value) (l : List UInt8) (w : World) (h0 : 0 ≤ u) (h1 : u < 65536) (hT : Bruijn w) (hown : w.ownsRow B 5 1 v l.length (bcells l)) (hB : B ≤ w.heap.size) (hl : l.length ≤ 1000) :
  Calls Tryz.prog 172 #[v, .int .u64 u, .int .i64 16, .bool false, .bool true] w fun e w' => ∃ v', e = .returned (.tuple #[v', .string ⟨#[]⟩]) ∧ w'.ownsRow B 5 1 v' (l ++ hex4 u.toNat).length (bcells (l ++ hex4 u.toNat)) ∧ Below B w w' := by
 by_cases c1 : u < 16
 ·exact implFormat1 u B v l w h0 c1 hT hown hB hl
 by_cases c2 : u < 256
 ·exact implFormat2 u B v l w (by omega) c2 hT hown hB hl
 by_cases c3 : u < 4096
 ·exact implFormat3 u B v l w (by omega) c3 hT hown hB hl
 exact implFormat4 u B v l w (by omega) h1 hT hown hB hl
theorem implAppHex (u : Int) (B : Nat) (v : Value) (l : List UInt8) (w : World) (h0 : 0 ≤ u) (h1 : u < 65536) (hT : Bruijn w) (hown : w.ownsRow B 5 1 v l.length (bcells l)) (hB : B ≤ w.heap.size) (hl : l.length ≤ 1000) :
  Calls Tryz.prog 165 #[v, .int .i64 u, .int .i64 16] w fun e w' => ∃ v', e = .returned v' ∧ w'.ownsRow B 5 1 v' (l ++ hex4 u.toNat).length (bcells (l ++ hex4 u.toNat)) ∧ Below B w w' := by
 have CF : Hid (∀ W, W = w → Calls Tryz.prog 172 #[v, .int .u64 u, .int .i64 16, .bool false, .bool true] W fun e w' => ∃ v', e = .returned (.tuple #[v', .string ⟨#[]⟩]) ∧ w'.ownsRow B 5 1 v' (l ++ hex4 u.toNat).length (bcells (l ++ hex4 u.toNat)) ∧ Below B w w') := fun W h => by subst h; exact implFormat u B v l _ h0 h1 hT hown hB hl
 clear hT hown
 have CU : Calls Tryz.prog 230 #[v, .int .u64 u, .int .i64 16] w fun e w' => ∃ v', e = .returned v' ∧ w'.ownsRow B 5 1 v' (l ++ hex4 u.toNat).length (bcells (l ++ hex4 u.toNat)) ∧ Below B w w' := by
  go_enter Tryz.func230, Tryz.ntmps230
  go_wp2_with fail
  refine (CF.out _ rfl).mono ?_
  rintro e w' ⟨v', rfl, h2, h3⟩
  go_wp2_with fail
  go_ret
  exact ⟨_, rfl, h2, h3⟩
 have CU : Hid (Calls Tryz.prog 230 #[v, .int .u64 u, .int .i64 16] w fun e w' => ∃ v', e = .returned v' ∧ w'.ownsRow B 5 1 v' (l ++ hex4 u.toNat).length (bcells (l ++ hex4 u.toNat)) ∧ Below B w w') := CU
 clear CF
 have CI : Calls Tryz.prog 203 #[v, .int .i64 u, .int .i64 16] w fun e w' => ∃ v', e = .returned v' ∧ w'.ownsRow B 5 1 v' (l ++ hex4 u.toNat).length (bcells (l ++ hex4 u.toNat)) ∧ Below B w w' := by
  go_enter Tryz.func203, Tryz.ntmps203
  go_wp2_with fail
  refine CU.out.mono ?_
  rintro e w' ⟨v', rfl, h2, h3⟩
  go_wp2_with fail
  go_ret
  exact ⟨_, rfl, h2, h3⟩
 have CI : Hid (Calls Tryz.prog 203 #[v, .int .i64 u, .int .i64 16] w fun e w' => ∃ v', e = .returned v' ∧ w'.ownsRow B 5 1 v' (l ++ hex4 u.toNat).length (bcells (l ++ hex4 u.toNat)) ∧ Below B w w') := CI
 clear CU
 go_enter Tryz.func165, Tryz.ntmps165
 go_wp2_with fail
 refine CI.out.mono ?_
 rintro e w' ⟨v', rfl, h2, h3⟩
 go_wp2_with fail
 go_ret
 exact ⟨_, rfl, h2, h3⟩
end Go.Proofs.YtgmfkgeepecknaaGreatDoor
namespace Go.Proofs.YtgmfkgeepecknaaGreatDoor
open Go.ChangeShapes Go.WideShapes Go.ChangeAt Go.RowKit Go.Lib
def bruTab : List Int := [0, 1, 56, 2, 57, 49, 28, 3, 61, 58, 42, 50, 38, 29, 17, 4, 62, 47, 59, 36, 45, 43, 51, 22, 53, 39, 33, 30, 24, 18, 12, 5, 63, 55, 48, 27, 60, 41, 37, 16, 46, 35, 44, 21, 52, 32, 23, 11, 54, 26, 40, 15, 34, 20, 31, 10, 25, 14, 19, 9, 13, 8, 7, 6]
theorem bru_data : (Rows.laid_math_bits_deBruijn64tab : DataW Unit) = Lib.tabData .u8 bruTab := by kernel_rfl
def hostHeap (h : Array Obj) : Array Obj := laidHeap (powHeap h)
end Go.Proofs.YtgmfkgeepecknaaGreatDoor
namespace Go.Proofs.YtgmfkgeepecknaaGreatDoor
open Go.RowKit
def Marks (w : World) : Prop := ∀ c : Nat, c < 128 → w.cell? ⟨1, c, none⟩ = some (.bool (plainT c)) ∧ w.cell? ⟨4, c, none⟩ = some (.bool (markN c))
theorem Marks.later {w w' : World} (h : Marks w) (hb : Below w.heap.size w w') : Marks w' := fun c hc =>
 ⟨(World.cell?_of_block (w := w) (a := ⟨1, c, none⟩) (hb.block _ (World.block_lt_of_cell? w _ (h c hc).1))).trans (h c hc).1,
  (World.cell?_of_block (w := w) (a := ⟨4, c, none⟩) (hb.block _ (World.block_lt_of_cell? w _ (h c hc).2))).trans (h c hc).2⟩
theorem implIsLetter (c : Nat) (w : World) (hc : (c : Int) ≤ 255) :
  Calls Tryz.prog 191 #[.int .u8 (c : Int)] w fun e w' => e = .returned (.bool (letterN c)) ∧ w = w' := by
 by_cases h1 : 97 ≤ (c : Int)
 ·by_cases h2 : (c : Int) ≤ 122
  ·have HV : Hid (letterN c = true) := by show _ = _; unfold letterN; simp; omega
   go_enter Tryz.func191, Tryz.ntmps191
   go_wp2
   go_ret
   exact ⟨ret_bool (by rw [HV.out] <;> first | rfl | (simp <;> omega)), rfl⟩
  have HV : Hid (letterN c = false) := by show _ = _; unfold letterN; simp; omega
  have h3 : 65 ≤ (c : Int) := by omega
  have h4 : ¬ (c : Int) ≤ 90 := by omega
  go_enter Tryz.func191, Tryz.ntmps191
  go_wp2
  go_ret
  exact ⟨ret_bool (by rw [HV.out] <;> first | rfl | (simp <;> omega)), rfl⟩
 by_cases h3 : 65 ≤ (c : Int)
 ·by_cases h4 : (c : Int) ≤ 90
  ·have HV : Hid (letterN c = true) := by show _ = _; unfold letterN; simp; omega
   go_enter Tryz.func191, Tryz.ntmps191
   go_wp2
   go_ret
   exact ⟨ret_bool (by rw [HV.out] <;> first | rfl | (simp <;> omega)), rfl⟩
  have HV : Hid (letterN c = false) := by show _ = _; unfold letterN; simp; omega
  go_enter Tryz.func191, Tryz.ntmps191
  go_wp2
  go_ret
  exact ⟨ret_bool (by rw [HV.out] <;> first | rfl | (simp <;> omega)), rfl⟩
 have HV : Hid (letterN c = false) := by show _ = _; unfold letterN; simp; omega
 go_enter Tryz.func191, Tryz.ntmps191
 go_wp2
 go_ret
 exact ⟨ret_bool (by rw [HV.out] <;> first | rfl | (simp <;> omega)), rfl⟩
theorem digit_eq (c : Nat) : decide (48 ≤ (c : Int) ∧ (c : Int) ≤ 57) = digitN c := by
 unfold digitN
 exact decide_eq_decide.2 (by omega)
theorem implIsPlain (c : Nat) (w : World) (hM : Marks w) (hc : (c : Int) ≤ 255) :
  Calls Tryz.prog 138 #[.int .u8 (c : Int)] w fun e w' => e = .returned (.bool (freeN c)) ∧ w = w' := by
 have hc0 : 0 ≤ (c : Int) := by omega
 cases hl : letterN c with
 | true =>
  have HL : Hid (letterN c = true) := hl
  have HV : Hid (freeN c = true) := by show _ = _; unfold freeN; rw [hl]; rfl
  clear hl hM
  go_enter Tryz.func138, Tryz.ntmps138
  go_wp2_with fail
  refine (implIsLetter c _ hc).mono ?_
  rintro e w' ⟨rfl, rfl⟩
  rw [HL.out]
  go_wp2
  go_ret
  exact ⟨ret_bool (by rw [HV.out]), rfl⟩
 | false =>
  have HL : Hid (letterN c = false) := hl
  cases hg : digitN c with
  | true =>
   have HG : Hid (digitN c = true) := hg
   have HV : Hid (freeN c = true) := by show _ = _; unfold freeN; rw [hl, hg]; rfl
   clear hl hg hM
   go_enter Tryz.func138, Tryz.ntmps138
   go_wp2_with fail
   refine (implIsLetter c _ hc).mono ?_
   rintro e w' ⟨rfl, rfl⟩
   rw [HL.out]
   go_wp2_with fail
   refine (implIsDigit c _ (by omega)).mono ?_
   rintro e w' ⟨rfl, rfl⟩
   rw [digit_eq, HG.out]
   go_wp2
   go_ret
   exact ⟨ret_bool (by rw [HV.out]), rfl⟩
  | false =>
   have HG : Hid (digitN c = false) := hg
   by_cases h128 : (c : Int) < 128
   ·have hcell := (hM c (by omega)).1
    have HV : Hid (freeN c = plainT c) := by show _ = _; unfold freeN; rw [hl, hg]; rfl
    generalize plainT c = b at hcell HV
    clear hl hg hM
    go_enter Tryz.func138, Tryz.ntmps138
    go_wp2_with fail
    refine (implIsLetter c _ hc).mono ?_
    rintro e w' ⟨rfl, rfl⟩
    rw [HL.out]
    go_wp2_with fail
    refine (implIsDigit c _ (by omega)).mono ?_
    rintro e w' ⟨rfl, rfl⟩
    rw [digit_eq, HG.out]
    go_wp2
    go_ret
    exact ⟨ret_bool (by rw [HV.out]), rfl⟩
   have HV : Hid (freeN c = false) := by
    show _ = _
    cases hx : freeN c with
    | false => rfl
    | true => have := free_lt hx; omega
   have h129 : 128 ≤ (c : Int) := by omega
   clear hl hg hM h128
   go_enter Tryz.func138, Tryz.ntmps138
   go_wp2_with fail
   refine (implIsLetter c _ hc).mono ?_
   rintro e w' ⟨rfl, rfl⟩
   rw [HL.out]
   go_wp2_with fail
   refine (implIsDigit c _ (by omega)).mono ?_
   rintro e w' ⟨rfl, rfl⟩
   rw [digit_eq, HG.out]
   go_wp2
   go_ret
   exact ⟨ret_bool (by rw [HV.out]), rfl⟩
theorem keepZ_out {set : Int} (c : Int) (h : ¬ (1 ≤ set ∧ set ≤ 3)) : keepZ set c = false := by
 unfold keepZ
 rw [keep_out h]
 simp
theorem keepZ_neg (set : Int) {c : Int} (h : c < 0) : keepZ set c = false := by
 unfold keepZ
 rw [decide_eq_false (by omega)]
 rfl
theorem keepZ_big (set : Int) {c : Int} (h : 128 ≤ c) : keepZ set c = false := by
 unfold keepZ
 cases hx : keepN set c.toNat with
 | false => simp
 | true => have := keep_lt hx; omega
theorem keepZ_nat (set : Int) (n : Nat) : keepZ set (n : Int) = keepN set n := by simp [keepZ]
theorem keepN_slash {set : Int} (h : 1 ≤ set ∧ set ≤ 3) : keepN set 47 = decide (set ≠ 3) := by simp [keepN, h, freeN, letterN, digitN, plainT, markN]
theorem keepN_quest {set : Int} (h : 1 ≤ set ∧ set ≤ 3) : keepN set 63 = decide (set = 2) := by simp [keepN, h, freeN, letterN, digitN, plainT, markN]
theorem keepN_else {set : Int} {n : Nat} (h : 1 ≤ set ∧ set ≤ 3) (h1 : n ≠ 47) (h2 : n ≠ 63) : keepN set n = (markN n || freeN n) := by
 simp [keepN, h, h1, h2, Bool.or_comm]
theorem implKeeps (set c : Int) (w : World) (hM : Marks w) :
  Calls Tryz.prog 190 #[.int .i64 set, .int .i64 c] w fun e w' => e = .returned (.bool (keepZ set c)) ∧ w = w' := by
 by_cases h1 : set < 1
 ·have HV : Hid (keepZ set c = false) := keepZ_out c (by omega)
  clear hM
  go_enter Tryz.func190, Tryz.ntmps190
  go_wp2
  go_ret
  exact ⟨ret_bool (by rw [HV.out]), rfl⟩
 by_cases h3 : 3 < set
 ·have HV : Hid (keepZ set c = false) := keepZ_out c (by omega)
  clear hM
  go_enter Tryz.func190, Tryz.ntmps190
  go_wp2
  go_ret
  exact ⟨ret_bool (by rw [HV.out]), rfl⟩
 by_cases hc0 : c < 0
 ·have HV : Hid (keepZ set c = false) := keepZ_neg set hc0
  clear hM
  go_enter Tryz.func190, Tryz.ntmps190
  go_wp2
  go_ret
  exact ⟨ret_bool (by rw [HV.out]), rfl⟩
 by_cases hc1 : 128 ≤ c
 ·have HV : Hid (keepZ set c = false) := keepZ_big set hc1
  clear hM
  go_enter Tryz.func190, Tryz.ntmps190
  go_wp2
  go_ret
  exact ⟨ret_bool (by rw [HV.out]), rfl⟩
 have hv : 1 ≤ set ∧ set ≤ 3 := by omega
 obtain ⟨n, rfl⟩ := Int.eq_ofNat_of_zero_le (show 0 ≤ c by omega)
 rw [keepZ_nat]
 have hc2 : (n : Int) < 128 := by omega
 have hc3 : 0 ≤ (n : Int) := by omega
 clear hc0 hc1
 by_cases hs : n = 47
 ·subst hs
  have HV : Hid (keepN set 47 = decide (set ≠ 3)) := keepN_slash hv
  clear hM
  by_cases he : set = 3
  ·go_enter Tryz.func190, Tryz.ntmps190
   go_wp2
   go_ret
   exact ⟨ret_bool (by first | (rw [HV.out]; simp [he]) | decide), rfl⟩
  go_enter Tryz.func190, Tryz.ntmps190
  go_wp2
  go_ret
  exact ⟨ret_bool (by first | (rw [HV.out]; simp [he]) | decide), rfl⟩
 by_cases hq : n = 63
 ·subst hq
  have HV : Hid (keepN set 63 = decide (set = 2)) := keepN_quest hv
  clear hM
  by_cases he : set = 2
  ·go_enter Tryz.func190, Tryz.ntmps190
   go_wp2
   go_ret
   exact ⟨ret_bool (by first | (rw [HV.out]; simp [he]) | decide), rfl⟩
  go_enter Tryz.func190, Tryz.ntmps190
  go_wp2
  go_ret
  exact ⟨ret_bool (by first | (rw [HV.out]; simp [he]) | decide), rfl⟩
 have HV : Hid (keepN set n = (markN n || freeN n)) := keepN_else hv hs hq
 have hs' : ¬ (n : Int) = 47 := by omega
 have hq' : ¬ (n : Int) = 63 := by omega
 have hcell := (hM n (by omega)).2
 have HM : Hid (Marks w) := hM
 clear hM hs hq hv
 generalize markN n = b at hcell HV
 cases b with
 | true =>
  go_enter Tryz.func190, Tryz.ntmps190
  go_wp2
  go_ret
  exact ⟨ret_bool (by rw [HV.out]; rfl), rfl⟩
 | false =>
  go_enter Tryz.func190, Tryz.ntmps190
  go_wp2_with fail
  refine (implIsPlain n _ HM.out (by omega)).mono ?_
  rintro e w' ⟨rfl, rfl⟩
  go_wp2
  go_ret
  exact ⟨ret_bool (by rw [HV.out]; rfl), rfl⟩
end Go.Proofs.YtgmfkgeepecknaaGreatDoor
namespace Go.Proofs.YtgmfkgeepecknaaGreatDoor
open Go.ChangeShapes Go.WideShapes Go.ChangeAt Go.RowKit Go.Lib
theorem ownMarks : ownKnob Tryz.prog.godebug = none := by kernel_rfl
theorem laidOutMarks : laidOutB Tryz.prog = true := by kernel_rfl
def boolsData (f : Nat → Bool) : DataW Unit := .agg ((List.range 128).map fun i => .lit (.bool (f i)))
theorem plain_data : (Rows.laid_loop_example_g00191_impl_plainMarks : DataW Unit) = boolsData plainT := by kernel_rfl
theorem kept_data : (Rows.laid_loop_example_g00191_impl_keptMarks : DataW Unit) = boolsData markN := by kernel_rfl
theorem bools_of_reads {P : Program} {w : World} {name : String} {g : Nat} {t e : TypeId} {f : Nat → Bool} (hn : P.globalNamed name = some g) (hy : (P.globals[g]?).map (·.type) = some t) (ht : P.underlying t = some (.array 128 e)) (he : P.underlying e = some .bool) (hce : P.cellsOf e = 1)
  (h : VarReads P w name (boolsData f)) : ∀ c, c < 128 → w.cell? ⟨g, c, none⟩ = some (.bool (f c)) := by
 intro c hc
 obtain ⟨g', t', cs, fuel, p, hg, hty, hvar, hd⟩ := h
 obtain rfl := Option.some.inj (hn.symm.trans hg)
 obtain rfl := Option.some.inj (hy.symm.trans hty)
 unfold boolsData at hd
 obtain ⟨fuel', d, q, hdi, hx⟩ := array_elem ht hd c hc
 simp only [List.getElem?_map, List.getElem?_range hc, Option.map_some, Option.some.injEq] at hdi
 subst hdi
 rw [hce] at hx
 obtain ⟨b, hb, hxx⟩ := DataW.trod_bool he hx
 have hfb : f c = b := by simpa using congrArg Prod.fst hxx
 have e0 := congrArg (·[0]?) hb
 simp only [List.getElem?_take, List.getElem?_drop] at e0
 rw [World.var?_cell hg hvar c, ← Array.getElem?_toList, hfb]
 simpa using e0
theorem vars_two {H : Type} {enc : TypeId × Value → H} {P : Program} {w : World} {sp : Nat → Bool} {n0 n1 : String} {gs : List (DataW H)} {ps : List MemPlace} (h : DataW.TrodVars enc P w sp [n0, n1] gs ps) : ∃ g0 g1, gs = [g0, g1] := by
 match gs, h with
 | [], h => exact h.elim
 | [_], ⟨_, _, _, _, _, _, _, _, _, _, h, _⟩ => exact h.elim
 | [a, b], _ => exact ⟨a, b, rfl⟩
 | _ :: _ :: _ :: _, ⟨_, _, _, _, _, _, _, _, _, _, h, _⟩ =>
  obtain ⟨_, _, _, _, _, _, _, _, _, _, h2, _⟩ := h
  exact h2.elim
def putBools (f : Nat → Bool) : Obj → Obj
 | .cells _ t frozen => .cells ((List.range 128).map fun i => Value.bool (f i)).toArray t frozen
 | o => o
def marksHeap (h : Array Obj) : Array Obj := (h.modify 1 (putBools plainT)).modify 4 (putBools markN)
def laidUrl : List (String × DataW Unit) := [("math/bits.deBruijn32tab", Rows.laid_math_bits_deBruijn32tab), ("math/bits.deBruijn64tab", Rows.laid_math_bits_deBruijn64tab), ("internal/strconv.uint64pow10", Rows.laid_internal_strconv_uint64pow10), ("unicode/utf8.acceptRanges", Rows.laid_unicode_utf8_acceptRanges), ("errors.errorType", Rows.laid_errors_errorType), ("loop.example/g00191/impl.plainMarks", Rows.laid_loop_example_g00191_impl_plainMarks), ("loop.example/g00191/impl.keptMarks", Rows.laid_loop_example_g00191_impl_keptMarks), ("unicode/utf8.first", Rows.laid_unicode_utf8_first)]
def laidUrlD : List (String × DataW Unit) := [("math/bits.deBruijn32tab", Rows.laid_math_bits_deBruijn32tab), ("math/bits.deBruijn64tab", Rows.laid_math_bits_deBruijn64tab), ("internal/strconv.uint64pow10", Rows.laid_internal_strconv_uint64pow10), ("unicode/utf8.acceptRanges", Rows.laid_unicode_utf8_acceptRanges), ("loop.example/g00191/impl.plainMarks", Rows.laid_loop_example_g00191_impl_plainMarks), ("loop.example/g00191/impl.keptMarks", Rows.laid_loop_example_g00191_impl_keptMarks), ("unicode/utf8.first", Rows.laid_unicode_utf8_first)]
theorem url_parts {W : World} (h : laidMetH Tryz.prog laidUrl W) : laidMet Tryz.prog laidUrlD W ∧ handlesMet Tryz.prog [("errors.errorType", Rows.laid_errors_errorType)] W := h
theorem url_pow {W : World} (h : laidMetH Tryz.prog laidUrl W) : Pow W := by
 have hL := (url_parts h).1
 unfold laidUrlD at hL
 rw [pow_data] at hL
 obtain ⟨g', t', cs, fuel, p, hg, hty, hvar, hd⟩ := Lib.laidMet.reads hL (.tail _ (.tail _ (.head _)))
 obtain rfl := Option.some.inj ((show Tryz.prog.globalNamed "internal/strconv.uint64pow10" = some 2 by kernel_rfl).symm.trans hg)
 obtain rfl := Option.some.inj ((show (Tryz.prog.globals[2]?).map (·.type) = some 198 by kernel_rfl).symm.trans hty)
 show Lib.TabIs _ _ _ _ _
 unfold Lib.TabIs
 rw [hvar, ← Lib.cells_of_tab (P := Tryz.prog) (t := 198) (e := 168) (n := 20) (k := .u64) (by kernel_rfl) (by kernel_rfl) (by kernel_rfl) (by kernel_rfl) hd]
theorem url_bru {W : World} (h : laidMetH Tryz.prog laidUrl W) : Bruijn W := by
 have hL := (url_parts h).1
 unfold laidUrlD at hL
 rw [bru_data] at hL
 obtain ⟨g', t', cs, fuel, p, hg, hty, hvar, hd⟩ := Lib.laidMet.reads hL (.tail _ (.head _))
 have hgg : Tryz.prog.globalNamed "math/bits.deBruijn64tab" = some 6 := by kernel_rfl
 obtain rfl := Option.some.inj (hgg.symm.trans hg)
 obtain rfl := Option.some.inj ((show (Tryz.prog.globals[6]?).map (·.type) = some 218 by kernel_rfl).symm.trans hty)
 have hT : Lib.TabIs Tryz.prog W "math/bits.deBruijn64tab" .u8 bruTab := by
  unfold Lib.TabIs
  rw [hvar, ← Lib.cells_of_tab (P := Tryz.prog) (t := 218) (e := 5) (n := 64) (k := .u8) (by kernel_rfl) (by kernel_rfl) (by kernel_rfl) (by kernel_rfl) hd]
 exact hT.cell hgg 15 (by decide)
theorem url_tabs {W : World} (h : laidMetH Tryz.prog laidUrl W) : Lib.Utf8Tabs 7 8 W := by
 have hL := (url_parts h).1
 unfold laidUrlD at hL
 rw [acc_eq, first_eq] at hL
 exact utf8Tabs_of_readsT (U8Types.of196 Tryz.lays196) ⟨by kernel_rfl, by kernel_rfl, by kernel_rfl, by kernel_rfl, by kernel_rfl, by kernel_rfl, by kernel_rfl⟩ (Lib.laidMet.reads hL (.tail _ (.tail _ (.tail _ (.tail _ (.tail _ (.tail _ (.head _)))))))) (Lib.laidMet.reads hL (.tail _ (.tail _ (.tail _ (.head _)))))
theorem url_marks {W : World} (h : laidMetH Tryz.prog laidUrl W) : Marks W := by
 have hL := (url_parts h).1
 unfold laidUrlD at hL
 rw [plain_data, kept_data] at hL
 have h1 := bools_of_reads (P := Tryz.prog) (g := 1) (t := 186) (e := 4) (by kernel_rfl) (by kernel_rfl) (by kernel_rfl) (by kernel_rfl) (by kernel_rfl) (Lib.laidMet.reads hL (.tail _ (.tail _ (.tail _ (.tail _ (.head _))))))
 have h2 := bools_of_reads (P := Tryz.prog) (g := 4) (t := 186) (e := 4) (by kernel_rfl) (by kernel_rfl) (by kernel_rfl) (by kernel_rfl) (by kernel_rfl) (Lib.laidMet.reads hL (.tail _ (.tail _ (.tail _ (.tail _ (.tail _ (.head _)))))))
 exact fun c hc => ⟨h1 c hc, h2 c hc⟩
def ErrT (W : World) : Prop := W.cell? ⟨0, 0, none⟩ = some (.iface 144 (.agg #[.pointer (some ⟨9, 58, none⟩)]))
theorem rtypeRow : (Tryz.prog.cutTypes.find? (·.1 == "internal/reflectlite.rtype")).map (·.2) = some 144 := by kernel_rfl
theorem errorRow : ((List.range 267).filter fun t => Tryz.prog.rowNamed t [101, 114, 114, 111, 114]) = [58] := by kernel_rfl
theorem typesSize : Tryz.prog.types.size = 267 := by kernel_rfl
theorem url_errt {W : World} (h : laidMetH Tryz.prog laidUrl W) : ErrT W := by
 obtain ⟨name, u, ty, e1, e2, e3, e4, e5⟩ := (url_parts h).2 _ (List.mem_singleton.2 rfl)
 have en : name = [101, 114, 114, 111, 114] := (Option.some.inj e1).symm
 subst en
 obtain rfl := Option.some.inj (rtypeRow.symm.trans e2)
 have hm : ty ∈ (List.range 267).filter fun t => Tryz.prog.rowNamed t [101, 114, 114, 111, 114] := List.mem_filter.2 ⟨List.mem_range.2 (by rw [← typesSize]; exact e3), e4⟩
 rw [errorRow] at hm
 obtain rfl := List.mem_singleton.1 hm
 have hh : typeHandle Tryz.prog 58 = .pointer (some ⟨9, 58, none⟩) := by kernel_rfl
 rw [hh] at e5
 have hg : Tryz.prog.globalNamed "errors.errorType" = some 0 := by kernel_rfl
 have h0 := World.var?_cell hg e5 0
 unfold ErrT
 simpa using h0
def urlHeap (h : Array Obj) : Array Obj := (marksHeap (hostHeap h)).modify 0 fun
 | .cells _ t frozen => .cells #[.iface 144 (.agg #[.pointer (some ⟨9, 58, none⟩)])] t frozen
 | o => o
theorem url_met (os : Os) (args : Array Value) : laidMetH Tryz.prog laidUrl (({ World.holding Tryz.prog os ⟨#[], #[], []⟩ with heap := urlHeap (World.holding Tryz.prog os ⟨#[], #[], []⟩).heap } : World).forCall (fun _ _ => 0) ⟨#[], args, []⟩).memory :=
 laidMetH_of_parts (LaidIn.of_run (l := laidUrlD) [5, 6, 2, 8, 1, 4, 7] 8 (by kernel_rfl) (by kernel_rfl) (by kernel_rfl) (by kernel_rfl)).met (by kernel_rfl)
end Go.Proofs.YtgmfkgeepecknaaGreatDoor
namespace Go.Proofs.YtgmfkgeepecknaaGreatDoor
open Go.RowKit
def asciiB (l : List UInt8) : Bool := l.all fun c => decide (c.toNat < 128)
theorem asciiB_yes (s : ByteArray) (h : ∀ j, (hj : j < s.size) → s[j].toNat < 128) : asciiB s.data.toList = true := by
 unfold asciiB
 rw [List.all_eq_true]
 intro c hc
 obtain ⟨j, hj, rfl⟩ := List.getElem_of_mem hc
 exact decide_eq_true (h j (by simpa using hj))
theorem asciiB_no (s : ByteArray) (k : Nat) (hk : k < s.size) (h : 128 ≤ s[k].toNat) : asciiB s.data.toList = false := by
 unfold asciiB
 rw [List.all_eq_false]
 refine ⟨s[k], ?_, by simpa using h⟩
 exact List.mem_iff_getElem.2 ⟨k, by simpa using hk, rfl⟩
theorem specAscii (s : ByteArray) (w : World) (hs : s.size ≤ maxLen) :
  Calls Tryz.prog 160 #[.string s] w fun e w' => e = .returned (.bool (asciiB s.data.toList)) ∧ w = w' := by
 unfold maxLen at hs
 go_enter Tryz.func160, Tryz.ntmps160
 go_wp2
 go_loop [3] (fun i => ∃ k : Nat, k ≤ s.size ∧ i = .int .i64 k ∧ ∀ j, (hj : j < s.size) → j < k → s[j].toNat < 128) (fun i => s.size - (intOf i).toNat)
 case atStart => exact ⟨0, Nat.zero_le _, rfl, fun j _ h => by omega⟩
 obtain ⟨k, hk, rfl, hall⟩ := hrel
 have HA : Hid (∀ j, (hj : j < s.size) → j < k → s[j].toNat < 128) := hall
 clear hall
 by_cases hlt : k < s.size
 ·by_cases hb : s[k].toNat < 128
  ·have hb' : (s[k].toNat : Int) ≤ 127 := by omega
   go_wp2
   go_round
   case rel =>
    refine ⟨k + 1, by omega, by go_num, fun j hj h => ?_⟩
    by_cases e : j = k
    ·subst e; omega
    exact HA.out j hj (by omega)
   case measure => simp [intOf]; omega
  have hb' : 127 < (s[k].toNat : Int) := by omega
  go_wp2
  go_ret
  exact ⟨ret_bool (asciiB_no s k hlt (by omega)).symm, rfl⟩
 go_wp2
 go_ret
 exact ⟨ret_bool (asciiB_yes s fun j hj => HA.out j hj (by omega)).symm, rfl⟩
theorem implAscii (s : ByteArray) (w : World) (hs : s.size ≤ maxLen) :
  Calls Tryz.prog 259 #[.string s] w fun e w' => e = .returned (.bool (asciiB s.data.toList)) ∧ w = w' := by
 unfold maxLen at hs
 go_enter Tryz.func259, Tryz.ntmps259
 go_wp2
 go_loop [6] (fun i => ∃ k : Nat, k ≤ s.size ∧ i = .int .i64 k ∧ ∀ j, (hj : j < s.size) → j < k → s[j].toNat < 128) (fun i => s.size - (intOf i).toNat)
 case atStart => exact ⟨0, Nat.zero_le _, rfl, fun j _ h => by omega⟩
 obtain ⟨k, hk, rfl, hall⟩ := hrel
 have HA : Hid (∀ j, (hj : j < s.size) → j < k → s[j].toNat < 128) := hall
 clear hall
 by_cases hlt : k < s.size
 ·by_cases hb : s[k].toNat < 128
  ·have hb' : ¬ 128 ≤ (s[k].toNat : Int) := by omega
   clear hb
   go_wp2
   go_round
   case rel =>
    refine ⟨k + 1, by omega, by go_num, fun j hj h => ?_⟩
    by_cases e : j = k
    ·subst e; omega
    exact HA.out j hj (by omega)
   case measure => simp [intOf]; omega
  have hb' : 128 ≤ (s[k].toNat : Int) := by omega
  go_wp2
  go_ret
  exact ⟨ret_bool (asciiB_no s k hlt (by omega)).symm, rfl⟩
 go_wp2
 go_ret
 exact ⟨ret_bool (asciiB_yes s fun j hj => HA.out j hj (by omega)).symm, rfl⟩
end Go.Proofs.YtgmfkgeepecknaaGreatDoor
