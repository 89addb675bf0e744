/- Contracts of spec.Crc and impl.Crc; of spec.l16Four and impl.crcBytes. -/
import Derived.Test.YtfigkoapebdlfaaRows
import Derived.Test.YtfigkoapebdlfaaBytRow
import Derived.Test.YtfigkoapebdlfaaBits
import Derived.Test.YtfigkoapebdlfaaAppAt
namespace Go.Proofs.Ytfigkoapebdlfaa
open Go.RowKit
set_option linter.unusedVariables false

theorem u32_wrap_small (n : Int) (h0 : 0 ≤ n) (h1 : n < 4294967296) : IntKind.u32.wrap n = n := by
  simp [IntKind.wrap, IntKind.bits, IntKind.signed]; omega

theorem u32_bits {a : Nat} (ha : a < 4294967296) : (BitVec.ofInt 32 (a : Int)).toNat = a := by
  rw [BitVec.ofInt_natCast, BitVec.toNat_ofNat]; exact Nat.mod_eq_of_lt (by omega)

theorem i64_bits {a : Nat} (ha : a < 9223372036854775808) : (BitVec.ofInt 64 (a : Int)).toNat = a := by
  rw [BitVec.ofInt_natCast, BitVec.toNat_ofNat]; exact Nat.mod_eq_of_lt (by omega)

theorem u32_xor_nat (a b : Nat) (ha : a < 4294967296) (hb : b < 4294967296) : bits .xor .u32 (a : Int) (b : Int) = ((a ^^^ b : Nat) : Int) := by
  have hx : a ^^^ b < 2 ^ 32 := Nat.xor_lt_two_pow (by omega) (by omega)
  show IntKind.u32.wrap ((BitVec.ofInt 32 (a : Int) ^^^ BitVec.ofInt 32 (b : Int)).toNat : Int) = _
  rw [BitVec.toNat_xor, u32_bits ha, u32_bits hb, u32_wrap_small _ (by omega) (by omega)]

theorem i64_xor_nat (a b : Nat) (ha : a < 9223372036854775808) (hb : b < 9223372036854775808) : bits .xor .i64 (a : Int) (b : Int) = ((a ^^^ b : Nat) : Int) := by
  have hx : a ^^^ b < 2 ^ 63 := Nat.xor_lt_two_pow (by omega) (by omega)
  show IntKind.i64.wrap ((BitVec.ofInt 64 (a : Int) ^^^ BitVec.ofInt 64 (b : Int)).toNat : Int) = _
  rw [BitVec.toNat_xor, i64_bits ha, i64_bits hb, i64_wrap_small _ (by omega) (by omega)]

theorem u32_and1 (a : Nat) (ha : a < 4294967296) : bits .and .u32 (a : Int) 1 = ((a % 2 : Nat) : Int) := by
  show IntKind.u32.wrap ((BitVec.ofInt 32 (a : Int) &&& BitVec.ofInt 32 ((1 : Nat) : Int)).toNat : Int) = _
  rw [BitVec.toNat_and, u32_bits ha, u32_bits (by omega), Nat.and_one_is_mod, u32_wrap_small _ (by omega) (by omega)]

theorem i64_and1 (a : Nat) (ha : a < 9223372036854775808) : bits .and .i64 (a : Int) 1 = ((a % 2 : Nat) : Int) := by
  rw [show (1 : Int) = ((1 : Nat) : Int) from rfl, i64_and_nat a 1 ha (by omega), Nat.and_one_is_mod]

theorem u32_not (x : Nat) (hx : x < 4294967296) : bits .xor .u32 IntKind.u32.max (x : Int) = ((4294967295 - x : Nat) : Int) := by
  have h := u32_xor_nat x 4294967295 hx (by omega)
  rw [crc_turn x hx] at h
  have c := u32_xor_nat 4294967295 x (by omega) hx
  rw [Nat.xor_comm, crc_turn x hx] at c
  exact c

theorem w64_in (n : Int) (h : -9223372036854775808 ≤ n ∧ n ≤ 9223372036854775807) : wrap64 n = n := by
  unfold wrap64; omega

theorem crcBit_odd {x : Nat} (h : x % 2 = 1) : crcBit x = (x / 2) ^^^ 3988292384 := if_pos h
theorem crcBit_even {x : Nat} (h : x % 2 = 0) : crcBit x = x / 2 := if_neg (by omega)

theorem crc_step (l : List UInt8) (k : Nat) (h : k < l.length) (x : Nat) : crcF x (l.take (k + 1)) = crcBits 8 (crcF x (l.take k) ^^^ (l.getD k 0).toNat) := by
  rw [List.take_succ_eq_append_getElem h, crcF_snoc]
  simp [crcByte, List.getD, h]

set_option maxRecDepth 100000 in
set_option maxHeartbeats 2000000 in
theorem specCrc (v : Value) (l : List UInt8) (w : World) (hin : BRow w v l) (hn : l.length ≤ 1099511627776) :
    Calls Try.prog 49 #[v] w fun e w' => e = .returned (.int .i64 (crcL l : Int)) ∧ w = w' := by
  rcases hin with ⟨rfl, ao, cap, rfl⟩ | ⟨h0, b, off, cap, rfl, hb, hc⟩
  · go_enter Try.func49, Try.ntmps49
    go_wp2
    refine wp_loop_rounds 1 ?_
    rw [rounds_succ]
    go_wp2
    go_ret
    exact ⟨ret_int (by rw [show (4294967295 : Int) = ((4294967295 : Nat) : Int) from rfl, i64_xor_nat _ _ (by omega) (by omega)]; decide), rfl⟩
  · have HC : Hid (∀ i, i < l.length → w.cell? ⟨b, off + i, none⟩ = some (.int .u8 ((l.getD i 0).toNat : Int))) := hc
    clear hc
    obtain ⟨n, hn0⟩ : ∃ n, n = l.length := ⟨_, rfl⟩
    have HL : Hid (n = l.length) := hn0
    rw [← hn0] at hn h0 ⊢
    clear hn0
    go_enter Try.func49, Try.ntmps49
    go_wp2
    go_loop [3, 4, 5, 6] (fun a i _ _ => ∃ k x : Nat, k ≤ n ∧ i = .int .i64 k ∧ a = .int .i64 (x : Int) ∧ x < 4294967296 ∧ Hid (x = crcF 4294967295 (l.take k))) (fun _ i _ _ => n - (intOf i).toNat)
    case atStart => exact ⟨0, 4294967295, Nat.zero_le _, rfl, rfl, by omega, rfl⟩
    case round =>
      obtain ⟨k, x, hk, rfl, rfl, hx, HX⟩ := hrel
      by_cases hlt : k < n
      · have ca := HC.out k (by have := HL.out; omega)
        have hr : (l.getD k 0).toNat < 256 := (l.getD k 0).toNat_lt
        have HS : Hid (crcF 4294967295 (l.take (k + 1)) = crcBits 8 (x ^^^ (l.getD k 0).toNat)) := by
          show _ = _
          rw [crc_step l k (by have := HL.out; omega), HX.out]
        generalize (l.getD k 0).toNat = r at *
        have hxr : x ^^^ r < 4294967296 := Nat.xor_lt_two_pow (n := 32) (by omega) (by omega)
        have ex := i64_xor_nat x r (by omega) (by omega)
        generalize x ^^^ r = y at *
        go_wp2
        go_loop [3, 5, 6] (fun a i _ => ∃ j z : Nat, j ≤ 8 ∧ i = .int .i64 j ∧ a = .int .i64 (z : Int) ∧ z < 4294967296 ∧ Hid (crcBits (8 - j) z = crcBits 8 y)) (fun _ i _ => 8 - (intOf i).toNat)
        case atStart => exact ⟨0, y, by omega, rfl, rfl, hxr, rfl⟩
        case round =>
          obtain ⟨j, z, hj, rfl, rfl, hz, HZ⟩ := hrel
          by_cases hj8 : j < 8
          · have HB : Hid (crcBits (8 - (j + 1)) (crcBit z) = crcBits 8 y) := by
              show _ = _
              rw [← HZ.out, show 8 - j = 8 - (j + 1) + 1 by omega]
              rfl
            by_cases hp : z % 2 = 1
            · have e1 : bits .and .i64 (z : Int) 1 = 1 := by rw [i64_and1 z (by omega), hp]; rfl
              have e2 : bits .xor .i64 ((z : Int) / 2) 3988292384 = (crcBit z : Int) := by
                have := i64_xor_nat (z / 2) 3988292384 (by omega) (by omega)
                rw [crcBit_odd hp]
                exact this
              have hq := crcBit_lt hz
              generalize crcBit z = q at *
              clear hp
              go_wp2
              go_round
              case rel => exact ⟨j + 1, q, by omega, by go_num, rfl, hq, HB⟩
              case measure => simp [intOf]; omega
            · have e1 : bits .and .i64 (z : Int) 1 = 0 := by rw [i64_and1 z (by omega), show z % 2 = 0 by omega]; rfl
              have e2 : ((z : Int) / 2) = (crcBit z : Int) := by
                rw [crcBit_even (by omega)]
                rfl
              have hq := crcBit_lt hz
              generalize crcBit z = q at *
              clear hp
              go_wp2
              go_round
              case rel => exact ⟨j + 1, q, by omega, by go_num, rfl, hq, HB⟩
              case measure => simp [intOf]; omega
          · have HE : Hid (z = crcF 4294967295 (l.take (k + 1))) := by
              show _ = _
              rw [HS.out, ← HZ.out, show 8 - j = 0 by omega]
              rfl
            go_wp2
            go_round
            case rel => exact ⟨k + 1, z, by omega, by go_num, rfl, hz, HE⟩
            case measure => simp [intOf]; omega
      · have e1 : bits .xor .i64 (x : Int) 4294967295 = (crcL l : Int) := by
          have := i64_xor_nat x 4294967295 (by omega) (by omega)
          rw [crc_turn x hx, HX.out, List.take_of_length_le (by have := HL.out; omega)] at this
          rw [HX.out, List.take_of_length_le (by have := HL.out; omega)]
          exact this
        go_wp2
        go_ret
        exact ⟨rfl, rfl⟩

set_option maxRecDepth 100000 in
set_option maxHeartbeats 2000000 in
theorem implCrc (v : Value) (l : List UInt8) (w : World) (hin : BRow w v l) (hn : l.length ≤ 1099511627776) :
    Calls Try.prog 54 #[v] w fun e w' => e = .returned (.int .i64 (crcL l : Int)) ∧ w = w' := by
  rcases hin with ⟨rfl, ao, cap, rfl⟩ | ⟨h0, b, off, cap, rfl, hb, hc⟩
  · go_enter Try.func54, Try.ntmps54
    go_wp2
    refine wp_loop_rounds 1 ?_
    rw [rounds_succ]
    have e0 : bits .xor .u32 IntKind.u32.max 4294967295 = 0 := u32_not 4294967295 (by omega)
    go_wp2
    go_ret
    exact ⟨ret_int (by rw [w64_in _ (by omega)]; rfl), rfl⟩
  · have HC : Hid (∀ i, i < l.length → w.cell? ⟨b, off + i, none⟩ = some (.int .u8 ((l.getD i 0).toNat : Int))) := hc
    clear hc
    obtain ⟨n, hn0⟩ : ∃ n, n = l.length := ⟨_, rfl⟩
    have HL : Hid (n = l.length) := hn0
    rw [← hn0] at hn h0 ⊢
    clear hn0
    go_enter Try.func54, Try.ntmps54
    go_wp2
    go_loop [3, 5, 6, 9, 17] (fun a _ _ i _ => ∃ k x : Nat, k ≤ n ∧ i = .int .i64 k ∧ a = .int .u32 (x : Int) ∧ x < 4294967296 ∧ Hid (x = crcF 4294967295 (l.take k))) (fun _ _ _ i _ => n - (intOf i).toNat)
    case atStart => exact ⟨0, 4294967295, Nat.zero_le _, rfl, rfl, by omega, rfl⟩
    case round =>
      obtain ⟨k, x, hk, rfl, rfl, hx, HX⟩ := hrel
      by_cases hlt : k < n
      · have ca := HC.out k (by have := HL.out; omega)
        have hr : (l.getD k 0).toNat < 256 := (l.getD k 0).toNat_lt
        have HS : Hid (crcF 4294967295 (l.take (k + 1)) = crcBits 8 (x ^^^ (l.getD k 0).toNat)) := by
          show _ = _
          rw [crc_step l k (by have := HL.out; omega), HX.out]
        generalize (l.getD k 0).toNat = r at *
        have hxr : x ^^^ r < 4294967296 := Nat.xor_lt_two_pow (n := 32) (by omega) (by omega)
        have ex := u32_xor_nat x r (by omega) (by omega)
        generalize x ^^^ r = y at *
        go_wp2
        go_loop [3, 6, 17] (fun a _ i => ∃ j z : Nat, j ≤ 8 ∧ i = .int .i64 j ∧ a = .int .u32 (z : Int) ∧ z < 4294967296 ∧ Hid (crcBits (8 - j) z = crcBits 8 y)) (fun _ _ i => 8 - (intOf i).toNat)
        case atStart => exact ⟨0, y, by omega, rfl, rfl, hxr, rfl⟩
        case round =>
          obtain ⟨j, z, hj, rfl, rfl, hz, HZ⟩ := hrel
          by_cases hj8 : j < 8
          · have HB : Hid (crcBits (8 - (j + 1)) (crcBit z) = crcBits 8 y) := by
              show _ = _
              rw [← HZ.out, show 8 - j = 8 - (j + 1) + 1 by omega]
              rfl
            by_cases hp : z % 2 = 1
            · have e1 : bits .and .u32 (z : Int) 1 = 1 := by rw [u32_and1 z (by omega), hp]; rfl
              have e2 : bits .xor .u32 ((z : Int) / 2) 3988292384 = (crcBit z : Int) := by
                have := u32_xor_nat (z / 2) 3988292384 (by omega) (by omega)
                rw [crcBit_odd hp]
                exact this
              have hq := crcBit_lt hz
              generalize crcBit z = q at *
              clear hp
              go_wp2
              go_round
              case rel => exact ⟨j + 1, q, by omega, by go_num, rfl, hq, HB⟩
              case measure => simp [intOf]; omega
            · have e1 : bits .and .u32 (z : Int) 1 = 0 := by rw [u32_and1 z (by omega), show z % 2 = 0 by omega]; rfl
              have e2 : ((z : Int) / 2) = (crcBit z : Int) := by
                rw [crcBit_even (by omega)]
                rfl
              have hq := crcBit_lt hz
              generalize crcBit z = q at *
              clear hp
              go_wp2
              go_round
              case rel => exact ⟨j + 1, q, by omega, by go_num, rfl, hq, HB⟩
              case measure => simp [intOf]; omega
          · have HE : Hid (z = crcF 4294967295 (l.take (k + 1))) := by
              show _ = _
              rw [HS.out, ← HZ.out, show 8 - j = 0 by omega]
              rfl
            go_wp2
            go_round
            case rel => exact ⟨k + 1, z, by omega, by go_num, rfl, hz, HE⟩
            case measure => simp [intOf]; omega
      · have HE : Hid ((4294967295 - x : Nat) = crcL l) := by
          show _ = _
          have h1 := HX.out
          rw [List.take_of_length_le (by have := HL.out; omega)] at h1
          unfold crcL
          omega
        have e0 := u32_not x hx
        have hq : 4294967295 - x < 4294967296 := by omega
        generalize 4294967295 - x = q at *
        go_wp2
        go_ret
        exact ⟨ret_int (by have := HE.out; rw [w64_in _ (by omega)]; omega), rfl⟩

/-- The k lowest bytes of x. -/
def fourN : Nat → Nat → List UInt8
  | 0, _ => []
  | k + 1, x => UInt8.ofNat x :: fourN k (x / 256)

theorem fourN_four (x : Nat) : fourN 4 x = fourL x := by
  simp [fourN, fourL, Nat.div_div_eq_div_mul]

set_option maxRecDepth 100000 in
set_option maxHeartbeats 2000000 in
theorem specFour (x : Nat) (w : World) (hx : x < 4294967296) :
    Calls Try.prog 48 #[.int .i64 (x : Int)] w fun e w' => ∃ v, e = .returned v ∧ w'.ownsRow w.heap.size 5 1 v 4 (bcells (fourL x)) ∧ Below w.heap.size w w' := by
  have HR : Hid (∀ a b c d : Int, a = (x : Int) % 256 → b = (x : Int) / 256 % 256 → c = (x : Int) / 65536 % 256 → d = (x : Int) / 16777216 % 256 → [Value.int .u8 a, .int .u8 b, .int .u8 c, .int .u8 d] = bcells (fourL x)) := by
    rintro a b c d rfl rfl rfl rfl
    simp [bcells, fourL]
  go_enter Try.func48, Try.ntmps48
  go_wp2
  go_ret
  refine ⟨_, rfl, ?_, (Below.refl _ _).alloc (Nat.le_refl _) _⟩
  rw [← HR.out _ _ _ _ rfl rfl rfl (show (x : Int) / 16777216 = _ by omega)]
  exact World.ownsRow_lit (e := 5) (size := 1) w #[.int .u8 ((x : Int) % 256), .int .u8 ((x : Int) / 256 % 256), .int .u8 ((x : Int) / 65536 % 256), .int .u8 ((x : Int) / 16777216)] 4 (Nat.le_refl _) (by decide) rfl

set_option maxRecDepth 100000 in
set_option maxHeartbeats 2000000 in
theorem implCrcBytes (v : Value) (l : List UInt8) (w : World) (hin : BRow w v l) (hn : l.length ≤ 1099511627776) :
    Calls Try.prog 50 #[v] w fun e w' => ∃ v', e = .returned v' ∧ w'.ownsRow w.heap.size 5 1 v' 4 (bcells (fourL (crcL l))) ∧ Below w.heap.size w w' := by
  have hx := crcL_lt l
  have HI : Hid (BRow w v l) := hin
  have HK : Hid (∀ ww : World, BRow ww v l → Calls Try.prog 54 #[v] ww fun e w' => e = .returned (.int .i64 (crcL l : Int)) ∧ ww = w') := fun ww h => implCrc v l ww h hn
  obtain ⟨ao, cp, hv⟩ := hin.slice
  subst hv
  clear hin
  generalize crcL l = x at *
  go_enter Try.func50, Try.ntmps50
  go_wp2_with fail
  refine (HK.out _ (HI.out.below ((Below.refl _ _).alloc (Nat.le_refl _) _))).mono ?_
  rintro e w1 ⟨rfl, rfl⟩
  go_wp2_with fail
  go_loopw [3, 4, 8] (fun a s i wr => ∃ (k y : Nat) (m : List UInt8), k ≤ 4 ∧ i = .int .i64 k ∧ s = .int .i64 (y : Int) ∧ y < 4294967296 ∧ Hid (m ++ fourN (4 - k) y = fourL x) ∧ wr.ownsRow w.heap.size 5 1 a k (bcells m) ∧ Below w.heap.size w wr) (fun _ _ i _ => 4 - (intOf i).toNat)
  case atStart => exact ⟨0, x, [], by omega, rfl, rfl, hx, fourN_four x, World.ownsRow_lit w #[] 0 (Nat.le_refl _) (by decide) rfl, (Below.refl _ _).alloc (Nat.le_refl _) _⟩
  case round =>
    obtain ⟨k, y, m, hk, rfl, rfl, hy, HM, hown, hbel⟩ := hrel
    have hz := hbel.size
    by_cases h4 : k < 4
    · have HN : Hid ((m ++ [UInt8.ofNat y]) ++ fourN (4 - (k + 1)) (y / 256) = fourL x) := by
        show _ = _
        rw [← HM.out, show 4 - k = 4 - (k + 1) + 1 by omega]
        simp [fourN]
      have HR : Hid (bcells (m ++ [UInt8.ofNat y]) = bcells m ++ [.int .u8 ((y : Int) % 256)]) := by
        show _ = _
        rw [bcells_snoc]
        simp
      go_wp2_with (at_builtin; refine wpList_append_newAt _ rfl _ _ 29 rfl w.heap.size 5 (.int .u8 0) 1 Try.underlying29 Try.infoByte rfl _ _ _ rfl hown #[.int .u8 ((y : Int) % 256)] 1 rfl rfl (by simp [Value.oneCell']) (by omega) (by unfold maxLen; omega) hz ?_)
      intro v' w1 h1 h2 _
      have B1 := hbel.grown h2 hz (fun k hk => (hown.lt k hk).1)
      rw [show bcells m ++ #[Value.int .u8 ((y : Int) % 256)].toList = bcells (m ++ [UInt8.ofNat y]) from HR.out.symm] at h1
      clear hown h2 hbel HR
      go_wp2
      go_roundw
      case rel => exact ⟨k + 1, y / 256, _, by omega, by go_num, by go_num, by omega, HN, h1, B1⟩
      case measure => simp [intOf]; omega
    · have HE : Hid (m = fourL x) := by
        show _ = _
        have := HM.out
        rw [show 4 - k = 0 by omega] at this
        simpa [fourN] using this
      have h44 : k = 4 := by omega
      subst h44
      rw [HE.out] at hown
      go_wp2
      go_ret
      exact ⟨_, rfl, hown, hbel⟩
end Go.Proofs.Ytfigkoapebdlfaa
