/- NumGet, UnfBoth. -/
import Derived.Test.YtidecdlaeomfoaaGreatQA19
set_option maxHeartbeats 4000000
set_option maxRecDepth 100000
namespace Go.Proofs.YtidecdlaeomfoaaGreat
open Go.RowKit
set_option linter.unusedVariables false
def getV : Option (Nat × Nat) → Value
 | none => .tuple #[.int .i64 0, .int .i64 0, .bool false]
 | some (n, q) => .tuple #[.int .i64 (n : Int), .int .i64 (q : Int), .bool true]
theorem getL_out {l : List UInt8} {p : Int} (h : p < 0 ∨ (l.length : Int) < p) : getL l p = none := if_pos h
theorem getL_in {l : List UInt8} {p : Nat} (h : p ≤ l.length) : getL l (p : Int) = (getA 5 0 0 (l.drop p)).map fun r => (r.1, p + r.2) := by
 unfold getL
 rw [if_neg (by omega), Int.toNat_natCast]
theorem getA_more {l : List UInt8} {p k acc c : Nat} (hk : k < 5) (hp : p + k < l.length) (hc : c = (l.getD (p + k) 0).toNat) (h : 128 ≤ c) :
  getA (5 - k) k acc (l.drop (p + k)) = getA (5 - (k + 1)) (k + 1) (acc + c % 128 * 128 ^ k) (l.drop (p + (k + 1))) := by
 have e : l.drop (p + k) = l.getD (p + k) 0 :: l.drop (p + (k + 1)) := by
  rw [List.drop_eq_getElem_cons hp]
  simp [List.getD, hp, Nat.add_assoc]
 subst hc
 rw [e, show 5 - k = 5 - (k + 1) + 1 by omega, getA, if_pos h]
theorem getA_stop {l : List UInt8} {p k acc c : Nat} (hk : k < 5) (hp : p + k < l.length) (hc : c = (l.getD (p + k) 0).toNat) (h : c < 128) :
  getA (5 - k) k acc (l.drop (p + k)) = if (c = 0 ∧ 0 < k) ∨ 1000000000 < acc + c * 128 ^ k then none else some (acc + c * 128 ^ k, k + 1) := by
 have e : l.drop (p + k) = l.getD (p + k) 0 :: l.drop (p + (k + 1)) := by
  rw [List.drop_eq_getElem_cons hp]
  simp [List.getD, hp, Nat.add_assoc]
 subst hc
 rw [e, show 5 - k = 5 - (k + 1) + 1 by omega, getA, if_neg (by omega), Nat.mod_eq_of_lt h]
theorem getA_end {l : List UInt8} {p k acc : Nat} (h : k = 5 ∨ l.length ≤ p + k) : getA (5 - k) k acc (l.drop (p + k)) = none := by
 rcases h with rfl | h
 ·rfl
 rw [List.drop_eq_nil_of_le h]
 cases 5 - k <;> rfl
theorem pow_seven (k : Nat) : (2 : Int) ^ (k * 7) = ((128 ^ k : Nat) : Int) := by
 rw [Nat.mul_comm, Int.pow_mul]
 norm_cast
theorem acc_next {acc r k : Nat} (h : acc < 128 ^ k) : acc + r % 128 * 128 ^ k < 128 ^ (k + 1) := by
 have h1 : r % 128 * 128 ^ k ≤ 127 * 128 ^ k := Nat.mul_le_mul_right _ (by omega)
 rw [pow_step]
 omega
theorem acc_top {acc r k : Nat} (hk : k < 5) (h : acc < 128 ^ k) : acc + r % 128 * 128 ^ k < 34359738368 :=
 Nat.lt_of_lt_of_le (acc_next h) (Nat.pow_le_pow_right (n := 128) (by omega) (show k + 1 ≤ 5 by omega))
theorem acc_wrap {acc r k : Nat} (hk : k < 5) (h : acc < 128 ^ k) : wrap64 ((acc : Int) + wrap64 ((r : Int) % 128 * 2 ^ (k * 7))) = ((acc + r % 128 * 128 ^ k : Nat) : Int) := by
 have h1 := acc_top (r := r) hk h
 have e : (r : Int) % 128 * 2 ^ (k * 7) = ((r % 128 * 128 ^ k : Nat) : Int) := by
  rw [pow_seven]
  norm_cast
 rw [e]
 generalize r % 128 * 128 ^ k = t at *
 unfold wrap64
 omega
theorem implGetNum (p : Int) (v : Value) (l : List UInt8) (w : World) (hin : BRow w v l) (hn : l.length ≤ 1099511627776) :
  Calls Tryz.prog 20 #[v, .int .i64 p] w fun e w' => e = .returned (getV (getL l p)) ∧ w = w' := by
 by_cases hout : p < 0 ∨ (l.length : Int) < p
 ·rw [getL_out hout]
  obtain ⟨ao, cp, hv⟩ := hin.slice
  subst hv
  clear hin
  by_cases h1 : p < 0
  ·clear hout
   go_enter Tryz.func20, Tryz.ntmps20
   go_wp2
   go_ret3
   exact ⟨rfl, rfl⟩
  have h2 : (l.length : Int) < p := by omega
  clear hout
  go_enter Tryz.func20, Tryz.ntmps20
  go_wp2
  go_ret3
  exact ⟨rfl, rfl⟩
 obtain ⟨P, rfl⟩ := Int.eq_ofNat_of_zero_le (show 0 ≤ p by omega)
 have hP : P ≤ l.length := by omega
 clear hout
 rw [getL_in hP]
 rcases hin with ⟨rfl, ao, cap, rfl⟩ | ⟨h0, b, off, cap, rfl, hb, hc⟩
 ·have h0 : P = 0 := by simpa using hP
  subst h0
  have hm : min (0 : Int) 5 = 0 := by decide
  cases ao with
  | none =>
   go_enter Tryz.func20, Tryz.ntmps20
   go_wp2
   refine wp_loop_rounds 1 ?_
   rw [rounds_succ]
   go_wp2
   go_ret3
   exact ⟨rfl, rfl⟩
  | some a =>
   go_enter Tryz.func20, Tryz.ntmps20
   go_wp2
   refine wp_loop_rounds 1 ?_
   rw [rounds_succ]
   go_wp2
   go_ret3
   exact ⟨rfl, rfl⟩
 have HC : Hid (∀ i, i < l.length → w.cell? ⟨b, off + i, none⟩ = some (.int .u8 ((l.getD i 0).toNat : Int))) := hc
 clear hc
 obtain ⟨n, hn0⟩ : ∃ n, n = l.length := ⟨_, rfl⟩
 have HL : Hid (n = l.length) := hn0
 rw [← hn0] at hn h0 hP ⊢
 clear hn0
 by_cases hPn : P = n
 ·subst hPn
  have hm : min (P : Int) ((P : Int) + 5) = (P : Int) := by rw [Int.min_def]; split <;> omega
  have HE : Hid (getA 5 0 0 (l.drop P) = none) := by
   have := getA_end (l := l) (p := P) (k := 0) (acc := 0) (.inr (by have := HL.out; omega))
   exact this
  rw [HE.out]
  by_cases hE : P + cap = P
  ·go_enter Tryz.func20, Tryz.ntmps20
   go_wp2
   refine wp_loop_rounds 1 ?_
   rw [rounds_succ]
   go_wp2
   go_ret3
   exact ⟨rfl, rfl⟩
  go_enter Tryz.func20, Tryz.ntmps20
  go_wp2
  refine wp_loop_rounds 1 ?_
  rw [rounds_succ]
  go_wp2
  go_ret3
  exact ⟨rfl, rfl⟩
 obtain ⟨c, hm, ⟨hc5, hcn⟩, HCn⟩ : ∃ c : Nat, min (n : Int) ((P : Int) + 5) = (P : Int) + (c : Int) ∧ (c ≤ 5 ∧ P + c ≤ n) ∧ Hid (c = 5 ∨ P + c = n) := by
  by_cases h5 : P + 5 ≤ n
  ·exact ⟨5, by rw [Int.min_def]; split <;> omega, by omega, .inl rfl⟩
  exact ⟨n - P, by rw [Int.min_def]; split <;> omega, by omega, .inr (by omega)⟩
 have hE : ¬ n + cap = P := by omega
 clear hPn
 obtain ⟨R, HR⟩ : ∃ R, Hid (R = getV ((getA 5 0 0 (l.drop P)).map fun r => (r.1, P + r.2))) := ⟨_, rfl⟩
 rw [← HR.out]
 go_enter Tryz.func20, Tryz.ntmps20
 go_wp2
 go_loop [7, 8, 9, 27] (fun a _ _ i => ∃ k acc : Nat, k ≤ c ∧ i = .int .i64 k ∧ a = .int .i64 (acc : Int) ∧ Hid (acc < 128 ^ k) ∧ Hid (R = getV ((getA (5 - k) k acc (l.drop (P + k))).map fun r => (r.1, P + r.2)))) (fun _ _ _ i => c - (intOf i).toNat)
 case atStart => exact ⟨0, 0, Nat.zero_le _, rfl, rfl, Nat.zero_lt_one, HR.out⟩
 obtain ⟨k, acc, hk, rfl, rfl, HA, HG⟩ := hrel
 by_cases hlt : k < c
 ·have ca := HC.out (P + k) (by have := HL.out; omega)
  rw [← Nat.add_assoc] at ca
  have hr : (l.getD (P + k) 0).toNat < 256 := (l.getD (P + k) 0).toNat_lt
  have hacc : acc < 268435456 := Nat.lt_of_lt_of_le HA.out (Nat.pow_le_pow_right (by omega) (show k ≤ 4 by omega))
  have HM := fun h => getA_more (l := l) (p := P) (k := k) (acc := acc) (c := (l.getD (P + k) 0).toNat) (by omega) (by have := HL.out; omega) rfl h
  have HS := fun h => getA_stop (l := l) (p := P) (k := k) (acc := acc) (c := (l.getD (P + k) 0).toNat) (by omega) (by have := HL.out; omega) rfl h
  generalize (l.getD (P + k) 0).toNat = r at *
  have e0 := acc_wrap (r := r) (show k < 5 by omega) HA.out
  have ht := acc_top (r := r) (show k < 5 by omega) HA.out
  have HT : Hid (acc + r % 128 * 128 ^ k < 128 ^ (k + 1)) := acc_next HA.out
  by_cases h128 : 128 ≤ (r : Int)
  ·have HR' : Hid (R = getV ((getA (5 - (k + 1)) (k + 1) (acc + r % 128 * 128 ^ k) (l.drop (P + (k + 1)))).map fun r => (r.1, P + r.2))) := by
    have := HG.out
    rw [HM (by omega)] at this
    exact this
   generalize acc + r % 128 * 128 ^ k = t at *
   clear HM HS HG HA HC
   go_wp2
   exact ⟨⟨k + 1, t, by omega, by go_num, congrArg _ e0, HT, HR'⟩, by simp [intOf]; omega⟩
  have HR' : Hid (R = getV ((if (r = 0 ∧ 0 < k) ∨ 1000000000 < acc + r % 128 * 128 ^ k then none else some (acc + r % 128 * 128 ^ k, k + 1)).map fun r => (r.1, P + r.2))) := by
   have := HG.out
   rw [HS (by omega)] at this
   rw [Nat.mod_eq_of_lt (show r < 128 by omega)]
   exact this
  clear HM HS HG HC HT
  by_cases hz : r = 0 ∧ k = 0
  ·obtain ⟨rfl, rfl⟩ := hz
   have h1 : acc = 0 := by have := HA.out; simpa using this
   subst h1
   have HX : Hid (R = getV (some (0, P + 1))) := HR'.out
   clear HR' HA e0 ht
   simp only [Nat.add_zero] at ca
   go_wp2
   go_ret3
   exact ⟨by rw [HX.out]; rfl, rfl⟩
  generalize acc + r % 128 * 128 ^ k = t at *
  clear HA
  by_cases hrk : r = 0 ∧ 0 < k
  ·have HX : Hid (R = getV none) := by
    have := HR'.out
    rw [if_pos (.inl hrk)] at this
    exact this
   clear HR' hz
   obtain ⟨rfl, hk0⟩ := hrk
   go_wp2
   go_ret3
   exact ⟨by rw [HX.out]; rfl, rfl⟩
  have hr1 : ¬ (r : Int) = 0 := by omega
  by_cases hbig : 1000000000 < t
  ·have HX : Hid (R = getV none) := by
    have := HR'.out
    rw [if_pos (.inr hbig)] at this
    exact this
   clear HR' hz hrk
   have hbig2 : 1000000000 < wrap64 ((acc : Int) + wrap64 ((r : Int) % 128 * 2 ^ (k * 7))) := by rw [e0]; omega
   go_wp2
   go_ret3
   exact ⟨by rw [HX.out]; rfl, rfl⟩
  have HX : Hid (R = getV (some (t, P + (k + 1)))) := by
   have := HR'.out
   rw [if_neg (by omega)] at this
   exact this
  clear HR' hz hrk
  have hsm2 : ¬ 1000000000 < wrap64 ((acc : Int) + wrap64 ((r : Int) % 128 * 2 ^ (k * 7))) := by rw [e0]; omega
  go_wp2
  go_ret3
  exact ⟨by rw [HX.out]; simp [getV]; omega, rfl⟩
 have HX : Hid (R = getV none) := by
  have := HG.out
  rw [getA_end (by have := HCn.out; have := HL.out; omega)] at this
  exact this
 clear HG HA HC
 go_wp2
 go_ret3
 exact ⟨by rw [HX.out]; rfl, rfl⟩
def PieceB (w : World) (l : List UInt8) (r : Option (Nat × Nat)) (e : Ending) : Prop :=
 match r with
 | none => e = .returned (.tuple #[.slice none 0 0, .int .i64 0, .bool false])
 | some (q, n) => ∃ v, e = .returned (.tuple #[v, .int .i64 ((q + n : Nat) : Int), .bool true]) ∧ BRow w v (partL l q n)
theorem implPieceAt (p : Int) (v : Value) (l : List UInt8) (w : World) (hin : BRow w v l) (hn : l.length ≤ 1099511627776) :
  Calls Tryz.prog 32 #[v, .int .i64 p] w fun e w' => PieceB w l (pieceL l p) e ∧ w = w' := by
 have HG := implGetNum p v l w hin hn
 cases hg : getL l p with
 | none =>
  have hp : pieceL l p = none := by unfold pieceL; rw [hg]
  rw [hg] at HG
  rw [hp]
  obtain ⟨ao, cp, hv⟩ := hin.slice
  subst hv
  clear hin hp hg
  go_enter Tryz.func32, Tryz.ntmps32
  go_wp2_with fail
  refine HG.mono ?_
  rintro e w1 ⟨rfl, rfl⟩
  unfold getV
  go_wp2
  go_ret3
  exact ⟨rfl, rfl⟩
 | some r =>
  obtain ⟨N, q⟩ := r
  obtain ⟨hN, hp0, hpq, hq⟩ := getL_le hg
  rw [hg] at HG
  by_cases hbig : l.length - q < N
  ·have hp : pieceL l p = none := by unfold pieceL; rw [hg]; exact if_pos hbig
   rw [hp]
   obtain ⟨ao, cp, hv⟩ := hin.slice
   subst hv
   have hb2 : (l.length : Int) - q < N := by omega
   clear hin hp hg hbig
   go_enter Tryz.func32, Tryz.ntmps32
   go_wp2_with fail
   refine HG.mono ?_
   rintro e w1 ⟨rfl, rfl⟩
   unfold getV
   go_wp2
   go_ret3
   exact ⟨rfl, rfl⟩
  have hp : pieceL l p = some (q, N) := by unfold pieceL; rw [hg]; exact if_neg hbig
  rw [hp]
  rcases hin with ⟨rfl, _⟩ | ⟨h0, b, off, cap, rfl, hb, hc⟩
  ·simp at hq; omega
  have HP : Hid (∀ m c, m = N → N ≤ c → BRow w (.slice (some ⟨b, off + q, none⟩) m c) (partL l q N)) := fun m c e h => e ▸ BRow.part hb hc (a := q) (n := N) (by omega) h rfl
  have HP0 : Hid (N = 0 → ∀ (a : Option Addr) (c : Nat), BRow w (.slice a 0 c) (partL l q N)) := fun h a c => .inl ⟨List.eq_nil_of_length_eq_zero (by rw [partL_len (by omega)]; exact h), _, _, rfl⟩
  obtain ⟨n, hn0⟩ : ∃ n, n = l.length := ⟨_, rfl⟩
  rw [← hn0] at hn hq hbig ⊢
  have HG2 : CS 20 #[.slice (some ⟨b, off, none⟩) n (n + cap), .int .i64 p] w (getV (some (N, q))) := by rw [hn0]; exact HG
  clear hn0 hp hg hc HG h0
  by_cases hE : n + cap = q
  ·have hN0 : N = 0 := by omega
   have hc0 : cap = 0 := by omega
   have hq0 : q = n := by omega
   subst hN0 hc0 hq0
   clear hE hbig
   go_enter Tryz.func32, Tryz.ntmps32
   go_wp2_with fail
   refine HG2.mono ?_
   rintro e w1 ⟨rfl, rfl⟩
   unfold getV
   go_wp2
   go_ret3
   exact ⟨⟨_, rfl, HP0.out (by simp) _ _⟩, rfl⟩
  have hb2 : ¬ (n : Int) - q < N := by omega
  go_enter Tryz.func32, Tryz.ntmps32
  go_wp2_with fail
  refine HG2.mono ?_
  rintro e w1 ⟨rfl, rfl⟩
  unfold getV
  go_wp2
  go_ret3
  refine ⟨⟨_, rfl, ?_⟩, rfl⟩
  exact HP.out (q + N - q) (n + cap - q) (by omega) (by omega)
def textV (l : List UInt8) : Option (Nat × Nat) → Value
 | none => .tuple #[.string ⟨#[]⟩, .int .i64 0, .bool false]
 | some (q, n) => .tuple #[.string ⟨(partL l q n).toArray⟩, .int .i64 ((q + n : Nat) : Int), .bool true]
theorem implGetText (p : Int) (v : Value) (l : List UInt8) (w : World) (hin : BRow w v l) (hn : l.length ≤ 1099511627776) :
  Calls Tryz.prog 21 #[v, .int .i64 p] w fun e w' => e = .returned (textV l (pieceL l p)) ∧ w = w' := by
 have HG := implPieceAt p v l w hin hn
 obtain ⟨ao, cp, hv⟩ := hin.slice
 subst hv
 clear hin
 cases hp : pieceL l p with
 | none =>
  rw [hp] at HG
  clear hp
  go_enter Tryz.func21, Tryz.ntmps21
  go_wp2_with fail
  refine HG.mono ?_
  rintro e w1 ⟨he, rfl⟩
  replace he : e = .returned (.tuple #[.slice none 0 0, .int .i64 0, .bool false]) := he
  subst he
  have hcv := run_string_row (P := Tryz.prog) (v := .slice none 0 0) (l := []) w 22 9 5 Tryz.underlying22 Tryz.underlying5 Tryz.underlying9 (.inl ⟨rfl, _, _, rfl⟩)
  go_wp2
  go_ret3
  exact ⟨rfl, rfl⟩
 | some r =>
  obtain ⟨q, N⟩ := r
  rw [hp] at HG
  clear hp
  go_enter Tryz.func21, Tryz.ntmps21
  go_wp2_with fail
  refine HG.mono ?_
  rintro e w1 ⟨⟨vp, rfl, hb⟩, rfl⟩
  have hcv := run_string_row (P := Tryz.prog) w 22 9 5 Tryz.underlying22 Tryz.underlying5 Tryz.underlying9 hb
  obtain ⟨bo, cb, hvb⟩ := hb.slice
  subst hvb
  clear hb
  go_wp2
  go_ret3
  exact ⟨rfl, rfl⟩
end Go.Proofs.YtidecdlaeomfoaaGreat
namespace Go.Proofs.YtidecdlaeomfoaaGreat
open Go.RowKit
set_option linter.unusedVariables false
set_option linter.unusedSimpArgs false
theorem hidB {p : Prop} (h : p) : Hid p := h
def unfB (l : List UInt8) : Option (Nat × Nat) → List UInt8
 | none => []
 | some (q, n) => partL l q n
def unfP (p : Int) : Option (Nat × Nat) → Int
 | none => p
 | some (q, n) => ((q + n + 4 : Nat) : Int)
theorem unf_bad {l : List UInt8} {p : Int} (h : pieceL l p = none) : unfL l p = none := by unfold unfL; rw [h]
theorem unf_no {l : List UInt8} {p : Int} {q n : Nat} (h : pieceL l p = some (q, n)) (h2 : ¬ fourL (crcL (partL l q n)) = partL l (q + n) 4) : unfL l p = none := by unfold unfL; rw [h]; exact if_neg h2
theorem unf_yes {l : List UInt8} {p : Int} {q n : Nat} (h : pieceL l p = some (q, n)) (h2 : fourL (crcL (partL l q n)) = partL l (q + n) 4) : unfL l p = some (q, n) := by unfold unfL; rw [h]; exact if_pos h2
theorem part_part (l : List UInt8) (s m : Nat) (h : s + m = l.length) : partL (partL l s m) 0 4 = partL l s 4 := by
 unfold partL
 rw [List.drop_zero, List.take_take]
 by_cases h4 : 4 ≤ m
 ·rw [Nat.min_eq_left h4]
 rw [List.take_of_length_le (by rw [List.length_drop]; omega), List.take_of_length_le (by rw [List.length_drop]; omega)]
theorem implUnframe (p : Int) (v : Value) (l : List UInt8) (w : World) (hin : BRow w v l) (hn : l.length ≤ 1099511627776) :
  Calls Tryz.prog 26 #[v, .int .i64 p] w fun e w' => ∃ v', e = .returned (.tuple #[v', .int .i64 (unfP p (unfL l p)), .bool (unfL l p).isSome]) ∧ w'.ownsRow w.heap.size 5 1 v' (unfB l (unfL l p)).length (bcells (unfB l (unfL l p))) ∧ Below w.heap.size w w' := by
 have HG := implPieceAt p v l w hin hn
 cases hp : pieceL l p with
 | none =>
  rw [hp] at HG
  rw [unf_bad hp]
  obtain ⟨ao, cp, hv⟩ := hin.slice
  subst hv
  clear hin hp
  go_enter Tryz.func26, Tryz.ntmps26
  go_wp2_with fail
  refine HG.mono ?_
  rintro e w1 ⟨he, rfl⟩
  replace he : e = .returned (.tuple #[.slice none 0 0, .int .i64 0, .bool false]) := he
  subst he
  go_upto_region 2 with fail
  refine wp_region_held_drew (S := fun W => Below w.heap.size w W) (by kernel_rfl) (Below.refl _ _).drew (fun h0 => ?_)
  refine wpAnyH_take (i := 0) (v := ?_) rfl (by kernel_rfl) (by kernel_rfl) (by kernel_rfl) (fun _ _ _ h => h) (Or.inl ⟨by rfl, fun W hW => ?_⟩) h0 ?_
  rotate_left
  ·clear hW
   go_simp
   try with_reducible rfl
  simp only [Act.put, List.getElem_toArray, List.getElem_cons_zero, List.getElem_cons_succ, List.setIfInBounds_toArray, List.set_cons_zero, List.set_cons_succ]
  refine wpAnyH_take (i := 1) (v := ?_) rfl (by kernel_rfl) (by kernel_rfl) (by kernel_rfl) (fun _ _ _ h => h) (Or.inl ⟨by rfl, fun W hW => ?_⟩) h0 ?_
  rotate_left
  ·clear hW
   go_simp
   try with_reducible rfl
  simp only [Act.put, List.getElem_toArray, List.getElem_cons_zero, List.getElem_cons_succ, List.setIfInBounds_toArray, List.set_cons_zero, List.set_cons_succ]
  refine wpAnyH_take (i := 2) (v := ?_) rfl (by kernel_rfl) (by kernel_rfl) (by kernel_rfl) (fun _ _ _ h => h) (Or.inl ⟨by rfl, fun W hW => ?_⟩) h0 ?_
  rotate_left
  ·clear hW
   go_simp
   try with_reducible rfl
  simp only [Act.put, List.getElem_toArray, List.getElem_cons_zero, List.getElem_cons_succ, List.setIfInBounds_toArray, List.set_cons_zero, List.set_cons_succ]
  refine wpAnyH_take (i := 3) (v := undef) rfl (by kernel_rfl) (by kernel_rfl) (by kernel_rfl) (fun _ _ _ h => h) (Or.inr ⟨by rfl, rfl⟩) h0 ?_
  simp only [Act.put, List.getElem_toArray, List.getElem_cons_zero, List.getElem_cons_succ, List.setIfInBounds_toArray, List.set_cons_zero, List.set_cons_succ]
  refine wpAnyH_take (i := 4) (v := undef) rfl (by kernel_rfl) (by kernel_rfl) (by kernel_rfl) (fun _ _ _ h => h) (Or.inr ⟨by rfl, rfl⟩) h0 ?_
  simp only [Act.put, List.getElem_toArray, List.getElem_cons_zero, List.getElem_cons_succ, List.setIfInBounds_toArray, List.set_cons_zero, List.set_cons_succ]
  refine wpAnyH_take (i := 5) (v := undef) rfl (by kernel_rfl) (by kernel_rfl) (by kernel_rfl) (fun _ _ _ h => h) (Or.inr ⟨by rfl, rfl⟩) h0 ?_
  simp only [Act.put, List.getElem_toArray, List.getElem_cons_zero, List.getElem_cons_succ, List.setIfInBounds_toArray, List.set_cons_zero, List.set_cons_succ]
  refine wpAnyH_take (i := 6) (v := undef) rfl (by kernel_rfl) (by kernel_rfl) (by kernel_rfl) (fun _ _ _ h => h) (Or.inr ⟨by rfl, rfl⟩) h0 ?_
  simp only [Act.put, List.getElem_toArray, List.getElem_cons_zero, List.getElem_cons_succ, List.setIfInBounds_toArray, List.set_cons_zero, List.set_cons_succ]
  refine wpAnyH_take (i := 7) (v := undef) rfl (by kernel_rfl) (by kernel_rfl) (by kernel_rfl) (fun _ _ _ h => h) (Or.inr ⟨by rfl, rfl⟩) h0 ?_
  simp only [Act.put, List.getElem_toArray, List.getElem_cons_zero, List.getElem_cons_succ, List.setIfInBounds_toArray, List.set_cons_zero, List.set_cons_succ]
  refine wpAnyH_take (i := 8) (v := undef) rfl (by kernel_rfl) (by kernel_rfl) (by kernel_rfl) (fun _ _ _ h => h) (Or.inr ⟨by rfl, rfl⟩) h0 ?_
  simp only [Act.put, List.getElem_toArray, List.getElem_cons_zero, List.getElem_cons_succ, List.setIfInBounds_toArray, List.set_cons_zero, List.set_cons_succ]
  refine wpAnyH_take (i := 9) (v := undef) rfl (by kernel_rfl) (by kernel_rfl) (by kernel_rfl) (fun _ _ _ h => h) (Or.inr ⟨by rfl, rfl⟩) h0 ?_
  simp only [Act.put, List.getElem_toArray, List.getElem_cons_zero, List.getElem_cons_succ, List.setIfInBounds_toArray, List.set_cons_zero, List.set_cons_succ]
  refine wpAnyH_take (i := 10) (v := ?_) rfl (by kernel_rfl) (by kernel_rfl) (by kernel_rfl) (fun _ _ _ h => h) (Or.inl ⟨by rfl, fun W hW => ?_⟩) h0 ?_
  rotate_left
  ·clear hW
   go_simp
   try with_reducible rfl
  simp only [Act.put, List.getElem_toArray, List.getElem_cons_zero, List.getElem_cons_succ, List.setIfInBounds_toArray, List.set_cons_zero, List.set_cons_succ]
  refine wpAnyH_done (by kernel_rfl) ?_ _
  go_wp2
  go_ret3
  exact ⟨_, rfl, World.ownsRow_lit w.drew #[] 0 (Nat.le_refl _) (by decide) rfl, ((Below.refl _ _).drew).alloc (Nat.le_refl _) _⟩
 | some r =>
  obtain ⟨q, N⟩ := r
  rw [hp] at HG
  have hqN := pieceL_le hp
  rcases hin with ⟨rfl, _⟩ | ⟨h0, b, off, cap, rfl, hb, hc⟩
  ·exfalso
   have : pieceL [] p = none := by
    unfold pieceL
    cases hg : getL [] p with
    | none => rfl
    | some r =>
     obtain ⟨a1, a2⟩ := r
     have := getL_le hg
     simp at this
     omega
   rw [this] at hp
   cases hp
  obtain ⟨S0, HS0⟩ : ∃ S0, Hid (S0 = q + N) := ⟨_, rfl⟩
  have hS0 : S0 ≤ l.length := by have := HS0.out; omega
  obtain ⟨vt, M, ct, hvt, hM⟩ : ∃ vt M ct, (if l.length + cap = S0 then Value.slice (some ⟨b, off, none⟩) 0 0 else .slice (some ⟨b, off + S0, none⟩) (l.length - S0) (l.length + cap - S0)) = .slice vt M ct ∧ M = l.length - S0 := by
   by_cases hE : l.length + cap = S0
   ·exact ⟨_, _, _, if_pos hE, by omega⟩
   exact ⟨_, _, _, if_neg hE, rfl⟩
  have HT : Hid (∀ W, Below w.heap.size w W → BRow W (.slice vt M ct) (partL l S0 M)) := fun W bW => by
   refine BRow.below ?_ bW
   rw [← hvt]
   by_cases hE : l.length + cap = S0
   ·rw [if_pos hE]
    exact .inl ⟨List.eq_nil_of_length_eq_zero (by rw [partL_len (by omega)]; omega), _, _, rfl⟩
   rw [if_neg hE, hM]
   exact BRow.part hb hc (a := S0) (n := l.length - S0) (by omega) (by omega) rfl
  have HPP : Hid (partL (partL l S0 M) 0 4 = partL l (q + N) 4) := by
   show _ = _
   rw [part_part l S0 M (by omega), HS0.out]
  have hML : (partL l S0 M).length ≤ 1099511627776 := by rw [partL_len (by omega)]; omega
  have HN : Hid ((partL l q N).length = N) := partL_len (by omega)
  have hNl : (partL l q N).length ≤ 1099511627776 := by rw [HN.out]; omega
  obtain ⟨n, hn0⟩ : ∃ n, n = l.length := ⟨_, rfl⟩
  rw [← hn0] at hn hvt hM hqN hS0
  have HG2 : Calls Tryz.prog 32 #[.slice (some ⟨b, off, none⟩) n (n + cap), .int .i64 p] w fun e w' => PieceB w l (some (q, N)) e ∧ w = w' := by rw [hn0]; exact HG
  rw [← hn0]
  have HVT := hidB hvt
  clear HG hc hn0 h0 hM hvt
  have HCr : Hid (∀ v' W, BRow W v' (partL l q N) → Calls Tryz.prog 33 #[v'] W fun e w' => ∃ v', e = .returned v' ∧ w'.ownsRow W.heap.size 5 1 v' 4 (bcells (fourL (crcL (partL l q N)))) ∧ Below W.heap.size W w') := fun v' W h => implCrcBytes v' (partL l q N) W h hNl
  have HPx : Hid (∀ x W, BRow W (.slice vt M ct) (partL l S0 M) → BRow W x (fourL (crcL (partL l q N))) → CS 34 #[.slice vt M ct, x] W (.bool (decide (partL (partL l S0 M) 0 4 = fourL (crcL (partL l q N)))))) := fun x W h1 h2 => implBPrefix _ x _ _ W h1 h2 (fourL_len _) hML
  have hyes := fun h => unf_yes (l := l) (p := p) (q := q) (n := N) hp h
  have hno := fun h => unf_no (l := l) (p := p) (q := q) (n := N) hp h
  have hF := fourL_len (crcL (partL l q N))
  generalize fourL (crcL (partL l q N)) = F at *
  rw [HPP.out] at HPx
  obtain ⟨d, HD⟩ : ∃ d : Bool, Hid (d = decide (partL l (q + N) 4 = F)) := ⟨_, rfl⟩
  rw [← HD.out] at HPx
  have HRes : Hid (unfL l p = if d then some (q, N) else none) := by
   show _ = _
   rw [HD.out]
   by_cases h : F = partL l (q + N) 4
   ·rw [hyes h, decide_eq_true h.symm]; rfl
   rw [hno h, decide_eq_false (fun e => h e.symm)]; rfl
  rw [HRes.out]
  clear hp hyes hno HPP HD HRes
  go_enter Tryz.func26, Tryz.ntmps26
  go_wp2_with fail
  refine HG2.mono ?_
  rintro e w1 ⟨⟨vp, rfl, hbp⟩, rfl⟩
  have HBP : Hid (BRow w vp (partL l q N)) := hbp
  obtain ⟨po, pc, hvp⟩ := hbp.slice
  rw [HN.out] at hvp
  subst hvp
  rw [← HS0.out]
  clear hbp
  go_upto_region 2 with fail
  refine wp_region_held_drew (S := fun W => Below w.heap.size w W) (by kernel_rfl) (Below.refl _ _).drew (fun h0 => ?_)
  refine wpAnyH_take (i := 0) (v := ?_) rfl (by kernel_rfl) (by kernel_rfl) (by kernel_rfl) (fun _ _ _ h => h) (Or.inl ⟨by rfl, fun W hW => ?_⟩) h0 ?_
  rotate_left
  ·clear hW
   go_simp
   try with_reducible rfl
  simp only [Act.put, List.getElem_toArray, List.getElem_cons_zero, List.getElem_cons_succ, List.setIfInBounds_toArray, List.set_cons_zero, List.set_cons_succ]
  refine wpAnyH_take (i := 1) (v := ?_) rfl (by kernel_rfl) (by kernel_rfl) (by kernel_rfl) (fun _ _ _ h => h) (Or.inl ⟨by rfl, fun W hW => ?_⟩) h0 ?_
  rotate_left
  ·clear hW
   go_simp
   try with_reducible rfl
  simp only [Act.put, List.getElem_toArray, List.getElem_cons_zero, List.getElem_cons_succ, List.setIfInBounds_toArray, List.set_cons_zero, List.set_cons_succ]
  refine wpAnyH_take (i := 2) (v := ?_) rfl (by kernel_rfl) (by kernel_rfl) (by kernel_rfl) (fun _ _ _ h => h) (Or.inl ⟨by rfl, fun W hW => ?_⟩) h0 ?_
  rotate_left
  ·clear hW
   go_simp
   try with_reducible rfl
  simp only [Act.put, List.getElem_toArray, List.getElem_cons_zero, List.getElem_cons_succ, List.setIfInBounds_toArray, List.set_cons_zero, List.set_cons_succ]
  refine wpAnyH_take (i := 3) (v := ?_) rfl (by kernel_rfl) (by kernel_rfl) (by kernel_rfl) (fun _ _ _ h => h) (Or.inl ⟨by rfl, fun W hW => ?_⟩) h0 ?_
  rotate_left
  ·clear hW
   go_simp
   try with_reducible rfl
  simp only [Act.put, List.getElem_toArray, List.getElem_cons_zero, List.getElem_cons_succ, List.setIfInBounds_toArray, List.set_cons_zero, List.set_cons_succ]
  refine wpAnyH_take (i := 4) (v := ?_) rfl (by kernel_rfl) (by kernel_rfl) (by kernel_rfl) (fun _ _ _ h => h) (Or.inl ⟨by rfl, fun W hW => ?_⟩) h0 ?_
  rotate_left
  ·clear hW
   go_simp
   try with_reducible rfl
  simp only [Act.put, List.getElem_toArray, List.getElem_cons_zero, List.getElem_cons_succ, List.setIfInBounds_toArray, List.set_cons_zero, List.set_cons_succ]
  refine wpAnyH_take (i := 5) (v := .slice vt M ct) rfl (by kernel_rfl) (by kernel_rfl) (by kernel_rfl) (fun _ _ _ h => h) (Or.inl ⟨by rfl, fun W hW => ?_⟩) h0 ?_
  ·clear hW
   rw [← HVT.out]
   by_cases hE : n + cap = S0
   ·rw [if_pos hE]
    have hc0 : cap = 0 := by omega
    have hq0 : S0 = n := by omega
    subst hc0 hq0
    go_simp
   rw [if_neg hE]
   go_simp
  simp only [Act.put, List.getElem_toArray, List.getElem_cons_zero, List.getElem_cons_succ, List.setIfInBounds_toArray, List.set_cons_zero, List.set_cons_succ]
  refine wpAnyH_take (i := 6) (v := ?_) rfl (by kernel_rfl) (by kernel_rfl) (by kernel_rfl) (fun _ _ _ h => h) (Or.inl ⟨by rfl, fun W hW => ?_⟩) h0 ?_
  rotate_left
  ·clear hW
   go_simp
   try with_reducible rfl
  simp only [Act.put, List.getElem_toArray, List.getElem_cons_zero, List.getElem_cons_succ, List.setIfInBounds_toArray, List.set_cons_zero, List.set_cons_succ]
  refine wpAnyH_ready (rs := [7]) (by kernel_rfl) (by simp) (AllReadyH.cons rfl (fun K hK => ?_) AllReadyH.nil)
  go_simp
  refine (HCr.out _ _ (HBP.out.below h0)).mono ?_
  rintro e wx ⟨vx, rfl, ox, bx⟩
  have hx1 : Below w.heap.size w wx := h0.trans (bx.mono h0.size)
  refine hK.out _ _ hx1 (fun h1 => ?_)
  have HX : Hid (BRow wx vx F) := BRow.of_own ox
  obtain ⟨xo, xc, hvx⟩ := (BRow.of_own ox).slice
  rw [hF] at hvx
  subst hvx
  clear hK K ox bx h0 h1
  refine wpAnyH_ready (rs := [8]) (by kernel_rfl) (by simp) (AllReadyH.cons rfl (fun K hK => ?_) AllReadyH.nil)
  go_simp
  refine (HPx.out _ _ (HT.out _ hx1) HX.out).mono ?_
  rintro e wy ⟨rfl, rfl⟩
  refine hK.out _ _ hx1 (fun h1 => ?_)
  clear hK K h1 HX
  refine wpAnyH_take (i := 9) (v := ?_) rfl (by kernel_rfl) (by kernel_rfl) (by kernel_rfl) (fun _ _ _ h => h) (Or.inl ⟨by rfl, fun W hW => ?_⟩) hx1 ?_
  rotate_left
  ·clear hW
   go_simp
   try with_reducible rfl
  simp only [Act.put, List.getElem_toArray, List.getElem_cons_zero, List.getElem_cons_succ, List.setIfInBounds_toArray, List.set_cons_zero, List.set_cons_succ]
  refine wpAnyH_take (i := 10) (v := ?_) rfl (by kernel_rfl) (by kernel_rfl) (by kernel_rfl) (fun _ _ _ h => h) (Or.inl ⟨by rfl, fun W hW => ?_⟩) hx1 ?_
  rotate_left
  ·clear hW
   go_simp
   try with_reducible rfl
  simp only [Act.put, List.getElem_toArray, List.getElem_cons_zero, List.getElem_cons_succ, List.setIfInBounds_toArray, List.set_cons_zero, List.set_cons_succ]
  refine wpAnyH_done (by kernel_rfl) ?_ _
  cases d with
  | true =>
   have HPr : Hid (BRow wx (.slice po N pc) (partL l q N)) := HBP.out.below hx1
   have HO := hidB (implOwnBytes _ _ wx HPr.out hNl)
   clear HCr HPx HT
   go_wp2_with fail
   refine HO.out.mono ?_
   rintro e wz ⟨vz, rfl, oz, bz⟩
   have B1 : Below w.heap.size w wz := hx1.trans (bz.mono hx1.size)
   have oz2 := own_base oz hx1.size
   clear oz
   go_wp2
   go_ret3
   refine ⟨_, ?_, oz2, B1⟩
   simp [unfP, HS0.out]
  | false =>
   clear HCr HPx HT
   go_wp2
   go_ret3
   exact ⟨_, rfl, own_base (World.ownsRow_lit wx #[] 0 (Nat.le_refl _) (by decide) rfl) hx1.size, hx1.alloc hx1.size _⟩
end Go.Proofs.YtidecdlaeomfoaaGreat
