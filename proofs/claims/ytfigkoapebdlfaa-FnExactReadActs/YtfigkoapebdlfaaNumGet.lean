/- Contracts of impl.GetNum, spec.GetNum, impl.pieceAt, impl.GetText, spec.GetText. -/
import Derived.Test.YtfigkoapebdlfaaRows
import Derived.Test.YtfigkoapebdlfaaBytRow
import Derived.Test.YtfigkoapebdlfaaBits
import Derived.Lib.MinMax
import Derived.OwnWalk
namespace Go.Proofs.Ytfigkoapebdlfaa
open Go.RowKit
set_option linter.unusedVariables false

/-- What GetNum answers. -/
def getV : Option (Nat × Nat) → Value
  | none => .tuple #[.int .i64 0, .int .i64 0, .bool false]
  | some (n, q) => .tuple #[.int .i64 (n : Int), .int .i64 (q : Int), .bool true]

theorem getL_out {l : List UInt8} {p : Int} (h : p < 0 ∨ (l.length : Int) < p) : getL l p = none := if_pos h

theorem getL_in {l : List UInt8} {p : Nat} (h : p ≤ l.length) : getL l (p : Int) = (getA 5 0 0 (l.drop p)).map fun r => (r.1, p + r.2) := by
  unfold getL
  rw [if_neg (by omega), Int.toNat_natCast]

theorem getA_more {l : List UInt8} {p k acc c : Nat} (hk : k < 5) (hp : p + k < l.length) (hc : c = (l.getD (p + k) 0).toNat) (h : 128 ≤ c) :
    getA (5 - k) k acc (l.drop (p + k)) = getA (5 - (k + 1)) (k + 1) (acc + c % 128 * 128 ^ k) (l.drop (p + (k + 1))) := by
  have e : l.drop (p + k) = l.getD (p + k) 0 :: l.drop (p + (k + 1)) := by
    rw [List.drop_eq_getElem_cons hp]
    simp [List.getD, hp, Nat.add_assoc]
  subst hc
  rw [e, show 5 - k = 5 - (k + 1) + 1 by omega, getA, if_pos h]

theorem getA_stop {l : List UInt8} {p k acc c : Nat} (hk : k < 5) (hp : p + k < l.length) (hc : c = (l.getD (p + k) 0).toNat) (h : c < 128) :
    getA (5 - k) k acc (l.drop (p + k)) = if (c = 0 ∧ 0 < k) ∨ 1000000000 < acc + c * 128 ^ k then none else some (acc + c * 128 ^ k, k + 1) := by
  have e : l.drop (p + k) = l.getD (p + k) 0 :: l.drop (p + (k + 1)) := by
    rw [List.drop_eq_getElem_cons hp]
    simp [List.getD, hp, Nat.add_assoc]
  subst hc
  rw [e, show 5 - k = 5 - (k + 1) + 1 by omega, getA, if_neg (by omega), Nat.mod_eq_of_lt h]

theorem getA_end {l : List UInt8} {p k acc : Nat} (h : k = 5 ∨ l.length ≤ p + k) : getA (5 - k) k acc (l.drop (p + k)) = none := by
  rcases h with rfl | h
  · rfl
  · rw [List.drop_eq_nil_of_le h]
    cases 5 - k <;> rfl

theorem pow_seven (k : Nat) : (2 : Int) ^ (k * 7) = ((128 ^ k : Nat) : Int) := by
  rw [Nat.mul_comm, Int.pow_mul]
  norm_cast

theorem acc_next {acc r k : Nat} (h : acc < 128 ^ k) : acc + r % 128 * 128 ^ k < 128 ^ (k + 1) := by
  have h1 : r % 128 * 128 ^ k ≤ 127 * 128 ^ k := Nat.mul_le_mul_right _ (by omega)
  rw [pow_step]
  omega

theorem acc_top {acc r k : Nat} (hk : k < 5) (h : acc < 128 ^ k) : acc + r % 128 * 128 ^ k < 34359738368 :=
  Nat.lt_of_lt_of_le (acc_next h) (Nat.pow_le_pow_right (n := 128) (by omega) (show k + 1 ≤ 5 by omega))

theorem acc_wrap {acc r k : Nat} (hk : k < 5) (h : acc < 128 ^ k) : wrap64 ((acc : Int) + wrap64 ((r : Int) % 128 * 2 ^ (k * 7))) = ((acc + r % 128 * 128 ^ k : Nat) : Int) := by
  have h1 := acc_top (r := r) hk h
  have e : (r : Int) % 128 * 2 ^ (k * 7) = ((r % 128 * 128 ^ k : Nat) : Int) := by
    rw [pow_seven]
    norm_cast
  rw [e]
  generalize r % 128 * 128 ^ k = t at *
  unfold wrap64
  omega

set_option maxRecDepth 100000 in
set_option maxHeartbeats 4000000 in
theorem implGetNum (p : Int) (v : Value) (l : List UInt8) (w : World) (hin : BRow w v l) (hn : l.length ≤ 1099511627776) :
    Calls Try.prog 38 #[v, .int .i64 p] w fun e w' => e = .returned (getV (getL l p)) ∧ w = w' := by
  by_cases hout : p < 0 ∨ (l.length : Int) < p
  · rw [getL_out hout]
    obtain ⟨ao, cp, hv⟩ := hin.slice
    subst hv
    clear hin
    by_cases h1 : p < 0
    · clear hout
      go_enter Try.func38, Try.ntmps38
      go_wp2
      go_ret3
      exact ⟨rfl, rfl⟩
    · have h2 : (l.length : Int) < p := by omega
      clear hout
      go_enter Try.func38, Try.ntmps38
      go_wp2
      go_ret3
      exact ⟨rfl, rfl⟩
  · obtain ⟨P, rfl⟩ := Int.eq_ofNat_of_zero_le (show 0 ≤ p by omega)
    have hP : P ≤ l.length := by omega
    clear hout
    rw [getL_in hP]
    rcases hin with ⟨rfl, ao, cap, rfl⟩ | ⟨h0, b, off, cap, rfl, hb, hc⟩
    · have h0 : P = 0 := by simpa using hP
      subst h0
      have hm : min (0 : Int) 5 = 0 := by decide
      cases ao with
      | none =>
        go_enter Try.func38, Try.ntmps38
        go_wp2
        refine wp_loop_rounds 1 ?_
        rw [rounds_succ]
        go_wp2
        go_ret3
        exact ⟨rfl, rfl⟩
      | some a =>
        go_enter Try.func38, Try.ntmps38
        go_wp2
        refine wp_loop_rounds 1 ?_
        rw [rounds_succ]
        go_wp2
        go_ret3
        exact ⟨rfl, rfl⟩
    · have HC : Hid (∀ i, i < l.length → w.cell? ⟨b, off + i, none⟩ = some (.int .u8 ((l.getD i 0).toNat : Int))) := hc
      clear hc
      obtain ⟨n, hn0⟩ : ∃ n, n = l.length := ⟨_, rfl⟩
      have HL : Hid (n = l.length) := hn0
      rw [← hn0] at hn h0 hP ⊢
      clear hn0
      by_cases hPn : P = n
      · subst hPn
        have hm : min (P : Int) ((P : Int) + 5) = (P : Int) := by rw [Int.min_def]; split <;> omega
        have HE : Hid (getA 5 0 0 (l.drop P) = none) := by
          have := getA_end (l := l) (p := P) (k := 0) (acc := 0) (.inr (by have := HL.out; omega))
          exact this
        rw [HE.out]
        by_cases hE : P + cap = P
        · go_enter Try.func38, Try.ntmps38
          go_wp2
          refine wp_loop_rounds 1 ?_
          rw [rounds_succ]
          go_wp2
          go_ret3
          exact ⟨rfl, rfl⟩
        · go_enter Try.func38, Try.ntmps38
          go_wp2
          refine wp_loop_rounds 1 ?_
          rw [rounds_succ]
          go_wp2
          go_ret3
          exact ⟨rfl, rfl⟩
      · obtain ⟨c, hm, ⟨hc5, hcn⟩, HCn⟩ : ∃ c : Nat, min (n : Int) ((P : Int) + 5) = (P : Int) + (c : Int) ∧ (c ≤ 5 ∧ P + c ≤ n) ∧ Hid (c = 5 ∨ P + c = n) := by
          by_cases h5 : P + 5 ≤ n
          · exact ⟨5, by rw [Int.min_def]; split <;> omega, by omega, .inl rfl⟩
          · exact ⟨n - P, by rw [Int.min_def]; split <;> omega, by omega, .inr (by omega)⟩
        have hE : ¬ n + cap = P := by omega
        clear hPn
        obtain ⟨R, HR⟩ : ∃ R, Hid (R = getV ((getA 5 0 0 (l.drop P)).map fun r => (r.1, P + r.2))) := ⟨_, rfl⟩
        rw [← HR.out]
        go_enter Try.func38, Try.ntmps38
        go_wp2
        go_loop [7, 8, 9, 27] (fun a _ _ i => ∃ k acc : Nat, k ≤ c ∧ i = .int .i64 k ∧ a = .int .i64 (acc : Int) ∧ Hid (acc < 128 ^ k) ∧ Hid (R = getV ((getA (5 - k) k acc (l.drop (P + k))).map fun r => (r.1, P + r.2)))) (fun _ _ _ i => c - (intOf i).toNat)
        case atStart => exact ⟨0, 0, Nat.zero_le _, rfl, rfl, Nat.zero_lt_one, HR.out⟩
        case round =>
          obtain ⟨k, acc, hk, rfl, rfl, HA, HG⟩ := hrel
          by_cases hlt : k < c
          · have ca := HC.out (P + k) (by have := HL.out; omega)
            rw [← Nat.add_assoc] at ca
            have hr : (l.getD (P + k) 0).toNat < 256 := (l.getD (P + k) 0).toNat_lt
            have hacc : acc < 268435456 := Nat.lt_of_lt_of_le HA.out (Nat.pow_le_pow_right (by omega) (show k ≤ 4 by omega))
            have HM := fun h => getA_more (l := l) (p := P) (k := k) (acc := acc) (c := (l.getD (P + k) 0).toNat) (by omega) (by have := HL.out; omega) rfl h
            have HS := fun h => getA_stop (l := l) (p := P) (k := k) (acc := acc) (c := (l.getD (P + k) 0).toNat) (by omega) (by have := HL.out; omega) rfl h
            generalize (l.getD (P + k) 0).toNat = r at *
            have e0 := acc_wrap (r := r) (show k < 5 by omega) HA.out
            have ht := acc_top (r := r) (show k < 5 by omega) HA.out
            have HT : Hid (acc + r % 128 * 128 ^ k < 128 ^ (k + 1)) := acc_next HA.out
            by_cases h128 : 128 ≤ (r : Int)
            · have HR' : Hid (R = getV ((getA (5 - (k + 1)) (k + 1) (acc + r % 128 * 128 ^ k) (l.drop (P + (k + 1)))).map fun r => (r.1, P + r.2))) := by
                have := HG.out
                rw [HM (by omega)] at this
                exact this
              generalize acc + r % 128 * 128 ^ k = t at *
              clear HM HS HG HA HC
              go_wp2
              exact ⟨⟨k + 1, t, by omega, by go_num, congrArg _ e0, HT, HR'⟩, by simp [intOf]; omega⟩
            · have HR' : Hid (R = getV ((if (r = 0 ∧ 0 < k) ∨ 1000000000 < acc + r % 128 * 128 ^ k then none else some (acc + r % 128 * 128 ^ k, k + 1)).map fun r => (r.1, P + r.2))) := by
                have := HG.out
                rw [HS (by omega)] at this
                rw [Nat.mod_eq_of_lt (show r < 128 by omega)]
                exact this
              clear HM HS HG HC HT
              by_cases hz : r = 0 ∧ k = 0
              · obtain ⟨rfl, rfl⟩ := hz
                have h1 : acc = 0 := by have := HA.out; simpa using this
                subst h1
                have HX : Hid (R = getV (some (0, P + 1))) := HR'.out
                clear HR' HA e0 ht
                simp only [Nat.add_zero] at ca
                go_wp2
                go_ret3
                exact ⟨by rw [HX.out]; rfl, rfl⟩
              · generalize acc + r % 128 * 128 ^ k = t at *
                clear HA
                by_cases hrk : r = 0 ∧ 0 < k
                · have HX : Hid (R = getV none) := by
                    have := HR'.out
                    rw [if_pos (.inl hrk)] at this
                    exact this
                  clear HR' hz
                  obtain ⟨rfl, hk0⟩ := hrk
                  go_wp2
                  go_ret3
                  exact ⟨by rw [HX.out]; rfl, rfl⟩
                · have hr1 : ¬ (r : Int) = 0 := by omega
                  by_cases hbig : 1000000000 < t
                  · have HX : Hid (R = getV none) := by
                      have := HR'.out
                      rw [if_pos (.inr hbig)] at this
                      exact this
                    clear HR' hz hrk
                    have hbig2 : 1000000000 < wrap64 ((acc : Int) + wrap64 ((r : Int) % 128 * 2 ^ (k * 7))) := by rw [e0]; omega
                    go_wp2
                    go_ret3
                    exact ⟨by rw [HX.out]; rfl, rfl⟩
                  · have HX : Hid (R = getV (some (t, P + (k + 1)))) := by
                      have := HR'.out
                      rw [if_neg (by omega)] at this
                      exact this
                    clear HR' hz hrk
                    have hsm2 : ¬ 1000000000 < wrap64 ((acc : Int) + wrap64 ((r : Int) % 128 * 2 ^ (k * 7))) := by rw [e0]; omega
                    go_wp2
                    go_ret3
                    exact ⟨by rw [HX.out]; simp [getV]; omega, rfl⟩
          · have HX : Hid (R = getV none) := by
              have := HG.out
              rw [getA_end (by have := HCn.out; have := HL.out; omega)] at this
              exact this
            clear HG HA HC
            go_wp2
            go_ret3
            exact ⟨by rw [HX.out]; rfl, rfl⟩

theorem or_acc {acc q k : Nat} (hk : k < 5) (h : acc < 128 ^ k) (hq : q < 128) : bits .or .i64 (acc : Int) (wrap64 ((q : Int) * 2 ^ (7 * k))) = ((acc + q * 128 ^ k : Nat) : Int) := by
  have h1 := acc_top (r := q) hk h
  rw [Nat.mod_eq_of_lt hq] at h1
  have e : (q : Int) * 2 ^ (7 * k) = ((q * 128 ^ k : Nat) : Int) := by
    rw [Nat.mul_comm 7 k, pow_seven]
    norm_cast
  have hm : q * 128 ^ k % 128 ^ k = 0 := Nat.mul_mod_left _ _
  have hp : 128 ^ k = 2 ^ (7 * k) := by rw [Nat.pow_mul]
  rw [e]
  rw [hp] at hm h h1 ⊢
  generalize q * 2 ^ (7 * k) = t at *
  have h2 : t < 34359738368 := by omega
  have h3 : acc < 34359738368 := by omega
  have ew : wrap64 (t : Int) = (t : Int) := by unfold wrap64; omega
  have c1 := i64_or_nat acc t (by omega) (by omega)
  have c2 := i64_or_nat t acc (by omega) (by omega)
  have c3 := i64_join (7 * k) (t : Int) (acc : Int) (by omega) (by omega) (by simpa using hm) (by omega) (by omega) (by simpa using h)
  rw [ew, c1, Nat.or_comm, ← c2, c3]
  omega

theorem i64_low127 (r : Nat) (h : r < 256) : bits .and .i64 (r : Int) 127 = ((r % 128 : Nat) : Int) := by
  rw [show (127 : Int) = ((127 : Nat) : Int) from rfl, i64_and_nat r 127 (by omega) (by omega), show 127 = 2 ^ 7 - 1 from rfl, Nat.and_two_pow_sub_one_eq_mod]

set_option maxRecDepth 100000 in
set_option maxHeartbeats 4000000 in
theorem specGetNum (p : Int) (v : Value) (l : List UInt8) (w : World) (hin : BRow w v l) (hn : l.length ≤ 1099511627776) :
    Calls Try.prog 36 #[v, .int .i64 p] w fun e w' => e = .returned (getV (getL l p)) ∧ w = w' := by
  by_cases h1 : p < 0
  · rw [getL_out (.inl h1)]
    obtain ⟨ao, cp, hv⟩ := hin.slice
    subst hv
    clear hin
    go_enter Try.func36, Try.ntmps36
    go_wp2
    refine wp_loop_rounds 1 ?_
    rw [rounds_succ]
    go_wp2
    go_ret3
    exact ⟨rfl, rfl⟩
  · by_cases h2 : (l.length : Int) ≤ p
    · have he : getL l p = none := by
        by_cases h3 : (l.length : Int) < p
        · exact getL_out (.inr h3)
        · have h4 : p = (l.length : Int) := by omega
          subst h4
          rw [getL_in (Nat.le_refl _)]
          have := getA_end (l := l) (p := l.length) (k := 0) (acc := 0) (.inr (by omega))
          rw [show getA 5 0 0 (l.drop l.length) = none from this]
          rfl
      rw [he]
      obtain ⟨ao, cp, hv⟩ := hin.slice
      subst hv
      clear hin he
      go_enter Try.func36, Try.ntmps36
      go_wp2
      refine wp_loop_rounds 1 ?_
      rw [rounds_succ]
      go_wp2
      go_ret3
      exact ⟨rfl, rfl⟩
    · obtain ⟨P, rfl⟩ := Int.eq_ofNat_of_zero_le (show 0 ≤ p by omega)
      have hP : P < l.length := by omega
      clear h1 h2
      rw [getL_in (Nat.le_of_lt hP)]
      rcases hin with ⟨rfl, ao, cap, rfl⟩ | ⟨h0, b, off, cap, rfl, hb, hc⟩
      · simp at hP
      · have HC : Hid (∀ i, i < l.length → w.cell? ⟨b, off + i, none⟩ = some (.int .u8 ((l.getD i 0).toNat : Int))) := hc
        clear hc
        obtain ⟨n, hn0⟩ : ∃ n, n = l.length := ⟨_, rfl⟩
        have HL : Hid (n = l.length) := hn0
        rw [← hn0] at hn h0 hP ⊢
        clear hn0
        obtain ⟨R, HR⟩ : ∃ R, Hid (R = getV ((getA 5 0 0 (l.drop P)).map fun r => (r.1, P + r.2))) := ⟨_, rfl⟩
        rw [← HR.out]
        go_enter Try.func36, Try.ntmps36
        go_wp2
        go_loop [7, 8, 9] (fun a i _ => ∃ k acc : Nat, k ≤ 5 ∧ i = .int .i64 k ∧ a = .int .i64 (acc : Int) ∧ Hid (acc < 128 ^ k) ∧ Hid (R = getV ((getA (5 - k) k acc (l.drop (P + k))).map fun r => (r.1, P + r.2)))) (fun _ i _ => 5 - (intOf i).toNat)
        case atStart => exact ⟨0, 0, Nat.zero_le _, rfl, rfl, Nat.zero_lt_one, HR.out⟩
        case round =>
          obtain ⟨k, acc, hk, rfl, rfl, HA, HG⟩ := hrel
          by_cases h5 : (k : Int) < 5
          · by_cases hlt : (P : Int) + k < n
            · have ca := HC.out (P + k) (by have := HL.out; omega)
              have hr : (l.getD (P + k) 0).toNat < 256 := (l.getD (P + k) 0).toNat_lt
              have hacc : acc < 268435456 := Nat.lt_of_lt_of_le HA.out (Nat.pow_le_pow_right (by omega) (show k ≤ 4 by omega))
              have HM := fun h => getA_more (l := l) (p := P) (k := k) (acc := acc) (c := (l.getD (P + k) 0).toNat) (by omega) (by have := HL.out; omega) rfl h
              have HS := fun h => getA_stop (l := l) (p := P) (k := k) (acc := acc) (c := (l.getD (P + k) 0).toNat) (by omega) (by have := HL.out; omega) rfl h
              generalize (l.getD (P + k) 0).toNat = r at *
              have e1 := i64_low127 r hr
              have e0 := or_acc (q := r % 128) (show k < 5 by omega) HA.out (by omega)
              have ht := acc_top (r := r) (show k < 5 by omega) HA.out
              have HT : Hid (acc + r % 128 * 128 ^ k < 128 ^ (k + 1)) := acc_next HA.out
              by_cases h128 : 127 < (r : Int)
              · have HR' : Hid (R = getV ((getA (5 - (k + 1)) (k + 1) (acc + r % 128 * 128 ^ k) (l.drop (P + (k + 1)))).map fun r => (r.1, P + r.2))) := by
                  have := HG.out
                  rw [HM (by omega)] at this
                  exact this
                generalize acc + r % 128 * 128 ^ k = t at *
                generalize r % 128 = q at *
                clear HM HS HG HA HC
                go_wp2
                exact ⟨⟨k + 1, t, by omega, by go_num, rfl, HT, HR'⟩, by simp [intOf]; omega⟩
              · have HR' : Hid (R = getV ((if (r = 0 ∧ 0 < k) ∨ 1000000000 < acc + r % 128 * 128 ^ k then none else some (acc + r % 128 * 128 ^ k, k + 1)).map fun r => (r.1, P + r.2))) := by
                  have := HG.out
                  rw [HS (by omega)] at this
                  rw [Nat.mod_eq_of_lt (show r < 128 by omega)]
                  exact this
                clear HM HS HG HC HT
                generalize acc + r % 128 * 128 ^ k = t at *
                generalize r % 128 = q at *
                by_cases hrk : r = 0 ∧ 0 < k
                · have HX : Hid (R = getV none) := by
                    have := HR'.out
                    rw [if_pos (.inl hrk)] at this
                    exact this
                  clear HR'
                  obtain ⟨rfl, hk0⟩ := hrk
                  go_wp2
                  go_ret3
                  exact ⟨by rw [HX.out]; rfl, rfl⟩
                · by_cases hbig : 1000000000 < (t : Int)
                  · have HX : Hid (R = getV none) := by
                      have := HR'.out
                      rw [if_pos (.inr (by omega))] at this
                      exact this
                    clear HR'
                    by_cases hk0 : 0 < (k : Int)
                    · have hr1 : ¬ (r : Int) = 0 := by omega
                      clear hrk
                      go_wp2
                      go_ret3
                      exact ⟨by rw [HX.out]; rfl, rfl⟩
                    · clear hrk
                      go_wp2
                      go_ret3
                      exact ⟨by rw [HX.out]; rfl, rfl⟩
                  · have HX : Hid (R = getV (some (t, P + (k + 1)))) := by
                      have := HR'.out
                      rw [if_neg (by omega)] at this
                      exact this
                    clear HR'
                    by_cases hk0 : 0 < (k : Int)
                    · have hr1 : ¬ (r : Int) = 0 := by omega
                      clear hrk
                      go_wp2
                      go_ret3
                      exact ⟨by rw [HX.out]; simp [getV, Int.add_assoc], rfl⟩
                    · clear hrk
                      go_wp2
                      go_ret3
                      exact ⟨by rw [HX.out]; simp [getV, Int.add_assoc], rfl⟩
            · have HX : Hid (R = getV none) := by
                have := HG.out
                rw [getA_end (.inr (by have := HL.out; omega))] at this
                exact this
              clear HG HA HC
              go_wp2
              go_ret3
              exact ⟨by rw [HX.out]; rfl, rfl⟩
          · have HX : Hid (R = getV none) := by
              have := HG.out
              rw [getA_end (.inl (by omega))] at this
              exact this
            clear HG HA HC
            go_wp2
            go_ret3
            exact ⟨by rw [HX.out]; rfl, rfl⟩

/-- What pieceAt answers. -/
def PieceB (w : World) (l : List UInt8) (r : Option (Nat × Nat)) (e : Ending) : Prop :=
  match r with
  | none => e = .returned (.tuple #[.slice none 0 0, .int .i64 0, .bool false])
  | some (q, n) => ∃ v, e = .returned (.tuple #[v, .int .i64 ((q + n : Nat) : Int), .bool true]) ∧ BRow w v (partL l q n)

set_option maxRecDepth 100000 in
set_option maxHeartbeats 4000000 in
theorem implPieceAt (p : Int) (v : Value) (l : List UInt8) (w : World) (hin : BRow w v l) (hn : l.length ≤ 1099511627776) :
    Calls Try.prog 47 #[v, .int .i64 p] w fun e w' => PieceB w l (pieceL l p) e ∧ w = w' := by
  have HG := implGetNum p v l w hin hn
  cases hg : getL l p with
  | none =>
    have hp : pieceL l p = none := by unfold pieceL; rw [hg]
    rw [hg] at HG
    rw [hp]
    obtain ⟨ao, cp, hv⟩ := hin.slice
    subst hv
    clear hin hp hg
    go_enter Try.func47, Try.ntmps47
    go_wp2_with fail
    refine HG.mono ?_
    rintro e w1 ⟨rfl, rfl⟩
    unfold getV
    go_wp2
    go_ret3
    exact ⟨rfl, rfl⟩
  | some r =>
    obtain ⟨N, q⟩ := r
    obtain ⟨hN, hp0, hpq, hq⟩ := getL_le hg
    rw [hg] at HG
    by_cases hbig : l.length - q < N
    · have hp : pieceL l p = none := by unfold pieceL; rw [hg]; exact if_pos hbig
      rw [hp]
      obtain ⟨ao, cp, hv⟩ := hin.slice
      subst hv
      have hb2 : (l.length : Int) - q < N := by omega
      clear hin hp hg hbig
      go_enter Try.func47, Try.ntmps47
      go_wp2_with fail
      refine HG.mono ?_
      rintro e w1 ⟨rfl, rfl⟩
      unfold getV
      go_wp2
      go_ret3
      exact ⟨rfl, rfl⟩
    · have hp : pieceL l p = some (q, N) := by unfold pieceL; rw [hg]; exact if_neg hbig
      rw [hp]
      rcases hin with ⟨rfl, _⟩ | ⟨h0, b, off, cap, rfl, hb, hc⟩
      · simp at hq; omega
      · have HP : Hid (∀ m c, m = N → N ≤ c → BRow w (.slice (some ⟨b, off + q, none⟩) m c) (partL l q N)) := fun m c e h => e ▸ BRow.part hb hc (a := q) (n := N) (by omega) h rfl
        have HP0 : Hid (N = 0 → ∀ (a : Option Addr) (c : Nat), BRow w (.slice a 0 c) (partL l q N)) := fun h a c => .inl ⟨List.eq_nil_of_length_eq_zero (by rw [partL_len (by omega)]; exact h), _, _, rfl⟩
        obtain ⟨n, hn0⟩ : ∃ n, n = l.length := ⟨_, rfl⟩
        rw [← hn0] at hn hq hbig ⊢
        have HG2 : Calls Try.prog 38 #[.slice (some ⟨b, off, none⟩) n (n + cap), .int .i64 p] w fun e w' => e = .returned (getV (some (N, q))) ∧ w = w' := by rw [hn0]; exact HG
        clear hn0 hp hg hc HG h0
        by_cases hE : n + cap = q
        · have hN0 : N = 0 := by omega
          have hc0 : cap = 0 := by omega
          have hq0 : q = n := by omega
          subst hN0 hc0 hq0
          clear hE hbig
          go_enter Try.func47, Try.ntmps47
          go_wp2_with fail
          refine HG2.mono ?_
          rintro e w1 ⟨rfl, rfl⟩
          unfold getV
          go_wp2
          go_ret3
          exact ⟨⟨_, rfl, HP0.out (by simp) _ _⟩, rfl⟩
        · have hb2 : ¬ (n : Int) - q < N := by omega
          go_enter Try.func47, Try.ntmps47
          go_wp2_with fail
          refine HG2.mono ?_
          rintro e w1 ⟨rfl, rfl⟩
          unfold getV
          go_wp2
          go_ret3
          refine ⟨⟨_, rfl, ?_⟩, rfl⟩
          exact HP.out (q + N - q) (n + cap - q) (by omega) (by omega)

/-- What GetText answers. -/
def textV (l : List UInt8) : Option (Nat × Nat) → Value
  | none => .tuple #[.string ⟨#[]⟩, .int .i64 0, .bool false]
  | some (q, n) => .tuple #[.string ⟨(partL l q n).toArray⟩, .int .i64 ((q + n : Nat) : Int), .bool true]

set_option maxHeartbeats 1000000 in
theorem implGetText (p : Int) (v : Value) (l : List UInt8) (w : World) (hin : BRow w v l) (hn : l.length ≤ 1099511627776) :
    Calls Try.prog 39 #[v, .int .i64 p] w fun e w' => e = .returned (textV l (pieceL l p)) ∧ w = w' := by
  have HG := implPieceAt p v l w hin hn
  obtain ⟨ao, cp, hv⟩ := hin.slice
  subst hv
  clear hin
  cases hp : pieceL l p with
  | none =>
    rw [hp] at HG
    clear hp
    go_enter Try.func39, Try.ntmps39
    go_wp2_with fail
    refine HG.mono ?_
    rintro e w1 ⟨he, rfl⟩
    replace he : e = .returned (.tuple #[.slice none 0 0, .int .i64 0, .bool false]) := he
    subst he
    have hcv := run_string_row (P := Try.prog) (v := .slice none 0 0) (l := []) w 29 9 5 Try.underlying29 Try.underlying5 Try.underlying9 (.inl ⟨rfl, _, _, rfl⟩)
    go_wp2
    go_ret3
    exact ⟨rfl, rfl⟩
  | some r =>
    obtain ⟨q, N⟩ := r
    rw [hp] at HG
    clear hp
    go_enter Try.func39, Try.ntmps39
    go_wp2_with fail
    refine HG.mono ?_
    rintro e w1 ⟨⟨vp, rfl, hb⟩, rfl⟩
    have hcv := run_string_row (P := Try.prog) w 29 9 5 Try.underlying29 Try.underlying5 Try.underlying9 hb
    obtain ⟨bo, cb, hvb⟩ := hb.slice
    subst hvb
    clear hb
    go_wp2
    go_ret3
    exact ⟨rfl, rfl⟩

set_option maxRecDepth 100000 in
set_option maxHeartbeats 4000000 in
theorem specGetText (p : Int) (v : Value) (l : List UInt8) (w : World) (hin : BRow w v l) (hn : l.length ≤ 1099511627776) :
    Calls Try.prog 37 #[v, .int .i64 p] w fun e w' => e = .returned (textV l (pieceL l p)) ∧ w = w' := by
  have HG := specGetNum p v l w hin hn
  cases hg : getL l p with
  | none =>
    have hp : pieceL l p = none := by unfold pieceL; rw [hg]
    rw [hg] at HG
    rw [hp]
    obtain ⟨ao, cp, hv⟩ := hin.slice
    subst hv
    clear hin hp hg
    go_enter Try.func37, Try.ntmps37
    go_wp2_with fail
    refine HG.mono ?_
    rintro e w1 ⟨rfl, rfl⟩
    unfold getV
    go_wp2
    go_ret3
    exact ⟨rfl, rfl⟩
  | some r =>
    obtain ⟨N, q⟩ := r
    obtain ⟨hN, hp0, hpq, hq⟩ := getL_le hg
    rw [hg] at HG
    by_cases hbig : l.length - q < N
    · have hp : pieceL l p = none := by unfold pieceL; rw [hg]; exact if_pos hbig
      rw [hp]
      obtain ⟨ao, cp, hv⟩ := hin.slice
      subst hv
      have hb2 : (l.length : Int) - q < N := by omega
      clear hin hp hg hbig
      go_enter Try.func37, Try.ntmps37
      go_wp2_with fail
      refine HG.mono ?_
      rintro e w1 ⟨rfl, rfl⟩
      unfold getV
      go_wp2
      go_ret3
      exact ⟨rfl, rfl⟩
    · have hp : pieceL l p = some (q, N) := by unfold pieceL; rw [hg]; exact if_neg hbig
      rw [hp]
      rcases hin with ⟨rfl, _⟩ | ⟨h0, b, off, cap, rfl, hb, hc⟩
      · simp at hq; omega
      · have HP : Hid (∀ m c, m = N → N ≤ c → BRow w (.slice (some ⟨b, off + q, none⟩) m c) (partL l q N)) := fun m c e h => e ▸ BRow.part hb hc (a := q) (n := N) (by omega) h rfl
        have HP0 : Hid (N = 0 → ∀ (a : Option Addr) (c : Nat), BRow w (.slice a 0 c) (partL l q N)) := fun h a c => .inl ⟨List.eq_nil_of_length_eq_zero (by rw [partL_len (by omega)]; exact h), _, _, rfl⟩
        obtain ⟨n, hn0⟩ : ∃ n, n = l.length := ⟨_, rfl⟩
        rw [← hn0] at hn hq hbig ⊢
        have HG2 : Calls Try.prog 36 #[.slice (some ⟨b, off, none⟩) n (n + cap), .int .i64 p] w fun e w' => e = .returned (getV (some (N, q))) ∧ w = w' := by rw [hn0]; exact HG
        clear hn0 hp hg hc HG h0
        by_cases hE : n + cap = q
        · have hN0 : N = 0 := by omega
          have hc0 : cap = 0 := by omega
          have hq0 : q = n := by omega
          have HS : Hid (partL l q N = []) := by show _ = _; subst hN0; simp [partL]
          rw [show textV l (some (q, N)) = .tuple #[.string ⟨#[]⟩, .int .i64 ((q + N : Nat) : Int), .bool true] by show Value.tuple #[.string ⟨(partL l q N).toArray⟩, _, _] = _; rw [HS.out]]
          subst hN0 hc0 hq0
          clear hE hbig HP HP0 HS
          have hcv := run_string_row (P := Try.prog) (v := .slice (some ⟨b, off, none⟩) 0 0) (l := []) w 29 9 5 Try.underlying29 Try.underlying5 Try.underlying9 (.inl ⟨rfl, _, _, rfl⟩)
          go_enter Try.func37, Try.ntmps37
          go_wp2_with fail
          refine HG2.mono ?_
          rintro e w1 ⟨rfl, rfl⟩
          unfold getV
          go_wp2
          go_ret3
          exact ⟨rfl, rfl⟩
        · have hb2 : ¬ (n : Int) - q < N := by omega
          have hcv := run_string_row (P := Try.prog) w 29 9 5 Try.underlying29 Try.underlying5 Try.underlying9 (HP.out N (n + cap - q) rfl (by omega))
          go_enter Try.func37, Try.ntmps37
          go_wp2_with fail
          refine HG2.mono ?_
          rintro e w1 ⟨rfl, rfl⟩
          unfold getV
          go_wp2
          go_ret3
          exact ⟨rfl, rfl⟩
end Go.Proofs.Ytfigkoapebdlfaa
