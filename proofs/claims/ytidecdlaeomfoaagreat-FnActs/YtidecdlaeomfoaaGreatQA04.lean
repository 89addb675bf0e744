/- PunyEnc. -/
import Derived.Test.YtidecdlaeomfoaaGreatQA03
set_option maxHeartbeats 4000000
set_option maxRecDepth 20000
namespace Go.Proofs.YtidecdlaeomfoaaGreat
open Go.RowKit
def b8 (l : List Nat) : List UInt8 := l.map UInt8.ofNat
theorem b8_append (a b : List Nat) : b8 (a ++ b) = b8 a ++ b8 b := List.map_append
theorem b8_length (a : List Nat) : (b8 a).length = a.length := List.length_map _
theorem own_nat {w1 : World} {B : Nat} {e : TypeId} {v : Value} {o : List Nat} {x : Int} (c : Nat) (hc : c < 256) (hx : x = (c : Int))
  (h : w1.ownsRow B e 1 v (o.length + 1) (bcells (b8 o) ++ #[Value.int .u8 x].toList)) : w1.ownsRow B e 1 v (o ++ [c]).length (bcells (b8 (o ++ [c]))) := by
 subst hx
 have e1 : ((UInt8.ofNat c).toNat : Int) = (c : Int) := by simp; omega
 rw [b8_append, bcells_append, List.length_append]
 show w1.ownsRow B e 1 v (o.length + 1) (bcells (b8 o) ++ [Value.int .u8 ((UInt8.ofNat c).toNat : Int)])
 rw [e1]
 exact h
theorem byte_one' (x : Int) : ∀ u ∈ #[Value.int .u8 x].toList, u.oneCell' = true := by
 intro u hu; simp at hu; subst hu; rfl
theorem specDigit (n : Nat) (w : World) (h : (n : Int) < 36) :
  Calls Tryz.prog 102 #[.int .i64 (n : Int)] w fun e w' => e = .returned (.int .u8 (digB n : Int)) ∧ w = w' := by
 by_cases h1 : (n : Int) < 26
 ·have HV : Hid ((digB n : Int) = 97 + n) := by show _ = _; unfold digB; rw [if_pos (by omega)]; omega
  go_enter Tryz.func102, Tryz.ntmps102
  go_wp2
  go_ret
  exact ⟨ret_int (by rw [HV.out] <;> omega), rfl⟩
 have HV : Hid ((digB n : Int) = 22 + n) := by show _ = _; unfold digB; rw [if_neg (by omega)]; omega
 go_enter Tryz.func102, Tryz.ntmps102
 go_wp2
 go_ret
 exact ⟨ret_int (by rw [HV.out] <;> omega), rfl⟩
theorem specLimit (k bias : Nat) (w : World) (h1 : (k : Int) ≤ 1099511627776) (h2 : (bias : Int) ≤ 1099511627776) :
  Calls Tryz.prog 101 #[.int .i64 (k : Int), .int .i64 (bias : Int)] w fun e w' => e = .returned (.int .i64 (limN k bias : Int)) ∧ w = w' := by
 have hk : 0 ≤ (k : Int) := by omega
 have hb : 0 ≤ (bias : Int) := by omega
 by_cases h3 : (k : Int) - (bias : Int) < 1
 ·have HV : Hid (limN k bias = 1) := by show _ = _; unfold limN; rw [if_pos (by omega)]
  go_enter Tryz.func101, Tryz.ntmps101
  go_wp2
  go_ret
  exact ⟨ret_int (by rw [HV.out] <;> omega), rfl⟩
 by_cases h4 : 26 < (k : Int) - (bias : Int)
 ·have HV : Hid (limN k bias = 26) := by show _ = _; unfold limN; rw [if_neg (by omega), if_pos (by omega)]
  go_enter Tryz.func101, Tryz.ntmps101
  go_wp2
  go_ret
  exact ⟨ret_int (by rw [HV.out] <;> omega), rfl⟩
 have HV : Hid (limN k bias = k - bias) := by show _ = _; unfold limN; rw [if_neg (by omega), if_neg (by omega)]
 go_enter Tryz.func101, Tryz.ntmps101
 go_wp2
 go_ret
 exact ⟨ret_int (by rw [HV.out] <;> omega), rfl⟩
theorem numF_end {f k bias q : Nat} (h : q < limN k bias) : numF (f + 1) k bias q = [q] := by rw [numF, if_pos h]
theorem numF_more {f k bias q : Nat} (hq : q < 2 ^ f) (h : ¬ q < limN k bias) : ∃ g, f = g + 1 ∧ (q - limN k bias) / (36 - limN k bias) < 2 ^ g ∧
  numF (f + 1) k bias q = (limN k bias + (q - limN k bias) % (36 - limN k bias)) :: numF (g + 1) (k + 36) bias ((q - limN k bias) / (36 - limN k bias)) := by
 obtain ⟨l1, l2⟩ := lim_le k bias
 cases f with
 | zero => simp at hq; omega
 | succ g => exact ⟨g, rfl, num_less q _ g l1 l2 hq, by rw [numF, if_neg h]⟩
theorem specNumber (q0 bias : Nat) (o0 : List Nat) (v0 : Value) (B : Nat) (w : World) (hq : (q0 : Int) ≤ 67960831) (hb : (bias : Int) ≤ 2400) (hown0 : w.ownsRow B 5 1 v0 o0.length (bcells (b8 o0))) (hB : B ≤ w.heap.size) (ho : o0.length ≤ 1099511627776) :
  Calls Tryz.prog 98 #[v0, .int .i64 (q0 : Int), .int .i64 (bias : Int)] w fun e w' => ∃ v', e = .returned v' ∧ w'.ownsRow B 5 1 v' (o0 ++ (numF 28 36 bias q0).map digB).length (bcells (b8 (o0 ++ (numF 28 36 bias q0).map digB))) ∧ Below B w w' := by
 have hb0 : 0 ≤ (bias : Int) := by omega
 have HP : Hid (q0 < 2 ^ 27) := by
  show _ < _
  have : (2 : Nat) ^ 27 = 134217728 := by decide
  omega
 go_enter Tryz.func98, Tryz.ntmps98
 go_wp2_with fail
 go_loopw [0, 1, 7] (fun v a b wr => ∃ (f q k : Nat) (o : List Nat), a = .int .i64 q ∧ b = .int .i64 k ∧ q ≤ q0 ∧ k + 36 * f = 36 * 28 ∧ q < 2 ^ f ∧ o.length + f ≤ o0.length + 27 ∧ o ++ (numF (f + 1) k bias q).map digB = o0 ++ (numF 28 36 bias q0).map digB ∧ wr.ownsRow B 5 1 v o.length (bcells (b8 o)) ∧ Below B w wr) (fun _ a _ _ => (intOf a).toNat)
 case atStart => exact ⟨27, q0, 36, o0, rfl, rfl, Nat.le_refl _, rfl, HP.out, by omega, rfl, hown0, Below.refl _ _⟩
 obtain ⟨f, q, k, o, rfl, rfl, hq1, hk, hf, hol, he, hown, hbel⟩ := hrel
 have HE : Hid (o ++ (numF (f + 1) k bias q).map digB = o0 ++ (numF 28 36 bias q0).map digB) := he
 have HF : Hid (q < 2 ^ f) := hf
 have hsz := hbel.size
 obtain ⟨l1, l2⟩ := lim_le k bias
 have ct := fun W => specLimit k bias W (by omega) (by omega)
 clear he hf
 by_cases hlt : q < limN k bias
 ·have HR : Hid (o ++ [digB q] = o0 ++ (numF 28 36 bias q0).map digB) := by show _ = _; rw [← HE.out, numF_end hlt]; rfl
  have cd := fun W => specDigit q W (by omega)
  have hdl := (dig_lt (show q < 36 by omega)).1
  generalize limN k bias = t at ct l1 l2 hlt
  generalize digB q = c at cd HR hdl
  have CT : Hid (∀ W, CS 101 #[.int .i64 (k : Int), .int .i64 (bias : Int)] W (.int .i64 (t : Int))) := ct
  have CD : Hid (∀ W, CS 102 #[.int .i64 (q : Int)] W (.int .u8 (c : Int))) := cd
  have hqt : (q : Int) < (t : Int) := by omega
  clear ct cd
  go_wp2_with fail
  refine (CT.out _).mono ?_
  rintro e w' ⟨rfl, rfl⟩
  go_wp2_with fail
  refine (CD.out _).mono ?_
  rintro e w' ⟨rfl, rfl⟩
  go_wp2_with (at_builtin; refine wpList_append_new _ rfl _ _ 22 rfl B 5 (.int .u8 0) 1 Tryz.underlying22 Tryz.info5 rfl _ _ _ rfl hown #[.int .u8 (c : Int)] 1 rfl rfl (byte_one' _) (by omega) (by unfold maxLen; omega) (by omega) ?_)
  intro v' w1 hown' hb1
  have R := own_nat c (by omega) rfl hown'
  rw [HR.out] at R
  clear hown'
  go_wp2_with fail
  go_ret
  exact ⟨_, rfl, R, hbel.trans hb1⟩
 obtain ⟨g, hg, hl, hnum⟩ := numF_more (k := k) (bias := bias) HF.out hlt
 have hm : (q - limN k bias) % (36 - limN k bias) < 36 - limN k bias := Nat.mod_lt _ (by omega)
 have hdv : (q - limN k bias) / (36 - limN k bias) ≤ (q - limN k bias) := Nat.div_le_self _ _
 have HR : Hid ((o ++ [digB (limN k bias + (q - limN k bias) % (36 - limN k bias))]) ++ (numF (g + 1) (k + 36) bias ((q - limN k bias) / (36 - limN k bias))).map digB = o0 ++ (numF 28 36 bias q0).map digB) := by
  show _ = _
  rw [← HE.out, hnum]
  simp
 have HL : Hid ((q - limN k bias) / (36 - limN k bias) < 2 ^ g) := hl
 clear hnum hl
 generalize limN k bias = t at ct l1 l2 hlt HR HL hm hdv
 have hqt : ¬ (q : Int) < (t : Int) := by omega
 have hc1 : ((q - t : Nat) : Int) = (q : Int) - (t : Int) := by omega
 have hc2 : ((36 - t : Nat) : Int) = 36 - (t : Int) := by omega
 have hM : ((q : Int) - (t : Int)) % (36 - (t : Int)) = (((q - t) % (36 - t) : Nat) : Int) := by rw [← hc1, ← hc2]; norm_cast
 have hQ : ((q : Int) - (t : Int)) / (36 - (t : Int)) = (((q - t) / (36 - t) : Nat) : Int) := by rw [← hc1, ← hc2]; norm_cast
 generalize (q - t) % (36 - t) = m at hM HR hm
 generalize (q - t) / (36 - t) = q' at hQ HR HL hdv
 have cd := fun W => specDigit (t + m) W (by omega)
 have hdl := (dig_lt (show t + m < 36 by omega)).1
 generalize digB (t + m) = c at cd HR hdl
 have hne : ¬ 36 - (t : Int) = 0 := by omega
 have ht0 : 1 ≤ (t : Int) := by omega
 have ht1 : (t : Int) ≤ 26 := by omega
 have hm0 : (m : Int) < 36 - (t : Int) := by omega
 have CT : Hid (∀ W, CS 101 #[.int .i64 (k : Int), .int .i64 (bias : Int)] W (.int .i64 (t : Int))) := ct
 have CD : Hid (∀ W, CS 102 #[.int .i64 ((t : Int) + (m : Int))] W (.int .u8 (c : Int))) := fun W => by
  have h := cd W
  rw [show ((t + m : Nat) : Int) = (t : Int) + (m : Int) by omega] at h
  exact h
 clear ct cd hc1 hc2
 go_wp2_with fail
 refine (CT.out _).mono ?_
 rintro e w' ⟨rfl, rfl⟩
 go_wp2_with fail
 refine (CD.out _).mono ?_
 rintro e w' ⟨rfl, rfl⟩
 go_wp2_with (at_builtin; refine wpList_append_new _ rfl _ _ 22 rfl B 5 (.int .u8 0) 1 Tryz.underlying22 Tryz.info5 rfl _ _ _ rfl hown #[.int .u8 (c : Int)] 1 rfl rfl (byte_one' _) (by omega) (by unfold maxLen; omega) (by omega) ?_)
 intro v' w1 hown' hb1
 have R := own_nat c (by omega) rfl hown'
 have B1 : Below B w w1 := hbel.trans hb1
 clear hown' hb1 hown hbel
 go_wp2_with fail
 go_roundw
 case rel => exact ⟨g, q', k + 36, o ++ [c], by go_num, by go_num, by omega, by omega, HL.out, by simp; omega, HR.out, R, B1⟩
 case measure => simp [intOf]; omega
def leastL (n : Nat) : Nat → List Nat → Nat
 | m, [] => m
 | m, c :: r => leastL n (if n ≤ c ∧ c < m then c else m) r
theorem leastL_eq (n : Nat) : ∀ (l : List Nat) (m : Nat), m ≤ 1114112 → leastL n m l = if leastN n l < m then leastN n l else m
 | [], m, h => by rw [leastL, leastN, if_neg (by omega)]
 | c :: r, m, h => by
  rw [leastL, leastL_eq n r _ (by split <;> omega), leastN]
  generalize leastN n r = x
  by_cases h1 : n ≤ c
  ·by_cases h2 : c < m
   ·by_cases h3 : c < x
    ·simp only [h1, h2, h3, and_self, if_true]
     rw [if_neg (by omega)]
    simp only [h1, h2, h3, and_self, and_false, if_true, if_false]
    split <;> split <;> omega
   by_cases h3 : c < x
   ·simp only [h1, h2, h3, and_self, and_false, if_true, if_false]
    rw [if_neg (by omega)]
   simp only [h1, h2, h3, and_false, if_false]
  simp only [h1, false_and, if_false]
theorem least_top (n : Nat) : ∀ (l : List Nat), leastN n l ≤ 1114112
 | [] => Nat.le_refl _
 | c :: r => by
  have := least_top n r
  unfold leastN
  split <;> omega
theorem leastL_N (n : Nat) (l : List Nat) : leastL n 1114112 l = leastN n l := by
 rw [leastL_eq n l _ (Nat.le_refl _)]
 have := least_top n l
 split <;> omega
def icN (l : List Nat) : List Value := icells (l.map fun (c : Nat) => (c : Int))
theorem icN_at {w : World} {B : Nat} {e : TypeId} {g n cap : Nat} {l : List Nat} (h : w.ownsRow B e 1 (.slice (some ⟨g, 0, none⟩) n cap) n (icN l)) (k : Nat) (hk : k < n) : w.cell? ⟨g, k, none⟩ = some (.int .i64 (l.getD k 0 : Int)) := by
 have hl : l.length = n := by have := h.1; simpa [icN, icells] using this
 rw [icell_at h k hk]
 simp [List.getD, show k < l.length by omega]
theorem nat_drop (l : List Nat) (k : Nat) (h : k < l.length) : l.drop k = l.getD k 0 :: l.drop (k + 1) := by
 rw [List.drop_eq_getElem_cons h]
 simp [List.getD, h]
theorem specLeast (l : List Nat) (n0 N cap g : Nat) (B : Nat) (w : World) (hN : l.length = N) (hN1 : N ≤ 1048576) (hv : ∀ c ∈ l, c ≤ 1114111) (hown : w.ownsRow B 3 1 (.slice (some ⟨g, 0, none⟩) N cap) N (icN l)) :
  Calls Tryz.prog 97 #[.slice (some ⟨g, 0, none⟩) N cap, .int .i64 (n0 : Int)] w fun e w' => e = .returned (.int .i64 (leastN n0 l : Int)) ∧ w = w' := by
 have HL : Hid (l.length = N) := hN
 have HV : Hid (∀ c ∈ l, c ≤ 1114111) := hv
 clear hN hv
 go_enter Tryz.func97, Tryz.ntmps97
 go_wp2_with fail
 go_loop [5, 6] (fun a i => ∃ k m : Nat, k ≤ N ∧ i = .int .i64 k ∧ a = .int .i64 m ∧ m ≤ 1114112 ∧ leastL n0 m (l.drop k) = leastN n0 l) (fun _ i => N - (intOf i).toNat)
 case atStart => exact ⟨0, 1114112, Nat.zero_le _, rfl, rfl, Nat.le_refl _, leastL_N n0 l⟩
 obtain ⟨k, m, hk, rfl, rfl, hm, he⟩ := hrel
 have HE : Hid (leastL n0 m (l.drop k) = leastN n0 l) := he
 clear he
 by_cases hlt : k < N
 ·have ca := icN_at hown k hlt
  have HS : Hid (l.drop k = l.getD k 0 :: l.drop (k + 1)) := nat_drop l k (by have := HL.out; omega)
  have hc := HV.out (l.getD k 0) (by
   rw [List.getD_eq_getElem?_getD, List.getElem?_eq_getElem (by have := HL.out; omega)]
   exact List.getElem_mem _)
  generalize l.getD k 0 = c at ca HS hc
  have HR : Hid (leastL n0 (if n0 ≤ c ∧ c < m then c else m) (l.drop (k + 1)) = leastN n0 l) := by show _ = _; rw [← HE.out, HS.out]; rfl
  by_cases h1 : (n0 : Int) ≤ (c : Int)
  ·by_cases h2 : (c : Int) < (m : Int)
   ·rw [if_pos (by omega)] at HR
    go_wp2_with fail
    go_round
    case rel => exact ⟨k + 1, c, by omega, by go_num, rfl, by omega, HR.out⟩
    case measure => simp [intOf]; omega
   rw [if_neg (by omega)] at HR
   go_wp2_with fail
   go_round
   case rel => exact ⟨k + 1, m, by omega, by go_num, rfl, hm, HR.out⟩
   case measure => simp [intOf]; omega
  rw [if_neg (by omega)] at HR
  go_wp2_with fail
  go_round
  case rel => exact ⟨k + 1, m, by omega, by go_num, rfl, hm, HR.out⟩
  case measure => simp [intOf]; omega
 have HR : Hid (m = leastN n0 l) := by
  show _ = _
  rw [← HE.out, List.drop_of_length_le (by have := HL.out; omega)]
  rfl
 go_wp2_with fail
 go_ret
 exact ⟨ret_int (by rw [← HR.out]), rfl⟩
end Go.Proofs.YtidecdlaeomfoaaGreat
