/- Contracts of impl.putNums, impl.ownBytes, impl.PutNum, impl.PutText, spec.PutNum, spec.PutText. -/
import Derived.Test.YtfigkoapebdlfaaRows
import Derived.Test.YtfigkoapebdlfaaBytRow
import Derived.Test.YtfigkoapebdlfaaBits
import Derived.Test.YtfigkoapebdlfaaAppAt
import Derived.Lib.MinMax
import Derived.Lib.AppendStr
namespace Go.Proofs.Ytfigkoapebdlfaa
open Go.RowKit
set_option linter.unusedVariables false

theorem numC_min (x : Int) : min (max x 0) 1000000000 = (numC x : Int) := by
  unfold numC
  rw [Int.min_def, Int.max_def]
  repeat' split
  all_goals omega

theorem numF_more {f y : Nat} (h : 128 ≤ y) (hf : y < 128 ^ (f + 1)) : ∃ g, f = g + 1 ∧ numF f y = UInt8.ofNat (128 + y % 128) :: numF g (y / 128) ∧ y / 128 < 128 ^ (g + 1) := by
  cases f with
  | zero => simp at hf; omega
  | succ g =>
    refine ⟨g, rfl, by rw [numF, if_neg (by omega)], ?_⟩
    rw [pow_step] at hf
    exact Nat.div_lt_of_lt_mul (by rw [Nat.mul_comm]; exact hf)

theorem numF_end {f y : Nat} (h : y < 128) : numF f y = [UInt8.ofNat y] := by
  cases f with
  | zero => rfl
  | succ g => rw [numF, if_pos h]

theorem u8_one (x : Int) : ∀ u ∈ (#[Value.int .u8 x]).toList, u.oneCell' = true := by
  intro u hu
  simp at hu
  subst hu
  rfl

theorem byte_snoc {w1 : World} {B n : Nat} {v' : Value} {l : List UInt8} {x : Int} {y : Nat} (hy : y < 256) (hx : x = (y : Int)) (h : w1.ownsRow B 5 1 v' (n + 1) (bcells l ++ (#[Value.int .u8 x]).toList)) : w1.ownsRow B 5 1 v' (n + 1) (bcells (l ++ [UInt8.ofNat y])) := by
  subst hx
  rw [bcells_snoc, ofNat_toNat hy]
  exact h

set_option maxRecDepth 100000 in
set_option maxHeartbeats 2000000 in
theorem implPutNums (x : Int) (v : Value) (n g : Nat) (l : List UInt8) (w : World) (B : Nat) (hn : n ≤ 1099511627776) (hB : B ≤ w.heap.size) (hc : w.cell? ⟨g, 0, none⟩ = some (.int .i64 x)) (hown : w.ownsRow B 5 1 v n (bcells l)) :
    Calls Try.prog 35 #[v, .slice (some ⟨g, 0, none⟩) 1 1] w fun e w' => ∃ v', e = .returned v' ∧ w'.ownsRow B 5 1 v' (n + (numL x).length) (bcells (l ++ numL x)) ∧ Below B w w' := by
  have hmm := numC_min x
  have hle := numC_le x
  have HN : Hid (numL x = numF 4 (numC x)) := rfl
  generalize numC x = N at *
  go_enter Try.func35, Try.ntmps35
  go_wp2_with fail
  refine wp_loop_rounds 2 ?_
  rw [rounds_succ]
  go_wp2_with fail
  go_loopw [0, 6] (fun a i wr => ∃ (f y k : Nat) (m : List UInt8), i = .int .i64 (y : Int) ∧ y ≤ 1000000000 ∧ k + f ≤ n + 4 ∧ n ≤ k ∧ Hid (y < 128 ^ (f + 1) ∧ m ++ numF f y = l ++ numL x) ∧ wr.ownsRow B 5 1 a k (bcells m) ∧ Below B w wr) (fun _ i _ => (intOf i).toNat)
  case atStart => exact ⟨4, N, n, l, rfl, hle, by omega, Nat.le_refl _, ⟨by omega, by rw [HN.out]⟩, hown, Below.refl _ _⟩
  case round =>
    obtain ⟨f, y, k, m, rfl, hy, hk, hnk, HF, hrow, hbel⟩ := hrel
    have hz := hbel.size
    by_cases h128 : 128 ≤ (y : Int)
    · obtain ⟨f', hf', e1, e2⟩ := numF_more (show 128 ≤ y by omega) HF.out.1
      subst hf'
      have HG : Hid (y / 128 < 128 ^ (f' + 1) ∧ (m ++ [UInt8.ofNat (128 + y % 128)]) ++ numF f' (y / 128) = l ++ numL x) := ⟨e2, by rw [← HF.out.2, e1]; simp⟩
      clear e1 e2 HF
      go_wp2_with (at_builtin; refine wpList_append_newAt _ rfl _ _ 29 rfl B 5 (.int .u8 0) 1 Try.underlying29 Try.infoByte rfl _ _ _ rfl hrow #[.int .u8 (128 + (y : Int) % 128)] 1 rfl rfl (u8_one _) (by omega) (by unfold maxLen; omega) (by omega) ?_)
      intro v' w1 h1 h2 _
      have B1 := hbel.grown h2 (by omega) (fun k hk => (hrow.lt k hk).1)
      replace h1 := byte_snoc (y := 128 + y % 128) (by omega) (by omega) h1
      clear hrow h2 hbel
      go_wp2
      go_roundw
      case rel => exact ⟨f', y / 128, k + 1, _, by go_num, by omega, by omega, by omega, HG, h1, B1⟩
      case measure => simp [intOf]; omega
    · have HE : Hid (m ++ [UInt8.ofNat y] = l ++ numL x) := by
        show _ = _
        rw [← HF.out.2, numF_end (show y < 128 by omega)]
      clear HF
      go_wp2_with (at_builtin; refine wpList_append_newAt _ rfl _ _ 29 rfl B 5 (.int .u8 0) 1 Try.underlying29 Try.infoByte rfl _ _ _ rfl hrow #[.int .u8 (y : Int)] 1 rfl rfl (u8_one _) (by omega) (by unfold maxLen; omega) (by omega) ?_)
      intro v' w1 h1 h2 _
      have B1 := hbel.grown h2 (by omega) (fun k hk => (hrow.lt k hk).1)
      replace h1 := byte_snoc (y := y) (by omega) rfl h1
      rw [HE.out] at h1
      have HK : Hid (k + 1 = n + (numL x).length) := by
        have := own_blen h1
        rw [List.length_append, own_blen hown] at this
        exact this.symm
      rw [HK.out] at h1
      clear hrow h2 hbel HK
      go_wp2
      rw [rounds_succ]
      go_wp2
      go_ret
      exact ⟨_, rfl, h1, B1⟩

set_option maxHeartbeats 1000000 in
theorem implOwnBytes (v : Value) (l : List UInt8) (w : World) (hin : BRow w v l) (hn : l.length ≤ 1099511627776) :
    Calls Try.prog 53 #[v] w fun e w' => ∃ v', e = .returned v' ∧ w'.ownsRow w.heap.size 5 1 v' l.length (bcells l) ∧ Below w.heap.size w w' := by
  have HI : Hid (BRow w v l) := hin
  obtain ⟨ao, cp, hv⟩ := hin.slice
  subst hv
  clear hin
  go_enter Try.func53, Try.ntmps53
  go_wp2_with (at_builtin; refine wpList_append_brow rfl _ _ 29 rfl w.heap.size 5 Try.underlying29 Try.infoByte _ 0 [] rfl (World.ownsRow_lit w #[] 0 (Nat.le_refl _) (by decide) rfl) _ l rfl (HI.out.below ((Below.refl _ _).alloc (Nat.le_refl _) _)) (by omega) (by simp) ?_)
  intro v' w1 h1 h2 _
  have B1 : Below w.heap.size w w1 := ((Below.refl _ _).alloc (Nat.le_refl _) _).grown h2 (by simp) (fun k hk => by cases hk; exact Nat.le_refl _)
  clear h2
  go_wp2
  go_ret
  exact ⟨_, rfl, h1, B1⟩

set_option maxHeartbeats 1000000 in
theorem implPutNum (x : Int) (v : Value) (l : List UInt8) (w : World) (hin : BRow w v l) (hn : l.length ≤ 1099511627776) :
    Calls Try.prog 46 #[v, .int .i64 x] w fun e w' => ∃ v', e = .returned v' ∧ w'.ownsRow w.heap.size 5 1 v' (l.length + (numL x).length) (bcells (l ++ numL x)) ∧ Below w.heap.size w w' := by
  have HI : Hid (BRow w v l) := hin
  obtain ⟨ao, cp, hv⟩ := hin.slice
  subst hv
  clear hin
  go_enter Try.func46, Try.ntmps46
  go_wp2_with fail
  refine (implOwnBytes _ l _ HI.out hn).mono ?_
  rintro e wa ⟨va, rfl, oa, ba⟩
  have za := ba.size
  go_wp2_with fail
  refine (implPutNums x va l.length wa.heap.size l _ w.heap.size hn (by simp; omega) (by rw [World.cell?_alloc_at _ _ _ _ rfl]; rfl) (oa.alloc _)).mono ?_
  rintro e wb ⟨vb, rfl, ob, bb⟩
  have B : Below w.heap.size w wb := (ba.alloc za _).trans bb
  clear oa
  go_wp2
  go_ret
  exact ⟨_, rfl, ob, B⟩

theorem i64_orTop (a : Nat) (h : a < 128) : bits .or .i64 (a : Int) 128 = 128 + (a : Int) := by
  have h1 := i64_or_nat a 128 (by omega) (by omega)
  have h2 := i64_or_nat 128 a (by omega) (by omega)
  have h3 := i64_join 7 128 (a : Int) (by omega) (by omega) (by decide) (by omega) (by omega) (by simpa using h)
  rw [Nat.or_comm] at h1
  exact h1.trans (h2.symm.trans h3)

theorem i64_and127 (a : Nat) (h : a ≤ 1000000000) : bits .and .i64 (a : Int) 127 = ((a % 128 : Nat) : Int) := by
  rw [show (127 : Int) = ((127 : Nat) : Int) from rfl, i64_and_nat a 127 (by omega) (by omega), show 127 = 2 ^ 7 - 1 from rfl, Nat.and_two_pow_sub_one_eq_mod]

set_option maxRecDepth 100000 in
set_option maxHeartbeats 2000000 in
theorem specPutNum (x : Int) (v : Value) (l : List UInt8) (w : World) (hin : BRow w v l) (hn : l.length ≤ 1099511627776) :
    Calls Try.prog 33 #[v, .int .i64 x] w fun e w' => ∃ v', e = .returned v' ∧ w'.ownsRow w.heap.size 5 1 v' (l.length + (numL x).length) (bcells (l ++ numL x)) ∧ Below w.heap.size w w' := by
  have HI : Hid (BRow w v l) := hin
  obtain ⟨ao, cp, hv⟩ := hin.slice
  subst hv
  clear hin
  have hle := numC_le x
  have HN : Hid (numL x = numF 4 (numC x)) := rfl
  obtain ⟨x0, h3, HV⟩ : ∃ x0 : Int, ((x < 0 ∧ ¬ 1000000000 < x ∧ x0 = 0) ∨ (1000000000 < x ∧ ¬ x < 0 ∧ x0 = 1000000000) ∨ (¬ x < 0 ∧ ¬ 1000000000 < x ∧ x0 = x)) ∧ Hid (x0 = (numC x : Int)) := by
    refine ⟨_, ?_, rfl⟩
    unfold numC
    repeat' split
    all_goals omega
  generalize numC x = N at *
  obtain ⟨T, HT⟩ : ∃ T, Hid (T = l ++ numL x) := ⟨_, rfl⟩
  have HL : Hid (T.length = l.length + (numL x).length) := by rw [HT.out, List.length_append]; rfl
  rw [← HT.out, ← HL.out]
  have HTN : Hid (l ++ numF 4 N = T) := by rw [HT.out, HN.out]; rfl
  clear HN HT HL
  rcases h3 with ⟨c1, c2, rfl⟩ | ⟨c1, c2, rfl⟩ | ⟨c1, c2, rfl⟩
  all_goals
    go_enter Try.func33, Try.ntmps33
    go_wp2_with (at_builtin; refine wpList_append_brow rfl _ _ 29 rfl w.heap.size 5 Try.underlying29 Try.infoByte _ 0 [] rfl (World.ownsRow_lit w #[] 0 (Nat.le_refl _) (by decide) rfl) _ l rfl (HI.out.below ((Below.refl _ _).alloc (Nat.le_refl _) _)) (by omega) (by simp) ?_)
    intro vo wo ho h2 _
    have Bo : Below w.heap.size w wo := ((Below.refl _ _).alloc (Nat.le_refl _) _).grown h2 (by simp) (fun k hk => by cases hk; exact Nat.le_refl _)
    clear h2
    go_wp2_with fail
    go_loopw [1, 5] (fun i a wr => ∃ (f y k : Nat) (m : List UInt8), i = .int .i64 (y : Int) ∧ y ≤ 1000000000 ∧ k + f ≤ l.length + 4 ∧ l.length ≤ k ∧ Hid (y < 128 ^ (f + 1) ∧ m ++ numF f y = T) ∧ wr.ownsRow w.heap.size 5 1 a k (bcells m) ∧ Below w.heap.size w wr) (fun i _ _ => (intOf i).toNat)
    case atStart => exact ⟨4, N, _, l, congrArg _ HV.out, hle, by omega, Nat.le_refl _, ⟨by omega, HTN.out⟩, ho, Bo⟩
    case round =>
      obtain ⟨f, y, k, m, rfl, hy, hk, hnk, HF, hrow, hbel⟩ := hrel
      have hz := hbel.size
      by_cases h128 : 127 < (y : Int)
      · obtain ⟨f', hf', e1, e2⟩ := numF_more (show 128 ≤ y by omega) HF.out.1
        subst hf'
        have HG : Hid (y / 128 < 128 ^ (f' + 1) ∧ (m ++ [UInt8.ofNat (128 + y % 128)]) ++ numF f' (y / 128) = T) := ⟨e2, by rw [← HF.out.2, e1]; simp⟩
        clear e1 e2 HF
        have q1 := i64_and127 y hy
        have q2 := i64_orTop (y % 128) (by omega)
        have hr : y % 128 < 128 := by omega
        generalize y % 128 = r at *
        go_wp2_with (at_builtin; refine wpList_append_newAt _ rfl _ _ 29 rfl w.heap.size 5 (.int .u8 0) 1 Try.underlying29 Try.infoByte rfl _ _ _ rfl hrow #[.int .u8 (128 + (r : Int))] 1 rfl rfl (u8_one _) (by omega) (by unfold maxLen; omega) (by omega) ?_)
        intro v' w1 h1 h2 _
        have B1 := hbel.grown h2 (by omega) (fun k hk => (hrow.lt k hk).1)
        replace h1 := byte_snoc (y := 128 + r) (by omega) (by omega) h1
        clear hrow h2 hbel
        go_wp2
        go_roundw
        case rel => exact ⟨f', y / 128, k + 1, _, by go_num, by omega, by omega, by omega, HG, h1, B1⟩
        case measure => simp [intOf]; omega
      · have HE : Hid (m ++ [UInt8.ofNat y] = T) := by
          show _ = _
          rw [← HF.out.2, numF_end (show y < 128 by omega)]
        clear HF
        go_wp2_with (at_builtin; refine wpList_append_newAt _ rfl _ _ 29 rfl w.heap.size 5 (.int .u8 0) 1 Try.underlying29 Try.infoByte rfl _ _ _ rfl hrow #[.int .u8 (y : Int)] 1 rfl rfl (u8_one _) (by omega) (by unfold maxLen; omega) (by omega) ?_)
        intro v' w1 h1 h2 _
        have B1 := hbel.grown h2 (by omega) (fun k hk => (hrow.lt k hk).1)
        replace h1 := byte_snoc (y := y) (by omega) rfl h1
        rw [HE.out] at h1
        have HK : Hid (T.length = k + 1) := own_blen h1
        rw [← HK.out] at h1
        clear hrow h2 hbel HK
        go_wp2
        go_ret
        exact ⟨_, rfl, h1, B1⟩

theorem strCells_b (s : ByteArray) : Lib.strCells s = bcells s.data.toList := by
  simp [Lib.strCells, bcells]

set_option maxHeartbeats 1000000 in
theorem implPutText (s : ByteArray) (v : Value) (l : List UInt8) (w : World) (hin : BRow w v l) (hn : l.length ≤ 1099511627776) (hs : s.size ≤ 1099511627776) :
    Calls Try.prog 34 #[v, .string s] w fun e w' => ∃ v', e = .returned v' ∧ w'.ownsRow w.heap.size 5 1 v' (l ++ (numL s.size ++ s.data.toList)).length (bcells (l ++ (numL s.size ++ s.data.toList))) ∧ Below w.heap.size w w' := by
  obtain ⟨i0, hi, hz0, hz1, hz2⟩ := info_parts Try.infoByte
  have HI : Hid (BRow w v l) := hin
  obtain ⟨ao, cp, hv⟩ := hin.slice
  subst hv
  clear hin
  have hnl := numL_len s.size
  go_enter Try.func34, Try.ntmps34
  go_wp2_with fail
  refine (implPutNum _ _ l _ HI.out hn).mono ?_
  rintro e wa ⟨va, rfl, oa, ba⟩
  have za := ba.size
  go_wp2_with (at_builtin; refine Lib.wpList_append_own_string _ rfl _ _ 29 9 rfl w.heap.size 5 i0 Try.underlying29 Try.underlying9 hi hz0 hz1 hz2 _ _ _ rfl oa s rfl (by unfold maxLen; omega) (by omega) za ?_)
  intro v' w1 h1 h2 _
  have B1 := ba.grown h2 za (fun k hk => (oa.lt k hk).1)
  rw [strCells_b, ← bcells_append, List.append_assoc] at h1
  have HL : Hid ((l ++ (numL s.size ++ s.data.toList)).length = l.length + (numL s.size).length + s.size) := own_blen h1
  rw [← HL.out] at h1
  clear oa h2 HL
  go_wp2
  go_ret
  exact ⟨_, rfl, h1, B1⟩

set_option maxHeartbeats 1000000 in
theorem specPutText (s : ByteArray) (v : Value) (l : List UInt8) (w : World) (hin : BRow w v l) (hn : l.length ≤ 1099511627776) (hs : s.size ≤ 1099511627776) :
    Calls Try.prog 32 #[v, .string s] w fun e w' => ∃ v', e = .returned v' ∧ w'.ownsRow w.heap.size 5 1 v' (l ++ (numL s.size ++ s.data.toList)).length (bcells (l ++ (numL s.size ++ s.data.toList))) ∧ Below w.heap.size w w' := by
  obtain ⟨i0, hi, hz0, hz1, hz2⟩ := info_parts Try.infoByte
  have HI : Hid (BRow w v l) := hin
  obtain ⟨ao, cp, hv⟩ := hin.slice
  subst hv
  clear hin
  have hnl := numL_len s.size
  go_enter Try.func32, Try.ntmps32
  go_wp2_with fail
  refine (specPutNum _ _ l _ HI.out hn).mono ?_
  rintro e wa ⟨va, rfl, oa, ba⟩
  have za := ba.size
  go_wp2_with (at_builtin; refine Lib.wpList_append_own_string _ rfl _ _ 29 9 rfl w.heap.size 5 i0 Try.underlying29 Try.underlying9 hi hz0 hz1 hz2 _ _ _ rfl oa s rfl (by unfold maxLen; omega) (by omega) za ?_)
  intro v' w1 h1 h2 _
  have B1 := ba.grown h2 za (fun k hk => (oa.lt k hk).1)
  rw [strCells_b, ← bcells_append, List.append_assoc] at h1
  have HL : Hid ((l ++ (numL s.size ++ s.data.toList)).length = l.length + (numL s.size).length + s.size) := own_blen h1
  rw [← HL.out] at h1
  clear oa h2 HL
  go_wp2
  go_ret
  exact ⟨_, rfl, h1, B1⟩
end Go.Proofs.Ytfigkoapebdlfaa
