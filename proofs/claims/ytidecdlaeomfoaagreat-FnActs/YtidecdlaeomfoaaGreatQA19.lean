/- NumPut, ActPut, ActPutB, CrcBoth, FrmBoth. -/
import Derived.Test.YtidecdlaeomfoaaGreatQA18
import Derived.Lib.MinMax
import Derived.Lib.AppendStr
import Derived.Deep.RegionHeld3
import Derived.OwnWalk
set_option maxHeartbeats 4000000
set_option maxRecDepth 100000
namespace Go.Proofs.YtidecdlaeomfoaaGreat
open Go.RowKit
set_option linter.unusedVariables false
theorem numC_min (x : Int) : min (max x 0) 1000000000 = (numC x : Int) := by
 unfold numC
 rw [Int.min_def, Int.max_def]
 repeat' split
 all_goals omega
theorem gnF_more {f y : Nat} (h : 128 ≤ y) (hf : y < 128 ^ (f + 1)) : ∃ g, f = g + 1 ∧ gnF f y = UInt8.ofNat (128 + y % 128) :: gnF g (y / 128) ∧ y / 128 < 128 ^ (g + 1) := by
 cases f with
 | zero => simp at hf; omega
 | succ g =>
  refine ⟨g, rfl, by rw [gnF, if_neg (by omega)], ?_⟩
  rw [pow_step] at hf
  exact Nat.div_lt_of_lt_mul (by rw [Nat.mul_comm]; exact hf)
theorem gnF_end {f y : Nat} (h : y < 128) : gnF f y = [UInt8.ofNat y] := by
 cases f with
 | zero => rfl
 | succ g => rw [gnF, if_pos h]
theorem u8_one (x : Int) : ∀ u ∈ (#[Value.int .u8 x]).toList, u.oneCell' = true := by
 intro u hu
 simp at hu
 subst hu
 rfl
theorem byte_snoc {w1 : World} {B n : Nat} {v' : Value} {l : List UInt8} {x : Int} {y : Nat} (hy : y < 256) (hx : x = (y : Int)) (h : w1.ownsRow B 5 1 v' (n + 1) (bcells l ++ (#[Value.int .u8 x]).toList)) : w1.ownsRow B 5 1 v' (n + 1) (bcells (l ++ [UInt8.ofNat y])) := by
 subst hx
 rw [bcells_snoc, ofNat_toNat hy]
 exact h
theorem implPutNums (x : Int) (v : Value) (n g : Nat) (l : List UInt8) (w : World) (B : Nat) (hn : n ≤ 1099511627776) (hB : B ≤ w.heap.size) (hc : w.cell? ⟨g, 0, none⟩ = some (.int .i64 x)) (hown : w.ownsRow B 5 1 v n (bcells l)) :
  Calls Tryz.prog 17 #[v, .slice (some ⟨g, 0, none⟩) 1 1] w fun e w' => ∃ v', e = .returned v' ∧ w'.ownsRow B 5 1 v' (n + (gnL x).length) (bcells (l ++ gnL x)) ∧ Below B w w' := by
 have hmm := numC_min x
 have hle := numC_le x
 have HN : Hid (gnL x = gnF 4 (numC x)) := rfl
 generalize numC x = N at *
 go_enter Tryz.func17, Tryz.ntmps17
 go_wp2_with fail
 refine wp_loop_rounds 2 ?_
 rw [rounds_succ]
 go_wp2_with fail
 go_loopw [0, 6] (fun a i wr => ∃ (f y k : Nat) (m : List UInt8), i = .int .i64 (y : Int) ∧ y ≤ 1000000000 ∧ k + f ≤ n + 4 ∧ n ≤ k ∧ Hid (y < 128 ^ (f + 1) ∧ m ++ gnF f y = l ++ gnL x) ∧ wr.ownsRow B 5 1 a k (bcells m) ∧ Below B w wr) (fun _ i _ => (intOf i).toNat)
 case atStart => exact ⟨4, N, n, l, rfl, hle, by omega, Nat.le_refl _, ⟨by omega, by rw [HN.out]⟩, hown, Below.refl _ _⟩
 obtain ⟨f, y, k, m, rfl, hy, hk, hnk, HF, hrow, hbel⟩ := hrel
 have hz := hbel.size
 by_cases h128 : 128 ≤ (y : Int)
 ·obtain ⟨f', hf', e1, e2⟩ := gnF_more (show 128 ≤ y by omega) HF.out.1
  subst hf'
  have HG : Hid (y / 128 < 128 ^ (f' + 1) ∧ (m ++ [UInt8.ofNat (128 + y % 128)]) ++ gnF f' (y / 128) = l ++ gnL x) := ⟨e2, by rw [← HF.out.2, e1]; simp⟩
  clear e1 e2 HF
  go_wp2_with (at_builtin; refine wpList_append_newAt _ rfl _ _ 22 rfl B 5 (.int .u8 0) 1 Tryz.underlying22 Tryz.infoByte rfl _ _ _ rfl hrow #[.int .u8 (128 + (y : Int) % 128)] 1 rfl rfl (u8_one _) (by omega) (by unfold maxLen; omega) (by omega) ?_)
  intro v' w1 h1 h2 _
  have B1 := hbel.grown h2 (by omega) (fun k hk => (hrow.lt k hk).1)
  replace h1 := byte_snoc (y := 128 + y % 128) (by omega) (by omega) h1
  clear hrow h2 hbel
  go_wp2
  go_roundw
  case rel => exact ⟨f', y / 128, k + 1, _, by go_num, by omega, by omega, by omega, HG, h1, B1⟩
  case measure => simp [intOf]; omega
 have HE : Hid (m ++ [UInt8.ofNat y] = l ++ gnL x) := by
  show _ = _
  rw [← HF.out.2, gnF_end (show y < 128 by omega)]
 clear HF
 go_wp2_with (at_builtin; refine wpList_append_newAt _ rfl _ _ 22 rfl B 5 (.int .u8 0) 1 Tryz.underlying22 Tryz.infoByte rfl _ _ _ rfl hrow #[.int .u8 (y : Int)] 1 rfl rfl (u8_one _) (by omega) (by unfold maxLen; omega) (by omega) ?_)
 intro v' w1 h1 h2 _
 have B1 := hbel.grown h2 (by omega) (fun k hk => (hrow.lt k hk).1)
 replace h1 := byte_snoc (y := y) (by omega) rfl h1
 rw [HE.out] at h1
 have HK : Hid (k + 1 = n + (gnL x).length) := by
  have := own_blen h1
  rw [List.length_append, own_blen hown] at this
  exact this.symm
 rw [HK.out] at h1
 clear hrow h2 hbel HK
 go_wp2
 rw [rounds_succ]
 go_wp2
 go_ret
 exact ⟨_, rfl, h1, B1⟩
theorem implOwnBytes (v : Value) (l : List UInt8) (w : World) (hin : BRow w v l) (hn : l.length ≤ 1099511627776) :
  Calls Tryz.prog 35 #[v] w fun e w' => ∃ v', e = .returned v' ∧ w'.ownsRow w.heap.size 5 1 v' l.length (bcells l) ∧ Below w.heap.size w w' := by
 have HI : Hid (BRow w v l) := hin
 obtain ⟨ao, cp, hv⟩ := hin.slice
 subst hv
 clear hin
 go_enter Tryz.func35, Tryz.ntmps35
 go_wp2_with (at_builtin; refine wpList_append_brow rfl _ _ 22 rfl w.heap.size 5 Tryz.underlying22 Tryz.infoByte _ 0 [] rfl (World.ownsRow_lit w #[] 0 (Nat.le_refl _) (by decide) rfl) _ l rfl (HI.out.below ((Below.refl _ _).alloc (Nat.le_refl _) _)) (by omega) (by simp) ?_)
 intro v' w1 h1 h2 _
 have B1 : Below w.heap.size w w1 := ((Below.refl _ _).alloc (Nat.le_refl _) _).grown h2 (by simp) (fun k hk => by cases hk; exact Nat.le_refl _)
 clear h2
 go_wp2
 go_ret
 exact ⟨_, rfl, h1, B1⟩
theorem implPutNum (x : Int) (v : Value) (l : List UInt8) (w : World) (hin : BRow w v l) (hn : l.length ≤ 1099511627776) :
  Calls Tryz.prog 31 #[v, .int .i64 x] w fun e w' => ∃ v', e = .returned v' ∧ w'.ownsRow w.heap.size 5 1 v' (l.length + (gnL x).length) (bcells (l ++ gnL x)) ∧ Below w.heap.size w w' := by
 have HI : Hid (BRow w v l) := hin
 obtain ⟨ao, cp, hv⟩ := hin.slice
 subst hv
 clear hin
 go_enter Tryz.func31, Tryz.ntmps31
 go_wp2_with fail
 refine (implOwnBytes _ l _ HI.out hn).mono ?_
 rintro e wa ⟨va, rfl, oa, ba⟩
 have za := ba.size
 go_wp2_with fail
 refine (implPutNums x va l.length wa.heap.size l _ w.heap.size hn (by simp; omega) (by rw [World.cell?_alloc_at _ _ _ _ rfl]; rfl) (oa.alloc _)).mono ?_
 rintro e wb ⟨vb, rfl, ob, bb⟩
 have B : Below w.heap.size w wb := (ba.alloc za _).trans bb
 clear oa
 go_wp2
 go_ret
 exact ⟨_, rfl, ob, B⟩
theorem strCells_b (s : ByteArray) : Lib.strCells s = bcells s.data.toList := by
 simp [Lib.strCells, bcells]
theorem implPutText (s : ByteArray) (v : Value) (l : List UInt8) (w : World) (hin : BRow w v l) (hn : l.length ≤ 1099511627776) (hs : s.size ≤ 1099511627776) :
  Calls Tryz.prog 16 #[v, .string s] w fun e w' => ∃ v', e = .returned v' ∧ w'.ownsRow w.heap.size 5 1 v' (l ++ (gnL s.size ++ s.data.toList)).length (bcells (l ++ (gnL s.size ++ s.data.toList))) ∧ Below w.heap.size w w' := by
 obtain ⟨i0, hi, hz0, hz1, hz2⟩ := info_parts Tryz.infoByte
 have HI : Hid (BRow w v l) := hin
 obtain ⟨ao, cp, hv⟩ := hin.slice
 subst hv
 clear hin
 have hnl := numL_len s.size
 go_enter Tryz.func16, Tryz.ntmps16
 go_wp2_with fail
 refine (implPutNum _ _ l _ HI.out hn).mono ?_
 rintro e wa ⟨va, rfl, oa, ba⟩
 have za := ba.size
 go_wp2_with (at_builtin; refine Lib.wpList_append_own_string _ rfl _ _ 22 9 rfl w.heap.size 5 i0 Tryz.underlying22 Tryz.underlying9 hi hz0 hz1 hz2 _ _ _ rfl oa s rfl (by unfold maxLen; omega) (by omega) za ?_)
 intro v' w1 h1 h2 _
 have B1 := ba.grown h2 za (fun k hk => (oa.lt k hk).1)
 rw [strCells_b, ← bcells_append, List.append_assoc] at h1
 have HL : Hid ((l ++ (gnL s.size ++ s.data.toList)).length = l.length + (gnL s.size).length + s.size) := own_blen h1
 rw [← HL.out] at h1
 clear oa h2 HL
 go_wp2
 go_ret
 exact ⟨_, rfl, h1, B1⟩
end Go.Proofs.YtidecdlaeomfoaaGreat
namespace Go.Proofs.YtidecdlaeomfoaaGreat
open Go.RowKit
set_option linter.unusedVariables false
set_option linter.unusedSimpArgs false
theorem implPutNums2 (x y : Int) (v : Value) (g : Nat) (l : List UInt8) (w : World) (B : Nat) (hn : l.length ≤ 1099511627776) (hB : B ≤ w.heap.size) (hg : g < w.heap.size) (hne0 : v.ownBlock ≠ some g) (hc0 : w.cell? ⟨g, 0, none⟩ = some (.int .i64 x)) (hc1 : w.cell? ⟨g, 1, none⟩ = some (.int .i64 y)) (hown : w.ownsRow B 5 1 v l.length (bcells l)) :
  Calls Tryz.prog 17 #[v, .slice (some ⟨g, 0, none⟩) 2 2] w fun e w' => ∃ v', e = .returned v' ∧ w'.ownsRow B 5 1 v' ((l ++ gnL x) ++ gnL y).length (bcells ((l ++ gnL x) ++ gnL y)) ∧ Below B w w' := by
 have hne : Hid (v.ownBlock ≠ some g) := hne0
 clear hne0
 have hbel : Below B w w := Below.refl _ _
 have hnl := numL_len x
 obtain ⟨L2, hL2⟩ : ∃ L2, L2 = l ++ gnL x := ⟨_, rfl⟩
 have hn2 : L2.length ≤ 1099511627790 := by rw [hL2, List.length_append]; omega
 have HL2 : Hid (L2 = l ++ gnL x) := hL2
 rw [← hL2]
 clear hL2 hnl
 go_enter Tryz.func17, Tryz.ntmps17
 go_wp2_with fail
 refine wp_loop_rounds 3 ?_
 rw [rounds_succ]
 have hmm := numC_min x
 have hle := numC_le x
 have HN : Hid (gnL x = gnF 4 (numC x)) := rfl
 generalize numC x = N at *
 go_wp2_with fail
 go_loopw [0, 6] (fun a i wr => ∃ (f u k : Nat) (m : List UInt8), i = .int .i64 (u : Int) ∧ u ≤ 1000000000 ∧ k + f ≤ l.length + 4 ∧ l.length ≤ k ∧ Hid (u < 128 ^ (f + 1) ∧ m ++ gnF f u = l ++ gnL x) ∧ wr.ownsRow B 5 1 a k (bcells m) ∧ Hid (a.ownBlock ≠ some g) ∧ wr.cell? ⟨g, 1, none⟩ = some (.int .i64 y) ∧ Below B w wr) (fun _ i _ => (intOf i).toNat)
 case atStart => exact ⟨4, N, l.length, l, rfl, hle, by omega, Nat.le_refl _, ⟨by omega, by rw [HN.out]⟩, hown, hne, hc1, hbel⟩
 clear hown hne hc1 hbel
 obtain ⟨f, u, k, m, rfl, hu, hk, hnk, HF, hrow, hne, hc1, hbel⟩ := hrel
 have hz := hbel.size
 by_cases h128 : 128 ≤ (u : Int)
 ·obtain ⟨f', hf', e1, e2⟩ := gnF_more (show 128 ≤ u by omega) HF.out.1
  subst hf'
  have HG : Hid (u / 128 < 128 ^ (f' + 1) ∧ (m ++ [UInt8.ofNat (128 + u % 128)]) ++ gnF f' (u / 128) = l ++ gnL x) := ⟨e2, by rw [← HF.out.2, e1]; simp⟩
  clear e1 e2 HF
  go_wp2_with (at_builtin; refine wpList_append_newAt _ rfl _ _ 22 rfl B 5 (.int .u8 0) 1 Tryz.underlying22 Tryz.infoByte rfl _ _ _ rfl hrow #[.int .u8 (128 + (u : Int) % 128)] 1 rfl rfl (u8_one _) (by omega) (by unfold maxLen; omega) (by omega) ?_)
  intro v' w1 h1 h2 h3
  have B1 := hbel.grown h2 (by omega) (fun k hk => (hrow.lt k hk).1)
  replace h1 := byte_snoc (y := 128 + u % 128) (by omega) (by omega) h1
  have hc2 := (World.cell?_of_block (w := wr) (w' := w1) (a := ⟨g, 1, none⟩) (h2.block g (by have := hbel.size; omega) (fun e => hne.out e.symm))).trans hc1
  have hne2 : Hid (v'.ownBlock ≠ some g) := by
   rcases h3 with h3 | h3
   ·rw [h3]; exact hne.out
   rw [h3]; intro e; injection e with e; omega
  clear hrow h2 hbel hne hc1
  go_wp2
  go_roundw
  case rel => exact ⟨f', u / 128, k + 1, _, by go_num, by omega, by omega, by omega, HG, h1, hne2, hc2, B1⟩
  case measure => simp [intOf]; omega
 have HE : Hid (m ++ [UInt8.ofNat u] = l ++ gnL x) := by
  show _ = _
  rw [← HF.out.2, gnF_end (show u < 128 by omega)]
 clear HF
 go_wp2_with (at_builtin; refine wpList_append_newAt _ rfl _ _ 22 rfl B 5 (.int .u8 0) 1 Tryz.underlying22 Tryz.infoByte rfl _ _ _ rfl hrow #[.int .u8 (u : Int)] 1 rfl rfl (u8_one _) (by omega) (by unfold maxLen; omega) (by omega) ?_)
 intro v' w1 h1 h2 h3
 have B1 := hbel.grown h2 (by omega) (fun k hk => (hrow.lt k hk).1)
 replace h1 := byte_snoc (y := u) (by omega) rfl h1
 rw [HE.out] at h1
 have hc2 := (World.cell?_of_block (w := wr) (w' := w1) (a := ⟨g, 1, none⟩) (h2.block g (by have := hbel.size; omega) (fun e => hne.out e.symm))).trans hc1
 have hne2 : Hid (v'.ownBlock ≠ some g) := by
  rcases h3 with h3 | h3
  ·rw [h3]; exact hne.out
  rw [h3]; intro e; injection e with e; omega
 have HK : Hid (k + 1 = (l ++ gnL x).length) := (own_blen h1).symm
 rw [HK.out] at h1
 clear hrow h2 hbel HK hne hc1 HE h3 hle hu hk hnk h128 hz hmm HN
 have hown := h1
 rw [← HL2.out] at hown
 have hne := hne2
 have hc1 := hc2
 have hbel := B1
 have hg2 : g < w1.heap.size := by have := hbel.size; omega
 clear h1 hne2 hc2 B1
 go_wp2
 rw [rounds_succ]
 have hmm := numC_min y
 have hle := numC_le y
 have HN : Hid (gnL y = gnF 4 (numC y)) := rfl
 generalize numC y = N at *
 go_wp2_with fail
 go_loopw [0, 6] (fun a i wr => ∃ (f u k : Nat) (m : List UInt8), i = .int .i64 (u : Int) ∧ u ≤ 1000000000 ∧ k + f ≤ L2.length + 4 ∧ L2.length ≤ k ∧ Hid (u < 128 ^ (f + 1) ∧ m ++ gnF f u = L2 ++ gnL y) ∧ wr.ownsRow B 5 1 a k (bcells m) ∧ Hid (a.ownBlock ≠ some g) ∧ wr.cell? ⟨g, 1, none⟩ = some (.int .i64 y) ∧ Below B w wr) (fun _ i _ => (intOf i).toNat)
 case atStart => exact ⟨4, N, L2.length, L2, rfl, hle, by omega, Nat.le_refl _, ⟨by omega, by rw [HN.out]⟩, hown, hne, hc1, hbel⟩
 clear hown hne hc1 hbel
 obtain ⟨f, u, k, m, rfl, hu, hk, hnk, HF, hrow, hne, hc1, hbel⟩ := hrel
 have hz := hbel.size
 by_cases h128 : 128 ≤ (u : Int)
 ·obtain ⟨f', hf', e1, e2⟩ := gnF_more (show 128 ≤ u by omega) HF.out.1
  subst hf'
  have HG : Hid (u / 128 < 128 ^ (f' + 1) ∧ (m ++ [UInt8.ofNat (128 + u % 128)]) ++ gnF f' (u / 128) = L2 ++ gnL y) := ⟨e2, by rw [← HF.out.2, e1]; simp⟩
  clear e1 e2 HF
  go_wp2_with (at_builtin; refine wpList_append_newAt _ rfl _ _ 22 rfl B 5 (.int .u8 0) 1 Tryz.underlying22 Tryz.infoByte rfl _ _ _ rfl hrow #[.int .u8 (128 + (u : Int) % 128)] 1 rfl rfl (u8_one _) (by omega) (by unfold maxLen; omega) (by omega) ?_)
  intro v' w1 h1 h2 h3
  have B1 := hbel.grown h2 (by omega) (fun k hk => (hrow.lt k hk).1)
  replace h1 := byte_snoc (y := 128 + u % 128) (by omega) (by omega) h1
  have hc2 := (World.cell?_of_block (w := wr) (w' := w1) (a := ⟨g, 1, none⟩) (h2.block g (by have := hbel.size; omega) (fun e => hne.out e.symm))).trans hc1
  have hne2 : Hid (v'.ownBlock ≠ some g) := by
   rcases h3 with h3 | h3
   ·rw [h3]; exact hne.out
   rw [h3]; intro e; injection e with e; omega
  clear hrow h2 hbel hne hc1
  go_wp2
  go_roundw
  case rel => exact ⟨f', u / 128, k + 1, _, by go_num, by omega, by omega, by omega, HG, h1, hne2, hc2, B1⟩
  case measure => simp [intOf]; omega
 have HE : Hid (m ++ [UInt8.ofNat u] = L2 ++ gnL y) := by
  show _ = _
  rw [← HF.out.2, gnF_end (show u < 128 by omega)]
 clear HF
 go_wp2_with (at_builtin; refine wpList_append_newAt _ rfl _ _ 22 rfl B 5 (.int .u8 0) 1 Tryz.underlying22 Tryz.infoByte rfl _ _ _ rfl hrow #[.int .u8 (u : Int)] 1 rfl rfl (u8_one _) (by omega) (by unfold maxLen; omega) (by omega) ?_)
 intro v' w1 h1 h2 h3
 have B1 := hbel.grown h2 (by omega) (fun k hk => (hrow.lt k hk).1)
 replace h1 := byte_snoc (y := u) (by omega) rfl h1
 rw [HE.out] at h1
 have hc2 := (World.cell?_of_block (w := wr) (w' := w1) (a := ⟨g, 1, none⟩) (h2.block g (by have := hbel.size; omega) (fun e => hne.out e.symm))).trans hc1
 have hne2 : Hid (v'.ownBlock ≠ some g) := by
  rcases h3 with h3 | h3
  ·rw [h3]; exact hne.out
  rw [h3]; intro e; injection e with e; omega
 have HK : Hid (k + 1 = (L2 ++ gnL y).length) := (own_blen h1).symm
 rw [HK.out] at h1
 clear hrow h2 hbel HK hne hc1 HE h3 hle hu hk hnk h128 hz hmm HN
 go_wp2
 rw [rounds_succ]
 go_wp2
 go_ret
 exact ⟨_, rfl, h1, B1⟩
theorem implPutAct (x : AV) (w : World) (ht : x.t.size ≤ 1048576) (hb : x.b.size ≤ 1048576) :
  Calls Tryz.prog 6 #[.agg #[.int .i64 x.k, .string x.t, .string x.b, .int .i64 x.n]] w fun e w' => ∃ v', e = .returned v' ∧ w'.ownsRow w.heap.size 5 1 v' (actL x).length (bcells (actL x)) ∧ Below w.heap.size w w' := by
 have CA : Hid (∀ W, CB 8 #[.agg #[.int .i64 x.k, .string x.t, .string x.b, .int .i64 x.n]] W (.bool (actB x))) := fun W => implActOk x W
 have HR : True := trivial
 obtain ⟨k, t, b, n⟩ := x
 dsimp only at ht hb CA HR ⊢
 obtain ⟨O, hO⟩ : ∃ O, O = w.alloc (.cells #[.int .i64 k, .string t, .string b, .int .i64 n] 25) := ⟨_, rfl⟩
 have bO : Below w.heap.size w O := by rw [hO]; exact (Below.refl _ _).alloc (Nat.le_refl _) _
 have AO : BAt O w.heap.size [.int .i64 k, .string t, .string b, .int .i64 n] := by rw [hO]; exact BAt.new w #[.int .i64 k, .string t, .string b, .int .i64 n] _
 obtain ⟨A, hA⟩ : ∃ A, actL ⟨k, t, b, n⟩ = A := ⟨_, rfl⟩
 have HA : Hid (A = actL ⟨k, t, b, n⟩) := hA.symm
 rw [hA]
 clear hA
 obtain ⟨P, hP⟩ : ∃ P, actB ⟨k, t, b, n⟩ = P := ⟨_, rfl⟩
 have HP : Hid (actB ⟨k, t, b, n⟩ = P) := hP
 rw [hP] at CA
 clear hP
 go_enter Tryz.func6, Tryz.ntmps6
 go_upto_region 1 with fail
 rw [← hO]
 clear hO
 have c0 := AO.1 0 _ rfl
 have c1 := AO.1 1 _ rfl
 have c2 := AO.1 2 _ rfl
 have c3 := AO.1 3 _ rfl
 go_wp2_with fail
 refine (CA.out _).mono ?_
 rintro e wa ⟨rfl, ba⟩
 have AA := AO.below ba
 have c0 := AA.1 0 _ rfl
 have c1 := AA.1 1 _ rfl
 have c2 := AA.1 2 _ rfl
 have c3 := AA.1 3 _ rfl
 have hg := AA.2.2
 have q1 := numL_len k
 have q2 := numL_len n
 have q3 := numL_len t.size
 have s1 : t.data.toList.length = t.size := rfl
 have Ba : Below w.heap.size w wa := bO.trans (ba.mono bO.size)
 have za := Ba.size
 clear AO AA ba bO CA
 cases P with
 | false =>
  have HE : Hid (A = []) := by show _ = _; rw [HA.out]; unfold actL; rw [HP.out]; rfl
  clear HA HP HR
  go_wp2_with fail
  go_ret
  rw [HE.out]
  exact ⟨_, rfl, World.ownsRow_lit wa #[] 0 za (by decide) rfl, Ba.alloc za _⟩
 | true =>
  have HE : Hid (A = rwA ⟨k, t, b, n⟩) := by show _ = _; rw [HA.out]; unfold actL; rw [HP.out]; rfl
  clear HA HP
  go_upto_region 3 with fail
  refine wp_region_held_drew (S := fun W => Below wa.heap.size wa W) (by kernel_rfl) (Below.refl _ _).drew (fun h0 => ?_)
  refine wpAnyH_take (i := 0) (v := ?_) rfl (by kernel_rfl) (by kernel_rfl) (by kernel_rfl) (fun _ _ _ h => h) (Or.inl ⟨by rfl, fun W hW => ?_⟩) h0 ?_
  rotate_left
  ·clear hW
   go_simp
   try with_reducible rfl
  simp only [Act.put, List.getElem_toArray, List.getElem_cons_zero, List.getElem_cons_succ, List.setIfInBounds_toArray, List.set_cons_zero, List.set_cons_succ]
  refine wpAnyH_take (i := 1) (v := (.int .i64 k)) rfl (by kernel_rfl) (by kernel_rfl) (by kernel_rfl) (fun _ _ _ h => h) (Or.inl ⟨by rfl, fun W hW => ?_⟩) h0 ?_
  ·have q0 := (hW.cell (p := ⟨w.heap.size, 0, none⟩) hg).trans c0
   go_simp
  simp only [Act.put, List.getElem_toArray, List.getElem_cons_zero, List.getElem_cons_succ, List.setIfInBounds_toArray, List.set_cons_zero, List.set_cons_succ]
  refine wpAnyH_take (i := 2) (v := ?_) rfl (by kernel_rfl) (by kernel_rfl) (by kernel_rfl) (fun _ _ _ h => h) (Or.inl ⟨by rfl, fun W hW => ?_⟩) h0 ?_
  rotate_left
  ·clear hW
   go_simp
   try with_reducible rfl
  simp only [Act.put, List.getElem_toArray, List.getElem_cons_zero, List.getElem_cons_succ, List.setIfInBounds_toArray, List.set_cons_zero, List.set_cons_succ]
  refine wpAnyH_take (i := 3) (v := (.int .i64 n)) rfl (by kernel_rfl) (by kernel_rfl) (by kernel_rfl) (fun _ _ _ h => h) (Or.inl ⟨by rfl, fun W hW => ?_⟩) h0 ?_
  ·have q0 := (hW.cell (p := ⟨w.heap.size, 3, none⟩) hg).trans c3
   go_simp
  simp only [Act.put, List.getElem_toArray, List.getElem_cons_zero, List.getElem_cons_succ, List.setIfInBounds_toArray, List.set_cons_zero, List.set_cons_succ]
  refine wpAnyH_take (i := 6) (v := ?_) rfl (by kernel_rfl) (by kernel_rfl) (by kernel_rfl) (fun _ _ _ h => h) (Or.inl ⟨by rfl, fun W hW => ?_⟩) h0 ?_
  rotate_left
  ·clear hW
   go_simp
   try with_reducible rfl
  simp only [Act.put, List.getElem_toArray, List.getElem_cons_zero, List.getElem_cons_succ, List.setIfInBounds_toArray, List.set_cons_zero, List.set_cons_succ]
  refine wpAnyH_take (i := 7) (v := (.string t)) rfl (by kernel_rfl) (by kernel_rfl) (by kernel_rfl) (fun _ _ _ h => h) (Or.inl ⟨by rfl, fun W hW => ?_⟩) h0 ?_
  ·have q0 := (hW.cell (p := ⟨w.heap.size, 1, none⟩) hg).trans c1
   go_simp
  simp only [Act.put, List.getElem_toArray, List.getElem_cons_zero, List.getElem_cons_succ, List.setIfInBounds_toArray, List.set_cons_zero, List.set_cons_succ]
  refine wpAnyH_take (i := 9) (v := ?_) rfl (by kernel_rfl) (by kernel_rfl) (by kernel_rfl) (fun _ _ _ h => h) (Or.inl ⟨by rfl, fun W hW => ?_⟩) h0 ?_
  rotate_left
  ·clear hW
   go_simp
   try with_reducible rfl
  simp only [Act.put, List.getElem_toArray, List.getElem_cons_zero, List.getElem_cons_succ, List.setIfInBounds_toArray, List.set_cons_zero, List.set_cons_succ]
  refine wpAnyH_take (i := 10) (v := (.string b)) rfl (by kernel_rfl) (by kernel_rfl) (by kernel_rfl) (fun _ _ _ h => h) (Or.inl ⟨by rfl, fun W hW => ?_⟩) h0 ?_
  ·have q0 := (hW.cell (p := ⟨w.heap.size, 2, none⟩) hg).trans c2
   go_simp
  simp only [Act.put, List.getElem_toArray, List.getElem_cons_zero, List.getElem_cons_succ, List.setIfInBounds_toArray, List.set_cons_zero, List.set_cons_succ]
  refine wpAnyH_ready (rs := [4]) (by kernel_rfl) (by simp) (AllReadyH.cons rfl (fun K hK => ?_) AllReadyH.nil)
  go_simp
  refine hK.out _ _ (h0.alloc h0.size _) (fun h1 => ?_)
  clear hK K h0
  refine wpAnyH_ready (rs := [5]) (by kernel_rfl) (by simp) (AllReadyH.cons rfl (fun K hK => ?_) AllReadyH.nil)
  go_simp
  refine (implPutNums2 k n _ wa.heap.size [] _ wa.heap.size (by simp) h1.size (by simp) (by simp [Value.ownBlock]) (by show (wa.alloc _).cell? _ = _; rw [World.cell?_alloc_at _ _ _ _ rfl]; rfl) (by show (wa.alloc _).cell? _ = _; rw [World.cell?_alloc_at _ _ _ _ rfl]; rfl) ⟨rfl, Or.inl ⟨rfl, rfl⟩⟩).mono ?_
  rintro e w2 ⟨v2, rfl, o2, bq⟩
  have h3 : Below wa.heap.size wa w2 := h1.trans bq
  refine hK.out _ _ h3 (fun h9 => ?_)
  clear hK K h9 bq h1
  rw [List.nil_append] at o2
  have r2 := BRow.of_own o2
  clear o2
  refine wpAnyH_ready (rs := [8]) (by kernel_rfl) (by simp) (AllReadyH.cons rfl (fun K hK => ?_) AllReadyH.nil)
  go_simp
  refine (implPutText t _ _ _ r2 (by rw [List.length_append]; omega) (by omega)).mono ?_
  rintro e w3 ⟨v3, rfl, o3, bq⟩
  have h4 : Below wa.heap.size wa w3 := h3.trans (bq.mono h3.size)
  refine hK.out _ _ h4 (fun h9 => ?_)
  clear hK K h9 bq h3
  have r3 := BRow.of_own o3
  clear o3 r2
  have z4 := h4.size
  refine wpAnyH_ready (rs := [11]) (by kernel_rfl) (by simp) (AllReadyH.cons rfl (fun K hK => ?_) AllReadyH.nil)
  go_simp
  refine (implPutText b _ _ _ r3 (by simp only [List.length_append]; omega) (by omega)).mono ?_
  rintro e w4 ⟨v4, rfl, o4, bq⟩
  have h5 : Below wa.heap.size wa w4 := h4.trans (bq.mono h4.size)
  refine hK.out _ _ h5 (fun h9 => ?_)
  clear hK K h9 bq h4
  clear r3
  refine wpAnyH_take (i := 12) (v := ?_) rfl (by kernel_rfl) (by kernel_rfl) (by kernel_rfl) (fun _ _ _ h => h) (Or.inl ⟨by rfl, fun W hW => ?_⟩) h5 ?_
  rotate_left
  ·clear hW
   go_simp
   try with_reducible rfl
  simp only [Act.put, List.getElem_toArray, List.getElem_cons_zero, List.getElem_cons_succ, List.setIfInBounds_toArray, List.set_cons_zero, List.set_cons_succ]
  refine wpAnyH_done (by kernel_rfl) ?_ _
  have o5 := own_base o4 (Nat.le_trans za z4)
  have e5 : gnL k ++ gnL n ++ (gnL t.size ++ t.data.toList) ++ (gnL b.size ++ b.data.toList) = A := by rw [HE.out]; unfold rwA; simp only [List.append_assoc]
  rw [e5] at o5
  have B5 : Below w.heap.size w w4 := Ba.trans (h5.mono za)
  clear o4 e5 h5
  go_wp2_with fail
  go_ret
  exact ⟨_, rfl, o5, B5⟩
end Go.Proofs.YtidecdlaeomfoaaGreat
namespace Go.Proofs.YtidecdlaeomfoaaGreat
open Go.RowKit
set_option linter.unusedVariables false
theorem u32_wrap_small (n : Int) (h0 : 0 ≤ n) (h1 : n < 4294967296) : IntKind.u32.wrap n = n := by
 simp [IntKind.wrap, IntKind.bits, IntKind.signed]; omega
theorem u32_bits {a : Nat} (ha : a < 4294967296) : (BitVec.ofInt 32 (a : Int)).toNat = a := by
 rw [BitVec.ofInt_natCast, BitVec.toNat_ofNat]; exact Nat.mod_eq_of_lt (by omega)
theorem u32_xor_nat (a b : Nat) (ha : a < 4294967296) (hb : b < 4294967296) : bits .xor .u32 (a : Int) (b : Int) = ((a ^^^ b : Nat) : Int) := by
 have hx : a ^^^ b < 2 ^ 32 := Nat.xor_lt_two_pow (by omega) (by omega)
 show IntKind.u32.wrap ((BitVec.ofInt 32 (a : Int) ^^^ BitVec.ofInt 32 (b : Int)).toNat : Int) = _
 rw [BitVec.toNat_xor, u32_bits ha, u32_bits hb, u32_wrap_small _ (by omega) (by omega)]
theorem u32_and1 (a : Nat) (ha : a < 4294967296) : bits .and .u32 (a : Int) 1 = ((a % 2 : Nat) : Int) := by
 show IntKind.u32.wrap ((BitVec.ofInt 32 (a : Int) &&& BitVec.ofInt 32 ((1 : Nat) : Int)).toNat : Int) = _
 rw [BitVec.toNat_and, u32_bits ha, u32_bits (by omega), Nat.and_one_is_mod, u32_wrap_small _ (by omega) (by omega)]
theorem u32_not (x : Nat) (hx : x < 4294967296) : bits .xor .u32 IntKind.u32.max (x : Int) = ((4294967295 - x : Nat) : Int) := by
 have h := u32_xor_nat x 4294967295 hx (by omega)
 rw [crc_turn x hx] at h
 have c := u32_xor_nat 4294967295 x (by omega) hx
 rw [Nat.xor_comm, crc_turn x hx] at c
 exact c
theorem w64_in (n : Int) (h : -9223372036854775808 ≤ n ∧ n ≤ 9223372036854775807) : wrap64 n = n := by
 unfold wrap64; omega
theorem crcBit_odd {x : Nat} (h : x % 2 = 1) : crcBit x = (x / 2) ^^^ 3988292384 := if_pos h
theorem crcBit_even {x : Nat} (h : x % 2 = 0) : crcBit x = x / 2 := if_neg (by omega)
theorem crc_step (l : List UInt8) (k : Nat) (h : k < l.length) (x : Nat) : crcF x (l.take (k + 1)) = crcBits 8 (crcF x (l.take k) ^^^ (l.getD k 0).toNat) := by
 rw [List.take_succ_eq_append_getElem h, crcF_snoc]
 simp [crcByte, List.getD, h]
theorem implCrc (v : Value) (l : List UInt8) (w : World) (hin : BRow w v l) (hn : l.length ≤ 1099511627776) :
  Calls Tryz.prog 40 #[v] w fun e w' => e = .returned (.int .i64 (crcL l : Int)) ∧ w = w' := by
 rcases hin with ⟨rfl, ao, cap, rfl⟩ | ⟨h0, b, off, cap, rfl, hb, hc⟩
 ·go_enter Tryz.func40, Tryz.ntmps40
  go_wp2
  refine wp_loop_rounds 1 ?_
  rw [rounds_succ]
  have e0 : bits .xor .u32 IntKind.u32.max 4294967295 = 0 := u32_not 4294967295 (by omega)
  go_wp2
  go_ret
  exact ⟨ret_int (by rw [w64_in _ (by omega)]; rfl), rfl⟩
 have HC : Hid (∀ i, i < l.length → w.cell? ⟨b, off + i, none⟩ = some (.int .u8 ((l.getD i 0).toNat : Int))) := hc
 clear hc
 obtain ⟨n, hn0⟩ : ∃ n, n = l.length := ⟨_, rfl⟩
 have HL : Hid (n = l.length) := hn0
 rw [← hn0] at hn h0 ⊢
 clear hn0
 go_enter Tryz.func40, Tryz.ntmps40
 go_wp2
 go_loop [3, 5, 6, 9, 17] (fun a _ _ i _ => ∃ k x : Nat, k ≤ n ∧ i = .int .i64 k ∧ a = .int .u32 (x : Int) ∧ x < 4294967296 ∧ Hid (x = crcF 4294967295 (l.take k))) (fun _ _ _ i _ => n - (intOf i).toNat)
 case atStart => exact ⟨0, 4294967295, Nat.zero_le _, rfl, rfl, by omega, rfl⟩
 obtain ⟨k, x, hk, rfl, rfl, hx, HX⟩ := hrel
 by_cases hlt : k < n
 ·have ca := HC.out k (by have := HL.out; omega)
  have hr : (l.getD k 0).toNat < 256 := (l.getD k 0).toNat_lt
  have HS : Hid (crcF 4294967295 (l.take (k + 1)) = crcBits 8 (x ^^^ (l.getD k 0).toNat)) := by
   show _ = _
   rw [crc_step l k (by have := HL.out; omega), HX.out]
  generalize (l.getD k 0).toNat = r at *
  have hxr : x ^^^ r < 4294967296 := Nat.xor_lt_two_pow (n := 32) (by omega) (by omega)
  have ex := u32_xor_nat x r (by omega) (by omega)
  generalize x ^^^ r = y at *
  go_wp2
  go_loop [3, 6, 17] (fun a _ i => ∃ j z : Nat, j ≤ 8 ∧ i = .int .i64 j ∧ a = .int .u32 (z : Int) ∧ z < 4294967296 ∧ Hid (crcBits (8 - j) z = crcBits 8 y)) (fun _ _ i => 8 - (intOf i).toNat)
  case atStart => exact ⟨0, y, by omega, rfl, rfl, hxr, rfl⟩
  obtain ⟨j, z, hj, rfl, rfl, hz, HZ⟩ := hrel
  by_cases hj8 : j < 8
  ·have HB : Hid (crcBits (8 - (j + 1)) (crcBit z) = crcBits 8 y) := by
    show _ = _
    rw [← HZ.out, show 8 - j = 8 - (j + 1) + 1 by omega]
    rfl
   by_cases hp : z % 2 = 1
   ·have e1 : bits .and .u32 (z : Int) 1 = 1 := by rw [u32_and1 z (by omega), hp]; rfl
    have e2 : bits .xor .u32 ((z : Int) / 2) 3988292384 = (crcBit z : Int) := by
     have := u32_xor_nat (z / 2) 3988292384 (by omega) (by omega)
     rw [crcBit_odd hp]
     exact this
    have hq := crcBit_lt hz
    generalize crcBit z = q at *
    clear hp
    go_wp2
    go_round
    case rel => exact ⟨j + 1, q, by omega, by go_num, rfl, hq, HB⟩
    case measure => simp [intOf]; omega
   have e1 : bits .and .u32 (z : Int) 1 = 0 := by rw [u32_and1 z (by omega), show z % 2 = 0 by omega]; rfl
   have e2 : ((z : Int) / 2) = (crcBit z : Int) := by
    rw [crcBit_even (by omega)]
    rfl
   have hq := crcBit_lt hz
   generalize crcBit z = q at *
   clear hp
   go_wp2
   go_round
   case rel => exact ⟨j + 1, q, by omega, by go_num, rfl, hq, HB⟩
   case measure => simp [intOf]; omega
  have HE : Hid (z = crcF 4294967295 (l.take (k + 1))) := by
   show _ = _
   rw [HS.out, ← HZ.out, show 8 - j = 0 by omega]
   rfl
  go_wp2
  go_round
  case rel => exact ⟨k + 1, z, by omega, by go_num, rfl, hz, HE⟩
  case measure => simp [intOf]; omega
 have HE : Hid ((4294967295 - x : Nat) = crcL l) := by
  show _ = _
  have h1 := HX.out
  rw [List.take_of_length_le (by have := HL.out; omega)] at h1
  unfold crcL
  omega
 have e0 := u32_not x hx
 have hq : 4294967295 - x < 4294967296 := by omega
 generalize 4294967295 - x = q at *
 go_wp2
 go_ret
 exact ⟨ret_int (by have := HE.out; rw [w64_in _ (by omega)]; omega), rfl⟩
def fourN : Nat → Nat → List UInt8
 | 0, _ => []
 | k + 1, x => UInt8.ofNat x :: fourN k (x / 256)
theorem fourN_four (x : Nat) : fourN 4 x = fourL x := by
 simp [fourN, fourL, Nat.div_div_eq_div_mul]
theorem implCrcBytes (v : Value) (l : List UInt8) (w : World) (hin : BRow w v l) (hn : l.length ≤ 1099511627776) :
  Calls Tryz.prog 33 #[v] w fun e w' => ∃ v', e = .returned v' ∧ w'.ownsRow w.heap.size 5 1 v' 4 (bcells (fourL (crcL l))) ∧ Below w.heap.size w w' := by
 have hx := crcL_lt l
 have HI : Hid (BRow w v l) := hin
 have HK : Hid (∀ ww : World, BRow ww v l → CS 40 #[v] ww (.int .i64 (crcL l : Int))) := fun ww h => implCrc v l ww h hn
 obtain ⟨ao, cp, hv⟩ := hin.slice
 subst hv
 clear hin
 generalize crcL l = x at *
 go_enter Tryz.func33, Tryz.ntmps33
 go_wp2_with fail
 refine (HK.out _ (HI.out.below ((Below.refl _ _).alloc (Nat.le_refl _) _))).mono ?_
 rintro e w1 ⟨rfl, rfl⟩
 go_wp2_with fail
 go_loopw [3, 4, 8] (fun a s i wr => ∃ (k y : Nat) (m : List UInt8), k ≤ 4 ∧ i = .int .i64 k ∧ s = .int .i64 (y : Int) ∧ y < 4294967296 ∧ Hid (m ++ fourN (4 - k) y = fourL x) ∧ wr.ownsRow w.heap.size 5 1 a k (bcells m) ∧ Below w.heap.size w wr) (fun _ _ i _ => 4 - (intOf i).toNat)
 case atStart => exact ⟨0, x, [], by omega, rfl, rfl, hx, fourN_four x, World.ownsRow_lit w #[] 0 (Nat.le_refl _) (by decide) rfl, (Below.refl _ _).alloc (Nat.le_refl _) _⟩
 obtain ⟨k, y, m, hk, rfl, rfl, hy, HM, hown, hbel⟩ := hrel
 have hz := hbel.size
 by_cases h4 : k < 4
 ·have HN : Hid ((m ++ [UInt8.ofNat y]) ++ fourN (4 - (k + 1)) (y / 256) = fourL x) := by
   show _ = _
   rw [← HM.out, show 4 - k = 4 - (k + 1) + 1 by omega]
   simp [fourN]
  have HR : Hid (bcells (m ++ [UInt8.ofNat y]) = bcells m ++ [.int .u8 ((y : Int) % 256)]) := by
   show _ = _
   rw [bcells_snoc]
   simp
  go_wp2_with (at_builtin; refine wpList_append_newAt _ rfl _ _ 22 rfl w.heap.size 5 (.int .u8 0) 1 Tryz.underlying22 Tryz.infoByte rfl _ _ _ rfl hown #[.int .u8 ((y : Int) % 256)] 1 rfl rfl (by simp [Value.oneCell']) (by omega) (by unfold maxLen; omega) hz ?_)
  intro v' w1 h1 h2 _
  have B1 := hbel.grown h2 hz (fun k hk => (hown.lt k hk).1)
  rw [show bcells m ++ #[Value.int .u8 ((y : Int) % 256)].toList = bcells (m ++ [UInt8.ofNat y]) from HR.out.symm] at h1
  clear hown h2 hbel HR
  go_wp2
  go_roundw
  case rel => exact ⟨k + 1, y / 256, _, by omega, by go_num, by go_num, by omega, HN, h1, B1⟩
  case measure => simp [intOf]; omega
 have HE : Hid (m = fourL x) := by
  show _ = _
  have := HM.out
  rw [show 4 - k = 0 by omega] at this
  simpa [fourN] using this
 have h44 : k = 4 := by omega
 subst h44
 rw [HE.out] at hown
 go_wp2
 go_ret
 exact ⟨_, rfl, hown, hbel⟩
theorem implFrame (v : Value) (l : List UInt8) (w : World) (hin : BRow w v l) (hn : l.length ≤ 1099511627776) :
  Calls Tryz.prog 25 #[v] w fun e w' => ∃ v', e = .returned v' ∧ w'.ownsRow w.heap.size 5 1 v' (frameL l).length (bcells (frameL l)) ∧ Below w.heap.size w w' := by
 have HI : Hid (BRow w v l) := hin
 obtain ⟨ao, cp, hv⟩ := hin.slice
 subst hv
 clear hin
 have hnl := numL_len l.length
 go_enter Tryz.func25, Tryz.ntmps25
 go_wp2_with fail
 refine (implPutNum _ _ [] _ (.inl ⟨rfl, _, _, rfl⟩) (by simp)).mono ?_
 rintro e wa ⟨va, rfl, oa, ba⟩
 have za := ba.size
 rw [List.nil_append, List.length_nil, Nat.zero_add] at oa
 go_wp2_with (at_builtin; refine wpList_append_brow rfl _ _ 22 rfl w.heap.size 5 Tryz.underlying22 Tryz.infoByte _ _ _ rfl oa _ l rfl (HI.out.below ba) (by omega) za ?_)
 intro vb wb ob g2 _
 have bb : Below w.heap.size w wb := ba.grown g2 za (fun k hk => (oa.lt k hk).1)
 have zb := bb.size
 clear oa g2
 go_wp2_with fail
 refine (implCrcBytes _ l _ (HI.out.below bb) hn).mono ?_
 rintro e wc ⟨vc, rfl, oc, bc⟩
 have zc := bc.size
 have od := own_below ob bc
 have bd : Below w.heap.size w wc := bb.trans (bc.mono zb)
 clear ob
 go_wp2_with (at_builtin; refine wpList_append_brow rfl _ _ 22 rfl w.heap.size 5 Tryz.underlying22 Tryz.infoByte _ _ _ rfl od _ _ rfl (BRow.of_own oc) (by rw [fourL_len]; omega) bd.size ?_)
 intro ve we oe g3 _
 have be : Below w.heap.size w we := bd.grown g3 bd.size (fun k hk => (od.lt k hk).1)
 have HF : Hid (gnL l.length ++ (l ++ fourL (crcL l)) = frameL l) := by show _ = _; simp [frameL]
 rw [HF.out] at oe
 have HL : Hid ((frameL l).length = (gnL l.length).length + l.length + (fourL (crcL l)).length) := own_blen oe
 rw [← HL.out] at oe
 clear od oc g3 HL HF
 go_wp2
 go_ret
 exact ⟨_, rfl, oe, be⟩
theorem implBEqual (va vb : Value) (a b : List UInt8) (w : World) (ha : BRow w va a) (hb : BRow w vb b) :
  Calls Tryz.prog 22 #[va, vb] w fun e w' => e = .returned (.bool (decide (a = b))) ∧ w = w' := by
 have hca := run_string_row (P := Tryz.prog) w 22 9 5 Tryz.underlying22 Tryz.underlying5 Tryz.underlying9 ha
 have hcb := run_string_row (P := Tryz.prog) w 22 9 5 Tryz.underlying22 Tryz.underlying5 Tryz.underlying9 hb
 obtain ⟨ao, ca, hva⟩ := ha.slice
 obtain ⟨bo, cb, hvb⟩ := hb.slice
 subst hva hvb
 clear ha hb
 by_cases he : a = b
 ·subst he
  go_enter Tryz.func22, Tryz.ntmps22
  go_wp2
  go_ret
  exact ⟨ret_bool (by simp), rfl⟩
 go_enter Tryz.func22, Tryz.ntmps22
 go_wp2
 go_ret
 exact ⟨ret_bool (by simp [he]), rfl⟩
theorem implBPrefix (va vb : Value) (a b : List UInt8) (w : World) (ha : BRow w va a) (hb : BRow w vb b) (h4 : b.length = 4) (hn : a.length ≤ 1099511627776) :
  Calls Tryz.prog 34 #[va, vb] w fun e w' => e = .returned (.bool (decide (partL a 0 4 = b))) ∧ w = w' := by
 by_cases hs : a.length < 4
 ·have hd : decide (partL a 0 4 = b) = false := by
   refine decide_eq_false fun e => ?_
   have := congrArg List.length e
   unfold partL at this
   rw [List.length_take, List.length_drop, h4] at this
   omega
  rw [hd]
  obtain ⟨ao, ca, hva⟩ := ha.slice
  obtain ⟨bo, cb, hvb⟩ := hb.slice
  rw [h4] at hvb
  subst hva hvb
  have hs2 : (a.length : Int) < 4 := by omega
  clear ha hb hd
  go_enter Tryz.func34, Tryz.ntmps34
  go_wp2
  go_ret
  exact ⟨rfl, rfl⟩
 rcases ha with ⟨rfl, _⟩ | ⟨h0, g, off, cap, rfl, hg, hc⟩
 ·simp at hs
 have HP : Hid (BRow w (.slice (some ⟨g, off, none⟩) 4 (a.length + cap)) (partL a 0 4)) := BRow.part hg hc (a := 0) (n := 4) (by omega) (by omega) rfl
 have HB : Hid (BRow w vb b) := hb
 obtain ⟨bo, cb, hvb⟩ := hb.slice
 rw [h4] at hvb
 subst hvb
 have hs2 : ¬ (a.length : Int) < 4 := by omega
 clear hb hc
 go_enter Tryz.func34, Tryz.ntmps34
 go_wp2_with fail
 refine (implBEqual _ _ (partL a 0 4) b _ HP.out HB.out).mono ?_
 rintro e w1 ⟨rfl, rfl⟩
 go_wp2
 go_ret
 exact ⟨rfl, rfl⟩
end Go.Proofs.YtidecdlaeomfoaaGreat
