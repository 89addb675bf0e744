/- Contracts of impl.putNums at two numbers, of spec.PutAct and impl.PutAct. -/
import Derived.Test.YtfigkoapebdlfaaRows
import Derived.Test.YtfigkoapebdlfaaActOkB
import Derived.Test.YtfigkoapebdlfaaNumPut
import Derived.Deep.DeepCutAuto
import Derived.Deep.RegionHeld3
import Derived.Handy
namespace Go.Proofs.Ytfigkoapebdlfaa
open Go.RowKit
set_option linter.unusedVariables false
set_option linter.unusedSimpArgs false

set_option maxRecDepth 100000 in
set_option maxHeartbeats 4000000 in
theorem implPutNums2 (x y : Int) (v : Value) (g : Nat) (l : List UInt8) (w : World) (B : Nat) (hn : l.length ≤ 1099511627776) (hB : B ≤ w.heap.size) (hg : g < w.heap.size) (hne0 : v.ownBlock ≠ some g) (hc0 : w.cell? ⟨g, 0, none⟩ = some (.int .i64 x)) (hc1 : w.cell? ⟨g, 1, none⟩ = some (.int .i64 y)) (hown : w.ownsRow B 5 1 v l.length (bcells l)) :
    Calls Try.prog 35 #[v, .slice (some ⟨g, 0, none⟩) 2 2] w fun e w' => ∃ v', e = .returned v' ∧ w'.ownsRow B 5 1 v' ((l ++ numL x) ++ numL y).length (bcells ((l ++ numL x) ++ numL y)) ∧ Below B w w' := by
  have hne : Hid (v.ownBlock ≠ some g) := hne0
  clear hne0
  have hbel : Below B w w := Below.refl _ _
  have hnl := numL_len x
  obtain ⟨L2, hL2⟩ : ∃ L2, L2 = l ++ numL x := ⟨_, rfl⟩
  have hn2 : L2.length ≤ 1099511627790 := by rw [hL2, List.length_append]; omega
  have HL2 : Hid (L2 = l ++ numL x) := hL2
  rw [← hL2]
  clear hL2 hnl
  go_enter Try.func35, Try.ntmps35
  go_wp2_with fail
  refine wp_loop_rounds 3 ?_
  rw [rounds_succ]
  have hmm := numC_min x
  have hle := numC_le x
  have HN : Hid (numL x = numF 4 (numC x)) := rfl
  generalize numC x = N at *
  go_wp2_with fail
  go_loopw [0, 6] (fun a i wr => ∃ (f u k : Nat) (m : List UInt8), i = .int .i64 (u : Int) ∧ u ≤ 1000000000 ∧ k + f ≤ l.length + 4 ∧ l.length ≤ k ∧ Hid (u < 128 ^ (f + 1) ∧ m ++ numF f u = l ++ numL x) ∧ wr.ownsRow B 5 1 a k (bcells m) ∧ Hid (a.ownBlock ≠ some g) ∧ wr.cell? ⟨g, 1, none⟩ = some (.int .i64 y) ∧ Below B w wr) (fun _ i _ => (intOf i).toNat)
  case atStart => exact ⟨4, N, l.length, l, rfl, hle, by omega, Nat.le_refl _, ⟨by omega, by rw [HN.out]⟩, hown, hne, hc1, hbel⟩
  case round =>
    clear hown hne hc1 hbel
    obtain ⟨f, u, k, m, rfl, hu, hk, hnk, HF, hrow, hne, hc1, hbel⟩ := hrel
    have hz := hbel.size
    by_cases h128 : 128 ≤ (u : Int)
    · obtain ⟨f', hf', e1, e2⟩ := numF_more (show 128 ≤ u by omega) HF.out.1
      subst hf'
      have HG : Hid (u / 128 < 128 ^ (f' + 1) ∧ (m ++ [UInt8.ofNat (128 + u % 128)]) ++ numF f' (u / 128) = l ++ numL x) := ⟨e2, by rw [← HF.out.2, e1]; simp⟩
      clear e1 e2 HF
      go_wp2_with (at_builtin; refine wpList_append_newAt _ rfl _ _ 29 rfl B 5 (.int .u8 0) 1 Try.underlying29 Try.infoByte rfl _ _ _ rfl hrow #[.int .u8 (128 + (u : Int) % 128)] 1 rfl rfl (u8_one _) (by omega) (by unfold maxLen; omega) (by omega) ?_)
      intro v' w1 h1 h2 h3
      have B1 := hbel.grown h2 (by omega) (fun k hk => (hrow.lt k hk).1)
      replace h1 := byte_snoc (y := 128 + u % 128) (by omega) (by omega) h1
      have hc2 := (World.cell?_of_block (w := wr) (w' := w1) (a := ⟨g, 1, none⟩) (h2.block g (by have := hbel.size; omega) (fun e => hne.out e.symm))).trans hc1
      have hne2 : Hid (v'.ownBlock ≠ some g) := by
        rcases h3 with h3 | h3
        · rw [h3]; exact hne.out
        · rw [h3]; intro e; injection e with e; omega
      clear hrow h2 hbel hne hc1
      go_wp2
      go_roundw
      case rel => exact ⟨f', u / 128, k + 1, _, by go_num, by omega, by omega, by omega, HG, h1, hne2, hc2, B1⟩
      case measure => simp [intOf]; omega
    · have HE : Hid (m ++ [UInt8.ofNat u] = l ++ numL x) := by
        show _ = _
        rw [← HF.out.2, numF_end (show u < 128 by omega)]
      clear HF
      go_wp2_with (at_builtin; refine wpList_append_newAt _ rfl _ _ 29 rfl B 5 (.int .u8 0) 1 Try.underlying29 Try.infoByte rfl _ _ _ rfl hrow #[.int .u8 (u : Int)] 1 rfl rfl (u8_one _) (by omega) (by unfold maxLen; omega) (by omega) ?_)
      intro v' w1 h1 h2 h3
      have B1 := hbel.grown h2 (by omega) (fun k hk => (hrow.lt k hk).1)
      replace h1 := byte_snoc (y := u) (by omega) rfl h1
      rw [HE.out] at h1
      have hc2 := (World.cell?_of_block (w := wr) (w' := w1) (a := ⟨g, 1, none⟩) (h2.block g (by have := hbel.size; omega) (fun e => hne.out e.symm))).trans hc1
      have hne2 : Hid (v'.ownBlock ≠ some g) := by
        rcases h3 with h3 | h3
        · rw [h3]; exact hne.out
        · rw [h3]; intro e; injection e with e; omega
      have HK : Hid (k + 1 = (l ++ numL x).length) := (own_blen h1).symm
      rw [HK.out] at h1
      clear hrow h2 hbel HK hne hc1 HE h3 hle hu hk hnk h128 hz hmm HN
      have hown := h1
      rw [← HL2.out] at hown
      have hne := hne2
      have hc1 := hc2
      have hbel := B1
      have hg2 : g < w1.heap.size := by have := hbel.size; omega
      clear h1 hne2 hc2 B1
      go_wp2
      rw [rounds_succ]
      have hmm := numC_min y
      have hle := numC_le y
      have HN : Hid (numL y = numF 4 (numC y)) := rfl
      generalize numC y = N at *
      go_wp2_with fail
      go_loopw [0, 6] (fun a i wr => ∃ (f u k : Nat) (m : List UInt8), i = .int .i64 (u : Int) ∧ u ≤ 1000000000 ∧ k + f ≤ L2.length + 4 ∧ L2.length ≤ k ∧ Hid (u < 128 ^ (f + 1) ∧ m ++ numF f u = L2 ++ numL y) ∧ wr.ownsRow B 5 1 a k (bcells m) ∧ Hid (a.ownBlock ≠ some g) ∧ wr.cell? ⟨g, 1, none⟩ = some (.int .i64 y) ∧ Below B w wr) (fun _ i _ => (intOf i).toNat)
      case atStart => exact ⟨4, N, L2.length, L2, rfl, hle, by omega, Nat.le_refl _, ⟨by omega, by rw [HN.out]⟩, hown, hne, hc1, hbel⟩
      case round =>
        clear hown hne hc1 hbel
        obtain ⟨f, u, k, m, rfl, hu, hk, hnk, HF, hrow, hne, hc1, hbel⟩ := hrel
        have hz := hbel.size
        by_cases h128 : 128 ≤ (u : Int)
        · obtain ⟨f', hf', e1, e2⟩ := numF_more (show 128 ≤ u by omega) HF.out.1
          subst hf'
          have HG : Hid (u / 128 < 128 ^ (f' + 1) ∧ (m ++ [UInt8.ofNat (128 + u % 128)]) ++ numF f' (u / 128) = L2 ++ numL y) := ⟨e2, by rw [← HF.out.2, e1]; simp⟩
          clear e1 e2 HF
          go_wp2_with (at_builtin; refine wpList_append_newAt _ rfl _ _ 29 rfl B 5 (.int .u8 0) 1 Try.underlying29 Try.infoByte rfl _ _ _ rfl hrow #[.int .u8 (128 + (u : Int) % 128)] 1 rfl rfl (u8_one _) (by omega) (by unfold maxLen; omega) (by omega) ?_)
          intro v' w1 h1 h2 h3
          have B1 := hbel.grown h2 (by omega) (fun k hk => (hrow.lt k hk).1)
          replace h1 := byte_snoc (y := 128 + u % 128) (by omega) (by omega) h1
          have hc2 := (World.cell?_of_block (w := wr) (w' := w1) (a := ⟨g, 1, none⟩) (h2.block g (by have := hbel.size; omega) (fun e => hne.out e.symm))).trans hc1
          have hne2 : Hid (v'.ownBlock ≠ some g) := by
            rcases h3 with h3 | h3
            · rw [h3]; exact hne.out
            · rw [h3]; intro e; injection e with e; omega
          clear hrow h2 hbel hne hc1
          go_wp2
          go_roundw
          case rel => exact ⟨f', u / 128, k + 1, _, by go_num, by omega, by omega, by omega, HG, h1, hne2, hc2, B1⟩
          case measure => simp [intOf]; omega
        · have HE : Hid (m ++ [UInt8.ofNat u] = L2 ++ numL y) := by
            show _ = _
            rw [← HF.out.2, numF_end (show u < 128 by omega)]
          clear HF
          go_wp2_with (at_builtin; refine wpList_append_newAt _ rfl _ _ 29 rfl B 5 (.int .u8 0) 1 Try.underlying29 Try.infoByte rfl _ _ _ rfl hrow #[.int .u8 (u : Int)] 1 rfl rfl (u8_one _) (by omega) (by unfold maxLen; omega) (by omega) ?_)
          intro v' w1 h1 h2 h3
          have B1 := hbel.grown h2 (by omega) (fun k hk => (hrow.lt k hk).1)
          replace h1 := byte_snoc (y := u) (by omega) rfl h1
          rw [HE.out] at h1
          have hc2 := (World.cell?_of_block (w := wr) (w' := w1) (a := ⟨g, 1, none⟩) (h2.block g (by have := hbel.size; omega) (fun e => hne.out e.symm))).trans hc1
          have hne2 : Hid (v'.ownBlock ≠ some g) := by
            rcases h3 with h3 | h3
            · rw [h3]; exact hne.out
            · rw [h3]; intro e; injection e with e; omega
          have HK : Hid (k + 1 = (L2 ++ numL y).length) := (own_blen h1).symm
          rw [HK.out] at h1
          clear hrow h2 hbel HK hne hc1 HE h3 hle hu hk hnk h128 hz hmm HN
          go_wp2
          rw [rounds_succ]
          go_wp2
          go_ret
          exact ⟨_, rfl, h1, B1⟩
end Go.Proofs.Ytfigkoapebdlfaa
