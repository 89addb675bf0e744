/- The contracts of slices.insertionSortCmpFunc, stableCmpFunc and SortStableFunc at marks. -/
import Derived.Test.YtdnlaijpgjpplaaRows
import Derived.Test.YtdnlaijpgjpplaaSrtRow
import Derived.Test.YtdnlaijpgjpplaaKeyImpl
import Derived.BigRegion
import Derived.Deep.DeepCutAuto
import Derived.Deep.RegionHeld3
namespace Go.Proofs.Ytdnlaijpgjpplaa
open Go.RowKit
set_option linter.unusedVariables false
set_option linter.unusedSimpArgs false

/-- Sorted by laying one behind the other in. -/
def srtI (l : List EV) : List EV := l.foldl (fun S y => smg S [y]) []
theorem srtI_snoc (l : List EV) (y : EV) : srtI (l ++ [y]) = smg (srtI l) [y] := by unfold srtI; rw [List.foldl_append]; rfl
theorem fold_srt : ∀ (l S : List EV), Srt S → Srt (l.foldl (fun S y => smg S [y]) S)
  | [], _, h => h
  | y :: l, S, h => fold_srt l _ (srt_smg h (srt_cons.2 ⟨(fun _ hz => by cases hz), List.Pairwise.nil⟩))
theorem srtI_srt (l : List EV) : Srt (srtI l) := fold_srt l [] List.Pairwise.nil
theorem fold_fd (k : List UInt8) : ∀ (l S : List EV), Srt S → fd k (l.foldl (fun S y => smg S [y]) S) = fd k (S ++ l)
  | [], S, _ => by rw [List.append_nil]; rfl
  | y :: l, S, h => by
    have h1 : Srt [y] := srt_cons.2 ⟨(fun _ hz => by cases hz), List.Pairwise.nil⟩
    rw [List.foldl_cons, fold_fd k l _ (srt_smg h h1), fd_app, fd_smg k h h1, ← fd_app, List.append_assoc]
    rfl
theorem srtI_fd (k : List UInt8) (l : List EV) : fd k (srtI l) = fd k l := fold_fd k l [] List.Pairwise.nil
theorem fold_len : ∀ (l S : List EV), (l.foldl (fun S y => smg S [y]) S).length = S.length + l.length
  | [], _ => rfl
  | y :: l, S => by
    rw [List.foldl_cons, fold_len l, smg_len]
    simp only [List.length_cons, List.length_nil]
    omega
theorem srtI_len (l : List EV) : (srtI l).length = l.length := by unfold srtI; rw [fold_len]; simp
set_option maxRecDepth 100000 in
set_option maxHeartbeats 4000000 in
theorem implInsertion (w W : World) (base g n cap : Nat) (A X C : List EV) (a b : Nat) (ha : A.length = a) (hb : a + X.length = b) (hn : n ≤ 1048576) (h : MRw w W base g n cap (A ++ (X ++ C))) :
    Calls Try.prog 52 #[.slice (some ⟨g, 0, none⟩) n cap, .int .i64 a, .int .i64 b, .func (.func 30) #[] #[]] W fun e w' => e = .returned (.tuple #[]) ∧ MRw w w' base g n cap (A ++ (srtI X ++ C)) := by
  have hlen := h.len
  simp only [List.length_append] at hlen
  have HL := hidM h
  clear h
  have key : ∃ X1 X2, X = X1 ++ X2 ∧ (X1.length = 1 ∨ (X = [] ∧ X1 = [])) ∧ MRw w W base g n cap (A ++ (srtI X1 ++ (X2 ++ C))) := by
    cases X with
    | nil => exact ⟨[], [], rfl, .inr ⟨rfl, rfl⟩, HL.out⟩
    | cons x X => exact ⟨[x], X, rfl, .inl rfl, by have := HL.out; simpa [srtI, nil_smg] using this⟩
  obtain ⟨X1, X2, hX, hX1, hM⟩ := key
  have HX := hidM hX
  have HM0 := hidM hM
  have lX : X.length = X1.length + X2.length := by rw [hX, List.length_append]
  have hXe : X1.length = 1 ∨ (X1.length = 0 ∧ X.length = 0) := by
    rcases hX1 with h | ⟨h1, h2⟩
    · exact .inl h
    · exact .inr ⟨by rw [h2]; rfl, by rw [h1]; rfl⟩
  clear hX hM hX1 HL
  go_enter Try.func52, Try.ntmps52
  go_wp2
  go_loopw [8] (fun s wr => ∃ (i : Nat) (X1 X2 : List EV), s = .int .i64 i ∧ Hid (X = X1 ++ X2) ∧ X.length = X1.length + X2.length ∧ (a + X1.length = i ∨ (X.length = 0 ∧ i = a + 1)) ∧ a < i ∧ Hid (MRw w wr base g n cap (A ++ (srtI X1 ++ (X2 ++ C))))) (fun s _ => n + 1 - (intOf s).toNat)
  case atStart => exact ⟨a + 1, X1, X2, by go_num, HX, lX, by omega, by omega, HM0⟩
  case round =>
    clear HX HM0 lX hXe
    obtain ⟨i, X1, X2, rfl, HX, lX, hi, hai, HM⟩ := hrel
    by_cases hlt : i < b
    · have hki : (i : Int) < (b : Int) := by omega
      have hi1 : a + X1.length = i := by omega
      match X2, lX, HX, HM with
      | [], lX, _, _ => simp at lX; omega
      | y :: X2, lX, HX, HM =>
      have HS := hidM (srtI_srt X1)
      have HSL := srtI_len X1
      have HQ : Hid (∀ S, Hid (S = smg (srtI X1) [y]) → X = (X1 ++ [y]) ++ X2 ∧ srtI (X1 ++ [y]) = S) := fun S h => ⟨by rw [HX.out]; simp, by rw [srtI_snoc, h.out]⟩
      have HM1 : Hid (MRw w wr base g n cap (A ++ (srtI X1 ++ y :: ([] ++ (X2 ++ C))))) := hidM (by simpa using HM.out)
      obtain ⟨S0, hS0⟩ : ∃ S, srtI X1 = S := ⟨_, rfl⟩
      rw [hS0] at HS HSL HQ HM1
      clear hS0 HM HX
      go_wp2
      go_loopw [9] (fun s wr => ∃ (j : Nat) (S1 S2 : List EV), s = .int .i64 j ∧ Hid (S0 = S1 ++ S2) ∧ a + S1.length = j ∧ S1.length + S2.length = S0.length ∧ Hid (∀ x ∈ S2, kl y x = true) ∧ Hid (MRw w wr base g n cap (A ++ (S1 ++ y :: (S2 ++ (X2 ++ C)))))) (fun s _ => (intOf s).toNat)
      case atStart => exact ⟨i, S0, [], rfl, hidM (by simp), by omega, by simp, hidM (fun x hx => by cases hx), HM1⟩
      case round =>
        obtain ⟨j, S1, S2, rfl, HSS, hj, hsl, HK, HM2⟩ := hrel
        clear HM1
        by_cases hja : a < j
        · rcases List.eq_nil_or_concat S1 with rfl | ⟨S1', z, rfl⟩
          · simp at hj; omega
          rw [List.concat_eq_append] at *
          obtain ⟨j', rfl⟩ : ∃ j', j = j' + 1 := ⟨j - 1, by omega⟩
          have hl1 : (S1' ++ [z]).length = S1'.length + 1 := by simp
          have hjz : (a : Int) < ((j' + 1 : Nat) : Int) := by omega
          have m0 := HM2.out
          have hi0 : (A ++ S1').length = j' := by rw [List.length_append]; omega
          have m1 : MRw w wr base g n cap ((A ++ S1') ++ z :: ([] ++ y :: (S2 ++ (X2 ++ C)))) := by simpa using m0
          have HCZ : Hid (∀ W, MRw w W base g n cap ((A ++ S1') ++ z :: ([] ++ y :: (S2 ++ (X2 ++ C)))) → W.cell? ⟨g, j' * 2, none⟩ = some (.string z.s) ∧ W.cell? ⟨g, j' * 2 + 1, none⟩ = some (.int .i64 z.k)) := fun W h => h.cell hi0
          have HCY : Hid (∀ W, MRw w W base g n cap ((A ++ S1') ++ z :: ([] ++ y :: (S2 ++ (X2 ++ C)))) → W.cell? ⟨g, (j' + 1) * 2, none⟩ = some (.string y.s) ∧ W.cell? ⟨g, (j' + 1) * 2 + 1, none⟩ = some (.int .i64 y.k)) := fun W h => MRw.cell (A := (A ++ S1') ++ [z]) (x := y) (B := S2 ++ (X2 ++ C)) (i := j' + 1) (by simpa using h) (by rw [List.length_append, hi0]; rfl)
          have hkz : ((j' + 1 : Nat) : Int) - 1 = (j' : Int) := by omega
          have hkw : IntKind.i64.wrap (j' : Int) = (j' : Int) := by rw [IntKind.wrap_i64]; omega
          have z1 : (j' : Int) < (n : Int) := by omega
          have z2 : ((j' + 1 : Nat) : Int) < (n : Int) := by omega
          have z3 : (0 : Int) ≤ (j' : Int) + 1 := by omega
          have z4 : (j' : Int) + 1 < (n : Int) := by omega
          have z5 : (a : Int) < (j' : Int) + 1 := by omega
          have CB := hidM (fun W => implByKey y z W)
          have KN := hidM (kcmp_neg y z)
          generalize kcmp y z = v at *
          clear m0
          by_cases hv : v < 0
          · have HK2 : Hid (∀ x ∈ z :: S2, kl y x = true) := hidM fun x hx => by
              rcases List.mem_cons.1 hx with rfl | hx
              · exact KN.out.1 hv
              · exact HK.out x hx
            have HM3 := hidM m1
            clear m1
            go_upto_region 4 with fail
            refine wp_region_held_drew (S := fun W => MRw w W base g n cap ((A ++ S1') ++ z :: ([] ++ y :: (S2 ++ (X2 ++ C))))) (by kernel_rfl) HM3.out.drew (fun h0 => ?_)
            refine wpAnyH_take (i := 0) (v := ?_) rfl (by kernel_rfl) (by kernel_rfl) (by kernel_rfl) (fun _ _ _ h => h) (Or.inl ⟨by rfl, fun W hW => ?_⟩) h0 ?_
            rotate_left
            · clear hW
              go_simp
              try with_reducible rfl
            simp only [Act.put, List.getElem_toArray, List.getElem_cons_zero, List.getElem_cons_succ, List.setIfInBounds_toArray, List.set_cons_zero, List.set_cons_succ]
            refine wpAnyH_take (i := 1) (v := ?_) rfl (by kernel_rfl) (by kernel_rfl) (by kernel_rfl) (fun _ _ _ h => h) (Or.inl ⟨by rfl, fun W hW => ?_⟩) h0 ?_
            rotate_left
            · clear hW
              go_simp
              try with_reducible rfl
            simp only [Act.put, List.getElem_toArray, List.getElem_cons_zero, List.getElem_cons_succ, List.setIfInBounds_toArray, List.set_cons_zero, List.set_cons_succ]
            refine wpAnyH_take (i := 2) (v := ?_) rfl (by kernel_rfl) (by kernel_rfl) (by kernel_rfl) (fun _ _ _ h => h) (Or.inl ⟨by rfl, fun W hW => ?_⟩) h0 ?_
            rotate_left
            · clear hW
              go_simp
              try with_reducible rfl
            simp only [Act.put, List.getElem_toArray, List.getElem_cons_zero, List.getElem_cons_succ, List.setIfInBounds_toArray, List.set_cons_zero, List.set_cons_succ]
            refine wpAnyH_take (i := 3) (v := ?_) rfl (by kernel_rfl) (by kernel_rfl) (by kernel_rfl) (fun _ _ _ h => h) (Or.inl ⟨by rfl, fun W hW => ?_⟩) h0 ?_
            rotate_left
            · clear hW
              go_simp
              try with_reducible rfl
            simp only [Act.put, List.getElem_toArray, List.getElem_cons_zero, List.getElem_cons_succ, List.setIfInBounds_toArray, List.set_cons_zero, List.set_cons_succ]
            refine wpAnyH_take (i := 4) (v := ?_) rfl (by kernel_rfl) (by kernel_rfl) (by kernel_rfl) (fun _ _ _ h => h) (Or.inl ⟨by rfl, fun W hW => ?_⟩) h0 ?_
            rotate_left
            · clear hW
              go_simp
              try with_reducible rfl
            simp only [Act.put, List.getElem_toArray, List.getElem_cons_zero, List.getElem_cons_succ, List.setIfInBounds_toArray, List.set_cons_zero, List.set_cons_succ]
            refine wpAnyH_take (i := 5) (v := ?_) rfl (by kernel_rfl) (by kernel_rfl) (by kernel_rfl) (fun _ _ _ h => h) (Or.inl ⟨by rfl, fun W hW => ?_⟩) h0 ?_
            rotate_left
            · clear hW
              go_simp
              try with_reducible rfl
            simp only [Act.put, List.getElem_toArray, List.getElem_cons_zero, List.getElem_cons_succ, List.setIfInBounds_toArray, List.set_cons_zero, List.set_cons_succ]
            refine wpAnyH_take (i := 6) (v := ?_) rfl (by kernel_rfl) (by kernel_rfl) (by kernel_rfl) (fun _ _ _ h => h) (Or.inl ⟨by rfl, fun W hW => ?_⟩) h0 ?_
            rotate_left
            · clear hW
              go_simp
              try with_reducible rfl
            simp only [Act.put, List.getElem_toArray, List.getElem_cons_zero, List.getElem_cons_succ, List.setIfInBounds_toArray, List.set_cons_zero, List.set_cons_succ]
            refine wpAnyH_take (i := 7) (v := ?_) rfl (by kernel_rfl) (by kernel_rfl) (by kernel_rfl) (fun _ _ _ h => h) (Or.inl ⟨by rfl, fun W hW => ?_⟩) h0 ?_
            rotate_left
            · clear hW
              go_simp
              try with_reducible rfl
            simp only [Act.put, List.getElem_toArray, List.getElem_cons_zero, List.getElem_cons_succ, List.setIfInBounds_toArray, List.set_cons_zero, List.set_cons_succ]
            refine wpAnyH_take (i := 8) (v := .agg #[.string y.s, .int .i64 y.k]) rfl (by kernel_rfl) (by kernel_rfl) (by kernel_rfl) (fun _ _ _ h => h) (Or.inl ⟨by rfl, fun W hW => ?_⟩) h0 ?_
            · obtain ⟨q0, q1⟩ := HCY.out W hW
              clear hW
              go_simp
            simp only [Act.put, List.getElem_toArray, List.getElem_cons_zero, List.getElem_cons_succ, List.setIfInBounds_toArray, List.set_cons_zero, List.set_cons_succ]
            refine wpAnyH_take (i := 9) (v := ?_) rfl (by kernel_rfl) (by kernel_rfl) (by kernel_rfl) (fun _ _ _ h => h) (Or.inl ⟨by rfl, fun W hW => ?_⟩) h0 ?_
            rotate_left
            · clear hW
              go_simp
              try with_reducible rfl
            simp only [Act.put, List.getElem_toArray, List.getElem_cons_zero, List.getElem_cons_succ, List.setIfInBounds_toArray, List.set_cons_zero, List.set_cons_succ]
            refine wpAnyH_take (i := 10) (v := ?_) rfl (by kernel_rfl) (by kernel_rfl) (by kernel_rfl) (fun _ _ _ h => h) (Or.inl ⟨by rfl, fun W hW => ?_⟩) h0 ?_
            rotate_left
            · clear hW
              go_simp
              try with_reducible rfl
            simp only [Act.put, List.getElem_toArray, List.getElem_cons_zero, List.getElem_cons_succ, List.setIfInBounds_toArray, List.set_cons_zero, List.set_cons_succ]
            refine wpAnyH_take (i := 11) (v := ?_) rfl (by kernel_rfl) (by kernel_rfl) (by kernel_rfl) (fun _ _ _ h => h) (Or.inl ⟨by rfl, fun W hW => ?_⟩) h0 ?_
            rotate_left
            · clear hW
              go_simp
              try with_reducible rfl
            simp only [Act.put, List.getElem_toArray, List.getElem_cons_zero, List.getElem_cons_succ, List.setIfInBounds_toArray, List.set_cons_zero, List.set_cons_succ]
            refine wpAnyH_take (i := 12) (v := ?_) rfl (by kernel_rfl) (by kernel_rfl) (by kernel_rfl) (fun _ _ _ h => h) (Or.inl ⟨by rfl, fun W hW => ?_⟩) h0 ?_
            rotate_left
            · clear hW
              go_simp
              try with_reducible rfl
            simp only [Act.put, List.getElem_toArray, List.getElem_cons_zero, List.getElem_cons_succ, List.setIfInBounds_toArray, List.set_cons_zero, List.set_cons_succ]
            refine wpAnyH_take (i := 13) (v := .agg #[.string z.s, .int .i64 z.k]) rfl (by kernel_rfl) (by kernel_rfl) (by kernel_rfl) (fun _ _ _ h => h) (Or.inl ⟨by rfl, fun W hW => ?_⟩) h0 ?_
            · obtain ⟨q0, q1⟩ := HCZ.out W hW
              clear hW
              go_simp
            simp only [Act.put, List.getElem_toArray, List.getElem_cons_zero, List.getElem_cons_succ, List.setIfInBounds_toArray, List.set_cons_zero, List.set_cons_succ]
            refine wpAnyH_ready (rs := [14]) (by kernel_rfl) (by simp) (AllReadyH.cons rfl (fun K hK => ?_) AllReadyH.nil)
            go_simp
            go_wp2_with (go_at_call 30; refine (CB.out _).mono ?_; rintro e wc ⟨rfl, bq⟩)
            refine hK.out _ _ (h0.below bq) (fun h1 => ?_)
            clear hK K bq h0
            refine wpAnyH_take (i := 15) (v := ?_) rfl (by kernel_rfl) (by kernel_rfl) (by kernel_rfl) (fun _ _ _ h => h) (Or.inl ⟨by rfl, fun W hW => ?_⟩) h1 ?_
            rotate_left
            · clear hW
              go_simp
              try with_reducible rfl
            simp only [Act.put, List.getElem_toArray, List.getElem_cons_zero, List.getElem_cons_succ, List.setIfInBounds_toArray, List.set_cons_zero, List.set_cons_succ]
            refine wpAnyH_take (i := 16) (v := ?_) rfl (by kernel_rfl) (by kernel_rfl) (by kernel_rfl) (fun _ _ _ h => h) (Or.inl ⟨by rfl, fun W hW => ?_⟩) h1 ?_
            rotate_left
            · clear hW
              go_simp
              try with_reducible rfl
            simp only [Act.put, List.getElem_toArray, List.getElem_cons_zero, List.getElem_cons_succ, List.setIfInBounds_toArray, List.set_cons_zero, List.set_cons_succ]
            refine wpAnyH_done (by kernel_rfl) ?_ _
            all_goals
              have m2 := h1
              obtain ⟨cx1, cx2⟩ := HCZ.out _ m2
              obtain ⟨cw1, cw2⟩ := HCY.out _ m2
              have SW := hidM (m2.swap' (j := j' + 1) hi0 (by rw [hi0]; rfl)).drew
              have f1 := m2.fz (j' * 2)
              have f2 := m2.fz (j' * 2 + 1)
              have f3 := m2.fz ((j' + 1) * 2)
              have f4 := m2.fz ((j' + 1) * 2 + 1)
              rw [show A ++ S1' ++ y :: ([] ++ z :: (S2 ++ (X2 ++ C))) = A ++ (S1' ++ y :: ((z :: S2) ++ (X2 ++ C))) by simp] at SW
              clear HM3 m2 h1 CB HCZ HCY
              go_wp2_with fail
              go_big_region
              clear cx1 cx2 cw1 cw2 f1 f2 f3 f4
              generalize ((((wc.setCell _ _).setCell _ _).setCell _ _).setCell _ _).drew = W2 at *
              go_wp2_with fail
              go_roundw
              case rel => exact ⟨j', S1', z :: S2, by go_num, (by have := HSS.out; show _ = _; rw [this]; simp), by omega, by simp at hsl ⊢; omega, HK2, SW⟩
              case measure => simp [intOf]
          · have HR : Hid ((S1' ++ [z]) ++ y :: S2 = smg S0 [y]) := hidM (by
              rw [HSS.out]
              refine (smg_last y (S1' ++ [z]) S2 (fun x hx => ?_) HK.out).symm
              have hzy : kl y z = false := by cases e : kl y z with | false => rfl | true => exact absurd (KN.out.2 e) hv
              rcases List.mem_append.1 hx with h1 | h1
              · have hs := HS.out
                rw [HSS.out] at hs
                have := (srt_app.1 (srt_app.1 hs).1).2.2 x h1 z (List.mem_singleton.2 rfl)
                exact kl_le_le this hzy
              · rw [List.mem_singleton.1 h1]; exact hzy)
            have HM3 := hidM m1
            obtain ⟨q1, q2⟩ := HQ.out _ (hidM rfl)
            have HQ1 := hidM q1
            have HQ2 := hidM q2
            clear m1 q1 q2
            go_upto_region 4 with fail
            refine wp_region_held_drew (S := fun W => MRw w W base g n cap ((A ++ S1') ++ z :: ([] ++ y :: (S2 ++ (X2 ++ C))))) (by kernel_rfl) HM3.out.drew (fun h0 => ?_)
            refine wpAnyH_take (i := 0) (v := ?_) rfl (by kernel_rfl) (by kernel_rfl) (by kernel_rfl) (fun _ _ _ h => h) (Or.inl ⟨by rfl, fun W hW => ?_⟩) h0 ?_
            rotate_left
            · clear hW
              go_simp
              try with_reducible rfl
            simp only [Act.put, List.getElem_toArray, List.getElem_cons_zero, List.getElem_cons_succ, List.setIfInBounds_toArray, List.set_cons_zero, List.set_cons_succ]
            refine wpAnyH_take (i := 1) (v := ?_) rfl (by kernel_rfl) (by kernel_rfl) (by kernel_rfl) (fun _ _ _ h => h) (Or.inl ⟨by rfl, fun W hW => ?_⟩) h0 ?_
            rotate_left
            · clear hW
              go_simp
              try with_reducible rfl
            simp only [Act.put, List.getElem_toArray, List.getElem_cons_zero, List.getElem_cons_succ, List.setIfInBounds_toArray, List.set_cons_zero, List.set_cons_succ]
            refine wpAnyH_take (i := 2) (v := ?_) rfl (by kernel_rfl) (by kernel_rfl) (by kernel_rfl) (fun _ _ _ h => h) (Or.inl ⟨by rfl, fun W hW => ?_⟩) h0 ?_
            rotate_left
            · clear hW
              go_simp
              try with_reducible rfl
            simp only [Act.put, List.getElem_toArray, List.getElem_cons_zero, List.getElem_cons_succ, List.setIfInBounds_toArray, List.set_cons_zero, List.set_cons_succ]
            refine wpAnyH_take (i := 3) (v := ?_) rfl (by kernel_rfl) (by kernel_rfl) (by kernel_rfl) (fun _ _ _ h => h) (Or.inl ⟨by rfl, fun W hW => ?_⟩) h0 ?_
            rotate_left
            · clear hW
              go_simp
              try with_reducible rfl
            simp only [Act.put, List.getElem_toArray, List.getElem_cons_zero, List.getElem_cons_succ, List.setIfInBounds_toArray, List.set_cons_zero, List.set_cons_succ]
            refine wpAnyH_take (i := 4) (v := ?_) rfl (by kernel_rfl) (by kernel_rfl) (by kernel_rfl) (fun _ _ _ h => h) (Or.inl ⟨by rfl, fun W hW => ?_⟩) h0 ?_
            rotate_left
            · clear hW
              go_simp
              try with_reducible rfl
            simp only [Act.put, List.getElem_toArray, List.getElem_cons_zero, List.getElem_cons_succ, List.setIfInBounds_toArray, List.set_cons_zero, List.set_cons_succ]
            refine wpAnyH_take (i := 5) (v := ?_) rfl (by kernel_rfl) (by kernel_rfl) (by kernel_rfl) (fun _ _ _ h => h) (Or.inl ⟨by rfl, fun W hW => ?_⟩) h0 ?_
            rotate_left
            · clear hW
              go_simp
              try with_reducible rfl
            simp only [Act.put, List.getElem_toArray, List.getElem_cons_zero, List.getElem_cons_succ, List.setIfInBounds_toArray, List.set_cons_zero, List.set_cons_succ]
            refine wpAnyH_take (i := 6) (v := ?_) rfl (by kernel_rfl) (by kernel_rfl) (by kernel_rfl) (fun _ _ _ h => h) (Or.inl ⟨by rfl, fun W hW => ?_⟩) h0 ?_
            rotate_left
            · clear hW
              go_simp
              try with_reducible rfl
            simp only [Act.put, List.getElem_toArray, List.getElem_cons_zero, List.getElem_cons_succ, List.setIfInBounds_toArray, List.set_cons_zero, List.set_cons_succ]
            refine wpAnyH_take (i := 7) (v := ?_) rfl (by kernel_rfl) (by kernel_rfl) (by kernel_rfl) (fun _ _ _ h => h) (Or.inl ⟨by rfl, fun W hW => ?_⟩) h0 ?_
            rotate_left
            · clear hW
              go_simp
              try with_reducible rfl
            simp only [Act.put, List.getElem_toArray, List.getElem_cons_zero, List.getElem_cons_succ, List.setIfInBounds_toArray, List.set_cons_zero, List.set_cons_succ]
            refine wpAnyH_take (i := 8) (v := .agg #[.string y.s, .int .i64 y.k]) rfl (by kernel_rfl) (by kernel_rfl) (by kernel_rfl) (fun _ _ _ h => h) (Or.inl ⟨by rfl, fun W hW => ?_⟩) h0 ?_
            · obtain ⟨q0, q1⟩ := HCY.out W hW
              clear hW
              go_simp
            simp only [Act.put, List.getElem_toArray, List.getElem_cons_zero, List.getElem_cons_succ, List.setIfInBounds_toArray, List.set_cons_zero, List.set_cons_succ]
            refine wpAnyH_take (i := 9) (v := ?_) rfl (by kernel_rfl) (by kernel_rfl) (by kernel_rfl) (fun _ _ _ h => h) (Or.inl ⟨by rfl, fun W hW => ?_⟩) h0 ?_
            rotate_left
            · clear hW
              go_simp
              try with_reducible rfl
            simp only [Act.put, List.getElem_toArray, List.getElem_cons_zero, List.getElem_cons_succ, List.setIfInBounds_toArray, List.set_cons_zero, List.set_cons_succ]
            refine wpAnyH_take (i := 10) (v := ?_) rfl (by kernel_rfl) (by kernel_rfl) (by kernel_rfl) (fun _ _ _ h => h) (Or.inl ⟨by rfl, fun W hW => ?_⟩) h0 ?_
            rotate_left
            · clear hW
              go_simp
              try with_reducible rfl
            simp only [Act.put, List.getElem_toArray, List.getElem_cons_zero, List.getElem_cons_succ, List.setIfInBounds_toArray, List.set_cons_zero, List.set_cons_succ]
            refine wpAnyH_take (i := 11) (v := ?_) rfl (by kernel_rfl) (by kernel_rfl) (by kernel_rfl) (fun _ _ _ h => h) (Or.inl ⟨by rfl, fun W hW => ?_⟩) h0 ?_
            rotate_left
            · clear hW
              go_simp
              try with_reducible rfl
            simp only [Act.put, List.getElem_toArray, List.getElem_cons_zero, List.getElem_cons_succ, List.setIfInBounds_toArray, List.set_cons_zero, List.set_cons_succ]
            refine wpAnyH_take (i := 12) (v := ?_) rfl (by kernel_rfl) (by kernel_rfl) (by kernel_rfl) (fun _ _ _ h => h) (Or.inl ⟨by rfl, fun W hW => ?_⟩) h0 ?_
            rotate_left
            · clear hW
              go_simp
              try with_reducible rfl
            simp only [Act.put, List.getElem_toArray, List.getElem_cons_zero, List.getElem_cons_succ, List.setIfInBounds_toArray, List.set_cons_zero, List.set_cons_succ]
            refine wpAnyH_take (i := 13) (v := .agg #[.string z.s, .int .i64 z.k]) rfl (by kernel_rfl) (by kernel_rfl) (by kernel_rfl) (fun _ _ _ h => h) (Or.inl ⟨by rfl, fun W hW => ?_⟩) h0 ?_
            · obtain ⟨q0, q1⟩ := HCZ.out W hW
              clear hW
              go_simp
            simp only [Act.put, List.getElem_toArray, List.getElem_cons_zero, List.getElem_cons_succ, List.setIfInBounds_toArray, List.set_cons_zero, List.set_cons_succ]
            refine wpAnyH_ready (rs := [14]) (by kernel_rfl) (by simp) (AllReadyH.cons rfl (fun K hK => ?_) AllReadyH.nil)
            go_simp
            go_wp2_with (go_at_call 30; refine (CB.out _).mono ?_; rintro e wc ⟨rfl, bq⟩)
            refine hK.out _ _ (h0.below bq) (fun h1 => ?_)
            clear hK K bq h0
            refine wpAnyH_take (i := 15) (v := ?_) rfl (by kernel_rfl) (by kernel_rfl) (by kernel_rfl) (fun _ _ _ h => h) (Or.inl ⟨by rfl, fun W hW => ?_⟩) h1 ?_
            rotate_left
            · clear hW
              go_simp
              try with_reducible rfl
            simp only [Act.put, List.getElem_toArray, List.getElem_cons_zero, List.getElem_cons_succ, List.setIfInBounds_toArray, List.set_cons_zero, List.set_cons_succ]
            refine wpAnyH_take (i := 16) (v := ?_) rfl (by kernel_rfl) (by kernel_rfl) (by kernel_rfl) (fun _ _ _ h => h) (Or.inl ⟨by rfl, fun W hW => ?_⟩) h1 ?_
            rotate_left
            · clear hW
              go_simp
              try with_reducible rfl
            simp only [Act.put, List.getElem_toArray, List.getElem_cons_zero, List.getElem_cons_succ, List.setIfInBounds_toArray, List.set_cons_zero, List.set_cons_succ]
            refine wpAnyH_done (by kernel_rfl) ?_ _
            all_goals
              have M4 := hidM h1
              clear HM3 h1 CB HCZ HCY
              go_wp2_with fail
              go_roundw
              case rel => exact ⟨i + 1, X1 ++ [y], X2, by go_num, HQ1, by simp at lX ⊢; omega, by simp; omega, by omega, hidM (by rw [HQ2.out, ← HR.out]; have := M4.out; simpa using this)⟩
              case measure => simp [intOf]; omega
        · have hjz : ¬ (a : Int) < (j : Int) := by omega
          have e1 : S1 = [] := List.eq_nil_of_length_eq_zero (by omega)
          subst e1
          have HR : Hid (y :: S2 = smg S0 [y]) := hidM (by rw [HSS.out]; exact (smg_last y [] S2 (fun x hx => by cases hx) HK.out).symm)
          obtain ⟨q1, q2⟩ := HQ.out _ (hidM rfl)
          have HQ1 := hidM q1
          have HQ2 := hidM q2
          have M4 := HM2.out.drew
          clear q1 q2 HM2
          go_upto_region 4 with fail
          refine wp_region_held_drew (S := fun W => MRw w W base g n cap (A ++ ([] ++ y :: (S2 ++ (X2 ++ C))))) (by kernel_rfl) M4 (fun h0 => ?_)
          clear M4
          refine wpAnyH_take (i := 0) (v := ?_) rfl (by kernel_rfl) (by kernel_rfl) (by kernel_rfl) (fun _ _ _ h => h) (Or.inl ⟨by rfl, fun W hW => ?_⟩) h0 ?_
          rotate_left
          · clear hW
            go_simp
            try with_reducible rfl
          simp only [Act.put, List.getElem_toArray, List.getElem_cons_zero, List.getElem_cons_succ, List.setIfInBounds_toArray, List.set_cons_zero, List.set_cons_succ]
          refine wpAnyH_take (i := 1) (v := ?_) rfl (by kernel_rfl) (by kernel_rfl) (by kernel_rfl) (fun _ _ _ h => h) (Or.inl ⟨by rfl, fun W hW => ?_⟩) h0 ?_
          rotate_left
          · clear hW
            go_simp
            try with_reducible rfl
          simp only [Act.put, List.getElem_toArray, List.getElem_cons_zero, List.getElem_cons_succ, List.setIfInBounds_toArray, List.set_cons_zero, List.set_cons_succ]
          refine wpAnyH_take (i := 2) (v := ?_) rfl (by kernel_rfl) (by kernel_rfl) (by kernel_rfl) (fun _ _ _ h => h) (Or.inl ⟨by rfl, fun W hW => ?_⟩) h0 ?_
          rotate_left
          · clear hW
            go_simp
            try with_reducible rfl
          simp only [Act.put, List.getElem_toArray, List.getElem_cons_zero, List.getElem_cons_succ, List.setIfInBounds_toArray, List.set_cons_zero, List.set_cons_succ]
          refine wpAnyH_take (i := 3) (v := ?_) rfl (by kernel_rfl) (by kernel_rfl) (by kernel_rfl) (fun _ _ _ h => h) (Or.inl ⟨by rfl, fun W hW => ?_⟩) h0 ?_
          rotate_left
          · clear hW
            go_simp
            try with_reducible rfl
          simp only [Act.put, List.getElem_toArray, List.getElem_cons_zero, List.getElem_cons_succ, List.setIfInBounds_toArray, List.set_cons_zero, List.set_cons_succ]
          refine wpAnyH_take (i := 4) (v := undef) rfl (by kernel_rfl) (by kernel_rfl) (by kernel_rfl) (fun _ _ _ h => h) (Or.inr ⟨by rfl, rfl⟩) h0 ?_
          simp only [Act.put, List.getElem_toArray, List.getElem_cons_zero, List.getElem_cons_succ, List.setIfInBounds_toArray, List.set_cons_zero, List.set_cons_succ]
          refine wpAnyH_take (i := 5) (v := undef) rfl (by kernel_rfl) (by kernel_rfl) (by kernel_rfl) (fun _ _ _ h => h) (Or.inr ⟨by rfl, rfl⟩) h0 ?_
          simp only [Act.put, List.getElem_toArray, List.getElem_cons_zero, List.getElem_cons_succ, List.setIfInBounds_toArray, List.set_cons_zero, List.set_cons_succ]
          refine wpAnyH_take (i := 6) (v := undef) rfl (by kernel_rfl) (by kernel_rfl) (by kernel_rfl) (fun _ _ _ h => h) (Or.inr ⟨by rfl, rfl⟩) h0 ?_
          simp only [Act.put, List.getElem_toArray, List.getElem_cons_zero, List.getElem_cons_succ, List.setIfInBounds_toArray, List.set_cons_zero, List.set_cons_succ]
          refine wpAnyH_take (i := 7) (v := undef) rfl (by kernel_rfl) (by kernel_rfl) (by kernel_rfl) (fun _ _ _ h => h) (Or.inr ⟨by rfl, rfl⟩) h0 ?_
          simp only [Act.put, List.getElem_toArray, List.getElem_cons_zero, List.getElem_cons_succ, List.setIfInBounds_toArray, List.set_cons_zero, List.set_cons_succ]
          refine wpAnyH_take (i := 8) (v := undef) rfl (by kernel_rfl) (by kernel_rfl) (by kernel_rfl) (fun _ _ _ h => h) (Or.inr ⟨by rfl, rfl⟩) h0 ?_
          simp only [Act.put, List.getElem_toArray, List.getElem_cons_zero, List.getElem_cons_succ, List.setIfInBounds_toArray, List.set_cons_zero, List.set_cons_succ]
          refine wpAnyH_take (i := 9) (v := undef) rfl (by kernel_rfl) (by kernel_rfl) (by kernel_rfl) (fun _ _ _ h => h) (Or.inr ⟨by rfl, rfl⟩) h0 ?_
          simp only [Act.put, List.getElem_toArray, List.getElem_cons_zero, List.getElem_cons_succ, List.setIfInBounds_toArray, List.set_cons_zero, List.set_cons_succ]
          refine wpAnyH_take (i := 10) (v := undef) rfl (by kernel_rfl) (by kernel_rfl) (by kernel_rfl) (fun _ _ _ h => h) (Or.inr ⟨by rfl, rfl⟩) h0 ?_
          simp only [Act.put, List.getElem_toArray, List.getElem_cons_zero, List.getElem_cons_succ, List.setIfInBounds_toArray, List.set_cons_zero, List.set_cons_succ]
          refine wpAnyH_take (i := 11) (v := undef) rfl (by kernel_rfl) (by kernel_rfl) (by kernel_rfl) (fun _ _ _ h => h) (Or.inr ⟨by rfl, rfl⟩) h0 ?_
          simp only [Act.put, List.getElem_toArray, List.getElem_cons_zero, List.getElem_cons_succ, List.setIfInBounds_toArray, List.set_cons_zero, List.set_cons_succ]
          refine wpAnyH_take (i := 12) (v := undef) rfl (by kernel_rfl) (by kernel_rfl) (by kernel_rfl) (fun _ _ _ h => h) (Or.inr ⟨by rfl, rfl⟩) h0 ?_
          simp only [Act.put, List.getElem_toArray, List.getElem_cons_zero, List.getElem_cons_succ, List.setIfInBounds_toArray, List.set_cons_zero, List.set_cons_succ]
          refine wpAnyH_take (i := 13) (v := undef) rfl (by kernel_rfl) (by kernel_rfl) (by kernel_rfl) (fun _ _ _ h => h) (Or.inr ⟨by rfl, rfl⟩) h0 ?_
          simp only [Act.put, List.getElem_toArray, List.getElem_cons_zero, List.getElem_cons_succ, List.setIfInBounds_toArray, List.set_cons_zero, List.set_cons_succ]
          refine wpAnyH_take (i := 14) (v := undef) rfl (by kernel_rfl) (by kernel_rfl) (by kernel_rfl) (fun _ _ _ h => h) (Or.inr ⟨by rfl, rfl⟩) h0 ?_
          simp only [Act.put, List.getElem_toArray, List.getElem_cons_zero, List.getElem_cons_succ, List.setIfInBounds_toArray, List.set_cons_zero, List.set_cons_succ]
          refine wpAnyH_take (i := 15) (v := undef) rfl (by kernel_rfl) (by kernel_rfl) (by kernel_rfl) (fun _ _ _ h => h) (Or.inr ⟨by rfl, rfl⟩) h0 ?_
          simp only [Act.put, List.getElem_toArray, List.getElem_cons_zero, List.getElem_cons_succ, List.setIfInBounds_toArray, List.set_cons_zero, List.set_cons_succ]
          refine wpAnyH_take (i := 16) (v := ?_) rfl (by kernel_rfl) (by kernel_rfl) (by kernel_rfl) (fun _ _ _ h => h) (Or.inl ⟨by rfl, fun W hW => ?_⟩) h0 ?_
          rotate_left
          · clear hW
            go_simp
            try with_reducible rfl
          simp only [Act.put, List.getElem_toArray, List.getElem_cons_zero, List.getElem_cons_succ, List.setIfInBounds_toArray, List.set_cons_zero, List.set_cons_succ]
          refine wpAnyH_done (by kernel_rfl) ?_ _
          have M5 := hidM h0
          clear h0
          go_wp2_with fail
          go_roundw
          case rel => exact ⟨i + 1, X1 ++ [y], X2, by go_num, HQ1, by simp at lX ⊢; omega, by simp; omega, by omega, hidM (by rw [HQ2.out, ← HR.out]; have := M5.out; simpa using this)⟩
          case measure => simp [intOf]; omega
    · have hki : ¬ (i : Int) < (b : Int) := by omega
      have e1 : X2 = [] := List.eq_nil_of_length_eq_zero (by omega)
      subst e1
      go_wp2_with fail
      go_end0
      exact ⟨rfl, by have h1 := HM.out; have h2 := HX.out; rw [List.append_nil] at h2; rw [h2]; simpa using h1⟩
end Go.Proofs.Ytdnlaijpgjpplaa
