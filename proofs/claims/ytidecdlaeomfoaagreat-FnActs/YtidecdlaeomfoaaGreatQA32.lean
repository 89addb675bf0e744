/- HostSpec4, DotImpl. -/
import Derived.Test.YtidecdlaeomfoaaGreatQA31
set_option maxHeartbeats 4000000
set_option maxRecDepth 20000
namespace Go.Proofs.YtidecdlaeomfoaaGreat
open Go.RowKit
theorem parV_eightS {gs : List Nat} (h : gs.length = 8) : ∃ x0 x1 x2 x3 x4 x5 x6 x7 : Int, parV (some gs) = .tuple #[.agg #[.int .i64 x0, .int .i64 x1, .int .i64 x2, .int .i64 x3, .int .i64 x4, .int .i64 x5, .int .i64 x6, .int .i64 x7], .bool true] ∧ (gs.map fun (x : Nat) => (x : Int)) = [x0, x1, x2, x3, x4, x5, x6, x7] := by
 obtain ⟨x0, x1, x2, x3, x4, x5, x6, x7, hx⟩ := list_eight (z := gs.map fun (x : Nat) => (x : Int)) (by simpa using h)
 refine ⟨x0, x1, x2, x3, x4, x5, x6, x7, ?_, hx⟩
 show Value.tuple #[.agg ((toI gs).map (Value.int .i64)).toArray, .bool true] = _
 rw [show toI gs = gs.map (fun (x : Nat) => (x : Int)) from rfl, hx]
 rfl
theorem none_of_row {W : World} {B : Nat} (h : RowIs W B (hRow 0 ⟨#[]⟩ 0 0 0 0 0 0 0 0 0)) : NoneCells W B := ⟨h 0 _ rfl, h 1 _ rfl, h 2 _ rfl, h 3 _ rfl, h 4 _ rfl, h 5 _ rfl, h 6 _ rfl, h 7 _ rfl, h 8 _ rfl, h 9 _ rfl, h 10 _ rfl⟩
theorem specParseHostS (s : ByteArray) (w : World) (hs : s.size ≤ 1048576) (hp : 0 < s.size) (h9 : s[0].toNat = 91) :
  Calls Tryz.prog 51 #[.string s] w fun e w' => e = .returned (.tuple #[hostVal (rV (readH s)), .int .i64 (rC (readH s))]) ∧ Below w.heap.size w w' := by
 rw [readH_six hp h9]
 have hem := empty_no hp
 have hi : ((s.size : Int) - 1) = ((s.size - 1 : Nat) : Int) := by omega
 obtain ⟨c, hc⟩ : ∃ c : Nat, (s[s.size - 1]'(by omega)).toNat = c := ⟨_, rfl⟩
 by_cases hcl : c = 93
 ·have h1 : 1 < s.size := by
   rcases Nat.lt_or_ge 1 s.size with h | h
   ·exact h
   exfalso
   have e : s.size = 1 := by omega
   have : (s[s.size - 1]'(by omega)).toNat = s[0].toNat := by congr 2; omega
   omega
  have HZ1 : Hid (readS (s.extract 1 s.size).data.toList = readB (par6 (s.extract 1 (s.size - 1)).data.toList)) := by
   show _ = _
   rw [readS_yes (by rw [last_r h1]; congr 1; exact u8_is (hc.trans hcl)), drop_r h1]
  have hts : (s.extract 1 (s.size - 1)).size ≤ 1048576 := by rw [ByteArray.size_extract]; omega
  obtain ⟨O, hO⟩ : ∃ O, O = (w.alloc (.cells #[.int .i64 0, .string ⟨#[]⟩, .int .i64 0, .int .i64 0, .int .i64 0, .int .i64 0, .int .i64 0, .int .i64 0, .int .i64 0, .int .i64 0, .int .i64 0] 67)).alloc (.cells #[.int .i64 0, .string ⟨#[]⟩, .int .i64 0, .int .i64 0, .int .i64 0, .int .i64 0, .int .i64 0, .int .i64 0, .int .i64 0, .int .i64 0, .int .i64 0] 67) := ⟨_, rfl⟩
  have HL : Hid (∀ W, Below O.heap.size O W → Laid3 w W) := fun W h => by rw [hO] at h; exact laid3 w W _ h
  have HE : Hid (∀ W, Below O.heap.size O W → Below w.heap.size w W) := fun W h => by
   rw [hO] at h
   exact (((Below.refl _ w).alloc (Nat.le_refl _) _).alloc (by simp) _).trans (h.mono (by simp; omega))
  obtain ⟨P, hP⟩ : ∃ P, P = O.alloc (.cells #[.int .i64 0, .int .i64 0, .int .i64 0, .int .i64 0, .int .i64 0, .int .i64 0, .int .i64 0, .int .i64 0] 65) := ⟨_, rfl⟩
  have HPO : Hid (∀ W, Below P.heap.size P W → Below O.heap.size O W) := fun W h => by
   rw [hP] at h
   exact ((Below.refl _ O).alloc (Nat.le_refl _) _).trans (h.mono (by simp))
  have HPZ : Hid (∀ W, Below P.heap.size P W → ArrAt W (w.heap.size + 1 + 1) [0, 0, 0, 0, 0, 0, 0, 0]) := fun W h => by
   rw [hP] at h
   have h2 := (arr_new O).later h
   rwa [show O.heap.size = w.heap.size + 1 + 1 by rw [hO]; simp] at h2
  have CP : Hid (Calls Tryz.prog 58 #[.string (s.extract 1 (s.size - 1))] P fun e w' => e = .returned (parV (par6 (s.extract 1 (s.size - 1)).data.toList)) ∧ Hid (Below P.heap.size P w')) := specParseIp6 _ P hts
  have H8 : Hid (∀ gs, par6 (s.extract 1 (s.size - 1)).data.toList = some gs → gs.length = 8) := par6_eight _
  rw [HZ1.out]
  subst hcl
  have h1i : 1 ≤ (s.size : Int) - 1 := by omega
  have h2i : (s.size : Int) - 1 ≤ (s.size : Int) := by omega
  generalize par6 (s.extract 1 (s.size - 1)).data.toList = R at CP H8
  clear HZ1 hts
  cases R with
  | none =>
   show Calls _ _ _ _ fun e w' => e = .returned (.tuple #[.agg #[.int .i64 0, .string ⟨#[]⟩, .int .i64 0, .int .i64 0, .int .i64 0, .int .i64 0, .int .i64 0, .int .i64 0, .int .i64 0, .int .i64 0, .int .i64 0], .int .i64 2]) ∧ Below w.heap.size w w'
   go_enter Tryz.func51, Tryz.ntmps51
   go_wp2_with fail
   rw [← hO, ← hP]
   refine CP.out.mono ?_
   rintro e w1 ⟨rfl, b1⟩
   rw [show parV none = .tuple #[.agg #[.int .i64 0, .int .i64 0, .int .i64 0, .int .i64 0, .int .i64 0, .int .i64 0, .int .i64 0, .int .i64 0], .bool false] from rfl]
   have AR := HPZ.out _ b1.out
   obtain ⟨w9, h9⟩ : ∃ w9, w9 = ((((((((w1.setCell ⟨w.heap.size + 1 + 1, 0, none⟩ (.int .i64 0)).setCell ⟨w.heap.size + 1 + 1, 1, none⟩ (.int .i64 0)).setCell ⟨w.heap.size + 1 + 1, 2, none⟩ (.int .i64 0)).setCell ⟨w.heap.size + 1 + 1, 3, none⟩ (.int .i64 0)).setCell ⟨w.heap.size + 1 + 1, 4, none⟩ (.int .i64 0)).setCell ⟨w.heap.size + 1 + 1, 5, none⟩ (.int .i64 0)).setCell ⟨w.heap.size + 1 + 1, 6, none⟩ (.int .i64 0)).setCell ⟨w.heap.size + 1 + 1, 7, none⟩ (.int .i64 0)) := ⟨_, rfl⟩
   have H9 : Hid (w9 = _) := h9
   have hl3 := HL.out w1 (HPO.out _ b1.out)
   have HR : Hid (RowIs w9 w.heap.size (hRow 0 ⟨#[]⟩ 0 0 0 0 0 0 0 0 0)) := by rw [h9]; exact row_arr (row_of_none hl3.1) (by omega) 0 0 0 0 0 0 0 0
   have HR1 : RowIs w9 (w.heap.size + 1) (hRow 0 ⟨#[]⟩ 0 0 0 0 0 0 0 0 0) := by rw [h9]; exact row_arr (row_of_none hl3.2.1) (by omega) 0 0 0 0 0 0 0 0
   have BW : Hid (Below w.heap.size w w9) := by rw [h9]; exact below_store (HE.out _ (HPO.out _ b1.out)) (by omega) 0 0 0 0 0 0 0 0
   have AR9 : Hid (ArrAt w9 (w.heap.size + 1 + 1) [0, 0, 0, 0, 0, 0, 0, 0]) := by rw [h9]; exact arr_store AR 0 0 0 0 0 0 0 0
   have fz : ∀ j, w9.frozen? ⟨w.heap.size, j, none⟩ = false := fun j => by rw [h9]; simp only [World.frozen?_setCell]; exact hl3.2.2 j
   obtain ⟨c0, c1, c2, c3, c4, c5, c6, c7, c8, c9, c10⟩ := none_of_row HR.out
   obtain ⟨d0, d1, d2, d3, d4, d5, d6, d7, d8, d9, d10⟩ := none_of_row HR1
   clear hl3 h9 HR1
   have a0 := (AR.2 0 (by decide)).1
   have a1 := (AR.2 1 (by decide)).1
   have a2 := (AR.2 2 (by decide)).1
   have a3 := (AR.2 3 (by decide)).1
   have a4 := (AR.2 4 (by decide)).1
   have a5 := (AR.2 5 (by decide)).1
   have a6 := (AR.2 6 (by decide)).1
   have a7 := (AR.2 7 (by decide)).1
   have g0 := (AR.2 0 (by decide)).2
   have g1 := (AR.2 1 (by decide)).2
   have g2 := (AR.2 2 (by decide)).2
   have g3 := (AR.2 3 (by decide)).2
   have g4 := (AR.2 4 (by decide)).2
   have g5 := (AR.2 5 (by decide)).2
   have g6 := (AR.2 6 (by decide)).2
   have g7 := (AR.2 7 (by decide)).2
   simp only [List.getD_cons_zero, List.getD_cons_succ] at a0 a1 a2 a3 a4 a5 a6 a7
   clear AR
   go_wp2_with (rw [← H9.out])
   refine bodyPost_ret (host_result2 rfl _ _ w.heap.size _ 0 0 ⟨#[]⟩ 0 0 0 0 0 0 0 0 rfl rfl (host_store HR.out 0 0 ⟨#[]⟩ 0 0 0 0 0 0 0 0)) rfl ⟨rfl, below_hstore BW.out (Nat.le_refl _) 0 0 ⟨#[]⟩ 0 0 0 0 0 0 0 0⟩
  | some gs =>
   obtain ⟨x0, x1, x2, x3, x4, x5, x6, x7, hv, hx⟩ := parV_eightS (H8.out gs rfl)
   rw [hv] at CP
   have HV : Hid (hostVal (rV (readB (some gs))) = .agg #[.int .i64 3, .string ⟨#[]⟩, .int .i64 0, .int .i64 x0, .int .i64 x1, .int .i64 x2, .int .i64 x3, .int .i64 x4, .int .i64 x5, .int .i64 x6, .int .i64 x7]) := by
    show hostVal ⟨3, ⟨#[]⟩, 0, gs.map fun (x : Nat) => (x : Int)⟩ = _
    rw [hx]
    rfl
   rw [HV.out, show rC (readB (some gs)) = 0 from rfl]
   clear hv hx H8 HV
   go_enter Tryz.func51, Tryz.ntmps51
   go_wp2_with fail
   rw [← hO, ← hP]
   refine CP.out.mono ?_
   rintro e w1 ⟨rfl, b1⟩
   have AR := HPZ.out _ b1.out
   obtain ⟨w9, h9⟩ : ∃ w9, w9 = ((((((((w1.setCell ⟨w.heap.size + 1 + 1, 0, none⟩ (.int .i64 x0)).setCell ⟨w.heap.size + 1 + 1, 1, none⟩ (.int .i64 x1)).setCell ⟨w.heap.size + 1 + 1, 2, none⟩ (.int .i64 x2)).setCell ⟨w.heap.size + 1 + 1, 3, none⟩ (.int .i64 x3)).setCell ⟨w.heap.size + 1 + 1, 4, none⟩ (.int .i64 x4)).setCell ⟨w.heap.size + 1 + 1, 5, none⟩ (.int .i64 x5)).setCell ⟨w.heap.size + 1 + 1, 6, none⟩ (.int .i64 x6)).setCell ⟨w.heap.size + 1 + 1, 7, none⟩ (.int .i64 x7)) := ⟨_, rfl⟩
   have H9 : Hid (w9 = _) := h9
   have hl3 := HL.out w1 (HPO.out _ b1.out)
   have HR : Hid (RowIs w9 w.heap.size (hRow 0 ⟨#[]⟩ 0 0 0 0 0 0 0 0 0)) := by rw [h9]; exact row_arr (row_of_none hl3.1) (by omega) x0 x1 x2 x3 x4 x5 x6 x7
   have HR1 : RowIs w9 (w.heap.size + 1) (hRow 0 ⟨#[]⟩ 0 0 0 0 0 0 0 0 0) := by rw [h9]; exact row_arr (row_of_none hl3.2.1) (by omega) x0 x1 x2 x3 x4 x5 x6 x7
   have BW : Hid (Below w.heap.size w w9) := by rw [h9]; exact below_store (HE.out _ (HPO.out _ b1.out)) (by omega) x0 x1 x2 x3 x4 x5 x6 x7
   have AR9 : Hid (ArrAt w9 (w.heap.size + 1 + 1) [x0, x1, x2, x3, x4, x5, x6, x7]) := by rw [h9]; exact arr_store AR x0 x1 x2 x3 x4 x5 x6 x7
   have fz : ∀ j, w9.frozen? ⟨w.heap.size, j, none⟩ = false := fun j => by rw [h9]; simp only [World.frozen?_setCell]; exact hl3.2.2 j
   obtain ⟨c0, c1, c2, c3, c4, c5, c6, c7, c8, c9, c10⟩ := none_of_row HR.out
   obtain ⟨d0, d1, d2, d3, d4, d5, d6, d7, d8, d9, d10⟩ := none_of_row HR1
   clear hl3 h9 HR1
   have a0 := (AR.2 0 (by decide)).1
   have a1 := (AR.2 1 (by decide)).1
   have a2 := (AR.2 2 (by decide)).1
   have a3 := (AR.2 3 (by decide)).1
   have a4 := (AR.2 4 (by decide)).1
   have a5 := (AR.2 5 (by decide)).1
   have a6 := (AR.2 6 (by decide)).1
   have a7 := (AR.2 7 (by decide)).1
   have g0 := (AR.2 0 (by decide)).2
   have g1 := (AR.2 1 (by decide)).2
   have g2 := (AR.2 2 (by decide)).2
   have g3 := (AR.2 3 (by decide)).2
   have g4 := (AR.2 4 (by decide)).2
   have g5 := (AR.2 5 (by decide)).2
   have g6 := (AR.2 6 (by decide)).2
   have g7 := (AR.2 7 (by decide)).2
   simp only [List.getD_cons_zero, List.getD_cons_succ] at a0 a1 a2 a3 a4 a5 a6 a7
   clear AR
   have AR := AR9.out
   have b0 := (AR.2 0 (by decide)).1
   have b1 := (AR.2 1 (by decide)).1
   have b2 := (AR.2 2 (by decide)).1
   have b3 := (AR.2 3 (by decide)).1
   have b4 := (AR.2 4 (by decide)).1
   have b5 := (AR.2 5 (by decide)).1
   have b6 := (AR.2 6 (by decide)).1
   have b7 := (AR.2 7 (by decide)).1
   simp only [List.getD_cons_zero, List.getD_cons_succ] at b0 b1 b2 b3 b4 b5 b6 b7
   clear AR
   go_wp2_with (rw [← H9.out])
   refine bodyPost_ret (host_result2 rfl _ _ w.heap.size _ 3 0 ⟨#[]⟩ x0 x1 x2 x3 x4 x5 x6 x7 rfl rfl (host_store HR.out 3 0 ⟨#[]⟩ x0 x1 x2 x3 x4 x5 x6 x7)) rfl ⟨rfl, below_hstore BW.out (Nat.le_refl _) 3 0 ⟨#[]⟩ x0 x1 x2 x3 x4 x5 x6 x7⟩
 have HZ1 : Hid (readS (s.extract 1 s.size).data.toList = .bad 2) := by
  by_cases h1 : 1 < s.size
  ·refine readS_no ?_
   rw [last_r h1]
   intro e
   have e2 := Option.some.inj e
   apply hcl
   rw [← hc, e2]
   rfl
  refine readS_no ?_
  rw [nil_r h1]
  simp
 have q0 : ((c : Int) == 93) = false := beq_eq_false_iff_ne.2 (by omega)
 rw [HZ1.out]
 show Calls _ _ _ _ fun e w' => e = .returned (.tuple #[.agg #[.int .i64 0, .string ⟨#[]⟩, .int .i64 0, .int .i64 0, .int .i64 0, .int .i64 0, .int .i64 0, .int .i64 0, .int .i64 0, .int .i64 0, .int .i64 0], .int .i64 2]) ∧ Below w.heap.size w w'
 clear HZ1 hcl
 go_enter Tryz.func51, Tryz.ntmps51
 go_wp2_with fail
 go_returns
 exact ⟨rfl, by go_grown⟩
theorem specParseHost (s : ByteArray) (w : World) (hs : s.size ≤ 1048576) :
  Calls Tryz.prog 51 #[.string s] w fun e w' => e = .returned (.tuple #[hostVal (rV (readH s)), .int .i64 (rC (readH s))]) ∧ Below w.heap.size w w' := by
 by_cases h0 : s.size = 0
 ·exact specParseHost0 s w h0
 have hp : 0 < s.size := by omega
 by_cases h9 : s[0].toNat = 91
 ·exact specParseHostS s w hs hp h9
 exact specParseHostN s w hs hp h9
theorem lit_eq {u : ByteArray} {l : List UInt8} (h : u.data.toList = l) : (u.toList == l) = true := by rw [ByteArray.toList_eq, h]; exact beq_self_eq_true _
theorem lit_ne {u : ByteArray} {l : List UInt8} (h : ¬ u.data.toList = l) : (u.toList == l) = false := by
 rw [ByteArray.toList_eq]
 exact beq_eq_false_iff_ne.2 h
end Go.Proofs.YtidecdlaeomfoaaGreat
