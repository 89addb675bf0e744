/- UrlTail, ArrEq, HostEq, RuneImpl. -/
import Derived.Test.YtidecdlaeomfoaaGreatQA24
set_option maxHeartbeats 4000000
set_option maxRecDepth 100000
namespace Go.Proofs.YtidecdlaeomfoaaGreat
open Go.RowKit
def tailP (l : ByteArray) : ByteArray := ⟨(l.data.toList.takeWhile fun c => c != 63).toArray⟩
def tailM (l : ByteArray) : ByteArray := ⟨(l.data.toList.dropWhile fun c => c != 63).toArray⟩
def orSlB (l : ByteArray) : ByteArray := if l.size = 0 then ⟨#[47]⟩ else l
def tailA (l : ByteArray) : ByteArray := dropT (plB 1 ⟨(backL (orSlB (tailP l)).data.toList).toArray⟩)
def tailQ (l : ByteArray) : Bool := decide (0 < (tailM l).size)
def tailR (l : ByteArray) : ByteArray := plB 2 ((tailM l).extract 1 (tailM l).size)
theorem among_63 (c : UInt8) : amongL (⟨#[63]⟩ : ByteArray).data.toList (c.toNat : Int) = !(c != 63) := by
 have key : ∀ n : Nat, n < 256 → amongL [63] (n : Int) = !(UInt8.ofNat n != 63) := by decide +kernel
 have h := key c.toNat c.toNat_lt
 simpa using h
theorem while_size {p : UInt8 → Bool} (l : ByteArray) : (⟨(l.data.toList.takeWhile p).toArray⟩ : ByteArray).size ≤ l.size ∧ (⟨(l.data.toList.dropWhile p).toArray⟩ : ByteArray).size ≤ l.size := by
 have h : l.data.toList.length = l.size := by simp
 have h1 := congrArg List.length (List.takeWhile_append_dropWhile (p := p) (l := l.data.toList))
 rw [List.length_append, h] at h1
 constructor
 ·show (l.data.toList.takeWhile p).toArray.size ≤ _
  rw [List.size_toArray]
  omega
 show (l.data.toList.dropWhile p).toArray.size ≤ _
 rw [List.size_toArray]
 omega
theorem specTail (s k n p : Int) (nm a r : ByteArray) (q : Bool) (x0 x1 x2 x3 x4 x5 x6 x7 : Int) (l : ByteArray) (w : World) (hl : l.size ≤ 4194303) :
  Calls Tryz.prog 52 #[.agg #[.int .i64 s, .int .i64 k, .string nm, .int .i64 n, .int .i64 x0, .int .i64 x1, .int .i64 x2, .int .i64 x3, .int .i64 x4, .int .i64 x5, .int .i64 x6, .int .i64 x7, .int .i64 p, .string a, .bool q, .string r], .string l] w fun e w' => e = .returned (.agg (uRow s k nm n x0 x1 x2 x3 x4 x5 x6 x7 p (tailA l) (tailQ l) (tailR l)).toArray) ∧ Below w.heap.size w w' := by
 obtain ⟨hs1, hs2⟩ := while_size (p := fun c => c != 63) l
 have CU : Hid (∀ W, CB 46 #[.string l, .string ⟨#[63]⟩] W (.tuple #[.string (tailP l), .string (tailM l)])) := fun W => specUntil (fun c => c != 63) ⟨#[63]⟩ l W (by decide) among_63 (by omega)
 have hps : (orSlB (tailP l)).size ≤ 4194304 := by
  unfold orSlB
  split
  ·decide
  exact Nat.le_trans hs1 (by omega)
 have CP : Hid (∀ W, CB 63 #[.string (orSlB (tailP l))] W (.string (tailA l))) := fun W => specPath _ W hps
 have CR : Hid (∀ W, CB 64 #[.string ((tailM l).extract 1 (tailM l).size), .int .i64 2] W (.string (tailR l))) := fun W => specPlainly _ 2 W (by rw [ByteArray.size_extract]; have : (tailM l).size ≤ l.size := hs2; omega)
 have HQ : Hid (tailQ l = decide (0 < (tailM l).size)) := rfl
 have HR0 : Hid ((tailM l).size = 0 → tailR l = ⟨#[]⟩) := fun h => by
  show plB 2 ((tailM l).extract 1 (tailM l).size) = _
  apply toL_inj
  rw [toL_plB]
  have e : toL ((tailM l).extract 1 (tailM l).size) = [] := List.eq_nil_of_length_eq_zero (by simp [toL]; omega)
  rw [e]
  rfl
 have hms : (tailM l).size ≤ l.size := hs2
 generalize tailA l = A at CP ⊢
 generalize tailR l = RR at CR HR0 ⊢
 generalize tailM l = M at CU CR HQ HR0 hms
 generalize tailP l = PP at CU CP hps
 clear hs1 hs2
 obtain ⟨O, hO⟩ : ∃ O, O = (w.alloc (.cells #[.int .i64 s, .int .i64 k, .string nm, .int .i64 n, .int .i64 x0, .int .i64 x1, .int .i64 x2, .int .i64 x3, .int .i64 x4, .int .i64 x5, .int .i64 x6, .int .i64 x7, .int .i64 p, .string a, .bool q, .string r] 69)).alloc (.cells #[.int .i64 0, .int .i64 0, .string ⟨#[]⟩, .int .i64 0, .int .i64 0, .int .i64 0, .int .i64 0, .int .i64 0, .int .i64 0, .int .i64 0, .int .i64 0, .int .i64 0, .int .i64 0, .string ⟨#[]⟩, .bool false, .string ⟨#[]⟩] 69) := ⟨_, rfl⟩
 have HU : Hid (UAt O w.heap.size (uRow s k nm n x0 x1 x2 x3 x4 x5 x6 x7 p a q r)) := by
  rw [hO]
  exact (UAt.new w _ _).below ((Below.refl _ _).alloc (Nat.le_refl _) _)
 have HV : Hid (UAt O (w.heap.size + 1) uRow0) := by
  rw [hO]
  have h := UAt.new (w.alloc (.cells #[.int .i64 s, .int .i64 k, .string nm, .int .i64 n, .int .i64 x0, .int .i64 x1, .int .i64 x2, .int .i64 x3, .int .i64 x4, .int .i64 x5, .int .i64 x6, .int .i64 x7, .int .i64 p, .string a, .bool q, .string r] 69)) #[.int .i64 0, .int .i64 0, .string ⟨#[]⟩, .int .i64 0, .int .i64 0, .int .i64 0, .int .i64 0, .int .i64 0, .int .i64 0, .int .i64 0, .int .i64 0, .int .i64 0, .int .i64 0, .string ⟨#[]⟩, .bool false, .string ⟨#[]⟩] 69
  rw [World.size_alloc] at h
  exact h
 have HB : Hid (Below w.heap.size w O) := by
  rw [hO]
  exact ((Below.refl _ w).alloc (Nat.le_refl _) _).alloc (by simp) _
 go_enter Tryz.func52, Tryz.ntmps52
 go_wp2_with fail
 rw [← hO]
 clear hO
 refine (CU.out _).mono ?_
 rintro e w1 ⟨rfl, b1⟩
 have HU1 : Hid (UAt w1 w.heap.size (uRow s k nm n x0 x1 x2 x3 x4 x5 x6 x7 p a q r)) := HU.out.below b1
 have HV1 : Hid (UAt w1 (w.heap.size + 1) uRow0) := HV.out.below b1
 have HB1 : Hid (Below w.heap.size w w1) := HB.out.trans (b1.mono HB.out.size)
 clear b1 HU HV HB
 go_upto_if 13 with fail
 go_cut [5] (fun v wx => v = .string (orSlB PP) ∧ wx = w1)
 case first =>
  by_cases h0 : PP.size = 0
  ·have HE : Hid (orSlB PP = ⟨#[47]⟩) := by show _ = _; unfold orSlB; rw [if_pos h0]
   rw [empty_yes h0]
   go_wp2_with fail
   go_meet
   exact ⟨by rw [HE.out], rfl⟩
  have HE : Hid (orSlB PP = PP) := by show _ = _; unfold orSlB; rw [if_neg h0]
  rw [empty_no (show 0 < PP.size by omega)]
  go_wp2_with fail
  go_meet
  exact ⟨by rw [HE.out], rfl⟩
 obtain ⟨rfl, rfl⟩ := hcut
 go_wp2_with fail
 refine (CP.out _).mono ?_
 rintro e w2 ⟨rfl, b2⟩
 have HU2 := HU1.out.below b2
 have HV2 : Hid (UAt w2 (w.heap.size + 1) uRow0) := HV1.out.below b2
 have HB2 : Hid (Below w.heap.size w w2) := HB1.out.trans (b2.mono HB1.out.size)
 have c13 := HU2.1 13 _ rfl
 have c14 := HU2.1 14 _ rfl
 have c15 := HU2.1 15 _ rfl
 have f13 := HU2.2.1 13
 have f14 := HU2.2.1 14
 have f15 := HU2.2.1 15
 obtain ⟨b, hb⟩ : ∃ b, (!M.toList.isEmpty) = b := ⟨_, rfl⟩
 have hqb : tailQ l = b := by
  rw [HQ.out, ← hb]
  by_cases h0 : M.size = 0
  ·rw [empty_yes h0, decide_eq_false (by omega)]; rfl
  rw [empty_no (show 0 < M.size by omega), decide_eq_true (by omega)]; rfl
 have HU3 : Hid (UAt (((w2.setCell ⟨w.heap.size, 13, none⟩ (.string A)).setCell ⟨w.heap.size, 14, none⟩ (.bool b)).setCell ⟨w.heap.size, 15, none⟩ (.string ⟨#[]⟩)) w.heap.size (uRow s k nm n x0 x1 x2 x3 x4 x5 x6 x7 p A b ⟨#[]⟩)) :=
  ((HU2.set 13 (by simp [uRow]) _).set 14 (by simp [uRow]) _).set 15 (by simp [uRow]) _
 have HV3 : Hid (UAt (((w2.setCell ⟨w.heap.size, 13, none⟩ (.string A)).setCell ⟨w.heap.size, 14, none⟩ (.bool b)).setCell ⟨w.heap.size, 15, none⟩ (.string ⟨#[]⟩)) (w.heap.size + 1) uRow0) :=
  ((HV2.out.other (by omega) _ _).other (by omega) _ _).other (by omega) _ _
 have HB3 : Hid (Below w.heap.size w (((w2.setCell ⟨w.heap.size, 13, none⟩ (.string A)).setCell ⟨w.heap.size, 14, none⟩ (.bool b)).setCell ⟨w.heap.size, 15, none⟩ (.string ⟨#[]⟩))) :=
  ((HB2.out.setCell (p := ⟨w.heap.size, 13, none⟩) (Nat.le_refl _) _).setCell (p := ⟨w.heap.size, 14, none⟩) (Nat.le_refl _) _).setCell (p := ⟨w.heap.size, 15, none⟩) (Nat.le_refl _) _
 clear HU2 b2
 go_upto_if 22 with fail
 generalize (((w2.setCell ⟨w.heap.size, 13, none⟩ (.string A)).setCell ⟨w.heap.size, 14, none⟩ (.bool b)).setCell ⟨w.heap.size, 15, none⟩ (.string ⟨#[]⟩)) = w3 at HU3 HV3 HB3 ⊢
 clear c13 c14 c15 f13 f14 f15 HV2 HB2
 have HQB : Hid (tailQ l = b) := hqb
 clear hqb HQ
 go_cut [0] (fun _ wx => Hid (UAt wx w.heap.size (uRow s k nm n x0 x1 x2 x3 x4 x5 x6 x7 p A b RR)) ∧ Hid (UAt wx (w.heap.size + 1) uRow0) ∧ Hid (Below w.heap.size w wx))
 case first =>
  by_cases h0 : M.size = 0
  ·have hbf : b = false := by rw [← hb, empty_yes h0]; rfl
   have hR := HR0.out h0
   subst hbf
   clear hb
   go_wp2_with fail
   go_meet
   exact ⟨by rw [hR]; exact HU3, HV3, HB3⟩
  have hbt : b = true := by rw [← hb, empty_no (show 0 < M.size by omega)]; rfl
  subst hbt
  clear hb
  have hM : 1 ≤ M.size := by omega
  go_wp2_with fail
  refine (CR.out _).mono ?_
  rintro e w4 ⟨rfl, b4⟩
  have HU4 := HU3.out.below b4
  have HV4 := HV3.out.below b4
  have HB4 := HB3.out.trans (b4.mono HB3.out.size)
  have c15 := HU4.1 15 _ rfl
  have f15 := HU4.2.1 15
  have HU5 : Hid (UAt (w4.setCell ⟨w.heap.size, 15, none⟩ (.string RR)) w.heap.size (uRow s k nm n x0 x1 x2 x3 x4 x5 x6 x7 p A true RR)) := HU4.set 15 (by simp [uRow]) _
  have HV5 : Hid (UAt (w4.setCell ⟨w.heap.size, 15, none⟩ (.string RR)) (w.heap.size + 1) uRow0) := HV4.other (by omega) _ _
  have HB5 : Hid (Below w.heap.size w (w4.setCell ⟨w.heap.size, 15, none⟩ (.string RR))) := HB4.setCell (p := ⟨w.heap.size, 15, none⟩) (Nat.le_refl _) _
  clear b4 HU4 HV4 HB4
  go_wp2_with fail
  go_meet
  exact ⟨HU5, HV5, HB5⟩
 obtain ⟨HU, HV, HB⟩ := hcut
 clear HU3 HV3 HB3 CR CP CU HU1 HV1 HB1 HR0 hb
 go_wp2_with (first | (refine url_ld HU.out rfl rfl _ rfl rfl ?_) | (refine url_st HV.out rfl (us := uRow s k nm n x0 x1 x2 x3 x4 x5 x6 x7 p A b RR) rfl (uRow_one ..) rfl _ _ rfl rfl rfl ?_; intro w9 HU9 HM9))
 refine bodyPost_ret (url_result1 rfl _ _ (w.heap.size + 1) _ rfl rfl HU9) rfl ⟨by rw [HQB.out], HM9.2 _ _ (Nat.le_succ _) HB.out⟩

theorem eq_int (d : Nat) (x y : Int) (W : World) : (Op.equalIn (d + 1) 3 (.int .i64 x) (.int .i64 y)).run Tryz.prog W = .ok (x == y) W := run_equalIn_int W d 3 .i64 .i64 x y Tryz.underlying3
def eqB (z y : List Int) : Bool := decide (z = y)
theorem items_run (d : Nat) (xs ys : Array Value) (W : World) (zx zy : Nat → Int) : ∀ (js : List Nat),
  (∀ j ∈ js, (part 3 xs (j * 1)).run Tryz.prog W = .ok (.int .i64 (zx j)) W) → (∀ j ∈ js, (part 3 ys (j * 1)).run Tryz.prog W = .ok (.int .i64 (zy j)) W) →
  (Op.eqItems (d + 1) 3 1 xs ys js).run Tryz.prog W = .ok (js.all fun j => zx j == zy j) W
 | [], _, _ => by simp [Op.eqItems]
 | j :: js, hx, hy => by
  have ih := items_run d xs ys W zx zy js (fun i hi => hx i (List.mem_cons_of_mem _ hi)) (fun i hi => hy i (List.mem_cons_of_mem _ hi))
  simp only [Op.eqItems, Sem.run_bind, hx j List.mem_cons_self, hy j List.mem_cons_self, Result.andThen_ok, eq_int]
  cases h : (zx j == zy j) with
  | false => simp [h]
  | true => simp [h, ih]
theorem part_at (x0 x1 x2 x3 x4 x5 x6 x7 : Int) (W : World) : ∀ j ∈ [0, 1, 2, 3, 4, 5, 6, 7], (part 3 #[.int .i64 x0, .int .i64 x1, .int .i64 x2, .int .i64 x3, .int .i64 x4, .int .i64 x5, .int .i64 x6, .int .i64 x7] (j * 1)).run Tryz.prog W = .ok (.int .i64 ([x0, x1, x2, x3, x4, x5, x6, x7].getD j 0)) W := by
 intro j hj
 simp only [List.mem_cons, List.not_mem_nil, or_false] at hj
 rcases hj with rfl | rfl | rfl | rfl | rfl | rfl | rfl | rfl <;> simp [part, Tryz.isAgg3, go_sem]
theorem all_eq (x0 x1 x2 x3 x4 x5 x6 x7 y0 y1 y2 y3 y4 y5 y6 y7 : Int) : ([0, 1, 2, 3, 4, 5, 6, 7].all fun j => [x0, x1, x2, x3, x4, x5, x6, x7].getD j 0 == [y0, y1, y2, y3, y4, y5, y6, y7].getD j 0) = eqB [x0, x1, x2, x3, x4, x5, x6, x7] [y0, y1, y2, y3, y4, y5, y6, y7] := by
 unfold eqB
 rw [Bool.eq_iff_iff, decide_eq_true_eq, List.all_eq_true]
 constructor
 ·intro h
  have e : ∀ j, j ∈ [0, 1, 2, 3, 4, 5, 6, 7] → [x0, x1, x2, x3, x4, x5, x6, x7].getD j 0 = [y0, y1, y2, y3, y4, y5, y6, y7].getD j 0 := fun j hj => by simpa using h j hj
  have e0 : x0 = y0 := e 0 (by simp)
  have e1 : x1 = y1 := e 1 (by simp)
  have e2 : x2 = y2 := e 2 (by simp)
  have e3 : x3 = y3 := e 3 (by simp)
  have e4 : x4 = y4 := e 4 (by simp)
  have e5 : x5 = y5 := e 5 (by simp)
  have e6 : x6 = y6 := e 6 (by simp)
  have e7 : x7 = y7 := e 7 (by simp)
  rw [e0, e1, e2, e3, e4, e5, e6, e7]
 intro h j _
 rw [h]
 simp
theorem eqA (d : Nat) (x0 x1 x2 x3 x4 x5 x6 x7 y0 y1 y2 y3 y4 y5 y6 y7 : Int) (W : World) :
  (Op.equalIn (d + 2) 65 (.agg #[.int .i64 x0, .int .i64 x1, .int .i64 x2, .int .i64 x3, .int .i64 x4, .int .i64 x5, .int .i64 x6, .int .i64 x7]) (.agg #[.int .i64 y0, .int .i64 y1, .int .i64 y2, .int .i64 y3, .int .i64 y4, .int .i64 y5, .int .i64 y6, .int .i64 y7])).run Tryz.prog W = .ok (eqB [x0, x1, x2, x3, x4, x5, x6, x7] [y0, y1, y2, y3, y4, y5, y6, y7]) W := by
 obtain ⟨i0, hi, hz0, hz1, hz2⟩ := info_parts Tryz.infoI5
 rw [run_equalIn_array W (d + 1) _ _ Tryz.underlying65 hi, show Tryz.prog.cellsOf 3 = 1 by kernel_rfl, show List.range 8 = [0, 1, 2, 3, 4, 5, 6, 7] from rfl,
  items_run d _ _ W (fun j => [x0, x1, x2, x3, x4, x5, x6, x7].getD j 0) (fun j => [y0, y1, y2, y3, y4, y5, y6, y7].getD j 0) _ (part_at x0 x1 x2 x3 x4 x5 x6 x7 W) (part_at y0 y1 y2 y3 y4 y5 y6 y7 W), all_eq x0 x1 x2 x3 x4 x5 x6 x7 y0 y1 y2 y3 y4 y5 y6 y7]
def eqHB (k : Int) (s : ByteArray) (n : Int) (z : List Int) (k' : Int) (s' : ByteArray) (n' : Int) (z' : List Int) : Bool := (k == k') && ((s.toList == s'.toList) && ((n == n') && eqB z z'))
end Go.Proofs.YtidecdlaeomfoaaGreat
namespace Go.Proofs.YtidecdlaeomfoaaGreat
open Go.RowKit Go.Shelf
end Go.Proofs.YtidecdlaeomfoaaGreat
