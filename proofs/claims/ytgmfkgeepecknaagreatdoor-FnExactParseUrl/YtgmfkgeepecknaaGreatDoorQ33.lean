/- UrlTail, HostSpec3, HostSpec4. -/
import Derived.Test.YtgmfkgeepecknaaGreatDoorQ32
set_option maxHeartbeats 4000000
set_option maxRecDepth 100000
namespace Go.Proofs.YtgmfkgeepecknaaGreatDoor
open Go.RowKit
def tailP (l : ByteArray) : ByteArray := ⟨(l.data.toList.takeWhile fun c => c != 63).toArray⟩
def tailM (l : ByteArray) : ByteArray := ⟨(l.data.toList.dropWhile fun c => c != 63).toArray⟩
def orSlB (l : ByteArray) : ByteArray := if l.size = 0 then ⟨#[47]⟩ else l
def tailA (l : ByteArray) : ByteArray := dropT (plB 1 ⟨(backL (orSlB (tailP l)).data.toList).toArray⟩)
def tailQ (l : ByteArray) : Bool := decide (0 < (tailM l).size)
def tailR (l : ByteArray) : ByteArray := plB 2 ((tailM l).extract 1 (tailM l).size)
theorem among_63 (c : UInt8) : amongL (⟨#[63]⟩ : ByteArray).data.toList (c.toNat : Int) = !(c != 63) := by
 have key : ∀ n : Nat, n < 256 → amongL [63] (n : Int) = !(UInt8.ofNat n != 63) := by decide +kernel
 have h := key c.toNat c.toNat_lt
 simpa using h
theorem while_size {p : UInt8 → Bool} (l : ByteArray) : (⟨(l.data.toList.takeWhile p).toArray⟩ : ByteArray).size ≤ l.size ∧ (⟨(l.data.toList.dropWhile p).toArray⟩ : ByteArray).size ≤ l.size := by
 have h : l.data.toList.length = l.size := by simp
 have h1 := congrArg List.length (List.takeWhile_append_dropWhile (p := p) (l := l.data.toList))
 rw [List.length_append, h] at h1
 constructor
 ·show (l.data.toList.takeWhile p).toArray.size ≤ _
  rw [List.size_toArray]
  omega
 show (l.data.toList.dropWhile p).toArray.size ≤ _
 rw [List.size_toArray]
 omega
theorem specTail (s k n p : Int) (nm a r : ByteArray) (q : Bool) (x0 x1 x2 x3 x4 x5 x6 x7 : Int) (l : ByteArray) (w : World) (hl : l.size ≤ 9999) :
  Calls Tryz.prog 56 #[.agg #[.int .i64 s, .int .i64 k, .string nm, .int .i64 n, .int .i64 x0, .int .i64 x1, .int .i64 x2, .int .i64 x3, .int .i64 x4, .int .i64 x5, .int .i64 x6, .int .i64 x7, .int .i64 p, .string a, .bool q, .string r], .string l] w fun e w' => e = .returned (.agg (uRow s k nm n x0 x1 x2 x3 x4 x5 x6 x7 p (tailA l) (tailQ l) (tailR l)).toArray) ∧ Below w.heap.size w w' := by
 obtain ⟨hs1, hs2⟩ := while_size (p := fun c => c != 63) l
 have CU : Hid (∀ W, CB 51 #[.string l, .string ⟨#[63]⟩] W (.tuple #[.string (tailP l), .string (tailM l)])) := fun W => specUntil (fun c => c != 63) ⟨#[63]⟩ l W (by decide) among_63 (by omega)
 have hps : (orSlB (tailP l)).size ≤ 10000 := by
  unfold orSlB
  split
  ·decide
  exact Nat.le_trans hs1 (by omega)
 have CP : Hid (∀ W, CB 103 #[.string (orSlB (tailP l))] W (.string (tailA l))) := fun W => specPath _ W hps
 have CR : Hid (∀ W, CB 38 #[.string ((tailM l).extract 1 (tailM l).size), .int .i64 2] W (.string (tailR l))) := fun W => specPlainly _ 2 W (by rw [ByteArray.size_extract]; have : (tailM l).size ≤ l.size := hs2; omega)
 have HQ : Hid (tailQ l = decide (0 < (tailM l).size)) := rfl
 have HR0 : Hid ((tailM l).size = 0 → tailR l = ⟨#[]⟩) := fun h => by
  show plB 2 ((tailM l).extract 1 (tailM l).size) = _
  apply toL_inj
  rw [toL_plB]
  have e : toL ((tailM l).extract 1 (tailM l).size) = [] := List.eq_nil_of_length_eq_zero (by simp [toL]; omega)
  rw [e]
  rfl
 have hms : (tailM l).size ≤ l.size := hs2
 generalize tailA l = A at CP ⊢
 generalize tailR l = RR at CR HR0 ⊢
 generalize tailM l = M at CU CR HQ HR0 hms
 generalize tailP l = PP at CU CP hps
 clear hs1 hs2
 obtain ⟨O, hO⟩ : ∃ O, O = (w.alloc (.cells #[.int .i64 s, .int .i64 k, .string nm, .int .i64 n, .int .i64 x0, .int .i64 x1, .int .i64 x2, .int .i64 x3, .int .i64 x4, .int .i64 x5, .int .i64 x6, .int .i64 x7, .int .i64 p, .string a, .bool q, .string r] 28)).alloc (.cells #[.int .i64 0, .int .i64 0, .string ⟨#[]⟩, .int .i64 0, .int .i64 0, .int .i64 0, .int .i64 0, .int .i64 0, .int .i64 0, .int .i64 0, .int .i64 0, .int .i64 0, .int .i64 0, .string ⟨#[]⟩, .bool false, .string ⟨#[]⟩] 28) := ⟨_, rfl⟩
 have HU : Hid (UAt O w.heap.size (uRow s k nm n x0 x1 x2 x3 x4 x5 x6 x7 p a q r)) := by
  rw [hO]
  exact (UAt.new w _ _).below ((Below.refl _ _).alloc (Nat.le_refl _) _)
 have HV : Hid (UAt O (w.heap.size + 1) uRow0) := by
  rw [hO]
  have h := UAt.new (w.alloc (.cells #[.int .i64 s, .int .i64 k, .string nm, .int .i64 n, .int .i64 x0, .int .i64 x1, .int .i64 x2, .int .i64 x3, .int .i64 x4, .int .i64 x5, .int .i64 x6, .int .i64 x7, .int .i64 p, .string a, .bool q, .string r] 28)) #[.int .i64 0, .int .i64 0, .string ⟨#[]⟩, .int .i64 0, .int .i64 0, .int .i64 0, .int .i64 0, .int .i64 0, .int .i64 0, .int .i64 0, .int .i64 0, .int .i64 0, .int .i64 0, .string ⟨#[]⟩, .bool false, .string ⟨#[]⟩] 28
  rw [World.size_alloc] at h
  exact h
 have HB : Hid (Below w.heap.size w O) := by
  rw [hO]
  exact ((Below.refl _ w).alloc (Nat.le_refl _) _).alloc (by simp) _
 go_enter Tryz.func56, Tryz.ntmps56
 go_wp2_with fail
 rw [← hO]
 clear hO
 refine (CU.out _).mono ?_
 rintro e w1 ⟨rfl, b1⟩
 have HU1 : Hid (UAt w1 w.heap.size (uRow s k nm n x0 x1 x2 x3 x4 x5 x6 x7 p a q r)) := HU.out.below b1
 have HV1 : Hid (UAt w1 (w.heap.size + 1) uRow0) := HV.out.below b1
 have HB1 : Hid (Below w.heap.size w w1) := HB.out.trans (b1.mono HB.out.size)
 clear b1 HU HV HB
 go_upto_if 13 with fail
 go_cut [5] (fun v wx => v = .string (orSlB PP) ∧ wx = w1)
 case first =>
  by_cases h0 : PP.size = 0
  ·have HE : Hid (orSlB PP = ⟨#[47]⟩) := by show _ = _; unfold orSlB; rw [if_pos h0]
   rw [empty_yes h0]
   go_wp2_with fail
   go_meet
   exact ⟨by rw [HE.out], rfl⟩
  have HE : Hid (orSlB PP = PP) := by show _ = _; unfold orSlB; rw [if_neg h0]
  rw [empty_no (show 0 < PP.size by omega)]
  go_wp2_with fail
  go_meet
  exact ⟨by rw [HE.out], rfl⟩
 obtain ⟨rfl, rfl⟩ := hcut
 go_wp2_with fail
 refine (CP.out _).mono ?_
 rintro e w2 ⟨rfl, b2⟩
 have HU2 := HU1.out.below b2
 have HV2 : Hid (UAt w2 (w.heap.size + 1) uRow0) := HV1.out.below b2
 have HB2 : Hid (Below w.heap.size w w2) := HB1.out.trans (b2.mono HB1.out.size)
 have c13 := HU2.1 13 _ rfl
 have c14 := HU2.1 14 _ rfl
 have c15 := HU2.1 15 _ rfl
 have f13 := HU2.2.1 13
 have f14 := HU2.2.1 14
 have f15 := HU2.2.1 15
 obtain ⟨b, hb⟩ : ∃ b, (!M.toList.isEmpty) = b := ⟨_, rfl⟩
 have hqb : tailQ l = b := by
  rw [HQ.out, ← hb]
  by_cases h0 : M.size = 0
  ·rw [empty_yes h0, decide_eq_false (by omega)]; rfl
  rw [empty_no (show 0 < M.size by omega), decide_eq_true (by omega)]; rfl
 have HU3 : Hid (UAt (((w2.setCell ⟨w.heap.size, 13, none⟩ (.string A)).setCell ⟨w.heap.size, 14, none⟩ (.bool b)).setCell ⟨w.heap.size, 15, none⟩ (.string ⟨#[]⟩)) w.heap.size (uRow s k nm n x0 x1 x2 x3 x4 x5 x6 x7 p A b ⟨#[]⟩)) :=
  ((HU2.set 13 (by simp [uRow]) _).set 14 (by simp [uRow]) _).set 15 (by simp [uRow]) _
 have HV3 : Hid (UAt (((w2.setCell ⟨w.heap.size, 13, none⟩ (.string A)).setCell ⟨w.heap.size, 14, none⟩ (.bool b)).setCell ⟨w.heap.size, 15, none⟩ (.string ⟨#[]⟩)) (w.heap.size + 1) uRow0) :=
  ((HV2.out.other (by omega) _ _).other (by omega) _ _).other (by omega) _ _
 have HB3 : Hid (Below w.heap.size w (((w2.setCell ⟨w.heap.size, 13, none⟩ (.string A)).setCell ⟨w.heap.size, 14, none⟩ (.bool b)).setCell ⟨w.heap.size, 15, none⟩ (.string ⟨#[]⟩))) :=
  ((HB2.out.setCell (p := ⟨w.heap.size, 13, none⟩) (Nat.le_refl _) _).setCell (p := ⟨w.heap.size, 14, none⟩) (Nat.le_refl _) _).setCell (p := ⟨w.heap.size, 15, none⟩) (Nat.le_refl _) _
 clear HU2 b2
 go_upto_if 22 with fail
 generalize (((w2.setCell ⟨w.heap.size, 13, none⟩ (.string A)).setCell ⟨w.heap.size, 14, none⟩ (.bool b)).setCell ⟨w.heap.size, 15, none⟩ (.string ⟨#[]⟩)) = w3 at HU3 HV3 HB3 ⊢
 clear c13 c14 c15 f13 f14 f15 HV2 HB2
 have HQB : Hid (tailQ l = b) := hqb
 clear hqb HQ
 go_cut [0] (fun _ wx => Hid (UAt wx w.heap.size (uRow s k nm n x0 x1 x2 x3 x4 x5 x6 x7 p A b RR)) ∧ Hid (UAt wx (w.heap.size + 1) uRow0) ∧ Hid (Below w.heap.size w wx))
 case first =>
  by_cases h0 : M.size = 0
  ·have hbf : b = false := by rw [← hb, empty_yes h0]; rfl
   have hR := HR0.out h0
   subst hbf
   clear hb
   go_wp2_with fail
   go_meet
   exact ⟨by rw [hR]; exact HU3, HV3, HB3⟩
  have hbt : b = true := by rw [← hb, empty_no (show 0 < M.size by omega)]; rfl
  subst hbt
  clear hb
  have hM : 1 ≤ M.size := by omega
  go_wp2_with fail
  refine (CR.out _).mono ?_
  rintro e w4 ⟨rfl, b4⟩
  have HU4 := HU3.out.below b4
  have HV4 := HV3.out.below b4
  have HB4 := HB3.out.trans (b4.mono HB3.out.size)
  have c15 := HU4.1 15 _ rfl
  have f15 := HU4.2.1 15
  have HU5 : Hid (UAt (w4.setCell ⟨w.heap.size, 15, none⟩ (.string RR)) w.heap.size (uRow s k nm n x0 x1 x2 x3 x4 x5 x6 x7 p A true RR)) := HU4.set 15 (by simp [uRow]) _
  have HV5 : Hid (UAt (w4.setCell ⟨w.heap.size, 15, none⟩ (.string RR)) (w.heap.size + 1) uRow0) := HV4.other (by omega) _ _
  have HB5 : Hid (Below w.heap.size w (w4.setCell ⟨w.heap.size, 15, none⟩ (.string RR))) := HB4.setCell (p := ⟨w.heap.size, 15, none⟩) (Nat.le_refl _) _
  clear b4 HU4 HV4 HB4
  go_wp2_with fail
  go_meet
  exact ⟨HU5, HV5, HB5⟩
 obtain ⟨HU, HV, HB⟩ := hcut
 clear HU3 HV3 HB3 CR CP CU HU1 HV1 HB1 HR0 hb
 go_wp2_with (first | (refine url_ld HU.out rfl rfl _ rfl rfl ?_) | (refine url_st HV.out rfl (us := uRow s k nm n x0 x1 x2 x3 x4 x5 x6 x7 p A b RR) rfl (uRow_one ..) rfl _ _ rfl rfl rfl ?_; intro w9 HU9 HM9))
 refine bodyPost_ret (url_result1 rfl _ _ (w.heap.size + 1) _ rfl rfl HU9) rfl ⟨by rw [HQB.out], HM9.2 _ _ (Nat.le_succ _) HB.out⟩
def NoneCells (W : World) (B : Nat) : Prop :=
 W.cell? ⟨B, 0, none⟩ = some (.int .i64 0) ∧ W.cell? ⟨B, 1, none⟩ = some (.string ⟨#[]⟩) ∧ W.cell? ⟨B, 2, none⟩ = some (.int .i64 0) ∧ W.cell? ⟨B, 3, none⟩ = some (.int .i64 0) ∧ W.cell? ⟨B, 4, none⟩ = some (.int .i64 0) ∧
 W.cell? ⟨B, 5, none⟩ = some (.int .i64 0) ∧ W.cell? ⟨B, 6, none⟩ = some (.int .i64 0) ∧ W.cell? ⟨B, 7, none⟩ = some (.int .i64 0) ∧ W.cell? ⟨B, 8, none⟩ = some (.int .i64 0) ∧ W.cell? ⟨B, 9, none⟩ = some (.int .i64 0) ∧ W.cell? ⟨B, 10, none⟩ = some (.int .i64 0)
def Laid3 (w W : World) : Prop := NoneCells W w.heap.size ∧ NoneCells W (w.heap.size + 1) ∧ ∀ j, W.frozen? ⟨w.heap.size, j, none⟩ = false
theorem laid3 (w W : World) (t : TypeId) (hb : Below ((w.alloc (.cells #[.int .i64 0, .string ⟨#[]⟩, .int .i64 0, .int .i64 0, .int .i64 0, .int .i64 0, .int .i64 0, .int .i64 0, .int .i64 0, .int .i64 0, .int .i64 0] t)).alloc (.cells #[.int .i64 0, .string ⟨#[]⟩, .int .i64 0, .int .i64 0, .int .i64 0, .int .i64 0, .int .i64 0, .int .i64 0, .int .i64 0, .int .i64 0, .int .i64 0] t)).heap.size ((w.alloc (.cells #[.int .i64 0, .string ⟨#[]⟩, .int .i64 0, .int .i64 0, .int .i64 0, .int .i64 0, .int .i64 0, .int .i64 0, .int .i64 0, .int .i64 0, .int .i64 0] t)).alloc (.cells #[.int .i64 0, .string ⟨#[]⟩, .int .i64 0, .int .i64 0, .int .i64 0, .int .i64 0, .int .i64 0, .int .i64 0, .int .i64 0, .int .i64 0, .int .i64 0] t)) W) : Laid3 w W := by
 have h1 := ((Below.refl _ (w.alloc (.cells #[.int .i64 0, .string ⟨#[]⟩, .int .i64 0, .int .i64 0, .int .i64 0, .int .i64 0, .int .i64 0, .int .i64 0, .int .i64 0, .int .i64 0, .int .i64 0] t))).alloc (Nat.le_refl _) (.cells #[.int .i64 0, .string ⟨#[]⟩, .int .i64 0, .int .i64 0, .int .i64 0, .int .i64 0, .int .i64 0, .int .i64 0, .int .i64 0, .int .i64 0, .int .i64 0] t)).trans (hb.mono (by simp))
 have h2 := host_cells _ W _ _ _ 0 0 0 0 0 0 0 0 t hb
 unfold HostCells at h2
 simp only [show (w.alloc (.cells #[.int .i64 0, .string ⟨#[]⟩, .int .i64 0, .int .i64 0, .int .i64 0, .int .i64 0, .int .i64 0, .int .i64 0, .int .i64 0, .int .i64 0, .int .i64 0] t)).heap.size = w.heap.size + 1 by simp] at h2
 exact ⟨host_cells w W _ _ _ 0 0 0 0 0 0 0 0 t h1, h2, host_frozen w W _ t h1⟩
theorem row_of_none {W : World} {B : Nat} (h : NoneCells W B) : RowIs W B (hRow 0 ⟨#[]⟩ 0 0 0 0 0 0 0 0 0) := by
 obtain ⟨c0, c1, c2, c3, c4, c5, c6, c7, c8, c9, c10⟩ := h
 intro j v hv
 match j, hv with
 | 0, hv => cases hv; exact c0
 | 1, hv => cases hv; exact c1
 | 2, hv => cases hv; exact c2
 | 3, hv => cases hv; exact c3
 | 4, hv => cases hv; exact c4
 | 5, hv => cases hv; exact c5
 | 6, hv => cases hv; exact c6
 | 7, hv => cases hv; exact c7
 | 8, hv => cases hv; exact c8
 | 9, hv => cases hv; exact c9
 | 10, hv => cases hv; exact c10
 | j + 11, hv => simp [hRow] at hv
theorem last_r {s : ByteArray} (h : 1 < s.size) : (s.extract 1 s.size).data.toList.getLast? = some (s[s.size - 1]'(by omega)) := by
 rw [extract_list, take_all s s.size (Nat.le_refl _), List.getLast?_drop, if_neg (by simp; omega)]
 exact last_at s (by omega)
theorem drop_r {s : ByteArray} (h : 1 < s.size) : (s.extract 1 s.size).data.toList.dropLast = (s.extract 1 (s.size - 1)).data.toList := by
 have hl : s.data.toList.length = s.size := by simp
 rw [extract_list, extract_list, take_all s s.size (Nat.le_refl _), List.dropLast_eq_take, List.length_drop, hl, List.take_drop, show 1 + (s.size - 1 - 1) = s.size - 1 by omega]
theorem nil_r {s : ByteArray} (h : ¬ 1 < s.size) : (s.extract 1 s.size).data.toList.getLast? = none := by
 have e : (s.extract 1 s.size).data.toList = [] := List.eq_nil_of_length_eq_zero (by simp; omega)
 rw [e]
 rfl
theorem row_arr {W : World} {B : Nat} {vs : List Value} (h : RowIs W B vs) {C : Nat} (hne : B ≠ C) (x0 x1 x2 x3 x4 x5 x6 x7 : Int) : RowIs ((((((((W.setCell ⟨C, 0, none⟩ (.int .i64 x0)).setCell ⟨C, 1, none⟩ (.int .i64 x1)).setCell ⟨C, 2, none⟩ (.int .i64 x2)).setCell ⟨C, 3, none⟩ (.int .i64 x3)).setCell ⟨C, 4, none⟩ (.int .i64 x4)).setCell ⟨C, 5, none⟩ (.int .i64 x5)).setCell ⟨C, 6, none⟩ (.int .i64 x6)).setCell ⟨C, 7, none⟩ (.int .i64 x7)) B vs :=
 (((((((h.other hne 0 _).other hne 1 _).other hne 2 _).other hne 3 _).other hne 4 _).other hne 5 _).other hne 6 _).other hne 7 _
theorem specParseHost0 (s : ByteArray) (w : World) (h0 : s.size = 0) :
  Calls Tryz.prog 55 #[.string s] w fun e w' => e = .returned (.tuple #[hostVal (rV (readH s)), .int .i64 (rC (readH s))]) ∧ Below w.heap.size w w' := by
 rw [readH_nil h0]
 show Calls _ _ _ _ fun e w' => e = .returned (.tuple #[.agg #[.int .i64 0, .string ⟨#[]⟩, .int .i64 0, .int .i64 0, .int .i64 0, .int .i64 0, .int .i64 0, .int .i64 0, .int .i64 0, .int .i64 0, .int .i64 0], .int .i64 1]) ∧ Below w.heap.size w w'
 have hem := empty_yes h0
 clear h0
 go_enter Tryz.func55, Tryz.ntmps55
 go_wp2_with fail
 go_returns
 exact ⟨rfl, by go_grown⟩
theorem specParseHostN (s : ByteArray) (w : World) (hs : s.size ≤ 1048576) (hp : 0 < s.size) (h9 : ¬ s[0].toNat = 91) :
  Calls Tryz.prog 55 #[.string s] w fun e w' => e = .returned (.tuple #[hostVal (rV (readH s)), .int .i64 (rC (readH s))]) ∧ Below w.heap.size w w' := by
 rw [readH_name hp h9]
 have hem := empty_no hp
 obtain ⟨d, hd⟩ : ∃ d : Nat, s[0].toNat = d := ⟨_, rfl⟩
 have q0 : ((d : Int) == 91) = false := beq_eq_false_iff_ne.2 (by omega)
 have hus := Nat.le_trans (unB_size s) hs
 obtain ⟨O, hO⟩ : ∃ O, O = (w.alloc (.cells #[.int .i64 0, .string ⟨#[]⟩, .int .i64 0, .int .i64 0, .int .i64 0, .int .i64 0, .int .i64 0, .int .i64 0, .int .i64 0, .int .i64 0, .int .i64 0] 26)).alloc (.cells #[.int .i64 0, .string ⟨#[]⟩, .int .i64 0, .int .i64 0, .int .i64 0, .int .i64 0, .int .i64 0, .int .i64 0, .int .i64 0, .int .i64 0, .int .i64 0] 26) := ⟨_, rfl⟩
 have HL : Hid (∀ W, Below O.heap.size O W → Laid3 w W) := fun W h => by rw [hO] at h; exact laid3 w W _ h
 have HE : Hid (∀ W, Below O.heap.size O W → Below w.heap.size w W) := fun W h => by
  rw [hO] at h
  exact (((Below.refl _ w).alloc (Nat.le_refl _) _).alloc (by simp) _).trans (h.mono (by simp; omega))
 have CU : Hid (Calls Tryz.prog 101 #[.string s] O fun e w' => e = .returned (.string (unB s)) ∧ Hid (Below O.heap.size O w')) := specUnpercent s O (by omega)
 have CN : Hid (∀ W, Below O.heap.size O W → Calls Tryz.prog 72 #[.string (unB s)] W fun e w' => e = .returned (ansS (nameL (unB s))) ∧ Hid (Below O.heap.size O w')) := fun W hb => (specNameOf (unB s) W hus).mono fun e w' h => ⟨h.1, hb.trans (h.2.mono hb.size)⟩
 have HZ0 : Hid (readN s = match nameL (unB s) with
  | none => .bad 3
  | some n => readM n) := rfl
 have HNL : Hid (∀ n, nameL (unB s) = some n → n.length ≤ 253) := fun n hn => (nameL_le hn)
 generalize unB s = u at CU CN HZ0 HNL
 clear hus h9
 cases hn : nameL u with
 | none =>
  have HZ : Hid (readN s = .bad 3) := by
   show _ = _
   rw [HZ0.out, hn]
  rw [HZ.out]
  show Calls _ _ _ _ fun e w' => e = .returned (.tuple #[.agg #[.int .i64 0, .string ⟨#[]⟩, .int .i64 0, .int .i64 0, .int .i64 0, .int .i64 0, .int .i64 0, .int .i64 0, .int .i64 0, .int .i64 0, .int .i64 0], .int .i64 3]) ∧ Below w.heap.size w w'
  rw [hn, show ansS none = .tuple #[.string ⟨#[]⟩, .bool false] from rfl] at CN
  clear hn HZ0 HNL HZ
  go_enter Tryz.func55, Tryz.ntmps55
  go_wp2_with fail
  rw [← hO]
  refine CU.out.mono ?_
  rintro e w1 ⟨rfl, b1⟩
  go_wp2_with fail
  refine (CN.out _ b1.out).mono ?_
  rintro e w2 ⟨rfl, b2⟩
  have hl3 := HL.out w2 b2.out
  have HR : Hid (RowIs w2 w.heap.size (hRow 0 ⟨#[]⟩ 0 0 0 0 0 0 0 0 0)) := row_of_none hl3.1
  have BW : Hid (Below w.heap.size w w2) := HE.out _ b2.out
  obtain ⟨⟨c0, c1, c2, c3, c4, c5, c6, c7, c8, c9, c10⟩, ⟨d0, d1, d2, d3, d4, d5, d6, d7, d8, d9, d10⟩, fz⟩ := hl3
  go_wp2_with fail
  refine bodyPost_ret (host_result2 rfl _ _ w.heap.size _ 0 0 ⟨#[]⟩ 0 0 0 0 0 0 0 0 rfl rfl (host_store HR.out 0 0 ⟨#[]⟩ 0 0 0 0 0 0 0 0)) rfl ⟨rfl, below_hstore BW.out (Nat.le_refl _) 0 0 ⟨#[]⟩ 0 0 0 0 0 0 0 0⟩
 | some n =>
  have hl := HNL.out n hn
  have HZ1 : Hid (readN s = readM n) := by
   show _ = _
   rw [HZ0.out, hn]
  rw [hn, show ansS (some n) = .tuple #[.string ⟨n.toArray⟩, .bool true] from rfl] at CN
  have hns : (⟨n.toArray⟩ : ByteArray).size ≤ 1048576 := by
   show n.toArray.size ≤ _
   rw [List.size_toArray]
   omega
  have CE : Hid (∀ W, Below O.heap.size O W → Calls Tryz.prog 73 #[.string ⟨n.toArray⟩] W fun e w' => e = .returned (.bool (endL ⟨n.toArray⟩)) ∧ Hid (Below O.heap.size O w')) := fun W hb => (specEndsInNumber _ W hns).mono fun e w' h => ⟨h.1, hb.trans (h.2.mono hb.size)⟩
  have CL : Hid (∀ W, Below O.heap.size O W → Calls Tryz.prog 102 #[.string ⟨n.toArray⟩] W fun e w' => e = .returned (numA (loA ⟨n.toArray⟩)) ∧ Hid (Below O.heap.size O w')) := fun W hb => (specLooseIp4 _ W hns).mono fun e w' h => ⟨h.1, hb.trans (h.2.mono hb.size)⟩
  have HM : Hid (readM n = if endL ⟨n.toArray⟩ = true then (match loA ⟨n.toArray⟩ with
   | none => .bad 4
   | some v => .fo v) else .nm n) := rfl
  have HMV : Hid (hostVal (rV (.nm n)) = .agg #[.int .i64 1, .string ⟨n.toArray⟩, .int .i64 0, .int .i64 0, .int .i64 0, .int .i64 0, .int .i64 0, .int .i64 0, .int .i64 0, .int .i64 0, .int .i64 0]) := rfl
  generalize (⟨n.toArray⟩ : ByteArray) = T at CN CE CL HM HMV
  clear hn HZ0 HNL hl hns
  cases he : endL T with
  | false =>
   have HZ : Hid (readN s = .nm n) := by
    show _ = _
    rw [HZ1.out, HM.out, he, if_neg (by decide)]
   rw [HZ.out, HMV.out, show rC (.nm n) = 0 from rfl]
   rw [he] at CE
   clear he HZ1 HM CL HZ HMV
   go_enter Tryz.func55, Tryz.ntmps55
   go_wp2_with fail
   rw [← hO]
   refine CU.out.mono ?_
   rintro e w1 ⟨rfl, b1⟩
   go_wp2_with fail
   refine (CN.out _ b1.out).mono ?_
   rintro e w2 ⟨rfl, b2⟩
   go_wp2_with fail
   refine (CE.out _ b2.out).mono ?_
   rintro e w3 ⟨rfl, b3⟩
   have hl3 := HL.out w3 b3.out
   have HR : Hid (RowIs w3 w.heap.size (hRow 0 ⟨#[]⟩ 0 0 0 0 0 0 0 0 0)) := row_of_none hl3.1
   have BW : Hid (Below w.heap.size w w3) := HE.out _ b3.out
   obtain ⟨⟨c0, c1, c2, c3, c4, c5, c6, c7, c8, c9, c10⟩, ⟨d0, d1, d2, d3, d4, d5, d6, d7, d8, d9, d10⟩, fz⟩ := hl3
   go_wp2_with fail
   refine bodyPost_ret (host_result2 rfl _ _ w.heap.size _ 1 0 T 0 0 0 0 0 0 0 0 rfl rfl (host_store HR.out 1 0 T 0 0 0 0 0 0 0 0)) rfl ⟨rfl, below_hstore BW.out (Nat.le_refl _) 1 0 T 0 0 0 0 0 0 0 0⟩
  | true =>
   rw [he] at CE
   cases hlo : loA T with
   | none =>
    have HZ : Hid (readN s = .bad 4) := by
     show _ = _
     rw [HZ1.out, HM.out, he, if_pos rfl, hlo]
    rw [HZ.out]
    show Calls _ _ _ _ fun e w' => e = .returned (.tuple #[.agg #[.int .i64 0, .string ⟨#[]⟩, .int .i64 0, .int .i64 0, .int .i64 0, .int .i64 0, .int .i64 0, .int .i64 0, .int .i64 0, .int .i64 0, .int .i64 0], .int .i64 4]) ∧ Below w.heap.size w w'
    rw [hlo, show numA none = .tuple #[.int .i64 0, .bool false] from rfl] at CL
    clear he hlo HZ1 HM HMV HZ
    go_enter Tryz.func55, Tryz.ntmps55
    go_wp2_with fail
    rw [← hO]
    refine CU.out.mono ?_
    rintro e w1 ⟨rfl, b1⟩
    go_wp2_with fail
    refine (CN.out _ b1.out).mono ?_
    rintro e w2 ⟨rfl, b2⟩
    go_wp2_with fail
    refine (CE.out _ b2.out).mono ?_
    rintro e w3 ⟨rfl, b3⟩
    go_wp2_with fail
    refine (CL.out _ b3.out).mono ?_
    rintro e w4 ⟨rfl, b4⟩
    have hl3 := HL.out w4 b4.out
    have HR : Hid (RowIs w4 w.heap.size (hRow 0 ⟨#[]⟩ 0 0 0 0 0 0 0 0 0)) := row_of_none hl3.1
    have BW : Hid (Below w.heap.size w w4) := HE.out _ b4.out
    obtain ⟨⟨c0, c1, c2, c3, c4, c5, c6, c7, c8, c9, c10⟩, ⟨d0, d1, d2, d3, d4, d5, d6, d7, d8, d9, d10⟩, fz⟩ := hl3
    go_wp2_with fail
    refine bodyPost_ret (host_result2 rfl _ _ w.heap.size _ 0 0 ⟨#[]⟩ 0 0 0 0 0 0 0 0 rfl rfl (host_store HR.out 0 0 ⟨#[]⟩ 0 0 0 0 0 0 0 0)) rfl ⟨rfl, below_hstore BW.out (Nat.le_refl _) 0 0 ⟨#[]⟩ 0 0 0 0 0 0 0 0⟩
   | some v =>
    have HZ : Hid (readN s = .fo v) := by
     show _ = _
     rw [HZ1.out, HM.out, he, if_pos rfl, hlo]
    rw [HZ.out]
    obtain ⟨y, hy⟩ : ∃ y : Int, (v : Int) = y := ⟨_, rfl⟩
    show Calls _ _ _ _ fun e w' => e = .returned (.tuple #[.agg #[.int .i64 2, .string ⟨#[]⟩, .int .i64 (v : Int), .int .i64 0, .int .i64 0, .int .i64 0, .int .i64 0, .int .i64 0, .int .i64 0, .int .i64 0, .int .i64 0], .int .i64 0]) ∧ Below w.heap.size w w'
    rw [hlo, show numA (some v) = .tuple #[.int .i64 (v : Int), .bool true] from rfl, hy] at CL
    rw [hy]
    clear he hlo HZ1 HM HMV HZ hy
    go_enter Tryz.func55, Tryz.ntmps55
    go_wp2_with fail
    rw [← hO]
    refine CU.out.mono ?_
    rintro e w1 ⟨rfl, b1⟩
    go_wp2_with fail
    refine (CN.out _ b1.out).mono ?_
    rintro e w2 ⟨rfl, b2⟩
    go_wp2_with fail
    refine (CE.out _ b2.out).mono ?_
    rintro e w3 ⟨rfl, b3⟩
    go_wp2_with fail
    refine (CL.out _ b3.out).mono ?_
    rintro e w4 ⟨rfl, b4⟩
    have hl3 := HL.out w4 b4.out
    have HR : Hid (RowIs w4 w.heap.size (hRow 0 ⟨#[]⟩ 0 0 0 0 0 0 0 0 0)) := row_of_none hl3.1
    have BW : Hid (Below w.heap.size w w4) := HE.out _ b4.out
    obtain ⟨⟨c0, c1, c2, c3, c4, c5, c6, c7, c8, c9, c10⟩, ⟨d0, d1, d2, d3, d4, d5, d6, d7, d8, d9, d10⟩, fz⟩ := hl3
    go_wp2_with fail
    refine bodyPost_ret (host_result2 rfl _ _ w.heap.size _ 2 y ⟨#[]⟩ 0 0 0 0 0 0 0 0 rfl rfl (host_store HR.out 2 y ⟨#[]⟩ 0 0 0 0 0 0 0 0)) rfl ⟨rfl, below_hstore BW.out (Nat.le_refl _) 2 y ⟨#[]⟩ 0 0 0 0 0 0 0 0⟩
theorem none_of_row {W : World} {B : Nat} (h : RowIs W B (hRow 0 ⟨#[]⟩ 0 0 0 0 0 0 0 0 0)) : NoneCells W B := ⟨h 0 _ rfl, h 1 _ rfl, h 2 _ rfl, h 3 _ rfl, h 4 _ rfl, h 5 _ rfl, h 6 _ rfl, h 7 _ rfl, h 8 _ rfl, h 9 _ rfl, h 10 _ rfl⟩
theorem specParseHostS (s : ByteArray) (w : World) (hs : s.size ≤ 1048576) (hp : 0 < s.size) (h9 : s[0].toNat = 91) :
  Calls Tryz.prog 55 #[.string s] w fun e w' => e = .returned (.tuple #[hostVal (rV (readH s)), .int .i64 (rC (readH s))]) ∧ Below w.heap.size w w' := by
 rw [readH_six hp h9]
 have hem := empty_no hp
 have hi : ((s.size : Int) - 1) = ((s.size - 1 : Nat) : Int) := by omega
 obtain ⟨c, hc⟩ : ∃ c : Nat, (s[s.size - 1]'(by omega)).toNat = c := ⟨_, rfl⟩
 by_cases hcl : c = 93
 ·have h1 : 1 < s.size := by
   rcases Nat.lt_or_ge 1 s.size with h | h
   ·exact h
   exfalso
   have e : s.size = 1 := by omega
   have : (s[s.size - 1]'(by omega)).toNat = s[0].toNat := by congr 2; omega
   omega
  have HZ1 : Hid (readS (s.extract 1 s.size).data.toList = readB (par6 (s.extract 1 (s.size - 1)).data.toList)) := by
   show _ = _
   rw [readS_yes (by rw [last_r h1]; congr 1; exact u8_is (hc.trans hcl)), drop_r h1]
  have hts : (s.extract 1 (s.size - 1)).size ≤ 1048576 := by rw [ByteArray.size_extract]; omega
  obtain ⟨O, hO⟩ : ∃ O, O = (w.alloc (.cells #[.int .i64 0, .string ⟨#[]⟩, .int .i64 0, .int .i64 0, .int .i64 0, .int .i64 0, .int .i64 0, .int .i64 0, .int .i64 0, .int .i64 0, .int .i64 0] 26)).alloc (.cells #[.int .i64 0, .string ⟨#[]⟩, .int .i64 0, .int .i64 0, .int .i64 0, .int .i64 0, .int .i64 0, .int .i64 0, .int .i64 0, .int .i64 0, .int .i64 0] 26) := ⟨_, rfl⟩
  have HL : Hid (∀ W, Below O.heap.size O W → Laid3 w W) := fun W h => by rw [hO] at h; exact laid3 w W _ h
  have HE : Hid (∀ W, Below O.heap.size O W → Below w.heap.size w W) := fun W h => by
   rw [hO] at h
   exact (((Below.refl _ w).alloc (Nat.le_refl _) _).alloc (by simp) _).trans (h.mono (by simp; omega))
  obtain ⟨P, hP⟩ : ∃ P, P = O.alloc (.cells #[.int .i64 0, .int .i64 0, .int .i64 0, .int .i64 0, .int .i64 0, .int .i64 0, .int .i64 0, .int .i64 0] 24) := ⟨_, rfl⟩
  have HPO : Hid (∀ W, Below P.heap.size P W → Below O.heap.size O W) := fun W h => by
   rw [hP] at h
   exact ((Below.refl _ O).alloc (Nat.le_refl _) _).trans (h.mono (by simp))
  have HPZ : Hid (∀ W, Below P.heap.size P W → ArrAt W (w.heap.size + 1 + 1) [0, 0, 0, 0, 0, 0, 0, 0]) := fun W h => by
   rw [hP] at h
   have h2 := (arr_new O).later h
   rwa [show O.heap.size = w.heap.size + 1 + 1 by rw [hO]; simp] at h2
  have CP : Hid (Calls Tryz.prog 100 #[.string (s.extract 1 (s.size - 1))] P fun e w' => e = .returned (parV (par6 (s.extract 1 (s.size - 1)).data.toList)) ∧ Hid (Below P.heap.size P w')) := specParseIp6 _ P hts
  have H8 : Hid (∀ gs, par6 (s.extract 1 (s.size - 1)).data.toList = some gs → gs.length = 8) := par6_eight _
  rw [HZ1.out]
  subst hcl
  have h1i : 1 ≤ (s.size : Int) - 1 := by omega
  have h2i : (s.size : Int) - 1 ≤ (s.size : Int) := by omega
  generalize par6 (s.extract 1 (s.size - 1)).data.toList = R at CP H8
  clear HZ1 hts
  cases R with
  | none =>
   show Calls _ _ _ _ fun e w' => e = .returned (.tuple #[.agg #[.int .i64 0, .string ⟨#[]⟩, .int .i64 0, .int .i64 0, .int .i64 0, .int .i64 0, .int .i64 0, .int .i64 0, .int .i64 0, .int .i64 0, .int .i64 0], .int .i64 2]) ∧ Below w.heap.size w w'
   go_enter Tryz.func55, Tryz.ntmps55
   go_wp2_with fail
   rw [← hO, ← hP]
   refine CP.out.mono ?_
   rintro e w1 ⟨rfl, b1⟩
   rw [show parV none = .tuple #[.agg #[.int .i64 0, .int .i64 0, .int .i64 0, .int .i64 0, .int .i64 0, .int .i64 0, .int .i64 0, .int .i64 0], .bool false] from rfl]
   have AR := HPZ.out _ b1.out
   obtain ⟨w9, h9⟩ : ∃ w9, w9 = ((((((((w1.setCell ⟨w.heap.size + 1 + 1, 0, none⟩ (.int .i64 0)).setCell ⟨w.heap.size + 1 + 1, 1, none⟩ (.int .i64 0)).setCell ⟨w.heap.size + 1 + 1, 2, none⟩ (.int .i64 0)).setCell ⟨w.heap.size + 1 + 1, 3, none⟩ (.int .i64 0)).setCell ⟨w.heap.size + 1 + 1, 4, none⟩ (.int .i64 0)).setCell ⟨w.heap.size + 1 + 1, 5, none⟩ (.int .i64 0)).setCell ⟨w.heap.size + 1 + 1, 6, none⟩ (.int .i64 0)).setCell ⟨w.heap.size + 1 + 1, 7, none⟩ (.int .i64 0)) := ⟨_, rfl⟩
   have H9 : Hid (w9 = _) := h9
   have hl3 := HL.out w1 (HPO.out _ b1.out)
   have HR : Hid (RowIs w9 w.heap.size (hRow 0 ⟨#[]⟩ 0 0 0 0 0 0 0 0 0)) := by rw [h9]; exact row_arr (row_of_none hl3.1) (by omega) 0 0 0 0 0 0 0 0
   have HR1 : RowIs w9 (w.heap.size + 1) (hRow 0 ⟨#[]⟩ 0 0 0 0 0 0 0 0 0) := by rw [h9]; exact row_arr (row_of_none hl3.2.1) (by omega) 0 0 0 0 0 0 0 0
   have BW : Hid (Below w.heap.size w w9) := by rw [h9]; exact below_store (HE.out _ (HPO.out _ b1.out)) (by omega) 0 0 0 0 0 0 0 0
   have AR9 : Hid (ArrAt w9 (w.heap.size + 1 + 1) [0, 0, 0, 0, 0, 0, 0, 0]) := by rw [h9]; exact arr_store AR 0 0 0 0 0 0 0 0
   have fz : ∀ j, w9.frozen? ⟨w.heap.size, j, none⟩ = false := fun j => by rw [h9]; simp only [World.frozen?_setCell]; exact hl3.2.2 j
   obtain ⟨c0, c1, c2, c3, c4, c5, c6, c7, c8, c9, c10⟩ := none_of_row HR.out
   obtain ⟨d0, d1, d2, d3, d4, d5, d6, d7, d8, d9, d10⟩ := none_of_row HR1
   clear hl3 h9 HR1
   have a0 := (AR.2 0 (by decide)).1
   have a1 := (AR.2 1 (by decide)).1
   have a2 := (AR.2 2 (by decide)).1
   have a3 := (AR.2 3 (by decide)).1
   have a4 := (AR.2 4 (by decide)).1
   have a5 := (AR.2 5 (by decide)).1
   have a6 := (AR.2 6 (by decide)).1
   have a7 := (AR.2 7 (by decide)).1
   have g0 := (AR.2 0 (by decide)).2
   have g1 := (AR.2 1 (by decide)).2
   have g2 := (AR.2 2 (by decide)).2
   have g3 := (AR.2 3 (by decide)).2
   have g4 := (AR.2 4 (by decide)).2
   have g5 := (AR.2 5 (by decide)).2
   have g6 := (AR.2 6 (by decide)).2
   have g7 := (AR.2 7 (by decide)).2
   simp only [List.getD_cons_zero, List.getD_cons_succ] at a0 a1 a2 a3 a4 a5 a6 a7
   clear AR
   go_wp2_with (rw [← H9.out])
   refine bodyPost_ret (host_result2 rfl _ _ w.heap.size _ 0 0 ⟨#[]⟩ 0 0 0 0 0 0 0 0 rfl rfl (host_store HR.out 0 0 ⟨#[]⟩ 0 0 0 0 0 0 0 0)) rfl ⟨rfl, below_hstore BW.out (Nat.le_refl _) 0 0 ⟨#[]⟩ 0 0 0 0 0 0 0 0⟩
  | some gs =>
   obtain ⟨x0, x1, x2, x3, x4, x5, x6, x7, hv, _, hx⟩ := parV_si (H8.out gs rfl)
   rw [hv] at CP
   have HV : Hid (hostVal (rV (readB (some gs))) = .agg #[.int .i64 3, .string ⟨#[]⟩, .int .i64 0, .int .i64 x0, .int .i64 x1, .int .i64 x2, .int .i64 x3, .int .i64 x4, .int .i64 x5, .int .i64 x6, .int .i64 x7]) := by
    show hostVal ⟨3, ⟨#[]⟩, 0, gs.map fun (x : Nat) => (x : Int)⟩ = _
    rw [hx]
    rfl
   rw [HV.out, show rC (readB (some gs)) = 0 from rfl]
   clear hv hx H8 HV
   go_enter Tryz.func55, Tryz.ntmps55
   go_wp2_with fail
   rw [← hO, ← hP]
   refine CP.out.mono ?_
   rintro e w1 ⟨rfl, b1⟩
   have AR := HPZ.out _ b1.out
   obtain ⟨w9, h9⟩ : ∃ w9, w9 = ((((((((w1.setCell ⟨w.heap.size + 1 + 1, 0, none⟩ (.int .i64 x0)).setCell ⟨w.heap.size + 1 + 1, 1, none⟩ (.int .i64 x1)).setCell ⟨w.heap.size + 1 + 1, 2, none⟩ (.int .i64 x2)).setCell ⟨w.heap.size + 1 + 1, 3, none⟩ (.int .i64 x3)).setCell ⟨w.heap.size + 1 + 1, 4, none⟩ (.int .i64 x4)).setCell ⟨w.heap.size + 1 + 1, 5, none⟩ (.int .i64 x5)).setCell ⟨w.heap.size + 1 + 1, 6, none⟩ (.int .i64 x6)).setCell ⟨w.heap.size + 1 + 1, 7, none⟩ (.int .i64 x7)) := ⟨_, rfl⟩
   have H9 : Hid (w9 = _) := h9
   have hl3 := HL.out w1 (HPO.out _ b1.out)
   have HR : Hid (RowIs w9 w.heap.size (hRow 0 ⟨#[]⟩ 0 0 0 0 0 0 0 0 0)) := by rw [h9]; exact row_arr (row_of_none hl3.1) (by omega) x0 x1 x2 x3 x4 x5 x6 x7
   have HR1 : RowIs w9 (w.heap.size + 1) (hRow 0 ⟨#[]⟩ 0 0 0 0 0 0 0 0 0) := by rw [h9]; exact row_arr (row_of_none hl3.2.1) (by omega) x0 x1 x2 x3 x4 x5 x6 x7
   have BW : Hid (Below w.heap.size w w9) := by rw [h9]; exact below_store (HE.out _ (HPO.out _ b1.out)) (by omega) x0 x1 x2 x3 x4 x5 x6 x7
   have AR9 : Hid (ArrAt w9 (w.heap.size + 1 + 1) [x0, x1, x2, x3, x4, x5, x6, x7]) := by rw [h9]; exact arr_store AR x0 x1 x2 x3 x4 x5 x6 x7
   have fz : ∀ j, w9.frozen? ⟨w.heap.size, j, none⟩ = false := fun j => by rw [h9]; simp only [World.frozen?_setCell]; exact hl3.2.2 j
   obtain ⟨c0, c1, c2, c3, c4, c5, c6, c7, c8, c9, c10⟩ := none_of_row HR.out
   obtain ⟨d0, d1, d2, d3, d4, d5, d6, d7, d8, d9, d10⟩ := none_of_row HR1
   clear hl3 h9 HR1
   have a0 := (AR.2 0 (by decide)).1
   have a1 := (AR.2 1 (by decide)).1
   have a2 := (AR.2 2 (by decide)).1
   have a3 := (AR.2 3 (by decide)).1
   have a4 := (AR.2 4 (by decide)).1
   have a5 := (AR.2 5 (by decide)).1
   have a6 := (AR.2 6 (by decide)).1
   have a7 := (AR.2 7 (by decide)).1
   have g0 := (AR.2 0 (by decide)).2
   have g1 := (AR.2 1 (by decide)).2
   have g2 := (AR.2 2 (by decide)).2
   have g3 := (AR.2 3 (by decide)).2
   have g4 := (AR.2 4 (by decide)).2
   have g5 := (AR.2 5 (by decide)).2
   have g6 := (AR.2 6 (by decide)).2
   have g7 := (AR.2 7 (by decide)).2
   simp only [List.getD_cons_zero, List.getD_cons_succ] at a0 a1 a2 a3 a4 a5 a6 a7
   clear AR
   have AR := AR9.out
   have b0 := (AR.2 0 (by decide)).1
   have b1 := (AR.2 1 (by decide)).1
   have b2 := (AR.2 2 (by decide)).1
   have b3 := (AR.2 3 (by decide)).1
   have b4 := (AR.2 4 (by decide)).1
   have b5 := (AR.2 5 (by decide)).1
   have b6 := (AR.2 6 (by decide)).1
   have b7 := (AR.2 7 (by decide)).1
   simp only [List.getD_cons_zero, List.getD_cons_succ] at b0 b1 b2 b3 b4 b5 b6 b7
   clear AR
   go_wp2_with (rw [← H9.out])
   refine bodyPost_ret (host_result2 rfl _ _ w.heap.size _ 3 0 ⟨#[]⟩ x0 x1 x2 x3 x4 x5 x6 x7 rfl rfl (host_store HR.out 3 0 ⟨#[]⟩ x0 x1 x2 x3 x4 x5 x6 x7)) rfl ⟨rfl, below_hstore BW.out (Nat.le_refl _) 3 0 ⟨#[]⟩ x0 x1 x2 x3 x4 x5 x6 x7⟩
 have HZ1 : Hid (readS (s.extract 1 s.size).data.toList = .bad 2) := by
  by_cases h1 : 1 < s.size
  ·refine readS_no ?_
   rw [last_r h1]
   intro e
   have e2 := Option.some.inj e
   apply hcl
   rw [← hc, e2]
   rfl
  refine readS_no ?_
  rw [nil_r h1]
  simp
 have q0 : ((c : Int) == 93) = false := beq_eq_false_iff_ne.2 (by omega)
 rw [HZ1.out]
 show Calls _ _ _ _ fun e w' => e = .returned (.tuple #[.agg #[.int .i64 0, .string ⟨#[]⟩, .int .i64 0, .int .i64 0, .int .i64 0, .int .i64 0, .int .i64 0, .int .i64 0, .int .i64 0, .int .i64 0, .int .i64 0], .int .i64 2]) ∧ Below w.heap.size w w'
 clear HZ1 hcl
 go_enter Tryz.func55, Tryz.ntmps55
 go_wp2_with fail
 go_returns
 exact ⟨rfl, by go_grown⟩
theorem specParseHost (s : ByteArray) (w : World) (hs : s.size ≤ 1048576) :
  Calls Tryz.prog 55 #[.string s] w fun e w' => e = .returned (.tuple #[hostVal (rV (readH s)), .int .i64 (rC (readH s))]) ∧ Below w.heap.size w w' := by
 by_cases h0 : s.size = 0
 ·exact specParseHost0 s w h0
 have hp : 0 < s.size := by omega
 by_cases h9 : s[0].toNat = 91
 ·exact specParseHostS s w hs hp h9
 exact specParseHostN s w hs hp h9
end Go.Proofs.YtgmfkgeepecknaaGreatDoor
