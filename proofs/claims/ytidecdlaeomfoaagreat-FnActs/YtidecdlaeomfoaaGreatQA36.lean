/- Draw17. -/
import Derived.Test.YtidecdlaeomfoaaGreatQA33
import Derived.Test.YtidecdlaeomfoaaGreatQA35
set_option maxHeartbeats 4000000
set_option maxRecDepth 100000
namespace Go.Proofs.YtidecdlaeomfoaaGreat
open Go.RowKit
set_option linter.unusedVariables false
set_option linter.unusedSimpArgs false
theorem l17Url (D B : Nat) (ao : Option Addr) (len cap : Nat) (w : World) (hcur : Cur D B ao len cap w) :
  Calls Tryz.prog 36 #[.pointer (some ⟨B, 0, none⟩)] w fun e w' => ∃ z : ByteArray, Hid (z ∈ urlsA) ∧ e = .returned (.string z) ∧ Cur D B ao len cap w' ∧ w.grownBy w' (some B) := by
 have HC : Hid (Cur D B ao len cap w) := hcur
 have hB := hcur.lt
 clear hcur
 go_enter Tryz.func36, Tryz.ntmps36
 go_wp2_with fail
 refine (l1Str 10 _ 10 0 urlsA _ _ _ _ _ _ (by omega) (by omega) (HC.out.alloc _) (World.ownsRow_lit w (scells urlsA).toArray 10 (Nat.zero_le _) (by decide) rfl) (by omega)).mono ?_
 rintro e wa ⟨y, hy, rfl, ca, ga⟩
 have HY := hidB hy
 have CA := hidB ca
 have Ga := grow_trans (grow_alloc (World.grownBy.refl w (some B)) _) ga
 clear ca ga hy
 go_wp2_with fail
 go_ret
 exact ⟨_, HY, rfl, CA.out, Ga⟩
theorem l17Body (D B : Nat) (ao : Option Addr) (len cap : Nat) (w : World) (hcur : Cur D B ao len cap w) :
  Calls Tryz.prog 37 #[.pointer (some ⟨B, 0, none⟩)] w fun e w' => ∃ z : ByteArray, z.size ≤ 2000 ∧ e = .returned (.string z) ∧ Cur D B ao len cap w' ∧ w.grownBy w' (some B) := by
 have HC : Hid (Cur D B ao len cap w) := hcur
 have hB := hcur.lt
 clear hcur
 go_enter Tryz.func37, Tryz.ntmps37
 go_wp2_with fail
 refine (l1StrX 2000 5 _ 5 0 _ _ _ _ _ _ _ (by omega) (by omega) (HC.out.alloc _) (World.ownsRow_lit w _ 5 (Nat.zero_le _) (by decide) rfl) (by omega) (by decide +kernel)).mono ?_
 rintro e wa ⟨y, hy, rfl, ca, ga⟩
 have CA := hidB ca
 have Ga := grow_trans (grow_alloc (World.grownBy.refl w (some B)) _) ga
 clear ca ga
 go_wp2_with fail
 go_ret
 exact ⟨_, hy, rfl, CA.out, Ga⟩
theorem l17Key (D B : Nat) (ao : Option Addr) (len cap : Nat) (w : World) (hcur : Cur D B ao len cap w) :
  Calls Tryz.prog 38 #[.pointer (some ⟨B, 0, none⟩)] w fun e w' => ∃ z : ByteArray, 1 ≤ z.size ∧ z.size ≤ 2000 ∧ e = .returned (.string z) ∧ Cur D B ao len cap w' ∧ w.grownBy w' (some B) := by
 have HC : Hid (Cur D B ao len cap w) := hcur
 have hB := hcur.lt
 clear hcur
 go_enter Tryz.func38, Tryz.ntmps38
 go_wp2_with fail
 refine (l17Url _ _ _ _ _ _ HC.out).mono ?_
 rintro e wa ⟨y, hy, rfl, ca, ga⟩
 obtain ⟨u1, u2, u3, u4, u5, u6⟩ := urlsA_ok y hy.out
 obtain ⟨_, hy2⟩ := urlsA_sz y hy.out
 have CP := specParseUrl y wa (by omega)
 have CA := hidB ca
 have GA := hidB ga
 have hBa := ca.lt
 generalize (readU y.data.toList).2 = U at *
 generalize (readU y.data.toList).1 = cd at *
 obtain ⟨s, ⟨k, nm, n, z⟩, p, a, q, r⟩ := U
 dsimp only at u1 u2 u3 u4
 obtain ⟨x0, x1, x2, x3, x4, x5, x6, x7, rfl⟩ : ∃ x0 x1 x2 x3 x4 x5 x6 x7 : Int, z = [x0, x1, x2, x3, x4, x5, x6, x7] := by
  match z, u1 with
  | [x0, x1, x2, x3, x4, x5, x6, x7], _ => exact ⟨x0, x1, x2, x3, x4, x5, x6, x7, rfl⟩
 rw [show urlVal ⟨s, ⟨k, nm, n, [x0, x1, x2, x3, x4, x5, x6, x7]⟩, p, a, q, r⟩ = .agg #[.int .i64 s, .int .i64 k, .string nm, .int .i64 n, .int .i64 x0, .int .i64 x1, .int .i64 x2, .int .i64 x3, .int .i64 x4, .int .i64 x5, .int .i64 x6, .int .i64 x7, .int .i64 p, .string a, .bool q, .string r] from rfl] at CP
 have HP := hidB CP
 have CT := hidB (fun W => specUrlText s k n p nm a r q x0 x1 x2 x3 x4 x5 x6 x7 W (by omega) (by omega) (by omega))
 generalize uTx ⟨s, ⟨k, nm, n, [x0, x1, x2, x3, x4, x5, x6, x7]⟩, p, a, q, r⟩ = T at *
 clear CP ca ga hy hy2 u1 u2 u3 u4
 go_wp2_with fail
 refine HP.out.mono ?_
 rintro e wb ⟨rfl, bb⟩
 have CB := hidB (CA.out.keep (bb.block B hBa) (fun k hk => bb.block k (by have := CA.out.le; omega)))
 have GB := hidB (grow_below GA.out bb)
 have hBb : B < wb.heap.size := CB.out.lt
 clear bb HP CA GA
 go_upto_region 2 with fail
 obtain ⟨V, hV⟩ : ∃ V, V = wb.alloc (.cells #[.int .i64 s, .int .i64 k, .string nm, .int .i64 n, .int .i64 x0, .int .i64 x1, .int .i64 x2, .int .i64 x3, .int .i64 x4, .int .i64 x5, .int .i64 x6, .int .i64 x7, .int .i64 p, .string a, .bool q, .string r] 69) := ⟨_, rfl⟩
 have UV2 : UAt V wb.heap.size (uRow s k nm n x0 x1 x2 x3 x4 x5 x6 x7 p a q r) := by rw [hV]; exact UAt.new wb _ _
 have CV := hidB (show Cur D B ao len cap V by rw [hV]; exact CB.out.alloc _)
 have GV := hidB (show w.grownBy V (some B) by rw [hV]; exact grow_alloc GB.out _)
 rw [← hV]
 clear hV CB GB
 go_wp2_with (first | (refine url_ld UV2 rfl rfl _ rfl rfl ?_) | fail)
 refine (CT.out _).mono ?_
 rintro e wc ⟨rfl, bc⟩
 have CC := hidB (CV.out.keep (bc.block B CV.out.lt) (fun k hk => bc.block k (by have := CV.out.le; have := CV.out.lt; omega)))
 have GC := hidB (grow_below GV.out bc)
 clear bc CV GV CT UV2
 go_wp2_with fail
 go_ret
 exact ⟨⟨T.toArray⟩, u5, u6, rfl, CC.out, GC.out⟩
theorem grow_set17 {w W : World} {row : Option Nat} (h : w.grownBy W row) {R : Nat} (hR : w.heap.size ≤ R) (j : Nat) (v : Value) : w.grownBy (W.setCell ⟨R, j, none⟩ v) row :=
 ⟨h.os, h.tape, h.output, by have := h.size; simpa [World.setCell] using this, fun k hk hne => (heap_setCell_other W ⟨R, j, none⟩ k v (by dsimp only; omega)).trans (h.block k hk hne)⟩
theorem cur_set17 {D B : Nat} {ao : Option Addr} {len cap : Nat} {W : World} (h : Cur D B ao len cap W) {R : Nat} (hR : B < R) (j : Nat) (v : Value) : Cur D B ao len cap (W.setCell ⟨R, j, none⟩ v) :=
 h.keep (heap_setCell_other W ⟨R, j, none⟩ B v (by dsimp only; omega)) (fun k hk => heap_setCell_other W ⟨R, j, none⟩ k v (by have := h.le; dsimp only; omega))
def St17 (w W : World) (vs : List Value) (D B : Nat) (ao : Option Addr) (len cap : Nat) : Prop := Cur D B ao len cap W ∧ w.grownBy W (some B) ∧ BAt W w.heap.size vs ∧ B < w.heap.size
theorem St17.step {w W W' : World} {vs : List Value} {D B : Nat} {ao : Option Addr} {len cap : Nat} (h : St17 w W vs D B ao len cap) (hc : Cur D B ao len cap W') (hg : W.grownBy W' (some B)) : St17 w W' vs D B ao len cap :=
 ⟨hc, grow_trans h.2.1 hg, h.2.2.1.grown hg (by have := h.2.2.2; omega), h.2.2.2⟩
theorem St17.alloc {w W : World} {vs : List Value} {D B : Nat} {ao : Option Addr} {len cap : Nat} (h : St17 w W vs D B ao len cap) (o : Obj) : St17 w (W.alloc o) vs D B ao len cap :=
 ⟨h.1.alloc o, grow_alloc h.2.1 o, h.2.2.1.alloc o, h.2.2.2⟩
theorem St17.start {w : World} {D B : Nat} {ao : Option Addr} {len cap : Nat} (h : Cur D B ao len cap w) (vs : Array Value) (t : TypeId) : St17 w (w.alloc (.cells vs t)) vs.toList D B ao len cap :=
 ⟨h.alloc _, grow_alloc (World.grownBy.refl w (some B)) _, BAt.new w vs t, h.lt⟩
theorem St17.done {w W : World} {a0 a1 a2 a3 : Value} {D B : Nat} {ao : Option Addr} {len cap : Nat} (h : St17 w W [a0, a1, a2, a3] D B ao len cap) (b0 b1 b2 b3 : Value) :
  BAt ((((W.setCell ⟨w.heap.size, 0, none⟩ b0).setCell ⟨w.heap.size, 1, none⟩ b1).setCell ⟨w.heap.size, 2, none⟩ b2).setCell ⟨w.heap.size, 3, none⟩ b3) w.heap.size [b0, b1, b2, b3]
  ∧ Cur D B ao len cap ((((W.setCell ⟨w.heap.size, 0, none⟩ b0).setCell ⟨w.heap.size, 1, none⟩ b1).setCell ⟨w.heap.size, 2, none⟩ b2).setCell ⟨w.heap.size, 3, none⟩ b3)
  ∧ w.grownBy ((((W.setCell ⟨w.heap.size, 0, none⟩ b0).setCell ⟨w.heap.size, 1, none⟩ b1).setCell ⟨w.heap.size, 2, none⟩ b2).setCell ⟨w.heap.size, 3, none⟩ b3) (some B) :=
 ⟨((((h.2.2.1.set 0 (by simp) _).set 1 (by simp) _).set 2 (by simp) _).set 3 (by simp) _), cur_set17 (cur_set17 (cur_set17 (cur_set17 h.1 h.2.2.2 0 _) h.2.2.2 1 _) h.2.2.2 2 _) h.2.2.2 3 _,
  grow_set17 (grow_set17 (grow_set17 (grow_set17 h.2.1 (Nat.le_refl _) 0 _) (Nat.le_refl _) 1 _) (Nat.le_refl _) 2 _) (Nat.le_refl _) 3 _⟩
theorem ok_one {t : ByteArray} {n : Int} (h1 : 1 ≤ t.size) (h2 : t.size ≤ 2000) (h3 : 0 ≤ n ∧ n ≤ 1000) : actB ⟨1, t, ⟨#[]⟩, n⟩ = true := by
 unfold actB
 rw [if_pos rfl]
 exact decide_eq_true ⟨h1, h2, rfl, h3⟩
theorem ok_two {t b : ByteArray} {n : Int} (h1 : 1 ≤ t.size) (h2 : t.size ≤ 2000) (hb : b.size ≤ 2000) (h3 : 1 ≤ n ∧ n ≤ 1000000) : actB ⟨2, t, b, n⟩ = true := by
 unfold actB
 rw [if_neg (by dsimp only; omega), if_pos rfl]
 exact decide_eq_true ⟨h1, h2, hb, h3⟩
theorem ok_four {t : ByteArray} {k : Int} (hk : k = 4 ∨ k = 5) (h1 : 1 ≤ t.size) (h2 : t.size ≤ 2000) : actB ⟨k, t, ⟨#[]⟩, 0⟩ = true := by
 unfold actB
 rw [if_neg (by dsimp only; omega), if_neg (by dsimp only; omega), if_pos hk]
 exact decide_eq_true ⟨h1, h2, rfl, rfl⟩
theorem ok_six {n : Int} (h3 : 1 ≤ n ∧ n ≤ 10000) : actB ⟨6, ⟨#[]⟩, ⟨#[]⟩, n⟩ = true := by
 unfold actB
 rw [if_neg (by dsimp only; omega), if_neg (by dsimp only; omega), if_neg (by dsimp only; omega), if_pos rfl]
 exact decide_eq_true ⟨rfl, rfl, h3⟩
theorem ok_three : actB ⟨3, ⟨#[]⟩, ⟨#[]⟩, 0⟩ = true := by decide
def DrawnAct (P : AV → Prop) (D B : Nat) (ao : Option Addr) (len cap : Nat) (w w' : World) (e : Ending) : Prop :=
 ∃ x : AV, P x ∧ e = .returned (.agg #[.int .i64 x.k, .string x.t, .string x.b, .int .i64 x.n]) ∧ Cur D B ao len cap w' ∧ w.grownBy w' (some B)
theorem l17Act (D B : Nat) (ao : Option Addr) (len cap : Nat) (w : World) (hcur : Cur D B ao len cap w) :
  Calls Tryz.prog 27 #[.pointer (some ⟨B, 0, none⟩)] w fun e w' => DrawnAct (fun x => actB x = true) D B ao len cap w w' e := by
 have S0 := hidB (St17.start hcur #[.int .i64 0, .string ⟨#[]⟩, .string ⟨#[]⟩, .int .i64 0] 25)
 clear hcur
 go_enter Tryz.func27, Tryz.ntmps27
 go_wp2_with fail
 refine (l1Below 10 _ _ _ _ _ _ (by omega) (by omega) S0.out.1).mono ?_
 rintro e wa ⟨n0, hn0, hn1, rfl, c1, g1⟩
 have S1 := hidB (S0.out.step c1 g1)
 clear c1 g1 S0
 have hcase : (n0 = 0 ∨ n0 = 1 ∨ n0 = 2) ∨ n0 = 3 ∨ (n0 = 4 ∨ n0 = 5) ∨ n0 = 6 ∨ n0 = 7 ∨ (n0 = 8 ∨ n0 = 9) := by omega
 clear hn0 hn1
 rcases hcase with (rfl | rfl | rfl) | rfl | (rfl | rfl) | rfl | rfl | (rfl | rfl)
 case inl.inl | inl.inr.inl | inl.inr.inr =>
  all_goals
   go_wp2_with fail
   refine (l17Url _ _ _ _ _ _ S1.out.1).mono ?_
   rintro e wb ⟨y, hy, rfl, ca, ga⟩
   have S2 := hidB (S1.out.step ca ga)
   obtain ⟨hy1, hy2⟩ := urlsA_sz y hy.out
   clear ca ga hy
   go_wp2_with fail
   refine (l1Int 4 _ 4 0 [500, 0, 1000, 7] _ _ _ _ _ _ (by omega) (by omega) (S2.out.alloc _).1 (World.ownsRow_lit _ _ 4 (Nat.zero_le _) (by decide) rfl) (by have := S2.out.1.lt; omega)).mono ?_
   rintro e wc ⟨z, hz, rfl, ca, ga⟩
   have S3 := hidB ((S2.out.alloc _).step ca ga)
   clear ca ga
   have hok : actB ⟨1, y, ⟨#[]⟩, z⟩ = true := by
    simp only [List.mem_cons, List.not_mem_nil, or_false] at hz
    exact ok_one hy1 hy2 (by omega)
   clear hz
   have r0 := S3.out.2.2.1.1 0 _ rfl
   have r1 := S3.out.2.2.1.1 1 _ rfl
   have r2 := S3.out.2.2.1.1 2 _ rfl
   have r3 := S3.out.2.2.1.1 3 _ rfl
   have rf := S3.out.2.2.1.2.1
   go_wp2_with fail
   refine bodyPost_ret (act_result1 rfl _ _ w.heap.size (.int .i64 1) (.string y) (.string ⟨#[]⟩) (.int .i64 z) rfl (S3.out.done _ _ _ _).1) rfl ?_
   exact ⟨⟨1, y, ⟨#[]⟩, z⟩, hok, rfl, (S3.out.done _ _ _ _).2.1, (S3.out.done _ _ _ _).2.2⟩
 case inr.inl =>
  go_wp2_with fail
  refine (l17Url _ _ _ _ _ _ S1.out.1).mono ?_
  rintro e wb ⟨y, hy, rfl, ca, ga⟩
  have S2 := hidB (S1.out.step ca ga)
  obtain ⟨hy1, hy2⟩ := urlsA_sz y hy.out
  clear ca ga hy
  go_wp2_with fail
  refine (l17Body _ _ _ _ _ _ S2.out.1).mono ?_
  rintro e wc ⟨b, hb, rfl, cb, gb⟩
  have S3 := hidB (S2.out.step cb gb)
  clear cb gb
  go_wp2_with fail
  refine (l1Int 4 _ 4 0 [50, 1000, 1, 1000000] _ _ _ _ _ _ (by omega) (by omega) (S3.out.alloc _).1 (World.ownsRow_lit _ _ 4 (Nat.zero_le _) (by decide) rfl) (by have := S3.out.1.lt; omega)).mono ?_
  rintro e wd ⟨z, hz, rfl, ca, ga⟩
  have S4 := hidB ((S3.out.alloc _).step ca ga)
  clear ca ga
  have hok : actB ⟨2, y, b, z⟩ = true := by
   simp only [List.mem_cons, List.not_mem_nil, or_false] at hz
   exact ok_two hy1 hy2 hb (by omega)
  clear hz
  have r0 := S4.out.2.2.1.1 0 _ rfl
  have r1 := S4.out.2.2.1.1 1 _ rfl
  have r2 := S4.out.2.2.1.1 2 _ rfl
  have r3 := S4.out.2.2.1.1 3 _ rfl
  have rf := S4.out.2.2.1.2.1
  go_wp2_with fail
  refine bodyPost_ret (act_result1 rfl _ _ w.heap.size (.int .i64 2) (.string y) (.string b) (.int .i64 z) rfl (S4.out.done _ _ _ _).1) rfl ?_
  exact ⟨⟨2, y, b, z⟩, hok, rfl, (S4.out.done _ _ _ _).2.1, (S4.out.done _ _ _ _).2.2⟩
 case inr.inr.inl.inl | inr.inr.inl.inr =>
  all_goals
   have r0 := S1.out.2.2.1.1 0 _ rfl
   have r1 := S1.out.2.2.1.1 1 _ rfl
   have r2 := S1.out.2.2.1.1 2 _ rfl
   have r3 := S1.out.2.2.1.1 3 _ rfl
   have rf := S1.out.2.2.1.2.1
   go_wp2_with fail
   refine bodyPost_ret (act_result1 rfl _ _ w.heap.size (.int .i64 3) (.string ⟨#[]⟩) (.string ⟨#[]⟩) (.int .i64 0) rfl (S1.out.done _ _ _ _).1) rfl ?_
   exact ⟨⟨3, ⟨#[]⟩, ⟨#[]⟩, 0⟩, ok_three, rfl, (S1.out.done _ _ _ _).2.1, (S1.out.done _ _ _ _).2.2⟩
 case inr.inr.inr.inl =>
  go_wp2_with fail
  refine (l17Key _ _ _ _ _ _ S1.out.1).mono ?_
  rintro e wb ⟨y, hy1, hy2, rfl, ca, ga⟩
  have S2 := hidB (S1.out.step ca ga)
  clear ca ga
  have r0 := S2.out.2.2.1.1 0 _ rfl
  have r1 := S2.out.2.2.1.1 1 _ rfl
  have r2 := S2.out.2.2.1.1 2 _ rfl
  have r3 := S2.out.2.2.1.1 3 _ rfl
  have rf := S2.out.2.2.1.2.1
  go_wp2_with fail
  refine bodyPost_ret (act_result1 rfl _ _ w.heap.size (.int .i64 4) (.string y) (.string ⟨#[]⟩) (.int .i64 0) rfl (S2.out.done _ _ _ _).1) rfl ?_
  exact ⟨⟨4, y, ⟨#[]⟩, 0⟩, (ok_four (.inl rfl) hy1 hy2), rfl, (S2.out.done _ _ _ _).2.1, (S2.out.done _ _ _ _).2.2⟩
 case inr.inr.inr.inr.inl =>
  go_wp2_with fail
  refine (l17Key _ _ _ _ _ _ S1.out.1).mono ?_
  rintro e wb ⟨y, hy1, hy2, rfl, ca, ga⟩
  have S2 := hidB (S1.out.step ca ga)
  clear ca ga
  have r0 := S2.out.2.2.1.1 0 _ rfl
  have r1 := S2.out.2.2.1.1 1 _ rfl
  have r2 := S2.out.2.2.1.1 2 _ rfl
  have r3 := S2.out.2.2.1.1 3 _ rfl
  have rf := S2.out.2.2.1.2.1
  go_wp2_with fail
  refine bodyPost_ret (act_result1 rfl _ _ w.heap.size (.int .i64 5) (.string y) (.string ⟨#[]⟩) (.int .i64 0) rfl (S2.out.done _ _ _ _).1) rfl ?_
  exact ⟨⟨5, y, ⟨#[]⟩, 0⟩, (ok_four (.inr rfl) hy1 hy2), rfl, (S2.out.done _ _ _ _).2.1, (S2.out.done _ _ _ _).2.2⟩
 all_goals
  go_wp2_with fail
  refine (l1Int 5 _ 5 0 [1, 5, 10, 30, 100] _ _ _ _ _ _ (by omega) (by omega) (S1.out.alloc _).1 (World.ownsRow_lit _ _ 5 (Nat.zero_le _) (by decide) rfl) (by have := S1.out.1.lt; omega)).mono ?_
  rintro e wb ⟨z, hz, rfl, ca, ga⟩
  have S2 := hidB ((S1.out.alloc _).step ca ga)
  clear ca ga
  have hok : actB ⟨6, ⟨#[]⟩, ⟨#[]⟩, z⟩ = true := by
   simp only [List.mem_cons, List.not_mem_nil, or_false] at hz
   exact ok_six (by omega)
  clear hz
  have r0 := S2.out.2.2.1.1 0 _ rfl
  have r1 := S2.out.2.2.1.1 1 _ rfl
  have r2 := S2.out.2.2.1.1 2 _ rfl
  have r3 := S2.out.2.2.1.1 3 _ rfl
  have rf := S2.out.2.2.1.2.1
  go_wp2_with fail
  refine bodyPost_ret (act_result1 rfl _ _ w.heap.size (.int .i64 6) (.string ⟨#[]⟩) (.string ⟨#[]⟩) (.int .i64 z) rfl (S2.out.done _ _ _ _).1) rfl ?_
  exact ⟨⟨6, ⟨#[]⟩, ⟨#[]⟩, z⟩, hok, rfl, (S2.out.done _ _ _ _).2.1, (S2.out.done _ _ _ _).2.2⟩
theorem St17.put {w W : World} {vs : List Value} {D B : Nat} {ao : Option Addr} {len cap : Nat} (h : St17 w W vs D B ao len cap) {R : Nat} (hR : w.heap.size < R) (j : Nat) (v : Value) : St17 w (W.setCell ⟨R, j, none⟩ v) vs D B ao len cap :=
 ⟨cur_set17 h.1 (by have := h.2.2.2; omega) j v, grow_set17 h.2.1 (by omega) j v, h.2.2.1.other (by omega) j v, h.2.2.2⟩
theorem l17Any (D B : Nat) (ao : Option Addr) (len cap : Nat) (w : World) (hcur : Cur D B ao len cap w) :
  Calls Tryz.prog 15 #[.pointer (some ⟨B, 0, none⟩)] w fun e w' => DrawnAct (fun x => x.t.size ≤ 2000 ∧ x.b.size ≤ 2000) D B ao len cap w w' e := by
 have S0 := hidB (St17.start hcur #[.int .i64 0, .string ⟨#[]⟩, .string ⟨#[]⟩, .int .i64 0] 25)
 clear hcur
 go_enter Tryz.func15, Tryz.ntmps15
 go_wp2_with fail
 refine (l17Act _ _ _ _ _ _ S0.out.1).mono ?_
 rintro e wa ⟨⟨k, t, b, n⟩, hx, rfl, ca, ga⟩
 have S1 := hidB (S0.out.step ca ga)
 obtain ⟨_, _, _, _, ht, hb⟩ := actB_le hx
 dsimp only at ht hb
 clear hx S0 ca ga
 go_upto_region 2 with fail
 obtain ⟨V, hV⟩ : ∃ V, V = wa.alloc (.cells #[.int .i64 k, .string t, .string b, .int .i64 n] 25) := ⟨_, rfl⟩
 have S2 := hidB (show St17 w V [.int .i64 0, .string ⟨#[]⟩, .string ⟨#[]⟩, .int .i64 0] D B ao len cap by rw [hV]; exact S1.out.alloc _)
 have AV : BAt V wa.heap.size [.int .i64 k, .string t, .string b, .int .i64 n] := by rw [hV]; exact BAt.new wa #[.int .i64 k, .string t, .string b, .int .i64 n] _
 have hzR : w.heap.size < wa.heap.size := S1.out.2.2.1.2.2
 rw [← hV]
 clear hV S1
 generalize wa.heap.size = R at *
 have hBR : R ≠ B := by have := S2.out.2.2.2; omega
 go_wp2_with fail
 refine (l1Below 12 _ _ _ _ _ _ (by omega) (by omega) S2.out.1).mono ?_
 rintro e wb ⟨n0, hn0, hn1, rfl, cb, gb⟩
 have S3 := hidB (S2.out.step cb gb)
 have BX := AV.grown gb hBR
 clear cb gb S2 AV
 have f3 := BX.2.1
 by_cases h0 : n0 = 0
 ·subst h0
  clear hn0 hn1
  have HB := hidB BX
  clear BX
  go_wp2_with fail
  refine (l1Below 9 _ _ _ _ _ _ (by omega) (by omega) S3.out.1).mono ?_
  rintro e wc ⟨z, hz0, hz1, rfl, cc, gc⟩
  have S4 := hidB (S3.out.step cc gc)
  have BY := HB.out.grown gc hBR
  have f4 := BY.2.1
  have e0 := BY.1 0 _ rfl
  clear cc gc S3 HB f3
  go_upto_region 11 with fail
  have SX := hidB (S4.out.put hzR 0 (.int .i64 z))
  have BX := BY.set 0 (by simp) (.int .i64 z)
  clear BY e0 f4 S4
  have d0 := BX.1 0 _ rfl
  have d1 := BX.1 1 _ rfl
  have d2 := BX.1 2 _ rfl
  have d3 := BX.1 3 _ rfl
  clear BX
  have r0 := SX.out.2.2.1.1 0 _ rfl
  have r1 := SX.out.2.2.1.1 1 _ rfl
  have r2 := SX.out.2.2.1.1 2 _ rfl
  have r3 := SX.out.2.2.1.1 3 _ rfl
  have rf := SX.out.2.2.1.2.1
  go_wp2_with fail
  refine bodyPost_ret (act_result1 rfl _ _ w.heap.size (.int .i64 z) (.string t) (.string b) (.int .i64 n) rfl (SX.out.done _ _ _ _).1) rfl ?_
  exact ⟨⟨z, t, b, n⟩, ⟨ht, hb⟩, rfl, (SX.out.done _ _ _ _).2.1, (SX.out.done _ _ _ _).2.2⟩
 by_cases h1 : n0 = 1
 ·subst h1
  clear hn0 hn1 h0
  have HB := hidB BX
  clear BX
  go_wp2_with fail
  refine (l1Int 5 _ 5 0 [-1, 0, 1001, 10001, 1000001] _ _ _ _ _ _ (by omega) (by omega) (S3.out.alloc _).1 (World.ownsRow_lit _ _ 5 (Nat.zero_le _) (by decide) rfl) (by have := S3.out.1.lt; omega)).mono ?_
  rintro e wc ⟨z, hz, rfl, cc, gc⟩
  have S4 := hidB ((S3.out.alloc _).step cc gc)
  have BY := (HB.out.alloc (.cells #[.int .i64 (-1), .int .i64 0, .int .i64 1001, .int .i64 10001, .int .i64 1000001] 3)).grown gc hBR
  have f4 := BY.2.1
  have e0 := BY.1 3 _ rfl
  clear cc gc S3 HB f3 hz
  go_upto_region 11 with fail
  have SX := hidB (S4.out.put hzR 3 (.int .i64 z))
  have BX := BY.set 3 (by simp) (.int .i64 z)
  clear BY e0 f4 S4
  have d0 := BX.1 0 _ rfl
  have d1 := BX.1 1 _ rfl
  have d2 := BX.1 2 _ rfl
  have d3 := BX.1 3 _ rfl
  clear BX
  have r0 := SX.out.2.2.1.1 0 _ rfl
  have r1 := SX.out.2.2.1.1 1 _ rfl
  have r2 := SX.out.2.2.1.1 2 _ rfl
  have r3 := SX.out.2.2.1.1 3 _ rfl
  have rf := SX.out.2.2.1.2.1
  go_wp2_with fail
  refine bodyPost_ret (act_result1 rfl _ _ w.heap.size (.int .i64 k) (.string t) (.string b) (.int .i64 z) rfl (SX.out.done _ _ _ _).1) rfl ?_
  exact ⟨⟨k, t, b, z⟩, ⟨ht, hb⟩, rfl, (SX.out.done _ _ _ _).2.1, (SX.out.done _ _ _ _).2.2⟩
 by_cases h2 : n0 = 2
 ·subst h2
  clear hn0 hn1 h0 h1
  have HB := hidB BX
  clear BX
  go_wp2_with fail
  refine (l1StrX 2000 3 _ 3 0 _ _ _ _ _ _ _ (by omega) (by omega) (S3.out.alloc _).1 (World.ownsRow_lit _ _ 3 (Nat.zero_le _) (by decide) rfl) (by have := S3.out.1.lt; omega) (by decide +kernel)).mono ?_
  rintro e wc ⟨z, hz, rfl, cc, gc⟩
  have S4 := hidB ((S3.out.alloc _).step cc gc)
  have BY := (HB.out.alloc _).grown gc hBR
  have f4 := BY.2.1
  have e0 := BY.1 1 _ rfl
  clear cc gc S3 HB f3
  go_upto_region 11 with fail
  have SX := hidB (S4.out.put hzR 1 (.string z))
  have BX := BY.set 1 (by simp) (.string z)
  clear BY e0 f4 S4
  have d0 := BX.1 0 _ rfl
  have d1 := BX.1 1 _ rfl
  have d2 := BX.1 2 _ rfl
  have d3 := BX.1 3 _ rfl
  clear BX
  have r0 := SX.out.2.2.1.1 0 _ rfl
  have r1 := SX.out.2.2.1.1 1 _ rfl
  have r2 := SX.out.2.2.1.1 2 _ rfl
  have r3 := SX.out.2.2.1.1 3 _ rfl
  have rf := SX.out.2.2.1.2.1
  go_wp2_with fail
  refine bodyPost_ret (act_result1 rfl _ _ w.heap.size (.int .i64 k) (.string z) (.string b) (.int .i64 n) rfl (SX.out.done _ _ _ _).1) rfl ?_
  exact ⟨⟨k, z, b, n⟩, ⟨hz, hb⟩, rfl, (SX.out.done _ _ _ _).2.1, (SX.out.done _ _ _ _).2.2⟩
 by_cases h3 : n0 = 3
 ·subst h3
  clear hn0 hn1 h0 h1 h2
  have hb98 : (⟨#[98]⟩ : ByteArray).size ≤ 2000 := by decide
  have e0 := BX.1 2 _ rfl
  have BY := BX
  clear BX
  go_upto_region 11 with fail
  have SX := hidB (S3.out.put hzR 2 (.string ⟨#[98]⟩))
  have BX := BY.set 2 (by simp) (.string ⟨#[98]⟩)
  clear BY e0 f3 S3
  have d0 := BX.1 0 _ rfl
  have d1 := BX.1 1 _ rfl
  have d2 := BX.1 2 _ rfl
  have d3 := BX.1 3 _ rfl
  clear BX
  have r0 := SX.out.2.2.1.1 0 _ rfl
  have r1 := SX.out.2.2.1.1 1 _ rfl
  have r2 := SX.out.2.2.1.1 2 _ rfl
  have r3 := SX.out.2.2.1.1 3 _ rfl
  have rf := SX.out.2.2.1.2.1
  go_wp2_with fail
  refine bodyPost_ret (act_result1 rfl _ _ w.heap.size (.int .i64 k) (.string t) (.string ⟨#[98]⟩) (.int .i64 n) rfl (SX.out.done _ _ _ _).1) rfl ?_
  exact ⟨⟨k, t, ⟨#[98]⟩, n⟩, ⟨ht, hb98⟩, rfl, (SX.out.done _ _ _ _).2.1, (SX.out.done _ _ _ _).2.2⟩
 clear hn0 hn1
 have SX := S3
 clear S3
 have d0 := BX.1 0 _ rfl
 have d1 := BX.1 1 _ rfl
 have d2 := BX.1 2 _ rfl
 have d3 := BX.1 3 _ rfl
 clear BX
 have r0 := SX.out.2.2.1.1 0 _ rfl
 have r1 := SX.out.2.2.1.1 1 _ rfl
 have r2 := SX.out.2.2.1.1 2 _ rfl
 have r3 := SX.out.2.2.1.1 3 _ rfl
 have rf := SX.out.2.2.1.2.1
 go_wp2_with fail
 refine bodyPost_ret (act_result1 rfl _ _ w.heap.size (.int .i64 k) (.string t) (.string b) (.int .i64 n) rfl (SX.out.done _ _ _ _).1) rfl ?_
 exact ⟨⟨k, t, b, n⟩, ⟨ht, hb⟩, rfl, (SX.out.done _ _ _ _).2.1, (SX.out.done _ _ _ _).2.2⟩
def DrawnActs (D B : Nat) (ao : Option Addr) (len cap : Nat) (w w' : World) (e : Ending) : Prop :=
 ∃ (v : Value) (l : List AV), (∀ x ∈ l, actB x = true) ∧ l.length ≤ 44 ∧ e = .returned v ∧ w'.ownsRow w.heap.size 25 4 v l.length (acells l) ∧ Cur D B ao len cap w' ∧ w.grownBy w' (some B)
theorem l17Acts (most : Int) (D B : Nat) (ao : Option Addr) (len cap : Nat) (w : World) (h0 : 0 < most) (h44 : most ≤ 44) (hcur : Cur D B ao len cap w) :
  Calls Tryz.prog 23 #[.pointer (some ⟨B, 0, none⟩), .int .i64 most] w fun e w' => DrawnActs D B ao len cap w w' e := by
 have HC := hidB (hcur.alloc (.cells #[] 25))
 have hB := hcur.lt
 clear hcur
 go_enter Tryz.func23, Tryz.ntmps23
 go_wp2_with fail
 refine (l1Below most _ _ _ _ _ _ h0 (by omega) HC.out).mono ?_
 rintro e wa ⟨n0, hn0, hn1, rfl, ca, ga⟩
 obtain ⟨n, rfl⟩ := Int.eq_ofNat_of_zero_le hn0
 have CA := hidB ca
 have GA := hidB (grow_trans (grow_alloc (World.grownBy.refl w (some B)) _) ga)
 have OA := hidB ((World.ownsRow_lit w (base := w.heap.size) (e := 25) (size := 4) #[] 0 (Nat.le_refl _) (by decide) rfl).kept ga (.inr (by simp [Value.ownBlock]; omega)))
 clear ca ga HC hn0
 go_wp2_with fail
 go_loopw [5, 6] (fun v i wr => ∃ (k : Nat) (l : List AV), i = .int .i64 k ∧ l.length + k ≤ 43 ∧ (∃ o c, v = .slice o l.length c) ∧ Hid (∀ x ∈ l, actB x = true) ∧ Hid (wr.ownsRow w.heap.size 25 4 v l.length (acells l)) ∧ Hid (Cur D B ao len cap wr) ∧ Hid (w.grownBy wr (some B))) (fun _ i _ => (intOf i).toNat)
 case atStart => exact ⟨n, [], rfl, by simp; omega, ⟨_, _, rfl⟩, (show ∀ x ∈ ([] : List AV), actB x = true from fun x hx => by cases hx), OA.out, CA.out, GA.out⟩
 clear OA CA GA
 obtain ⟨k, l, rfl, hlk, ⟨o, c, rfl⟩, HL, HO, HC, HG⟩ := hrel
 by_cases hp : 0 < k
 ·have hpi : 0 < (k : Int) := by omega
  go_wp2_with fail
  refine (l17Act _ _ _ _ _ _ HC.out).mono ?_
  rintro e wb ⟨⟨k1, t1, b1, n1⟩, hx, rfl, cb, gb⟩
  have hne : ∀ b, (Value.slice o l.length c).ownBlock = some b → b ≠ B := fun b hb => by have := (HO.out.lt b hb).1; omega
  have HO2 := hidB (HO.out.kept gb (by
   cases hv : (Value.slice o l.length c).ownBlock with
   | none => exact .inl rfl
   | some b => exact .inr fun e => hne b hv (by injection e)))
  have CB := hidB cb
  have GB := hidB (grow_trans HG.out gb)
  have HL2 : Hid (∀ x ∈ l ++ [(⟨k1, t1, b1, n1⟩ : AV)], actB x = true) := fun x hx2 => by
   rcases List.mem_append.1 hx2 with h | h
   ·exact HL.out x h
   rw [List.mem_singleton.1 h]; exact hx
  have zb := GB.out.size
  clear HO HC HG HL cb gb hx
  dsimp only
  go_wp2_with (at_builtin; refine wpList_append_act _ rfl _ _ 31 rfl w.heap.size 25 (.agg #[.int .i64 0, .string ⟨#[]⟩, .string ⟨#[]⟩, .int .i64 0]) 48 Tryz.underlying31 Tryz.infoAct rfl (.slice o l.length c) l.length l rfl HO2.out k1 n1 t1 b1 _ rfl rfl (by omega) (by unfold maxLen; omega) zb ?_)
  intro v3 w3 o3 g3
  have hl3 : (l ++ [(⟨k1, t1, b1, n1⟩ : AV)]).length = l.length + 1 := by simp
  rw [← hl3] at o3
  have C3 := hidB (CB.out.keep (g3.block B CB.out.lt (fun e => hne B e.symm rfl)) (fun k hk => g3.block k (by have := CB.out.le; have := CB.out.lt; omega) (fun e => by have := (HO2.out.lt k e.symm).1; have := CB.out.le; omega)))
  have G3 : Hid (w.grownBy w3 (some B)) := hidB ⟨g3.os.trans GB.out.os, g3.tape.trans GB.out.tape, g3.output.trans GB.out.output, Nat.le_trans zb g3.size, fun k hk hkB => (g3.block k (by omega) (fun e => by have := (HO2.out.lt k e.symm).1; omega)).trans (GB.out.block k hk hkB)⟩
  obtain ⟨co, cc, hv3⟩ := (ActRow.of_own o3).slice
  subst hv3
  have HO3 := hidB o3
  clear o3 g3 HO2 CB GB hne
  go_wp2_with fail
  go_roundw
  case rel => exact ⟨k - 1, _, by go_num, by rw [hl3]; omega, ⟨_, _, rfl⟩, HL2, HO3, C3, G3⟩
  case measure => simp [intOf]; omega
 have hpi : ¬ 0 < (k : Int) := by omega
 go_wp2_with fail
 go_ret
 exact ⟨_, l, HL.out, by omega, rfl, HO.out, HC.out, HG.out⟩
theorem l1Size17 (ao : Option Addr) (len cap : Nat) (w : World) (hl : len ≤ 1048576) :
  Calls Tryz.prog 24 #[.slice ao len cap, .int .i64 40] w fun e w' => ∃ z : Int, 0 < z ∧ z ≤ 40 ∧ e = .returned (.int .i64 z) ∧ w = w' := by
 obtain ⟨q, hq⟩ : ∃ q : Nat, (len : Int) / 12 = (q : Int) := ⟨len / 12, by omega⟩
 by_cases h : (40 : Int) < 3 + (q : Int)
 ·go_enter Tryz.func24, Tryz.ntmps24
  go_wp2_with fail
  go_ret
  exact ⟨40, by omega, by omega, rfl, rfl⟩
 go_enter Tryz.func24, Tryz.ntmps24
 go_wp2_with fail
 go_ret
 exact ⟨3 + (q : Int), by omega, by omega, ret_int (by omega), rfl⟩
theorem drawActList (ao : Option Addr) (len cap : Nat) (w : World) (hl : len ≤ 1048576) (hcode : CodeRow w.heap.size w ao len) :
  Calls Tryz.prog 10 #[.slice ao len cap] w fun e w' => ∃ (o : Option Addr) (c : Nat) (l : List AV), (∀ x ∈ l, actB x = true) ∧ l.length ≤ 44 ∧ e = .returned (.slice o l.length c) ∧ Hid (ActRow w' (.slice o l.length c) l) ∧ Below w.heap.size w w' := by
 go_enter Tryz.func10, Tryz.ntmps10
 go_wp2_with fail
 refine (l1New _ _ _ _ hl hcode).mono ?_
 rintro e wa ⟨B, rfl, hB, ca, ba⟩
 have CA := hidB ca
 have za := ba.size
 clear ca
 go_wp2_with fail
 refine (l1Size17 _ _ _ _ hl).mono ?_
 rintro e w1 ⟨z, hz0, hz1, rfl, rfl⟩
 have hz4 : IntKind.i64.wrap (4 + z) = 4 + z := by rw [IntKind.wrap_i64]; omega
 go_wp2_with fail
 refine (l17Acts (4 + z) _ _ _ _ _ _ (by omega) (by omega) CA.out).mono ?_
 rintro e wb ⟨v, l, hx, hl44, rfl, ob, cb, gb⟩
 have Bb : Below w.heap.size w wb := ba.grown gb za (fun k hk => by cases hk; exact hB)
 have R := hidB (ActRow.of_own ob)
 obtain ⟨o, c, hv⟩ := (ActRow.of_own ob).slice
 subst hv
 clear ob cb gb CA
 go_wp2_with fail
 go_ret
 exact ⟨_, _, l, hx, hl44, rfl, R, Bb⟩
theorem drawPutAct (ao : Option Addr) (len cap : Nat) (w : World) (hl : len ≤ 1048576) (hcode : CodeRow w.heap.size w ao len) :
  Calls Tryz.prog 5 #[.slice ao len cap] w fun e w' => ∃ x : AV, (x.t.size ≤ 2000 ∧ x.b.size ≤ 2000) ∧ e = .returned (.agg #[.int .i64 x.k, .string x.t, .string x.b, .int .i64 x.n]) ∧ Below w.heap.size w w' := by
 obtain ⟨O, hO⟩ : ∃ O, O = w.alloc (.cells #[.int .i64 0, .string ⟨#[]⟩, .string ⟨#[]⟩, .int .i64 0] 25) := ⟨_, rfl⟩
 have bO : Below w.heap.size w O := by rw [hO]; exact (Below.refl _ _).alloc (Nat.le_refl _) _
 have AO : BAt O w.heap.size [.int .i64 0, .string ⟨#[]⟩, .string ⟨#[]⟩, .int .i64 0] := by rw [hO]; exact BAt.new w #[.int .i64 0, .string ⟨#[]⟩, .string ⟨#[]⟩, .int .i64 0] _
 have hzO : w.heap.size < O.heap.size := AO.2.2
 have HC := hidB (hcode.later bO)
 clear hcode
 go_enter Tryz.func5, Tryz.ntmps5
 go_upto_region 1 with fail
 rw [← hO]
 clear hO
 go_wp2_with fail
 refine (l1New _ _ _ _ hl HC.out).mono ?_
 rintro e wa ⟨B, rfl, hB, ca, ba⟩
 have CA := hidB ca
 clear ca
 go_wp2_with fail
 refine (l17Any _ _ _ _ _ _ CA.out).mono ?_
 rintro e wb ⟨⟨k, t, b, n⟩, hx, rfl, cb, gb⟩
 have AB := (AO.below ba).grown gb (show w.heap.size ≠ B by omega)
 have Bb : Below w.heap.size w wb := (bO.trans (ba.mono bO.size)).grown gb (Nat.le_trans bO.size ba.size) (fun k hk => by cases hk; omega)
 have r0 := AB.1 0 _ rfl
 have r1 := AB.1 1 _ rfl
 have r2 := AB.1 2 _ rfl
 have r3 := AB.1 3 _ rfl
 have rf := AB.2.1
 clear cb gb CA
 dsimp only
 go_wp2_with fail
 refine bodyPost_ret (act_result1 rfl _ _ w.heap.size (.int .i64 k) (.string t) (.string b) (.int .i64 n) rfl ((((AB.set 0 (by simp) _).set 1 (by simp) _).set 2 (by simp) _).set 3 (by simp) _)) rfl ?_
 exact ⟨⟨k, t, b, n⟩, hx, rfl, (((Bb.setCell (by simp) _).setCell (by simp) _).setCell (by simp) _).setCell (by simp) _⟩
end Go.Proofs.YtidecdlaeomfoaaGreat
