/- BlockAt, ActEq, ActOkB, BytRow. -/
import Derived.Test.YtidecdlaeomfoaaGreatQA17
import Derived.ChangeKeysEq
import Derived.Laws.StructEq
import Derived.Deep.RegionWith
import Derived.OpenShut
set_option maxHeartbeats 8000000
set_option maxRecDepth 100000
namespace Go.Proofs.YtidecdlaeomfoaaGreat
open Go.RowKit
def BAt (W : World) (B : Nat) (vs : List Value) : Prop := (∀ j v, vs[j]? = some v → W.cell? ⟨B, j, none⟩ = some v) ∧ (∀ j, W.frozen? ⟨B, j, none⟩ = false) ∧ B < W.heap.size
theorem BAt.new (w : World) (vs : Array Value) (t : TypeId) : BAt (w.alloc (.cells vs t)) w.heap.size vs.toList := by
 refine ⟨fun j v h => ?_, fun j => frozen_of_row _ _ j _ t (heap_alloc_new w _), by simp⟩
 rw [World.cell?_alloc_at _ _ _ _ rfl]
 simpa using h
theorem BAt.same {W W' : World} {B : Nat} {vs : List Value} (h : BAt W B vs) (hz : W.heap.size ≤ W'.heap.size) (hs : W'.heap[B]? = W.heap[B]?) : BAt W' B vs :=
 ⟨fun j v hv => (World.cell?_of_block (w := W) (a := ⟨B, j, none⟩) hs).trans (h.1 j v hv), fun j => (World.frozen?_of_block (w := W) (a := ⟨B, j, none⟩) hs).trans (h.2.1 j), Nat.lt_of_lt_of_le h.2.2 hz⟩
theorem BAt.below {W W' : World} {B : Nat} {vs : List Value} (h : BAt W B vs) (hb : Below W.heap.size W W') : BAt W' B vs := h.same hb.size (hb.block B h.2.2)
theorem BAt.alloc {W : World} {B : Nat} {vs : List Value} (h : BAt W B vs) (o : Obj) : BAt (W.alloc o) B vs := h.below ((Below.refl _ _).alloc (Nat.le_refl _) o)
theorem BAt.grown {W W' : World} {B C : Nat} {vs : List Value} (h : BAt W B vs) (hg : W.grownBy W' (some C)) (hne : B ≠ C) : BAt W' B vs := h.same hg.size (hg.block B h.2.2 (fun e => hne (by injection e)))
theorem frozen_put (W : World) (B C j i : Nat) (v : Value) (h : W.frozen? ⟨B, i, none⟩ = false) : (W.setCell ⟨C, j, none⟩ v).frozen? ⟨B, i, none⟩ = false := by
 simpa [go_sem] using h
theorem BAt.set {W : World} {B : Nat} {vs : List Value} (h : BAt W B vs) (j : Nat) (hj : j < vs.length) (x : Value) : BAt (W.setCell ⟨B, j, none⟩ x) B (vs.set j x) := by
 refine ⟨fun i v hv => ?_, fun i => frozen_put W B B j i x (h.2.1 i), by have := h.2.2; simpa using this⟩
 by_cases e : j = i
 ·subst e
  rw [World.cell?_setCell_same' _ _ _ (by rw [h.1 j _ (List.getElem?_eq_getElem hj)]; rfl)]
  rw [List.getElem?_set_self hj] at hv
  exact hv
 rw [World.cell?_setCell_other _ _ _ _ (fun h => e (by injection h)), h.1 i v]
 rwa [List.getElem?_set_ne e] at hv
theorem BAt.other {W : World} {B C : Nat} {vs : List Value} (h : BAt W B vs) (hne : B ≠ C) (j : Nat) (x : Value) : BAt (W.setCell ⟨C, j, none⟩ x) B vs := by
 refine ⟨fun i v hv => ?_, fun i => frozen_put W B C j i x (h.2.1 i), by have := h.2.2; simpa using this⟩
 rw [World.cell?_setCell_other _ _ _ _ (fun h => hne (by injection h with h1 _; exact h1.symm))]
 exact h.1 i v hv
end Go.Proofs.YtidecdlaeomfoaaGreat
namespace Go.Proofs.YtidecdlaeomfoaaGreat
open Go.RowKit
set_option linter.unusedVariables false
theorem aeq_int (d : Nat) (x y : Int) (W : World) : (Op.equalIn (d + 1) 3 (.int .i64 x) (.int .i64 y)).run Tryz.prog W = .ok (x == y) W := run_equalIn_int W d 3 .i64 .i64 x y Tryz.underlying3
theorem aeq_str (d : Nat) (x y : ByteArray) (W : World) : (Op.equalIn (d + 1) 9 (.string x) (.string y)).run Tryz.prog W = .ok (x.toList == y.toList) W := run_equalIn_string W d 9 x y Tryz.underlying9
def eqAB (k : Int) (t b : ByteArray) (n : Int) (k' : Int) (t' b' : ByteArray) (n' : Int) : Bool := (k == k') && ((t.toList == t'.toList) && ((b.toList == b'.toList) && (n == n')))
theorem eqAB_self (k : Int) (t b : ByteArray) (n : Int) : eqAB k t b n k t b n = true := by simp [eqAB]
theorem act_fields : ((Tryz.prog.fieldsOf 25).toList.map fun f => (f.type, f.offset, decide (f.name ≠ "_"))) = [(3, 0, true), (9, 1, true), (9, 2, true), (3, 3, true)] := by kernel_rfl
theorem afields_step (d : Nat) (f : Field) (fs : List Field) (xs ys : Array Value) (a b : Value) (r : Bool) (W : World) (hn : f.name ≠ "_") (h1 : (part f.type xs f.offset).run Tryz.prog W = .ok a W) (h2 : (part f.type ys f.offset).run Tryz.prog W = .ok b W) (h3 : (Op.equalIn d f.type a b).run Tryz.prog W = .ok r W) :
  (Op.eqFields d xs ys (f :: fs)).run Tryz.prog W = if r = true then (Op.eqFields d xs ys fs).run Tryz.prog W else .ok false W := by
 simp only [Op.eqFields, hn, ne_eq, not_false_eq_true, if_true, Sem.run_bind, h1, h2, h3, Result.andThen_ok]
 cases r <;> simp
theorem apart0 (k n : Int) (s b : ByteArray) (W : World) : (part 3 #[.int .i64 k, .string s, .string b, .int .i64 n] 0).run Tryz.prog W = .ok (.int .i64 k) W := by kernel_rfl
theorem apart1 (k n : Int) (s b : ByteArray) (W : World) : (part 9 #[.int .i64 k, .string s, .string b, .int .i64 n] 1).run Tryz.prog W = .ok (.string s) W := by kernel_rfl
theorem apart2 (k n : Int) (s b : ByteArray) (W : World) : (part 9 #[.int .i64 k, .string s, .string b, .int .i64 n] 2).run Tryz.prog W = .ok (.string b) W := by kernel_rfl
theorem apart3 (k n : Int) (s b : ByteArray) (W : World) : (part 3 #[.int .i64 k, .string s, .string b, .int .i64 n] 3).run Tryz.prog W = .ok (.int .i64 n) W := by kernel_rfl
theorem eqActV (k : Int) (t b : ByteArray) (n : Int) (k' : Int) (t' b' : ByteArray) (n' : Int) (W : World) :
  (Op.equalIn 10000 25 (.agg #[.int .i64 k, .string t, .string b, .int .i64 n]) (.agg #[.int .i64 k', .string t', .string b', .int .i64 n'])).run Tryz.prog W = .ok (eqAB k t b n k' t' b' n') W := by
 rw [show (10000 : Nat) = 9999 + 1 from rfl, run_equalIn_struct W 9999 25 _ _ (by kernel_rfl) (by kernel_rfl)]
 have hf := act_fields
 generalize (Tryz.prog.fieldsOf 25).toList = fs at hf
 obtain ⟨f0, r0, rfl, e0, hf⟩ := List.map_eq_cons_iff.1 hf
 obtain ⟨f1, r1, rfl, e1, hf⟩ := List.map_eq_cons_iff.1 hf
 obtain ⟨f2, r2, rfl, e2, hf⟩ := List.map_eq_cons_iff.1 hf
 obtain ⟨f3, r3, rfl, e3, hf⟩ := List.map_eq_cons_iff.1 hf
 obtain rfl := List.map_eq_nil_iff.1 hf
 simp only [Prod.mk.injEq, decide_eq_true_eq] at e0 e1 e2 e3
 obtain ⟨a0, a1, a2⟩ := e0
 obtain ⟨b0, b1, b2⟩ := e1
 obtain ⟨c0, c1, c2⟩ := e2
 obtain ⟨d0, d1, d2⟩ := e3
 rw [afields_step 9999 f0 _ _ _ (.int .i64 k) (.int .i64 k') (k == k') W a2 (by rw [a0, a1]; exact apart0 ..) (by rw [a0, a1]; exact apart0 ..) (by rw [a0]; exact aeq_int 9998 ..),
  afields_step 9999 f1 _ _ _ (.string t) (.string t') (t.toList == t'.toList) W b2 (by rw [b0, b1]; exact apart1 ..) (by rw [b0, b1]; exact apart1 ..) (by rw [b0]; exact aeq_str 9998 ..),
  afields_step 9999 f2 _ _ _ (.string b) (.string b') (b.toList == b'.toList) W c2 (by rw [c0, c1]; exact apart2 ..) (by rw [c0, c1]; exact apart2 ..) (by rw [c0]; exact aeq_str 9998 ..),
  afields_step 9999 f3 _ _ _ (.int .i64 n) (.int .i64 n') (n == n') W d2 (by rw [d0, d1]; exact apart3 ..) (by rw [d0, d1]; exact apart3 ..) (by rw [d0]; exact aeq_int 9998 ..)]
 unfold eqAB
 cases (k == k') <;> cases (t.toList == t'.toList) <;> cases (b.toList == b'.toList) <;> cases (n == n') <;> rfl
theorem emp_size (b : ByteArray) : b.toList.isEmpty = decide (b.size = 0) := by
 rw [ByteArray.toList_eq]
 have : b.data.toList.length = b.size := rfl
 cases h : b.data.toList with
 | nil =>
  have h0 : b.size = 0 := by rw [← this, h]; rfl
  simp [h0]
 | cons x l =>
  have h0 : b.size = l.length + 1 := by rw [← this, h]; rfl
  rw [decide_eq_false (by omega)]
  rfl
theorem specActOk (x : AV) (w : World) :
  Calls Tryz.prog 7 #[.agg #[.int .i64 x.k, .string x.t, .string x.b, .int .i64 x.n]] w fun e w' => e = .returned (.bool (actB x)) ∧ Below w.heap.size w w' := by
 obtain ⟨k, t, b, n⟩ := x
 dsimp only
 have hbO : Below w.heap.size w (w.alloc (.cells #[.int .i64 k, .string t, .string b, .int .i64 n] 25)) := (Below.refl _ _).alloc (Nat.le_refl _) _
 have CK : Hid (∀ W, CS 18 #[.int .i64 (t.size : Int), .int .i64 1, .int .i64 2000] W (.bool (decide ((1 : Int) ≤ (t.size : Int) ∧ (t.size : Int) ≤ 2000)))) := fun W => specL1In _ _ _ W
 have CN : Hid (∀ a c W, CS 18 #[.int .i64 n, .int .i64 a, .int .i64 c] W (.bool (decide (a ≤ n ∧ n ≤ c)))) := fun a c W => specL1In _ _ _ W
 have HE1 : Hid (b.toList.isEmpty = decide (b.size = 0)) := emp_size b
 have HE2 : Hid (t.toList.isEmpty = decide (t.size = 0)) := emp_size t
 obtain ⟨R, HR⟩ : ∃ R, Hid (R = actB ⟨k, t, b, n⟩) := ⟨_, rfl⟩
 have HRk : Hid (R = if k = 1 then decide (0 < t.size ∧ t.size ≤ 2000 ∧ b.size = 0 ∧ 0 ≤ n ∧ n ≤ 1000)
  else if k = 2 then decide (0 < t.size ∧ t.size ≤ 2000 ∧ b.size ≤ 2000 ∧ 1 ≤ n ∧ n ≤ 1000000)
  else if k = 4 ∨ k = 5 then decide (0 < t.size ∧ t.size ≤ 2000 ∧ b.size = 0 ∧ n = 0)
  else if k = 6 then decide (t.size = 0 ∧ b.size = 0 ∧ 1 ≤ n ∧ n ≤ 10000)
  else if k = 3 ∨ k = 7 then decide (t.size = 0 ∧ b.size = 0 ∧ n = 0)
  else false) := HR.out
 rw [← HR.out]
 clear HR
 obtain ⟨K, HK⟩ : ∃ K : Bool, Hid (K = decide ((1 : Int) ≤ (t.size : Int) ∧ (t.size : Int) ≤ 2000)) := ⟨_, rfl⟩
 rw [← HK.out] at CK
 obtain ⟨E1, hE1⟩ : ∃ E : Bool, b.toList.isEmpty = E := ⟨_, rfl⟩
 obtain ⟨E2, hE2⟩ : ∃ E : Bool, t.toList.isEmpty = E := ⟨_, rfl⟩
 rw [hE1] at HE1
 rw [hE2] at HE2
 by_cases h1 : k = 1
 ·subst h1
  obtain ⟨N, HN⟩ : ∃ N : Bool, Hid (N = decide ((0 : Int) ≤ n ∧ n ≤ 1000)) := ⟨_, rfl⟩
  have CN2 := CN.out 0 1000
  rw [← HN.out] at CN2
  have CN3 : Hid (∀ W, _) := CN2
  have HR : Hid ((K && (E1 && N)) = R) := by
   show _ = _
   rw [HRk.out, HK.out, HE1.out, HN.out, if_pos rfl, ← Bool.decide_and, ← Bool.decide_and]
   exact decide_eq_decide.2 (by omega)
  clear HRk HK HE1 HE2 HN CN CN2
  cases K with
  | false =>
   go_enter Tryz.func7, Tryz.ntmps7
   go_wp2_with fail
   refine (CK.out _).mono ?_
   rintro e w1 ⟨rfl, rfl⟩
   go_wp2_with fail
   go_ret
   exact ⟨ret_bool HR.out, by first | exact hbO | exact Below.refl _ _⟩
  | true =>
   cases E1 with
   | false =>
    go_enter Tryz.func7, Tryz.ntmps7
    go_wp2_with fail
    refine (CK.out _).mono ?_
    rintro e w1 ⟨rfl, rfl⟩
    go_wp2_with fail
    go_ret
    exact ⟨ret_bool HR.out, by first | exact hbO | exact Below.refl _ _⟩
   | true =>
    go_enter Tryz.func7, Tryz.ntmps7
    go_wp2_with fail
    refine (CK.out _).mono ?_
    rintro e w1 ⟨rfl, rfl⟩
    go_wp2_with fail
    refine (CN3.out _).mono ?_
    rintro e w2 ⟨rfl, rfl⟩
    go_wp2_with fail
    go_ret
    exact ⟨ret_bool HR.out, by first | exact hbO | exact Below.refl _ _⟩
 by_cases h2 : k = 2
 ·subst h2
  obtain ⟨N, HN⟩ : ∃ N : Bool, Hid (N = decide ((1 : Int) ≤ n ∧ n ≤ 1000000)) := ⟨_, rfl⟩
  have CN2 := CN.out 1 1000000
  rw [← HN.out] at CN2
  have CN3 : Hid (∀ W, _) := CN2
  obtain ⟨B, hB⟩ : ∃ B : Bool, decide ((b.size : Int) ≤ 2000) = B := ⟨_, rfl⟩
  have HR : Hid ((K && (B && N)) = R) := by
   show _ = _
   rw [HRk.out, HK.out, ← hB, HN.out, if_neg (by decide), if_pos rfl, ← Bool.decide_and, ← Bool.decide_and]
   exact decide_eq_decide.2 (by omega)
  clear HRk HK HE1 HE2 HN CN CN2
  cases K with
  | false =>
   go_enter Tryz.func7, Tryz.ntmps7
   go_wp2_with fail
   refine (CK.out _).mono ?_
   rintro e w1 ⟨rfl, rfl⟩
   go_wp2_with fail
   go_ret
   exact ⟨ret_bool HR.out, by first | exact hbO | exact Below.refl _ _⟩
  | true =>
   cases B with
   | false =>
    go_enter Tryz.func7, Tryz.ntmps7
    go_wp2_with fail
    refine (CK.out _).mono ?_
    rintro e w1 ⟨rfl, rfl⟩
    go_wp2_with fail
    go_ret
    exact ⟨ret_bool HR.out, by first | exact hbO | exact Below.refl _ _⟩
   | true =>
    go_enter Tryz.func7, Tryz.ntmps7
    go_wp2_with fail
    refine (CK.out _).mono ?_
    rintro e w1 ⟨rfl, rfl⟩
    go_wp2_with fail
    refine (CN3.out _).mono ?_
    rintro e w2 ⟨rfl, rfl⟩
    go_wp2_with fail
    go_ret
    exact ⟨ret_bool HR.out, by first | exact hbO | exact Below.refl _ _⟩
 by_cases h45 : k = 4 ∨ k = 5
 ·obtain ⟨N, hN⟩ : ∃ N : Bool, (n == 0) = N := ⟨_, rfl⟩
  have HR : Hid ((K && (E1 && N)) = R) := by
   show _ = _
   rw [HRk.out, HK.out, HE1.out, ← hN, if_neg h1, if_neg h2, if_pos h45, show (n == 0) = decide (n = 0) from rfl, ← Bool.decide_and, ← Bool.decide_and]
   exact decide_eq_decide.2 (by omega)
  clear HRk HK HE1 HE2 CN h1 h2
  rcases h45 with rfl | rfl
  all_goals
   cases K with
   | false =>
    go_enter Tryz.func7, Tryz.ntmps7
    go_wp2_with fail
    refine (CK.out _).mono ?_
    rintro e w1 ⟨rfl, rfl⟩
    go_wp2_with fail
    go_ret
    exact ⟨ret_bool HR.out, by first | exact hbO | exact Below.refl _ _⟩
   | true =>
    cases E1 with
    | false =>
     go_enter Tryz.func7, Tryz.ntmps7
     go_wp2_with fail
     refine (CK.out _).mono ?_
     rintro e w1 ⟨rfl, rfl⟩
     go_wp2_with fail
     go_ret
     exact ⟨ret_bool HR.out, by first | exact hbO | exact Below.refl _ _⟩
    | true =>
     go_enter Tryz.func7, Tryz.ntmps7
     go_wp2_with fail
     refine (CK.out _).mono ?_
     rintro e w1 ⟨rfl, rfl⟩
     go_wp2_with fail
     go_ret
     exact ⟨ret_bool HR.out, by first | exact hbO | exact Below.refl _ _⟩
 by_cases h6 : k = 6
 ·subst h6
  obtain ⟨N, HN⟩ : ∃ N : Bool, Hid (N = decide ((1 : Int) ≤ n ∧ n ≤ 10000)) := ⟨_, rfl⟩
  have CN2 := CN.out 1 10000
  rw [← HN.out] at CN2
  have CN3 : Hid (∀ W, _) := CN2
  have HR : Hid ((E2 && (E1 && N)) = R) := by
   show _ = _
   rw [HRk.out, HE2.out, HE1.out, HN.out, if_neg h1, if_neg h2, if_neg h45, if_pos rfl, ← Bool.decide_and, ← Bool.decide_and]
  clear HRk HK HE1 HE2 HN CN CN2 h1 h2 h45
  cases E2 with
  | false =>
   go_enter Tryz.func7, Tryz.ntmps7
   go_wp2_with fail
   refine (CK.out _).mono ?_
   rintro e w1 ⟨rfl, rfl⟩
   go_wp2_with fail
   go_ret
   exact ⟨ret_bool HR.out, by first | exact hbO | exact Below.refl _ _⟩
  | true =>
   cases E1 with
   | false =>
    go_enter Tryz.func7, Tryz.ntmps7
    go_wp2_with fail
    refine (CK.out _).mono ?_
    rintro e w1 ⟨rfl, rfl⟩
    go_wp2_with fail
    go_ret
    exact ⟨ret_bool HR.out, by first | exact hbO | exact Below.refl _ _⟩
   | true =>
    go_enter Tryz.func7, Tryz.ntmps7
    go_wp2_with fail
    refine (CK.out _).mono ?_
    rintro e w1 ⟨rfl, rfl⟩
    go_wp2_with fail
    refine (CN3.out _).mono ?_
    rintro e w2 ⟨rfl, rfl⟩
    go_wp2_with fail
    go_ret
    exact ⟨ret_bool HR.out, by first | exact hbO | exact Below.refl _ _⟩
 by_cases h37 : k = 3 ∨ k = 7
 ·obtain ⟨N, hN⟩ : ∃ N : Bool, (n == 0) = N := ⟨_, rfl⟩
  have HR : Hid ((E2 && (E1 && N)) = R) := by
   show _ = _
   rw [HRk.out, HE2.out, HE1.out, ← hN, if_neg h1, if_neg h2, if_neg h45, if_neg h6, if_pos h37, show (n == 0) = decide (n = 0) from rfl, ← Bool.decide_and, ← Bool.decide_and]
  clear HRk HK HE1 HE2 CN h1 h2 h45 h6
  rcases h37 with rfl | rfl
  all_goals
   cases E2 with
   | false =>
    go_enter Tryz.func7, Tryz.ntmps7
    go_wp2_with fail
    refine (CK.out _).mono ?_
    rintro e w1 ⟨rfl, rfl⟩
    go_wp2_with fail
    go_ret
    exact ⟨ret_bool HR.out, by first | exact hbO | exact Below.refl _ _⟩
   | true =>
    cases E1 with
    | false =>
     go_enter Tryz.func7, Tryz.ntmps7
     go_wp2_with fail
     refine (CK.out _).mono ?_
     rintro e w1 ⟨rfl, rfl⟩
     go_wp2_with fail
     go_ret
     exact ⟨ret_bool HR.out, by first | exact hbO | exact Below.refl _ _⟩
    | true =>
     go_enter Tryz.func7, Tryz.ntmps7
     go_wp2_with fail
     refine (CK.out _).mono ?_
     rintro e w1 ⟨rfl, rfl⟩
     go_wp2_with fail
     go_ret
     exact ⟨ret_bool HR.out, by first | exact hbO | exact Below.refl _ _⟩
 have HR : Hid (false = R) := by
  show _ = _
  rw [HRk.out, if_neg h1, if_neg h2, if_neg h45, if_neg h6, if_neg h37]
 have b1 : ¬ k = 4 := fun e => h45 (.inl e)
 have b2 : ¬ k = 5 := fun e => h45 (.inr e)
 have b3 : ¬ k = 3 := fun e => h37 (.inl e)
 have b4 : ¬ k = 7 := fun e => h37 (.inr e)
 clear HRk HK HE1 HE2 CN h45 h37
 go_enter Tryz.func7, Tryz.ntmps7
 go_wp2_with fail
 refine (CK.out _).mono ?_
 rintro e w1 ⟨rfl, rfl⟩
 go_wp2_with fail
 go_ret
 exact ⟨ret_bool HR.out, by first | exact hbO | exact Below.refl _ _⟩
theorem implTextOk (s : ByteArray) (w : World) :
  Calls Tryz.prog 19 #[.string s] w fun e w' => e = .returned (.bool (decide (0 < s.size ∧ s.size ≤ 2000))) ∧ w = w' := by
 have HE : Hid (s.toList.isEmpty = decide (s.size = 0)) := emp_size s
 obtain ⟨E, hE⟩ : ∃ E : Bool, s.toList.isEmpty = E := ⟨_, rfl⟩
 obtain ⟨B, hB⟩ : ∃ B : Bool, decide ((s.size : Int) ≤ 2000) = B := ⟨_, rfl⟩
 rw [hE] at HE
 have HR : Hid ((!E && B) = decide (0 < s.size ∧ s.size ≤ 2000)) := by
  show _ = _
  rw [HE.out, ← hB, ← decide_not, ← Bool.decide_and]
  exact decide_eq_decide.2 (by omega)
 generalize decide (0 < s.size ∧ s.size ≤ 2000) = R at *
 clear HE
 cases E with
 | true =>
  go_enter Tryz.func19, Tryz.ntmps19
  go_wp2_with fail
  go_ret
  exact ⟨ret_bool HR.out, rfl⟩
 | false =>
  go_enter Tryz.func19, Tryz.ntmps19
  go_wp2_with fail
  go_ret
  exact ⟨ret_bool HR.out, rfl⟩
theorem eq_emp (b : ByteArray) : (b.toList == (⟨#[]⟩ : ByteArray).toList) = decide (b.size = 0) := by
 rw [← emp_size, show (⟨#[]⟩ : ByteArray).toList = [] from by rw [ByteArray.toList_eq]]
 cases b.toList <;> rfl
theorem implActOk (x : AV) (w : World) :
  Calls Tryz.prog 8 #[.agg #[.int .i64 x.k, .string x.t, .string x.b, .int .i64 x.n]] w fun e w' => e = .returned (.bool (actB x)) ∧ Below w.heap.size w w' := by
 obtain ⟨k, t, b, n⟩ := x
 dsimp only
 have hbO : Below w.heap.size w (w.alloc (.cells #[.int .i64 k, .string t, .string b, .int .i64 n] 25)) := (Below.refl _ _).alloc (Nat.le_refl _) _
 have CK : Hid (∀ W, CS 19 #[.string t] W (.bool (decide (0 < t.size ∧ t.size ≤ 2000)))) := fun W => implTextOk _ W
 have HE1 : Hid ((b.toList == (⟨#[]⟩ : ByteArray).toList) = decide (b.size = 0)) := eq_emp b
 have HE2 : Hid ((t.toList == (⟨#[]⟩ : ByteArray).toList) = decide (t.size = 0)) := eq_emp t
 obtain ⟨R, HR⟩ : ∃ R, Hid (R = actB ⟨k, t, b, n⟩) := ⟨_, rfl⟩
 have HRk : Hid (R = if k = 1 then decide (0 < t.size ∧ t.size ≤ 2000 ∧ b.size = 0 ∧ 0 ≤ n ∧ n ≤ 1000)
  else if k = 2 then decide (0 < t.size ∧ t.size ≤ 2000 ∧ b.size ≤ 2000 ∧ 1 ≤ n ∧ n ≤ 1000000)
  else if k = 4 ∨ k = 5 then decide (0 < t.size ∧ t.size ≤ 2000 ∧ b.size = 0 ∧ n = 0)
  else if k = 6 then decide (t.size = 0 ∧ b.size = 0 ∧ 1 ≤ n ∧ n ≤ 10000)
  else if k = 3 ∨ k = 7 then decide (t.size = 0 ∧ b.size = 0 ∧ n = 0)
  else false) := HR.out
 rw [← HR.out]
 clear HR
 obtain ⟨K, HK⟩ : ∃ K : Bool, Hid (K = decide (0 < t.size ∧ t.size ≤ 2000)) := ⟨_, rfl⟩
 rw [← HK.out] at CK
 by_cases h1 : k = 1
 ·subst h1
  have heq : ∀ W, _ := eqActV 1 t b n 1 t ⟨#[]⟩ n
  obtain ⟨E, HE⟩ : ∃ E, Hid (E = eqAB 1 t b n 1 t ⟨#[]⟩ n) := ⟨_, rfl⟩
  rw [← HE.out] at heq
  obtain ⟨N1, hN1⟩ : ∃ B : Bool, decide ((0 : Int) ≤ n) = B := ⟨_, rfl⟩
  obtain ⟨N2, hN2⟩ : ∃ B : Bool, decide (n ≤ 1000) = B := ⟨_, rfl⟩
  have HR : Hid ((E && (K && (N1 && N2))) = R) := by
   show _ = _
   have : E = decide (b.size = 0) := by rw [HE.out, ← HE1.out]; simp [eqAB]
   rw [HRk.out, HK.out, this, ← hN1, ← hN2, if_pos rfl, ← Bool.decide_and, ← Bool.decide_and, ← Bool.decide_and]
   exact decide_eq_decide.2 (by omega)
  clear HRk HK HE1 HE2 HE
  cases E with
  | false =>
   go_enter Tryz.func8, Tryz.ntmps8
   go_wp2_with fail
   go_ret
   exact ⟨ret_bool HR.out, by first | exact hbO | exact Below.refl _ _⟩
  | true =>
   cases K with
   | false =>
    go_enter Tryz.func8, Tryz.ntmps8
    go_wp2_with fail
    refine (CK.out _).mono ?_
    rintro e w1 ⟨rfl, rfl⟩
    go_wp2_with fail
    go_ret
    exact ⟨ret_bool HR.out, by first | exact hbO | exact Below.refl _ _⟩
   | true =>
    cases N1 with
    | false =>
     go_enter Tryz.func8, Tryz.ntmps8
     go_wp2_with fail
     refine (CK.out _).mono ?_
     rintro e w1 ⟨rfl, rfl⟩
     go_wp2_with fail
     go_ret
     exact ⟨ret_bool HR.out, by first | exact hbO | exact Below.refl _ _⟩
    | true =>
     go_enter Tryz.func8, Tryz.ntmps8
     go_wp2_with fail
     refine (CK.out _).mono ?_
     rintro e w1 ⟨rfl, rfl⟩
     go_wp2_with fail
     go_ret
     exact ⟨ret_bool HR.out, by first | exact hbO | exact Below.refl _ _⟩
 by_cases h2 : k = 2
 ·subst h2
  obtain ⟨B, hB⟩ : ∃ B : Bool, decide ((b.size : Int) ≤ 2000) = B := ⟨_, rfl⟩
  obtain ⟨N1, hN1⟩ : ∃ B : Bool, decide ((0 : Int) < n) = B := ⟨_, rfl⟩
  obtain ⟨N2, hN2⟩ : ∃ B : Bool, decide (n ≤ 1000000) = B := ⟨_, rfl⟩
  have HR : Hid ((K && (B && (N1 && N2))) = R) := by
   show _ = _
   rw [HRk.out, HK.out, ← hB, ← hN1, ← hN2, if_neg (by decide), if_pos rfl, ← Bool.decide_and, ← Bool.decide_and, ← Bool.decide_and]
   exact decide_eq_decide.2 (by omega)
  clear HRk HK HE1 HE2
  cases K with
  | false =>
   go_enter Tryz.func8, Tryz.ntmps8
   go_wp2_with fail
   refine (CK.out _).mono ?_
   rintro e w1 ⟨rfl, rfl⟩
   go_wp2_with fail
   go_ret
   exact ⟨ret_bool HR.out, by first | exact hbO | exact Below.refl _ _⟩
  | true =>
   cases B with
   | false =>
    go_enter Tryz.func8, Tryz.ntmps8
    go_wp2_with fail
    refine (CK.out _).mono ?_
    rintro e w1 ⟨rfl, rfl⟩
    go_wp2_with fail
    go_ret
    exact ⟨ret_bool HR.out, by first | exact hbO | exact Below.refl _ _⟩
   | true =>
    cases N1 with
    | false =>
     go_enter Tryz.func8, Tryz.ntmps8
     go_wp2_with fail
     refine (CK.out _).mono ?_
     rintro e w1 ⟨rfl, rfl⟩
     go_wp2_with fail
     go_ret
     exact ⟨ret_bool HR.out, by first | exact hbO | exact Below.refl _ _⟩
    | true =>
     go_enter Tryz.func8, Tryz.ntmps8
     go_wp2_with fail
     refine (CK.out _).mono ?_
     rintro e w1 ⟨rfl, rfl⟩
     go_wp2_with fail
     go_ret
     exact ⟨ret_bool HR.out, by first | exact hbO | exact Below.refl _ _⟩
 by_cases h45 : k = 4 ∨ k = 5
 ·have heq : ∀ W, _ := eqActV k t b n k t ⟨#[]⟩ 0
  obtain ⟨E, HE⟩ : ∃ E, Hid (E = eqAB k t b n k t ⟨#[]⟩ 0) := ⟨_, rfl⟩
  rw [← HE.out] at heq
  have HR : Hid ((E && K) = R) := by
   show _ = _
   have : E = (decide (b.size = 0) && decide (n = 0)) := by rw [HE.out, ← HE1.out]; unfold eqAB; simp; rfl
   rw [HRk.out, HK.out, this, if_neg h1, if_neg h2, if_pos h45, ← Bool.decide_and, ← Bool.decide_and]
   exact decide_eq_decide.2 (by omega)
  clear HRk HK HE1 HE2 HE h1 h2
  rcases h45 with rfl | rfl
  all_goals
   cases E with
   | false =>
    go_enter Tryz.func8, Tryz.ntmps8
    go_wp2_with fail
    go_ret
    exact ⟨ret_bool HR.out, by first | exact hbO | exact Below.refl _ _⟩
   | true =>
    go_enter Tryz.func8, Tryz.ntmps8
    go_wp2_with fail
    refine (CK.out _).mono ?_
    rintro e w1 ⟨rfl, rfl⟩
    go_wp2_with fail
    go_ret
    exact ⟨ret_bool HR.out, by first | exact hbO | exact Below.refl _ _⟩
 by_cases h6 : k = 6
 ·subst h6
  have heq : ∀ W, _ := eqActV 6 t b n 6 ⟨#[]⟩ ⟨#[]⟩ n
  obtain ⟨E, HE⟩ : ∃ E, Hid (E = eqAB 6 t b n 6 ⟨#[]⟩ ⟨#[]⟩ n) := ⟨_, rfl⟩
  rw [← HE.out] at heq
  obtain ⟨N1, hN1⟩ : ∃ B : Bool, decide ((0 : Int) < n) = B := ⟨_, rfl⟩
  obtain ⟨N2, hN2⟩ : ∃ B : Bool, decide (n ≤ 10000) = B := ⟨_, rfl⟩
  have HR : Hid ((E && (N1 && N2)) = R) := by
   show _ = _
   have : E = (decide (t.size = 0) && decide (b.size = 0)) := by rw [HE.out, ← HE1.out, ← HE2.out]; unfold eqAB; simp <;> rfl
   rw [HRk.out, this, ← hN1, ← hN2, if_neg h1, if_neg h2, if_neg h45, if_pos rfl, ← Bool.decide_and, ← Bool.decide_and, ← Bool.decide_and]
   exact decide_eq_decide.2 (by omega)
  clear HRk HK HE1 HE2 HE h1 h2 h45
  cases E with
  | false =>
   go_enter Tryz.func8, Tryz.ntmps8
   go_wp2_with fail
   go_ret
   exact ⟨ret_bool HR.out, by first | exact hbO | exact Below.refl _ _⟩
  | true =>
   cases N1 with
   | false =>
    go_enter Tryz.func8, Tryz.ntmps8
    go_wp2_with fail
    go_ret
    exact ⟨ret_bool HR.out, by first | exact hbO | exact Below.refl _ _⟩
   | true =>
    go_enter Tryz.func8, Tryz.ntmps8
    go_wp2_with fail
    go_ret
    exact ⟨ret_bool HR.out, by first | exact hbO | exact Below.refl _ _⟩
 by_cases h37 : k = 3 ∨ k = 7
 ·have heq : ∀ W, _ := eqActV k t b n k ⟨#[]⟩ ⟨#[]⟩ 0
  obtain ⟨E, HE⟩ : ∃ E, Hid (E = eqAB k t b n k ⟨#[]⟩ ⟨#[]⟩ 0) := ⟨_, rfl⟩
  rw [← HE.out] at heq
  have HR : Hid (E = R) := by
   show _ = _
   have : E = (decide (t.size = 0) && (decide (b.size = 0) && decide (n = 0))) := by rw [HE.out, ← HE1.out, ← HE2.out]; unfold eqAB; simp <;> rfl
   rw [HRk.out, this, if_neg h1, if_neg h2, if_neg h45, if_neg h6, if_pos h37, ← Bool.decide_and, ← Bool.decide_and]
  clear HRk HK HE1 HE2 HE h1 h2 h45 h6
  rcases h37 with rfl | rfl
  all_goals
   go_enter Tryz.func8, Tryz.ntmps8
   go_wp2_with fail
   go_ret
   exact ⟨ret_bool HR.out, by first | exact hbO | exact Below.refl _ _⟩
 have HR : Hid (false = R) := by
  show _ = _
  rw [HRk.out, if_neg h1, if_neg h2, if_neg h45, if_neg h6, if_neg h37]
 have b1 : ¬ k = 4 := fun e => h45 (.inl e)
 have b2 : ¬ k = 5 := fun e => h45 (.inr e)
 have b3 : ¬ k = 3 := fun e => h37 (.inl e)
 have b4 : ¬ k = 7 := fun e => h37 (.inr e)
 clear HRk HK HE1 HE2 h45 h37
 go_enter Tryz.func8, Tryz.ntmps8
 go_wp2_with fail
 go_ret
 exact ⟨ret_bool HR.out, by first | exact hbO | exact Below.refl _ _⟩
end Go.Proofs.YtidecdlaeomfoaaGreat
namespace Go.Proofs.YtidecdlaeomfoaaGreat
open Go.ChangeShapes Go.RowKit
set_option linter.unusedVariables false
def BRow (w : World) (v : Value) (l : List UInt8) : Prop :=
 (l = [] ∧ ∃ ao cap, v = .slice ao 0 cap) ∨ (0 < l.length ∧ ∃ g off cap, v = .slice (some ⟨g, off, none⟩) l.length (l.length + cap) ∧ g < w.heap.size ∧ ∀ i, i < l.length → w.cell? ⟨g, off + i, none⟩ = some (.int .u8 ((l.getD i 0).toNat : Int)))
theorem BRow.below {w w' : World} {v : Value} {l : List UInt8} (h : BRow w v l) (hb : Below w.heap.size w w') : BRow w' v l := by
 rcases h with h | ⟨h0, g, off, cap, h1, h2, h3⟩
 ·exact .inl h
 exact .inr ⟨h0, g, off, cap, h1, Nat.lt_of_lt_of_le h2 hb.size, fun i hi => (hb.cell (p := ⟨g, off + i, none⟩) h2).trans (h3 i hi)⟩
theorem BRow.slice {w : World} {v : Value} {l : List UInt8} (h : BRow w v l) : ∃ ao cap, v = .slice ao l.length cap := by
 rcases h with ⟨rfl, ao, cap, rfl⟩ | ⟨_, g, off, cap, h1, _⟩
 ·exact ⟨_, _, rfl⟩
 exact ⟨_, _, h1⟩
theorem bcell_at {w : World} {B : Nat} {e : TypeId} {g n cap : Nat} {l : List UInt8} (h : w.ownsRow B e 1 (.slice (some ⟨g, 0, none⟩) n cap) n (bcells l)) (k : Nat) (hk : k < n) :
  w.cell? ⟨g, k, none⟩ = some (.int .u8 ((l.getD k 0).toNat : Int)) := by
 have hl : l.length = n := by have := h.1; simpa [bcells] using this
 rw [h.cellAt k (by omega)]
 simp [bcells, List.getD, show k < l.length by omega]
theorem BRow.of_own {w : World} {B : Nat} {e : TypeId} {v : Value} {n : Nat} {l : List UInt8} (h : w.ownsRow B e 1 v n (bcells l)) : BRow w v l := by
 have hl : l.length = n := by have := h.1; simpa [bcells] using this
 have h' := h
 rcases h.2 with ⟨rfl, h0⟩ | ⟨g, cap, cur, rfl, hb, hg, hnc, hcm, hcs, htake⟩
 ·exact .inl ⟨List.eq_nil_of_length_eq_zero (by omega), _, _, by rw [show (0 : Nat) = 0 from rfl]⟩
 by_cases h0 : n = 0
 ·subst h0
  exact .inl ⟨List.eq_nil_of_length_eq_zero (by omega), _, _, rfl⟩
 refine .inr ⟨by omega, g, 0, cap - n, by rw [hl, Nat.add_sub_cancel' hnc], (Array.getElem?_eq_some_iff.1 hg).1, fun i hi => ?_⟩
 rw [Nat.zero_add]
 exact bcell_at h' i (by omega)
theorem own_blen {w : World} {B : Nat} {e : TypeId} {v : Value} {n : Nat} {l : List UInt8} (h : w.ownsRow B e 1 v n (bcells l)) : l.length = n := by
 have := h.1; simpa [bcells] using this
theorem BRow.part {w : World} {g off : Nat} {l : List UInt8} (hg : g < w.heap.size) (hc : ∀ i, i < l.length → w.cell? ⟨g, off + i, none⟩ = some (.int .u8 ((l.getD i 0).toNat : Int))) {a n c o : Nat} (ha : a + n ≤ l.length) (hcap : n ≤ c) (ho : o = off + a) :
  BRow w (.slice (some ⟨g, o, none⟩) n c) (partL l a n) := by
 subst ho
 have hl := partL_len ha
 by_cases h0 : n = 0
 ·subst h0
  exact .inl ⟨List.eq_nil_of_length_eq_zero hl, _, _, rfl⟩
 refine .inr ⟨by omega, g, off + a, c - n, by rw [hl, Nat.add_sub_cancel' hcap], hg, fun i hi => ?_⟩
 rw [hl] at hi
 rw [Nat.add_assoc, hc (a + i) (by omega)]
 congr 3
 unfold partL
 simp [List.getD, hi]
theorem run_append_noneB {P : Program} (w : World) (base : Nat) (t ty e : TypeId) (i : TypeInfo) (size : Nat) (ht : P.underlying t = some (.slice e)) (hi : P.info? e = some i)
  (v : Value) (n c : Nat) (xs : List Value) (hown : w.ownsRow base e size v n xs) :
  (Builtin.append_ #[t, t] ty #[v, .slice none 0 c]).run P w = .ok v w := by
 rcases hown.2 with ⟨rfl, rfl⟩ | ⟨g, cap, cur, rfl, _, _, hnc, _⟩
 ·simp [Builtin.append_, run_underlying ht, sizeOf, typeInfo, hi, Builtin.lenOf, Builtin.firstCells]
 simp [Builtin.append_, run_underlying ht, sizeOf, typeInfo, hi, Builtin.lenOf, Builtin.firstCells, hnc, storeCells]
theorem wpList_append_brow {P : Program} {w : World} {ops : Array Oper} {rest : List Oper} {o : Oper} {a : Act} {Q : Exit → Act → World → Prop}
  (hgd : o.guard = none) (s x : Operand) (t : TypeId) (hop : o.op = .call { callee := .builtin .append, args := #[s, x], argTypes := #[t, t] })
  (B : Nat) (e : TypeId) (ht : P.underlying t = some (.slice e)) (hinfo : (P.info? e).map (fun i => (i.zero, i.size, i.bytes)) = some (some (.int .u8 0), 1, 1))
  (v : Value) (n : Nat) (l : List UInt8) (hs : a.eval s = v) (hown : w.ownsRow B e 1 v n (bcells l)) (q : Value) (m : List UInt8) (hx : a.eval x = q) (hq : BRow w q m)
  (hroom : n + m.length ≤ 140737488355328) (hB : B ≤ w.heap.size)
  (hK : ∀ v' w1, w1.ownsRow B e 1 v' (n + m.length) (bcells (l ++ m)) → w.grownBy w1 v.ownBlock → (v'.ownBlock = v.ownBlock ∨ v'.ownBlock = some w.heap.size) → wpList P ops Q rest (a.put o.dst v') w1) :
  wpList P ops Q (o :: rest) a w := by
 obtain ⟨i0, hi, hz0, hz1, hz2⟩ := info_parts hinfo
 have main : ∀ ad c, q = .slice (some ad) m.length c → (∀ j u, (bcells m)[j]? = some u → w.cell? (ad.add j) = some u) → wpList P ops Q (o :: rest) a w := fun ad c hqe hc => by
  refine wpList_append_own_at w hgd s x t hop B e i0 (.int .u8 0) 1 1 ht hi hz0 hz1 hz2 rfl (by decide) v n (bcells l) hs hown ad m.length c (bcells m) (hx.trans hqe) (by rw [bcells_length, Nat.mul_one]) hc (bcells_oneCell m) (by unfold maxLen; omega) (by omega) hB ?_
  intro v' w1 g1 g2 _ g4
  exact hK v' w1 (by rw [bcells_append]; exact g1) g2 g4
 rcases hq with ⟨rfl, ao, cap, hqe⟩ | ⟨h0, g, off, c, hqe, hg, hc⟩
 ·cases ao with
  | none =>
   refine wpList_plain hgd fun K hKK => ?_
   have hrun := run_append_noneB (P := P) w B t o.type e i0 1 ht hi v n cap (bcells l) hown
   unfold Oper.wp
   have hx2 : a.eval x = .slice none 0 cap := hx.trans hqe
   simp [execOp, hop, resolve, invoke, builtin, hs, hx2, hrun, Result.andThen]
   exact hKK _ _ (hK v w (by rw [List.append_nil]; exact hown) ⟨rfl, rfl, rfl, Nat.le_refl _, fun _ _ _ => rfl⟩ (.inl rfl))
  | some ad => exact main ad cap hqe fun j u hj => by simp [bcells] at hj
 refine main _ _ hqe fun j u hj => ?_
 have hjl : j < m.length := by
  have := (List.getElem?_eq_some_iff.1 hj).1
  rwa [bcells_length] at this
 rw [Addr.add_lit, hc j hjl, ← hj]
 simp [bcells, List.getD, hjl]
theorem run_string_row {P : Program} (w : World) (src dst e : TypeId) (hs : P.underlying src = some (.slice e)) (he : P.underlying e = some (.int .u8)) (hd : P.underlying dst = some .string)
  {v : Value} {l : List UInt8} (h : BRow w v l) :
  (convert src dst v).run P w = .ok (.string ⟨l.toArray⟩) w := by
 rcases h with ⟨rfl, ao, cap, rfl⟩ | ⟨h0, g, off, cap, rfl, hg, hc⟩
 ·rw [run_convert_bytes_string w src dst e _ _ _ hs he hd]
  cases ao <;> simp [Conv.bytesToString] <;> rfl
 refine run_convert_bytes_back w src dst e ⟨g, off, none⟩ _ l hs he hd fun j hj => ?_
 rw [Addr.add_lit, hc j hj]
 simp [List.getD, hj]
theorem Tryz.infoByte : (Tryz.prog.info? 5).map (fun i => (i.zero, i.size, i.bytes)) = some (some (.int .u8 0), 1, 1) := by kernel_rfl
end Go.Proofs.YtidecdlaeomfoaaGreat
