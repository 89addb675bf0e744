/- Contracts of the code's small functions of queues. -/
import Derived.Test.YtcjblhiihgdljaaGreatRows
import Derived.Test.YtcjblhiihgdljaaGreatSchPlain
import Derived.Test.YtcjblhiihgdljaaGreatSumZ
import Derived.Test.YtcjblhiihgdljaaGreatBlockAt
import Derived.Test.YtcjblhiihgdljaaGreatShelf
import Derived.Handy
import Derived.Deep.DeepCutAuto
import Derived.Deep.RegionWith
import Derived.Deep.RegionHeld3
namespace Go.Proofs.YtcjblhiihgdljaaGreat
open Go.RowKit
set_option linter.unusedVariables false

/-- The truth b tells whether p. -/
def BIs (b : Bool) (p : Prop) : Prop := b = true ↔ p
theorem BIs.yes {p : Prop} (h : p) : BIs true p := ⟨fun _ => h, fun _ => rfl⟩
theorem BIs.no {p : Prop} (h : ¬ p) : BIs false p := ⟨(fun e => by cases e), fun e => absurd e h⟩
theorem BIs.pos {p : Prop} (h : BIs true p) : p := h.1 rfl
theorem BIs.neg {p : Prop} (h : BIs false p) : ¬ p := fun e => by have := h.2 e; cases this
theorem BIs.eq {b c : Bool} {p : Prop} (h : BIs b p) (k : BIs c p) : b = c := by
  cases b <;> cases c
  · rfl
  · exact absurd k.pos h.neg
  · exact absurd h.pos k.neg
  · rfl
theorem BIs.iff {b : Bool} {p q : Prop} (h : BIs b p) (k : p ↔ q) : BIs b q := Iff.trans h k
/-- A truth that tells whether p is answered; nothing that was has turned. -/
def AnsB (p : Prop) (w : World) (e : Ending) (w' : World) : Prop := ∃ b, e = .returned (.bool b) ∧ BIs b p ∧ Below w.heap.size w w'
theorem AnsB.mk {p : Prop} {w w' : World} {b : Bool} (h : BIs b p) (hb : Below w.heap.size w w') : AnsB p w (.returned (.bool b)) w' := ⟨b, rfl, h, hb⟩
theorem AnsB.iff {p q : Prop} {w w' : World} {e : Ending} (h : AnsB p w e w') (k : p ↔ q) : AnsB q w e w' := by
  obtain ⟨b, h1, h2, h3⟩ := h
  exact ⟨b, h1, h2.iff k, h3⟩
/-- Each stands ahead of the next one. -/
def Adj {α : Type} (rel : α → α → Bool) (d : α) (l : List α) : Prop := ∀ i, 0 < i → i < l.length → rel (l.getD (i - 1) d) (l.getD i d) = true
theorem implFromTo (n a b : Int) (W : World) : Calls Tryz.prog 74 #[.int .i64 n, .int .i64 a, .int .i64 b] W fun e w' => e = .returned (.bool (inB n a b)) ∧ W = w' := by
  unfold inB
  by_cases h : a ≤ n
  · have h0 : a ≤ n := h
    go_enter Tryz.func74, Tryz.ntmps74
    go_wp2_with fail
    go_ret
    exact ⟨by rw [decide_eq_true h]; rfl, rfl⟩
  · go_enter Tryz.func74, Tryz.ntmps74
    go_wp2_with fail
    go_ret
    exact ⟨by rw [decide_eq_false (show ¬ a ≤ n by omega)]; rfl, rfl⟩
theorem implIsPrio (n : Int) (W : World) : Calls Tryz.prog 111 #[.int .i64 n] W fun e w' => e = .returned (.bool (inB n 0 1000)) ∧ W = w' := by
  have C := hidM (implFromTo n 0 1000 W)
  generalize inB n 0 1000 = b at *
  go_enter Tryz.func111, Tryz.ntmps111
  go_wp2_with fail
  refine C.out.mono ?_
  rintro e w1 ⟨rfl, rfl⟩
  go_wp2_with fail
  go_ret
  exact ⟨rfl, rfl⟩
def timesB (d sp nw sq : Int) : Bool := inB d 1 1000 && (inB sp 1 10000 && (inB nw 0 100000000 && inB sq 0 1000000))
theorem timesB_iff {d sp nw sq : Int} : timesB d sp nw sq = true ↔ 1 ≤ d ∧ d ≤ 1000 ∧ 1 ≤ sp ∧ sp ≤ 10000 ∧ 0 ≤ nw ∧ nw ≤ 100000000 ∧ 0 ≤ sq ∧ sq ≤ 1000000 := by
  unfold timesB
  simp only [Bool.and_eq_true, inB_iff]
  omega
set_option maxHeartbeats 4000000 in
theorem implTimesOk (d sp nw sq : Int) (p q : Value) (w : World) : Calls Tryz.prog 53 #[.agg #[.int .i64 d, .int .i64 sp, .int .i64 nw, .int .i64 sq, p, q]] w fun e w' => e = .returned (.bool (timesB d sp nw sq)) ∧ Below w.heap.size w w' := by
  unfold timesB
  have bO : Below w.heap.size w (w.alloc (.cells #[.int .i64 d, .int .i64 sp, .int .i64 nw, .int .i64 sq, p, q] 27)) := (Below.refl _ _).alloc (Nat.le_refl _) _
  have C1 : Hid (∀ W, Calls Tryz.prog 74 #[.int .i64 d, .int .i64 1, .int .i64 1000] W fun e w' => e = .returned (.bool (inB d 1 1000)) ∧ W = w') := fun W => implFromTo _ _ _ W
  have C2 : Hid (∀ W, Calls Tryz.prog 74 #[.int .i64 sp, .int .i64 1, .int .i64 10000] W fun e w' => e = .returned (.bool (inB sp 1 10000)) ∧ W = w') := fun W => implFromTo _ _ _ W
  have C3 : Hid (∀ W, Calls Tryz.prog 74 #[.int .i64 nw, .int .i64 0, .int .i64 100000000] W fun e w' => e = .returned (.bool (inB nw 0 100000000)) ∧ W = w') := fun W => implFromTo _ _ _ W
  have C4 : Hid (∀ W, Calls Tryz.prog 74 #[.int .i64 sq, .int .i64 0, .int .i64 1000000] W fun e w' => e = .returned (.bool (inB sq 0 1000000)) ∧ W = w') := fun W => implFromTo _ _ _ W
  generalize inB d 1 1000 = b1 at *
  generalize inB sp 1 10000 = b2 at *
  generalize inB nw 0 100000000 = b3 at *
  generalize inB sq 0 1000000 = b4 at *
  go_enter Tryz.func53, Tryz.ntmps53
  go_wp2_with fail
  refine (C1.out _).mono ?_
  rintro e w1 ⟨rfl, rfl⟩
  cases b1 with
  | false =>
    go_wp2_with fail
    go_ret
    exact ⟨rfl, bO⟩
  | true =>
    go_wp2_with fail
    refine (C2.out _).mono ?_
    rintro e w2 ⟨rfl, rfl⟩
    cases b2 with
    | false =>
      go_wp2_with fail
      go_ret
      exact ⟨rfl, bO⟩
    | true =>
      go_wp2_with fail
      refine (C3.out _).mono ?_
      rintro e w3 ⟨rfl, rfl⟩
      cases b3 with
      | false =>
        go_wp2_with fail
        go_ret
        exact ⟨rfl, bO⟩
      | true =>
        go_wp2_with fail
        refine (C4.out _).mono ?_
        rintro e w4 ⟨rfl, rfl⟩
        go_wp2_with fail
        go_ret
        exact ⟨rfl, bO⟩
/-- How two that wait compare. -/
def turnZ (a b : WtV) : Int := if Lib.compareInt b.p a.p = 0 then Lib.compareInt a.q b.q else Lib.compareInt b.p a.p
theorem turn_neg (a b : WtV) : turnZ a b < 0 ↔ wBef a b = true := by
  rw [wBef_iff]
  unfold turnZ Lib.compareInt
  split <;> split <;> (try split) <;> omega
theorem turn_bound (a b : WtV) : -1 ≤ turnZ a b ∧ turnZ a b ≤ 1 := by
  unfold turnZ Lib.compareInt
  split <;> split <;> (try split) <;> omega
set_option maxHeartbeats 4000000 in
theorem implOr2 (a b : Int) (B : Nat) (O : World) (AO : BAt O B [.int .i64 a, .int .i64 b]) :
    Calls Tryz.prog 138 #[.slice (some ⟨B, 0, none⟩) 2 2] O fun e w' => e = .returned (.int .i64 (if a = 0 then b else a)) ∧ w' = O := by
  have c0 := AO.1 0 _ rfl
  have c1 := AO.1 1 _ rfl
  by_cases ha : a = 0
  · have ha2 : (a == 0) = true := by simp [ha]
    by_cases hb : b = 0
    · subst ha hb
      go_enter Tryz.func138, Tryz.ntmps138
      go_wp2
      refine wp_loop_rounds 3 ?_
      rw [rounds_succ]
      go_wp2
      rw [rounds_succ]
      go_wp2
      rw [rounds_succ]
      go_wp2
      go_ret
      exact ⟨rfl, rfl⟩
    · subst ha
      go_enter Tryz.func138, Tryz.ntmps138
      go_wp2
      refine wp_loop_rounds 2 ?_
      rw [rounds_succ]
      go_wp2
      rw [rounds_succ]
      go_wp2
      go_ret
      exact ⟨rfl, rfl⟩
  · rw [if_neg ha]
    go_enter Tryz.func138, Tryz.ntmps138
    go_wp2
    refine wp_loop_rounds 1 ?_
    rw [rounds_succ]
    go_wp2
    go_ret
    exact ⟨rfl, rfl⟩
theorem implBySiteName (a : ByteArray) (i : Int) (p : Value) (b : ByteArray) (j : Int) (q : Value) (W : World) :
    Calls Tryz.prog 108 #[.agg #[.string a, .int .i64 i, p], .agg #[.string b, .int .i64 j, q]] W fun e w' => e = .returned (.int .i64 (Lib.compareBytes a.data.toList b.data.toList)) ∧ Below W.heap.size W w' := by
  have hbO : Below W.heap.size W ((W.alloc (.cells #[.string a, .int .i64 i, p] 43)).alloc (.cells #[.string b, .int .i64 j, q] 43)) := ((Below.refl _ _).alloc (Nat.le_refl _) _).alloc (by simp) _
  have CC : Hid (∀ W, Calls Tryz.prog 100 #[.string a, .string b] W fun e w' => e = .returned (.int .i64 (Lib.compareBytes a.data.toList b.data.toList)) ∧ w' = W) := fun W => Tryz.strings_Compare a b W
  generalize Lib.compareBytes a.data.toList b.data.toList = z at *
  go_enter Tryz.func108, Tryz.ntmps108
  go_wp2_with fail
  refine (CC.out _).mono ?_
  rintro e w1 ⟨rfl, rfl⟩
  go_wp2_with fail
  go_ret
  exact ⟨rfl, hbO⟩
theorem implByLeaseKey (x y : LsV) (W : World) :
    Calls Tryz.prog 113 #[.agg #[.string x.k, .string x.s, .int .i64 x.p, .int .i64 x.u], .agg #[.string y.k, .string y.s, .int .i64 y.p, .int .i64 y.u]] W fun e w' => e = .returned (.int .i64 (Lib.compareBytes x.k.data.toList y.k.data.toList)) ∧ Below W.heap.size W w' := by
  have hbO : Below W.heap.size W ((W.alloc (.cells #[.string x.k, .string x.s, .int .i64 x.p, .int .i64 x.u] 51)).alloc (.cells #[.string y.k, .string y.s, .int .i64 y.p, .int .i64 y.u] 51)) := ((Below.refl _ _).alloc (Nat.le_refl _) _).alloc (by simp) _
  have CC : Hid (∀ W, Calls Tryz.prog 100 #[.string x.k, .string y.k] W fun e w' => e = .returned (.int .i64 (Lib.compareBytes x.k.data.toList y.k.data.toList)) ∧ w' = W) := fun W => Tryz.strings_Compare x.k y.k W
  generalize Lib.compareBytes x.k.data.toList y.k.data.toList = z at *
  go_enter Tryz.func113, Tryz.ntmps113
  go_wp2_with fail
  refine (CC.out _).mono ?_
  rintro e w1 ⟨rfl, rfl⟩
  go_wp2_with fail
  go_ret
  exact ⟨rfl, hbO⟩
set_option maxHeartbeats 8000000 in
theorem implByTurn (x y : WtV) (W : World) :
    Calls Tryz.prog 96 #[.agg #[.string x.k, .int .i64 x.p, .int .i64 x.q], .agg #[.string y.k, .int .i64 y.p, .int .i64 y.q]] W fun e w' => e = .returned (.int .i64 (turnZ x y)) ∧ Below W.heap.size W w' := by
  obtain ⟨xk, xp, xq⟩ := x
  obtain ⟨yk, yp, yq⟩ := y
  dsimp only
  obtain ⟨O, hO⟩ : ∃ O, O = (W.alloc (.cells #[.string xk, .int .i64 xp, .int .i64 xq] 83)).alloc (.cells #[.string yk, .int .i64 yp, .int .i64 yq] 83) := ⟨_, rfl⟩
  have bO : Below W.heap.size W O := by rw [hO]; exact ((Below.refl _ _).alloc (Nat.le_refl _) _).alloc (by simp) _
  have A0 : BAt O W.heap.size [.string xk, .int .i64 xp, .int .i64 xq] := by rw [hO]; exact (BAt.new W #[.string xk, .int .i64 xp, .int .i64 xq] _).alloc _
  have A1 : BAt O (W.heap.size + 1) [.string yk, .int .i64 yp, .int .i64 yq] := by
    rw [hO]
    have := BAt.new (W.alloc (.cells #[.string xk, .int .i64 xp, .int .i64 xq] 83)) #[.string yk, .int .i64 yp, .int .i64 yq] 83
    rwa [World.size_alloc] at this
  have c1 := A0.1 1 _ rfl
  have c2 := A0.1 2 _ rfl
  have d1 := A1.1 1 _ rfl
  have d2 := A1.1 2 _ rfl
  have n1 := World.new_ne O _ c1
  have n2 := World.new_ne O _ c2
  have n3 := World.new_ne O _ d1
  have n4 := World.new_ne O _ d2
  have C1 : Hid (∀ V, Calls Tryz.prog 139 #[.int .i64 yp, .int .i64 xp] V fun e w' => e = .returned (.int .i64 (Lib.compareInt yp xp)) ∧ w' = V) := fun V => Tryz.cmp_Compare_int yp xp V
  have C2 : Hid (∀ V, Calls Tryz.prog 139 #[.int .i64 xq, .int .i64 yq] V fun e w' => e = .returned (.int .i64 (Lib.compareInt xq yq)) ∧ w' = V) := fun V => Tryz.cmp_Compare_int xq yq V
  have HT : Hid (turnZ ⟨xk, xp, xq⟩ ⟨yk, yp, yq⟩ = if Lib.compareInt yp xp = 0 then Lib.compareInt xq yq else Lib.compareInt yp xp) := rfl
  generalize turnZ ⟨xk, xp, xq⟩ ⟨yk, yp, yq⟩ = T at *
  generalize Lib.compareInt yp xp = z1 at *
  generalize Lib.compareInt xq yq = z2 at *
  have C3 : Hid (Calls Tryz.prog 138 #[.slice (some ⟨O.heap.size, 0, none⟩) 2 2] (O.alloc (.cells #[.int .i64 z1, .int .i64 z2] 3)).drew fun e w' => e = .returned (.int .i64 T) ∧ w' = (O.alloc (.cells #[.int .i64 z1, .int .i64 z2] 3)).drew) := by show Calls _ _ _ _ _; rw [HT.out]; exact implOr2 z1 z2 _ _ (BAt.new O #[.int .i64 z1, .int .i64 z2] 3)
  clear HT
  go_enter Tryz.func96, Tryz.ntmps96
  go_upto_region 1 with fail
  rw [← hO]
  clear hO
  go_wp2_with fail
  go_region_held3 (fun w' => w'.cell? ⟨W.heap.size + 1, 1, none⟩ = some (.int .i64 yp) ∧ w'.cell? ⟨W.heap.size, 1, none⟩ = some (.int .i64 xp) ∧ w'.cell? ⟨W.heap.size, 2, none⟩ = some (.int .i64 xq) ∧ w'.cell? ⟨W.heap.size + 1, 2, none⟩ = some (.int .i64 yq)) (go_keep) (first
    | (go_at_call 139; first | ((with_reducible refine (C1.out _).mono ?_); rintro e wc ⟨rfl, rfl⟩) | ((with_reducible refine (C2.out _).mono ?_); rintro e wc ⟨rfl, rfl⟩))
    | (go_at_call 138; refine C3.out.mono ?_; rintro e wc ⟨rfl, rfl⟩))
  all_goals
    go_wp2_with fail
    go_ret
    exact ⟨rfl, (bO.alloc bO.size _).drew⟩
end Go.Proofs.YtcjblhiihgdljaaGreat
