/- Two acts held against each other: by the language's own '==', and by the laws' helpers. -/
import Derived.Test.YtfigkoapebdlfaaRows
import Derived.Test.YtfigkoapebdlfaaActRow
import Derived.Test.YtfigkoapebdlfaaBlockAt
import Derived.ChangeKeysEq
import Derived.Laws.StructEq
import Derived.Handy
import Derived.Deep.DeepCutAuto
import Derived.Deep.RegionWith
namespace Go.Proofs.Ytfigkoapebdlfaa
open Go.RowKit
set_option linter.unusedVariables false

theorem aeq_int (d : Nat) (x y : Int) (W : World) : (Op.equalIn (d + 1) 3 (.int .i64 x) (.int .i64 y)).run Try.prog W = .ok (x == y) W := run_equalIn_int W d 3 .i64 .i64 x y Try.underlying3
theorem aeq_str (d : Nat) (x y : ByteArray) (W : World) : (Op.equalIn (d + 1) 9 (.string x) (.string y)).run Try.prog W = .ok (x.toList == y.toList) W := run_equalIn_string W d 9 x y Try.underlying9
def eqAB (k : Int) (t b : ByteArray) (n : Int) (k' : Int) (t' b' : ByteArray) (n' : Int) : Bool := (k == k') && ((t.toList == t'.toList) && ((b.toList == b'.toList) && (n == n')))
theorem eqAB_self (k : Int) (t b : ByteArray) (n : Int) : eqAB k t b n k t b n = true := by simp [eqAB]
theorem act_fields : ((Try.prog.fieldsOf 26).toList.map fun f => (f.type, f.offset, decide (f.name ≠ "_"))) = [(3, 0, true), (9, 1, true), (9, 2, true), (3, 3, true)] := by kernel_rfl
theorem afields_step (d : Nat) (f : Field) (fs : List Field) (xs ys : Array Value) (a b : Value) (r : Bool) (W : World) (hn : f.name ≠ "_") (h1 : (part f.type xs f.offset).run Try.prog W = .ok a W) (h2 : (part f.type ys f.offset).run Try.prog W = .ok b W) (h3 : (Op.equalIn d f.type a b).run Try.prog W = .ok r W) :
    (Op.eqFields d xs ys (f :: fs)).run Try.prog W = if r = true then (Op.eqFields d xs ys fs).run Try.prog W else .ok false W := by
  simp only [Op.eqFields, hn, ne_eq, not_false_eq_true, if_true, Sem.run_bind, h1, h2, h3, Result.andThen_ok]
  cases r <;> simp
theorem apart0 (k n : Int) (s b : ByteArray) (W : World) : (part 3 #[.int .i64 k, .string s, .string b, .int .i64 n] 0).run Try.prog W = .ok (.int .i64 k) W := by kernel_rfl
theorem apart1 (k n : Int) (s b : ByteArray) (W : World) : (part 9 #[.int .i64 k, .string s, .string b, .int .i64 n] 1).run Try.prog W = .ok (.string s) W := by kernel_rfl
theorem apart2 (k n : Int) (s b : ByteArray) (W : World) : (part 9 #[.int .i64 k, .string s, .string b, .int .i64 n] 2).run Try.prog W = .ok (.string b) W := by kernel_rfl
theorem apart3 (k n : Int) (s b : ByteArray) (W : World) : (part 3 #[.int .i64 k, .string s, .string b, .int .i64 n] 3).run Try.prog W = .ok (.int .i64 n) W := by kernel_rfl
theorem eqActV (k : Int) (t b : ByteArray) (n : Int) (k' : Int) (t' b' : ByteArray) (n' : Int) (W : World) :
    (Op.equalIn 10000 26 (.agg #[.int .i64 k, .string t, .string b, .int .i64 n]) (.agg #[.int .i64 k', .string t', .string b', .int .i64 n'])).run Try.prog W = .ok (eqAB k t b n k' t' b' n') W := by
  rw [show (10000 : Nat) = 9999 + 1 from rfl, run_equalIn_struct W 9999 26 _ _ (by kernel_rfl) (by kernel_rfl)]
  have hf := act_fields
  generalize (Try.prog.fieldsOf 26).toList = fs at hf
  obtain ⟨f0, r0, rfl, e0, hf⟩ := List.map_eq_cons_iff.1 hf
  obtain ⟨f1, r1, rfl, e1, hf⟩ := List.map_eq_cons_iff.1 hf
  obtain ⟨f2, r2, rfl, e2, hf⟩ := List.map_eq_cons_iff.1 hf
  obtain ⟨f3, r3, rfl, e3, hf⟩ := List.map_eq_cons_iff.1 hf
  obtain rfl := List.map_eq_nil_iff.1 hf
  simp only [Prod.mk.injEq, decide_eq_true_eq] at e0 e1 e2 e3
  obtain ⟨a0, a1, a2⟩ := e0
  obtain ⟨b0, b1, b2⟩ := e1
  obtain ⟨c0, c1, c2⟩ := e2
  obtain ⟨d0, d1, d2⟩ := e3
  rw [afields_step 9999 f0 _ _ _ (.int .i64 k) (.int .i64 k') (k == k') W a2 (by rw [a0, a1]; exact apart0 ..) (by rw [a0, a1]; exact apart0 ..) (by rw [a0]; exact aeq_int 9998 ..),
    afields_step 9999 f1 _ _ _ (.string t) (.string t') (t.toList == t'.toList) W b2 (by rw [b0, b1]; exact apart1 ..) (by rw [b0, b1]; exact apart1 ..) (by rw [b0]; exact aeq_str 9998 ..),
    afields_step 9999 f2 _ _ _ (.string b) (.string b') (b.toList == b'.toList) W c2 (by rw [c0, c1]; exact apart2 ..) (by rw [c0, c1]; exact apart2 ..) (by rw [c0]; exact aeq_str 9998 ..),
    afields_step 9999 f3 _ _ _ (.int .i64 n) (.int .i64 n') (n == n') W d2 (by rw [d0, d1]; exact apart3 ..) (by rw [d0, d1]; exact apart3 ..) (by rw [d0]; exact aeq_int 9998 ..)]
  unfold eqAB
  cases (k == k') <;> cases (t.toList == t'.toList) <;> cases (b.toList == b'.toList) <;> cases (n == n') <;> rfl

set_option maxHeartbeats 2000000 in
theorem eqActL (x : AV) (w : World) :
    Calls Try.prog 20 #[.agg #[.int .i64 x.k, .string x.t, .string x.b, .int .i64 x.n], .agg #[.int .i64 x.k, .string x.t, .string x.b, .int .i64 x.n]] w fun e w' => e = .returned (.bool true) ∧ Below w.heap.size w w' := by
  obtain ⟨a, s, r, b⟩ := x
  have hbO : Below w.heap.size w ((w.alloc (.cells #[.int .i64 a, .string s, .string r, .int .i64 b] 26)).alloc (.cells #[.int .i64 a, .string s, .string r, .int .i64 b] 26)) := ((Below.refl _ _).alloc (Nat.le_refl _) _).alloc (by simp) _
  dsimp only
  go_enter Try.func20, Try.ntmps20
  go_wp2_with fail
  go_ret
  exact ⟨rfl, by first | exact hbO | exact below_drewN hbO _ | exact hbO.drew | exact hbO.drew.drew⟩
set_option maxHeartbeats 4000000 in
theorem eqActs (l : List AV) (va vb : Value) (w : World) (hl : l.length ≤ 1099511627776) (ha : ActRow w va l) (hb : ActRow w vb l) :
    Calls Try.prog 25 #[va, vb] w fun e w' => e = .returned (.bool true) ∧ Below w.heap.size w w' := by
  rcases ha with ⟨rfl, ao, cap, rfl⟩ | ⟨h0, g, off, cap, rfl, hg, hc⟩
  · obtain ⟨bo, cap', rfl⟩ := hb.slice
    clear hb hl
    go_enter Try.func25, Try.ntmps25
    go_wp2
    refine wp_loop_rounds 1 ?_
    rw [rounds_succ]
    go_wp2
    go_ret
    exact ⟨rfl, Below.refl _ _⟩
  · rcases hb with ⟨rfl, _⟩ | ⟨_, g', off', cap', rfl, hg', hc'⟩
    · exact absurd h0 (by simp)
    · have HC : Hid (∀ i, i < l.length → ActAt w g (off + i * 4) (l.getD i av0)) := hc
      have HC' : Hid (∀ i, i < l.length → ActAt w g' (off' + i * 4) (l.getD i av0)) := hc'
      clear hc hc'
      go_enter Try.func25, Try.ntmps25
      go_wp2
      go_loopw [5] (fun i wr => ∃ k : Nat, k ≤ l.length ∧ i = .int .i64 k ∧ Below w.heap.size w wr) (fun i _ => l.length - (intOf i).toNat)
      case atStart => exact ⟨0, Nat.zero_le _, rfl, Below.refl _ _⟩
      case round =>
        obtain ⟨k, hk, rfl, hbel⟩ := hrel
        by_cases hlt : k < l.length
        · have hki : (k : Int) < l.length := by omega
          obtain ⟨c0, c1, c2, c3⟩ := (HC.out k hlt).below hbel hg
          obtain ⟨d0, d1, d2, d3⟩ := (HC'.out k hlt).below hbel hg'
          have CE : Hid (∀ W, Calls Try.prog 20 #[.agg #[.int .i64 (l.getD k av0).k, .string (l.getD k av0).t, .string (l.getD k av0).b, .int .i64 (l.getD k av0).n], .agg #[.int .i64 (l.getD k av0).k, .string (l.getD k av0).t, .string (l.getD k av0).b, .int .i64 (l.getD k av0).n]] W fun e w' => e = .returned (.bool true) ∧ Below W.heap.size W w') := fun W => eqActL _ W
          generalize (l.getD k av0).k = x0 at *
          generalize (l.getD k av0).t = x1 at *
          generalize (l.getD k av0).b = x2 at *
          generalize (l.getD k av0).n = x3 at *
          go_wp2_with fail
          go_region_with (go_at_call 20; refine (CE.out _).mono ?_; rintro e wc ⟨rfl, hbc⟩)
          all_goals
            have B1 := hbel.drew.trans (hbc.mono hbel.size)
            clear hbc CE
            go_wp2_with fail
            refine ⟨⟨k + 1, by omega, by go_num, B1⟩, ?_⟩
            simp [intOf]
            omega
        · have hki : ¬ (k : Int) < l.length := by omega
          go_wp2_with fail
          go_ret
          exact ⟨rfl, hbel⟩
end Go.Proofs.Ytfigkoapebdlfaa
