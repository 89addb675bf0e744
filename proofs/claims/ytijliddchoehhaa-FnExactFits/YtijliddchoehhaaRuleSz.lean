/- Contracts of the laws' helpers that measure: texts in a row, rules. -/
import Derived.Test.YtijliddchoehhaaRows
import Derived.Test.YtijliddchoehhaaRuleRow
import Derived.Test.YtijliddchoehhaaRuleSpec2
namespace Go.Proofs.Ytijliddchoehhaa
open Go.RowKit
set_option linter.unusedVariables false

/-- What came in is no longer than a slice or a text may be. -/
def SMax (l : List ByteArray) : Prop := l.length ≤ maxLen ∧ ∀ x ∈ l, x.size ≤ maxLen
def RMax (l : List RV) : Prop := l.length ≤ maxLen ∧ ∀ r ∈ l, SMax r.ps
theorem getD_mem {l : List ByteArray} {k : Nat} (h : k < l.length) : l.getD k ByteArray.empty ∈ l := by
  rw [List.getD_eq_getElem?_getD, List.getElem?_eq_getElem h]
  exact List.getElem_mem _
theorem rget_mem {l : List RV} {k : Nat} (h : k < l.length) : l.getD k rv0 ∈ l := by
  rw [List.getD_eq_getElem?_getD, List.getElem?_eq_getElem h]
  exact List.getElem_mem _
theorem upto_next {l : List ByteArray} {k : Nat} {m : Int} (h : k < l.length) (h1 : ∀ x ∈ l.take k, (x.size : Int) ≤ m) (h2 : ((l.getD k ByteArray.empty).size : Int) ≤ m) : ∀ x ∈ l.take (k + 1), (x.size : Int) ≤ m := by
  intro x hx
  rw [btake_snoc l k h] at hx
  rcases List.mem_append.1 hx with h3 | h3
  · exact h1 x h3
  · rw [List.mem_singleton.1 h3]; exact h2
set_option maxHeartbeats 2000000 in
theorem szStringS (l : List ByteArray) (v : Value) (left : Int) (w : World) (h0 : 0 ≤ left) (h1 : left ≤ 1048576) (hm : SMax l) (h : StrRow w v l) :
    Calls Try.prog 25 #[v, .int .i64 left] w fun e w' => (∃ z : Int, e = .returned (.int .i64 z) ∧ -1 ≤ z ∧ z ≤ left ∧ (0 ≤ z → (l.length : Int) ≤ left ∧ ∀ x ∈ l, (x.size : Int) ≤ left)) ∧ w = w' := by
  obtain ⟨hml, hmx⟩ := hm
  unfold maxLen at hml
  have HMX : Hid (∀ x ∈ l, x.size ≤ maxLen) := hmx
  clear hmx
  by_cases hneg : left - (l.length : Int) < 0
  · obtain ⟨ao, cap, rfl⟩ := h.slice
    clear h
    go_enter Try.func25, Try.ntmps25
    go_wp2
    go_ret
    exact ⟨⟨-1, rfl, by omega, by omega, fun h => by omega⟩, rfl⟩
  · rcases h with ⟨rfl, ao, cap, rfl⟩ | ⟨hp, g, off, cap, rfl, hg, hc⟩
    · go_enter Try.func25, Try.ntmps25
      have hneg' : ¬ left < 0 := by omega
      go_wp2
      refine wp_loop_rounds 1 ?_
      rw [rounds_succ]
      go_wp2
      go_ret
      exact ⟨⟨left, rfl, by omega, by omega, fun _ => ⟨h0, fun x hx => by cases hx⟩⟩, rfl⟩
    · have HC : Hid (∀ i, i < l.length → w.cell? ⟨g, off + i, none⟩ = some (.string (l.getD i ByteArray.empty))) := hc
      clear hc
      have hz : ∃ z : Int, left - l.length = z ∧ 0 ≤ z ∧ z ≤ left := ⟨_, rfl, by omega, by omega⟩
      obtain ⟨z0, hz0, hz1, hz2⟩ := hz
      have hll : (l.length : Int) ≤ left := by omega
      clear hneg
      have hzn : ¬ z0 < 0 := by omega
      go_enter Try.func25, Try.ntmps25
      go_wp2
      clear hz0 hzn
      go_loop [1, 5] (fun a i => ∃ (k : Nat) (z : Int), k ≤ l.length ∧ i = .int .i64 k ∧ a = .int .i64 z ∧ 0 ≤ z ∧ z ≤ left ∧ Hid (∀ x ∈ l.take k, (x.size : Int) ≤ left)) (fun _ i => l.length - (intOf i).toNat)
      case atStart => exact ⟨0, z0, Nat.zero_le _, rfl, rfl, hz1, hz2, fun x hx => by cases hx⟩
      case round =>
        obtain ⟨k, z, hk, rfl, rfl, hy1, hy2, HX⟩ := hrel
        clear hz1 hz2
        by_cases hlt : k < l.length
        · have hki : (k : Int) < l.length := by omega
          have ca := HC.out k hlt
          have hx := HMX.out _ (getD_mem hlt)
          have HN : Hid (((l.getD k ByteArray.empty).size : Int) ≤ left → ∀ x ∈ l.take (k + 1), (x.size : Int) ≤ left) := fun h => upto_next hlt HX.out h
          clear HX
          generalize l.getD k ByteArray.empty = x at ca hx HN
          unfold maxLen at hx
          by_cases hn : z - (x.size : Int) < 0
          · clear HN
            go_wp2
            go_ret
            exact ⟨⟨-1, rfl, by omega, by omega, fun h => by omega⟩, rfl⟩
          · have HN2 : Hid (∀ x ∈ l.take (k + 1), (x.size : Int) ≤ left) := HN.out (by omega)
            clear HN
            go_wp2
            go_round
            case rel => exact ⟨k + 1, _, by omega, by go_num, rfl, by omega, by omega, HN2⟩
            case measure => simp [intOf]; omega
        · have hki : ¬ (k : Int) < l.length := by omega
          have HX2 : Hid (∀ x ∈ l, (x.size : Int) ≤ left) := by
            have := HX.out
            rw [show k = l.length by omega, List.take_length] at this
            exact this
          clear HX
          go_wp2
          go_ret
          exact ⟨⟨z, rfl, by omega, by omega, fun _ => by first | exact ⟨hll, HX2.out⟩ | exact HX2.out⟩, rfl⟩
set_option maxHeartbeats 2000000 in
theorem szRule (r : RV) (p : Value) (left : Int) (w : World) (h0 : 0 ≤ left) (h1 : left ≤ 1048576) (hm : SMax r.ps) (h : StrRow w p r.ps) :
    Calls Try.prog 13 #[.agg #[p, .bool r.ex], .int .i64 left] w fun e w' => (∃ z : Int, e = .returned (.int .i64 z) ∧ -1 ≤ z ∧ z ≤ left ∧ (0 ≤ z → (r.ps.length : Int) ≤ left ∧ ∀ x ∈ r.ps, (x.size : Int) ≤ left)) ∧ Below w.heap.size w w' := by
  have hbO : Below w.heap.size w (w.alloc (.cells #[p, .bool r.ex] 32)) := (Below.refl _ _).alloc (Nat.le_refl _) _
  have CS : Hid (Calls Try.prog 25 #[p, .int .i64 left] (w.alloc (.cells #[p, .bool r.ex] 32)) _) := szStringS r.ps p left _ h0 h1 hm (h.below hbO)
  clear hm h
  go_enter Try.func13, Try.ntmps13
  go_wp2_with fail
  refine CS.out.mono ?_
  rintro e w1 ⟨⟨z, rfl, hz1, hz2, hz3⟩, rfl⟩
  have HZ : Hid (0 ≤ z → (r.ps.length : Int) ≤ left ∧ ∀ x ∈ r.ps, (x.size : Int) ≤ left) := hz3
  clear hz3 CS
  by_cases hn : z < 0
  · go_wp2_with fail
    go_ret
    exact ⟨⟨-1, rfl, by omega, by omega, fun h => by omega⟩, hbO⟩
  · go_wp2_with fail
    go_ret
    exact ⟨⟨z, rfl, hz1, hz2, HZ.out⟩, hbO⟩
theorem rsz_next {l : List RV} {k : Nat} (h : k < l.length) (h1 : RSz (l.take k)) (h2 : (l.getD k rv0).ps.length ≤ 2097152 ∧ ∀ x ∈ (l.getD k rv0).ps, x.size ≤ 1048576) : RSz (l.take (k + 1)) := by
  intro r hr
  rw [List.take_succ_eq_append_getElem h] at hr
  rcases List.mem_append.1 hr with h3 | h3
  · exact h1 r h3
  · rw [List.getD_eq_getElem?_getD, List.getElem?_eq_getElem h] at h2
    rw [List.mem_singleton.1 h3]
    exact h2
set_option maxHeartbeats 2000000 in
theorem szRules (l : List RV) (v : Value) (left : Int) (w : World) (h0 : 0 ≤ left) (h1 : left ≤ 1048576) (hm : RMax l) (h : RuleRow w v l) :
    Calls Try.prog 6 #[v, .int .i64 left] w fun e w' => (∃ z : Int, e = .returned (.int .i64 z) ∧ -1 ≤ z ∧ z ≤ left ∧ (0 ≤ z → l.length ≤ 1048576 ∧ RSz l)) ∧ Below w.heap.size w w' := by
  obtain ⟨hml, hmx⟩ := hm
  unfold maxLen at hml
  have HMX : Hid (∀ r ∈ l, SMax r.ps) := hmx
  clear hmx
  by_cases hneg : left - (l.length : Int) < 0
  · obtain ⟨ao, cap, rfl⟩ := h.slice
    clear h
    go_enter Try.func6, Try.ntmps6
    go_wp2
    go_ret
    exact ⟨⟨-1, rfl, by omega, by omega, fun h => by omega⟩, Below.refl _ _⟩
  · rcases h with ⟨rfl, ao, cap, rfl⟩ | ⟨hp, g, off, cap, rfl, hg, hc⟩
    · go_enter Try.func6, Try.ntmps6
      have hneg' : ¬ left < 0 := by omega
      go_wp2
      refine wp_loop_rounds 1 ?_
      rw [rounds_succ]
      go_wp2
      go_ret
      exact ⟨⟨left, rfl, by omega, by omega, fun _ => ⟨Nat.zero_le _, fun x hx => by cases hx⟩⟩, Below.refl _ _⟩
    · have HC : Hid (∀ i, i < l.length → ∃ p, w.cell? ⟨g, off + i * 2, none⟩ = some p ∧ StrRow w p (l.getD i rv0).ps ∧ w.cell? ⟨g, off + i * 2 + 1, none⟩ = some (.bool (l.getD i rv0).ex)) := hc
      clear hc
      have hz : ∃ z : Int, left - l.length = z ∧ 0 ≤ z ∧ z ≤ left := ⟨_, rfl, by omega, by omega⟩
      obtain ⟨z0, hz0, hz1, hz2⟩ := hz
      have hll : (l.length : Int) ≤ left := by omega
      clear hneg
      have hzn : ¬ z0 < 0 := by omega
      go_enter Try.func6, Try.ntmps6
      go_wp2
      clear hz0 hzn
      go_loopw [1, 5] (fun a i wr => ∃ (k : Nat) (z : Int), k ≤ l.length ∧ i = .int .i64 k ∧ a = .int .i64 z ∧ 0 ≤ z ∧ z ≤ left ∧ Hid (RSz (l.take k)) ∧ Below w.heap.size w wr) (fun _ i _ => l.length - (intOf i).toNat)
      case atStart => exact ⟨0, z0, Nat.zero_le _, rfl, rfl, hz1, hz2, (fun x hx => by cases hx), Below.refl _ _⟩
      case round =>
        obtain ⟨k, z, hk, rfl, rfl, hy1, hy2, HX, hbel⟩ := hrel
        clear hz1 hz2
        by_cases hlt : k < l.length
        · have hki : (k : Int) < l.length := by omega
          obtain ⟨p, c1, c2, c3⟩ := HC.out k hlt
          have c1w := (hbel.cell (p := ⟨g, off + k * 2, none⟩) hg).trans c1
          have c3w := (hbel.cell (p := ⟨g, off + k * 2 + 1, none⟩) hg).trans c3
          have CR : Hid (Calls Try.prog 13 #[.agg #[p, .bool (l.getD k rv0).ex], .int .i64 z] wr _) := szRule (l.getD k rv0) p z wr hy1 (by omega) (HMX.out _ (rget_mem hlt)) (c2.below hbel)
          have HN : Hid (((l.getD k rv0).ps.length : Int) ≤ z ∧ (∀ x ∈ (l.getD k rv0).ps, (x.size : Int) ≤ z) → RSz (l.take (k + 1))) := fun h => rsz_next hlt HX.out ⟨by omega, fun x hx => by have := h.2 x hx; omega⟩
          clear c1 c2 c3 HX
          generalize l.getD k rv0 = r at *
          go_wp2_with fail
          refine CR.out.mono ?_
          rintro e w1 ⟨⟨z', rfl, h1', h2', h3'⟩, b1⟩
          have HZ : Hid (0 ≤ z' → (r.ps.length : Int) ≤ z ∧ ∀ x ∈ r.ps, (x.size : Int) ≤ z) := h3'
          have B1 := hbel.trans (b1.mono hbel.size)
          clear h3' CR b1 hbel c1w c3w
          by_cases hn : z' < 0
          · clear HN
            go_wp2_with fail
            go_ret
            exact ⟨⟨-1, rfl, by omega, by omega, fun h => by omega⟩, B1⟩
          · have HN2 : Hid (RSz (l.take (k + 1))) := HN.out (HZ.out (by omega))
            clear HN HZ
            go_wp2_with fail
            go_roundw
            case rel => exact ⟨k + 1, _, by omega, by go_num, rfl, by omega, by omega, HN2, B1⟩
            case measure => simp [intOf]; omega
        · have hki : ¬ (k : Int) < l.length := by omega
          have HX2 : Hid (RSz l) := by
            have := HX.out
            rw [show k = l.length by omega, List.take_length] at this
            exact this
          clear HX
          go_wp2_with fail
          go_ret
          exact ⟨⟨z, rfl, by omega, by omega, fun _ => ⟨by omega, HX2.out⟩⟩, hbel⟩
end Go.Proofs.Ytijliddchoehhaa
