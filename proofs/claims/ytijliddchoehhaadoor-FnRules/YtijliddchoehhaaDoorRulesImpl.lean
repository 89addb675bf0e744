/- Contracts of the code's chapter 10: which rules are right. -/
import Derived.Test.YtijliddchoehhaaDoorRows
import Derived.Test.YtijliddchoehhaaDoorRuleSpec2
import Derived.Test.YtijliddchoehhaaDoorBlockAt
import Derived.Handy
import Derived.Deep.DeepCutAuto
namespace Go.Proofs.YtijliddchoehhaaDoor
open Go.RowKit
set_option linter.unusedVariables false

def joinB (l : List RV) (r : RV) : Bool := decide (l.length < 60) && ruleB r && !(l.any fun x => sameB x r)
theorem any_take {l : List RV} (f : RV → Bool) : ∀ {i : Nat}, i ≤ l.length → (l.take i).any f = !((List.range i).all fun k => !f (l.getD k rv0))
  | 0, _ => by simp
  | i + 1, h => by
    rw [List.take_succ_eq_append_getElem (by omega), List.any_append, any_take f (i := i) (by omega), all_range_succ]
    have e : l.getD i rv0 = l[i] := by rw [List.getD_eq_getElem?_getD, List.getElem?_eq_getElem (by omega)]; rfl
    rw [e]
    simp
theorem join_new {l : List RV} {i : Nat} (hi : i < l.length) : joinB (l.take i) (l.getD i rv0) = (decide (i < 60) && newB l i) := by
  unfold joinB newB
  rw [any_take (fun x => sameB x (l.getD i rv0)) (by omega), List.length_take, Nat.min_eq_left (by omega), Bool.not_not, Bool.and_assoc]
  rfl
theorem rules_join_yes {l : List RV} (h : ∀ i, i < l.length → joinB (l.take i) (l.getD i rv0) = true) : rulesB l = true := by
  rw [rulesB_all fun i hi => ?_]
  · refine decide_eq_true ?_
    by_cases h6 : l.length ≤ 60
    · exact h6
    · have := h 60 (by omega)
      rw [join_new (by omega)] at this
      simp at this
  · have := h i hi
    rw [join_new hi] at this
    simp only [Bool.and_eq_true] at this
    exact this.2
theorem rules_join_no {l : List RV} {i : Nat} (hi : i < l.length) (h : joinB (l.take i) (l.getD i rv0) = false) : rulesB l = false := by
  rw [join_new hi] at h
  by_cases h6 : i < 60
  · rw [decide_eq_true h6, Bool.true_and] at h
    exact rulesB_not hi h
  · unfold rulesB
    rw [decide_eq_false (show ¬ l.length ≤ 60 by omega), Bool.and_false]
/-- A rule more, and still right. -/
theorem rules_snoc {l : List RV} (hl : rulesB l = true) (r : RV) : rulesB (l ++ [r]) = joinB l r := by
  have hg : ∀ i, i < l.length → (l ++ [r]).getD i rv0 = l.getD i rv0 := fun i hi => by
    rw [List.getD_eq_getElem?_getD, List.getD_eq_getElem?_getD, List.getElem?_append_left hi]
  have hlast : (l ++ [r]).getD l.length rv0 = r := by
    rw [List.getD_eq_getElem?_getD, List.getElem?_append_right (Nat.le_refl _)]; simp
  have hlt : (l ++ [r]).take l.length = l := by simp
  have hj : joinB ((l ++ [r]).take l.length) ((l ++ [r]).getD l.length rv0) = joinB l r := by rw [hlt, hlast]
  cases hb : joinB l r with
  | false => exact rules_join_no (i := l.length) (by simp) (hj.trans hb)
  | true =>
    refine rules_join_yes fun i hi => ?_
    rw [List.length_append] at hi
    simp at hi
    by_cases hil : i = l.length
    · rw [hil, hj, hb]
    · have hii : i < l.length := by omega
      rw [List.take_append_of_le_length (by omega), hg i hii]
      cases hc : joinB (l.take i) (l.getD i rv0) with
      | true => rfl
      | false => rw [rules_join_no hii hc] at hl; cases hl

set_option maxHeartbeats 2000000 in
theorem implSame (la lb : List ByteArray) (va vb : Value) (w : World) (hla : la.length ≤ 1099511627776) (hlb : lb.length ≤ 1099511627776) (ha : StrRow w va la) (hb : StrRow w vb lb) :
    Calls Tryd.prog 68 #[va, vb] w fun e w' => e = .returned (.bool (decide (la = lb))) ∧ ∃ m, w' = w.drewN m := by
  by_cases hl : la.length = lb.length
  · rcases ha with ⟨rfl, ao, cap, rfl⟩ | ⟨h0, g, off, cap, rfl, hg, hc⟩
    · obtain rfl : lb = [] := List.eq_nil_of_length_eq_zero (by simpa using hl.symm)
      obtain ⟨bo, cap', rfl⟩ := hb.slice
      clear hb hl hla hlb
      go_enter Tryd.func68, Tryd.ntmps68
      go_wp2
      refine wp_loop_rounds 1 ?_
      rw [rounds_succ]
      go_wp2
      go_ret
      exact ⟨rfl, 0, rfl⟩
    · rcases hb with ⟨rfl, _⟩ | ⟨_, g', off', cap', rfl, hg', hc'⟩
      · exact absurd hl (by show ¬ la.length = 0; omega)
      · have HC : Hid (∀ i, i < la.length → w.cell? ⟨g, off + i, none⟩ = some (.string (la.getD i ByteArray.empty))) := hc
        have HC' : Hid (∀ i, i < lb.length → w.cell? ⟨g', off' + i, none⟩ = some (.string (lb.getD i ByteArray.empty))) := hc'
        have HL : Hid (la.length = lb.length) := hl
        rw [← hl]
        clear hc hc' hl hlb
        go_enter Tryd.func68, Tryd.ntmps68
        go_wp2
        go_loopw [13] (fun i wr => ∃ k : Nat, k ≤ la.length ∧ i = .int .i64 k ∧ Hid (la.take k = lb.take k) ∧ ∃ m, wr = w.drewN m) (fun i _ => la.length - (intOf i).toNat)
        case atStart => exact ⟨0, Nat.zero_le _, rfl, rfl, 0, rfl⟩
        case round =>
          obtain ⟨k, hk, rfl, hs, m, rfl⟩ := hrel
          by_cases hlt : k < la.length
          · have ca := HC.out k hlt
            have cb := HC'.out k (by rw [← HL.out]; exact hlt)
            by_cases he : la.getD k ByteArray.empty = lb.getD k ByteArray.empty
            · have HS : Hid (la.take (k + 1) = lb.take (k + 1)) := take_same hlt (by rw [← HL.out]; exact hlt) hs.out he
              rw [← he] at cb
              clear he hs
              generalize la.getD k ByteArray.empty = x at ca cb
              go_wp2
              go_quiet (fail)
              go_wp2
              go_roundw
              case rel => exact ⟨k + 1, by omega, by go_num, HS, m + nq, rfl⟩
              case measure => simp [intOf]; omega
            · have hne : Hid (¬ la = lb) := fun h => he (by rw [h])
              have hst := str_ne he
              clear he hs
              generalize la.getD k ByteArray.empty = x at ca hst
              generalize lb.getD k ByteArray.empty = y at cb hst
              go_wp2
              go_quiet (fail)
              go_wp2
              go_ret
              exact ⟨ret_bool (decide_eq_false hne.out).symm, m + nq, by rw [World.drewN_drewN]⟩
          · have HE : Hid (la = lb) := take_whole HL.out (by
              have := hs.out
              rwa [show k = la.length by omega] at this)
            clear hs
            go_wp2
            go_ret
            exact ⟨ret_bool (decide_eq_true HE.out).symm, m, rfl⟩
  · have HN : Hid (¬ la = lb) := fun h => hl (by rw [h])
    obtain ⟨ao, cap, rfl⟩ := ha.slice
    obtain ⟨bo, cap', rfl⟩ := hb.slice
    have hli : ((la.length : Int) == (lb.length : Int)) = false := beq_eq_false_iff_ne.2 (by omega)
    clear ha hb hl
    generalize la.length = n at *
    generalize lb.length = m at *
    go_enter Tryd.func68, Tryd.ntmps68
    go_wp2
    go_ret
    exact ⟨ret_bool (decide_eq_false HN.out).symm, 0, rfl⟩
set_option maxHeartbeats 2000000 in
theorem implHas1 (q p : Value) (a b : RV) (B : Nat) (w : World) (ha : a.ps.length ≤ 1099511627776) (hb : b.ps.length ≤ 1099511627776) (hq : StrRow w q a.ps) (hp : StrRow w p b.ps) (hB : BAt w B [p, .bool b.ex]) :
    Calls Tryd.prog 67 #[.agg #[q, .bool a.ex], .pointer (some ⟨B, 0, none⟩)] w fun e w' => e = .returned (.bool (sameB a b)) ∧ Below w.heap.size w w' := by
  obtain ⟨O, hO⟩ : ∃ O, O = w.alloc (.cells #[q, .bool a.ex] 32) := ⟨_, rfl⟩
  have bO : Below w.heap.size w O := by rw [hO]; exact (Below.refl _ _).alloc (Nat.le_refl _) _
  have AO : BAt O w.heap.size [q, .bool a.ex] := by rw [hO]; exact BAt.new w #[q, .bool a.ex] _
  have c0 := AO.1 0 _ rfl
  have c1 := AO.1 1 _ rfl
  have d0 := (hB.below bO).1 0 _ rfl
  have d1 := (hB.below bO).1 1 _ rfl
  have CS : Hid (Calls Tryd.prog 68 #[q, p] O fun e w' => e = .returned (.bool (decide (a.ps = b.ps))) ∧ ∃ m, w' = O.drewN m) := implSame _ _ q p O ha hb (hq.below bO) (hp.below bO)
  have HS : Hid (sameB a b = ((a.ex == b.ex) && decide (a.ps = b.ps))) := rfl
  clear AO hB hq hp
  generalize sameB a b = S at HS ⊢
  generalize decide (a.ps = b.ps) = D at HS CS
  generalize a.ex = ea at *
  generalize b.ex = eb at *
  go_enter Tryd.func67, Tryd.ntmps67
  go_upto_region 1 with fail
  rw [← hO]
  clear hO
  have hap : ea = eb ∨ (ea == eb) = false := by cases ea <;> cases eb <;> simp
  rcases hap with rfl | hne
  · go_wp2_with fail
    refine CS.out.mono ?_
    rintro e w' ⟨rfl, m, rfl⟩
    go_wp2_with fail
    go_ret
    exact ⟨ret_bool (by rw [HS.out]; simp), below_drewN bO m⟩
  · go_wp2_with fail
    go_ret
    exact ⟨ret_bool (by rw [HS.out, hne]; rfl), bO⟩
theorem any_no {l : List RV} {b : RV} (h : ∀ j, j < l.length → sameB (l.getD j rv0) b = false) : (l.any fun x => sameB x b) = false := by
  rw [List.any_eq_false]
  intro x hx
  obtain ⟨i, hi, rfl⟩ := List.mem_iff_getElem.1 hx
  have := h i hi
  rw [List.getD_eq_getElem?_getD, List.getElem?_eq_getElem hi] at this
  simpa using this
theorem any_yes {l : List RV} {b : RV} {j : Nat} (hj : j < l.length) (h : sameB (l.getD j rv0) b = true) : (l.any fun x => sameB x b) = true := by
  rw [List.any_eq_true]
  refine ⟨l[j], List.getElem_mem _, ?_⟩
  rwa [List.getD_eq_getElem?_getD, List.getElem?_eq_getElem hj] at h
set_option maxHeartbeats 2000000 in
theorem implIdx (l : List RV) (v p : Value) (b : RV) (B : Nat) (w : World) (hl : l.length ≤ 1048576) (hz : ∀ r ∈ l, r.ps.length ≤ 2097152) (hb : b.ps.length ≤ 2097152) (h : RuleRow w v l) (hp : StrRow w p b.ps) (hB : BAt w B [p, .bool b.ex]) :
    Calls Tryd.prog 80 #[v, .func (.func 67) #[] #[.pointer (some ⟨B, 0, none⟩)]] w fun e w' => (∃ z : Int, e = .returned (.int .i64 z) ∧ decide (0 ≤ z) = l.any fun x => sameB x b) ∧ Below w.heap.size w w' := by
  have HZ : Hid (∀ r ∈ l, r.ps.length ≤ 2097152) := hz
  have HB : Hid (BAt w B [p, .bool b.ex]) := hB
  have HP : Hid (StrRow w p b.ps) := hp
  clear hz hB hp
  rcases h with ⟨rfl, ao, cap, rfl⟩ | ⟨h0, g, off, cap, rfl, hg, hc⟩
  · clear hl HZ
    go_enter Tryd.func80, Tryd.ntmps80
    go_wp2
    refine wp_loop_rounds 1 ?_
    rw [rounds_succ]
    go_wp2
    go_ret
    exact ⟨⟨-1, rfl, rfl⟩, Below.refl _ _⟩
  · have HC : Hid (∀ i, i < l.length → ∃ p, w.cell? ⟨g, off + i * 2, none⟩ = some p ∧ StrRow w p (l.getD i rv0).ps ∧ w.cell? ⟨g, off + i * 2 + 1, none⟩ = some (.bool (l.getD i rv0).ex)) := hc
    clear hc
    go_enter Tryd.func80, Tryd.ntmps80
    go_wp2
    go_loopw [8] (fun i wr => ∃ k : Nat, k ≤ l.length ∧ i = .int .i64 k ∧ Hid (∀ j, j < k → sameB (l.getD j rv0) b = false) ∧ Below w.heap.size w wr) (fun i _ => l.length - (intOf i).toNat)
    case atStart => exact ⟨0, Nat.zero_le _, rfl, fun j hj => absurd hj (Nat.not_lt_zero _), Below.refl _ _⟩
    case round =>
      obtain ⟨k, hk, rfl, HN, hbel⟩ := hrel
      by_cases hlt : k < l.length
      · obtain ⟨q, c1, c2, c3⟩ := HC.out k hlt
        have c1w := (hbel.cell (p := ⟨g, off + k * 2, none⟩) hg).trans c1
        have c3w := (hbel.cell (p := ⟨g, off + k * 2 + 1, none⟩) hg).trans c3
        have hki : (k : Int) < l.length := by omega
        have hz1 : (l.getD k rv0).ps.length ≤ 2097152 := HZ.out _ (by
          rw [List.getD_eq_getElem?_getD, List.getElem?_eq_getElem hlt]
          exact List.getElem_mem _)
        have CR : Hid (Calls Tryd.prog 67 #[.agg #[q, .bool (l.getD k rv0).ex], .pointer (some ⟨B, 0, none⟩)] wr fun e w' => e = .returned (.bool (sameB (l.getD k rv0) b)) ∧ Below wr.heap.size wr w') := implHas1 q p (l.getD k rv0) b B wr (by omega) (by omega) (c2.below hbel) (HP.out.below hbel) (HB.out.below hbel)
        have HY : Hid (sameB (l.getD k rv0) b = true → (l.any fun x => sameB x b) = true) := any_yes hlt
        have HT : Hid (sameB (l.getD k rv0) b = false → ∀ j, j < k + 1 → sameB (l.getD j rv0) b = false) := fun h j hj => by
          by_cases hjk : j < k
          · exact HN.out j hjk
          · rw [show j = k by omega]; exact h
        clear c1 c2 c3 HN hz1
        generalize sameB (l.getD k rv0) b = S at CR HY HT
        generalize (l.getD k rv0).ex = ek at CR c3w
        go_wp2_with fail
        refine CR.out.mono ?_
        rintro e w1 ⟨rfl, b1⟩
        have hb1 : Below w.heap.size w w1 := hbel.trans (b1.mono hbel.size)
        clear b1 c1w c3w CR hbel
        cases S with
        | true =>
          have HYY : Hid ((l.any fun x => sameB x b) = true) := HY.out rfl
          clear HY HT
          go_wp2_with fail
          go_ret
          exact ⟨⟨_, rfl, by rw [HYY.out]; exact decide_eq_true (by omega)⟩, hb1⟩
        | false =>
          have HT2 : Hid (∀ j, j < k + 1 → sameB (l.getD j rv0) b = false) := HT.out rfl
          clear HY HT
          go_wp2_with fail
          go_roundw
          case rel => exact ⟨k + 1, by omega, by go_num, HT2, hb1⟩
          case measure => simp [intOf]; omega
      · have hki : ¬ (k : Int) < l.length := by omega
        have HE : Hid ((l.any fun x => sameB x b) = false) := any_no fun j hj => HN.out j (by omega)
        clear HN
        go_wp2_with fail
        go_ret
        exact ⟨⟨-1, rfl, by rw [HE.out]; rfl⟩, hbel⟩
set_option maxHeartbeats 2000000 in
theorem implHasRule (l : List RV) (v p : Value) (b : RV) (w : World) (hl : l.length ≤ 1048576) (hz : ∀ r ∈ l, r.ps.length ≤ 2097152) (hb : b.ps.length ≤ 2097152) (h : RuleRow w v l) (hp : StrRow w p b.ps) :
    Calls Tryd.prog 50 #[v, .agg #[p, .bool b.ex]] w fun e w' => e = .returned (.bool (l.any fun x => sameB x b)) ∧ Below w.heap.size w w' := by
  obtain ⟨O, hO⟩ : ∃ O, O = w.alloc (.cells #[p, .bool b.ex] 32) := ⟨_, rfl⟩
  have bO : Below w.heap.size w O := by rw [hO]; exact (Below.refl _ _).alloc (Nat.le_refl _) _
  have AO : BAt O w.heap.size [p, .bool b.ex] := by rw [hO]; exact BAt.new w #[p, .bool b.ex] _
  have CI : Hid (Calls Tryd.prog 80 #[v, .func (.func 67) #[] #[.pointer (some ⟨w.heap.size, 0, none⟩)]] O fun e w' => (∃ z : Int, e = .returned (.int .i64 z) ∧ decide (0 ≤ z) = l.any fun x => sameB x b) ∧ Below O.heap.size O w') := implIdx l v p b _ O hl hz hb (h.below bO) (hp.below bO) AO
  have CC : Hid (Calls Tryd.prog 66 #[v, .func (.func 67) #[] #[.pointer (some ⟨w.heap.size, 0, none⟩)]] O fun e w' => e = .returned (.bool (l.any fun x => sameB x b)) ∧ Below O.heap.size O w') := by
    clear hO bO AO hp hz hb
    obtain ⟨ao, cap, rfl⟩ := h.slice
    clear h
    go_enter Tryd.func66, Tryd.ntmps66
    go_wp2_with fail
    refine CI.out.mono ?_
    rintro e w1 ⟨⟨z, rfl, hz⟩, b1⟩
    have HZ : Hid (decide (0 ≤ z) = l.any fun x => sameB x b) := hz
    clear hz
    go_wp2_with fail
    go_ret
    exact ⟨ret_bool HZ.out, b1⟩
  clear CI AO hp hz hb
  obtain ⟨ao, cap, rfl⟩ := h.slice
  clear h
  go_enter Tryd.func50, Tryd.ntmps50
  go_upto_region 1 with fail
  rw [← hO]
  clear hO
  go_wp2_with fail
  refine CC.out.mono ?_
  rintro e w1 ⟨rfl, b1⟩
  go_wp2_with fail
  go_ret
  exact ⟨rfl, bO.trans (b1.mono bO.size)⟩
end Go.Proofs.YtijliddchoehhaaDoor
