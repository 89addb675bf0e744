/- Contracts of the code's ruleOk, joins and RulesOk. -/
import Derived.Test.YtijliddchoehhaaDoorRows
import Derived.Test.YtijliddchoehhaaDoorRulesImpl
namespace Go.Proofs.YtijliddchoehhaaDoor
open Go.RowKit
set_option linter.unusedVariables false

theorem lit_is {x : ByteArray} {c : UInt8} (h : x.data.toList = [c]) : (x.toList == [c]) = true := by rw [lit_eq, decide_eq_true h]
theorem lit_not {x : ByteArray} {c : UInt8} (h : ¬ x.data.toList = [c]) : (x.toList == [c]) = false := by rw [lit_eq, decide_eq_false h]
/-- What is asked of the last of a rule's parts. -/
def foreB (x : ByteArray) (ex : Bool) : Bool := labL x.data.toList || (decide (x.data.toList = [42]) && !ex)
set_option maxHeartbeats 2000000 in
theorem implForemost (x : ByteArray) (ex : Bool) (w : World) (hs : x.size ≤ 1048576) :
    Calls Tryd.prog 65 #[.string x, .bool ex] w fun e w' => e = .returned (.bool (foreB x ex)) ∧ ∃ m, w' = w.drewN m := by
  have CL : Hid (∀ W, Calls Tryd.prog 64 #[.string x] W fun e w' => e = .returned (.bool (labL x.data.toList)) ∧ W = w') := fun W => implLabelOk _ W (by unfold maxLen; omega)
  have HF : Hid (foreB x ex = (labL x.data.toList || (decide (x.data.toList = [42]) && !ex))) := rfl
  have hb := lit_eq x 42
  generalize foreB x ex = F at HF ⊢
  generalize labL x.data.toList = L at HF CL
  generalize decide (x.data.toList = [42]) = D at HF hb
  go_enter Tryd.func65, Tryd.ntmps65
  cases L <;> cases D <;> cases ex <;>
  · go_wp2_with (go_at_call 64; refine (CL.out _).mono ?_; rintro e w' ⟨rfl, rfl⟩)
    go_ret
    exact ⟨ret_bool (by rw [HF.out]; rfl), 0, rfl⟩
theorem part_inner {ex : Bool} {n i : Nat} {p : ByteArray} (h : i + 1 ≠ n) : partB ex n i p = labL p.data.toList := by
  unfold partB
  rw [decide_eq_false h, Bool.and_false, Bool.false_and, Bool.false_or]
theorem part_last {ex : Bool} {n i : Nat} {p : ByteArray} (h : i + 1 = n) : partB ex n i p = foreB p ex := by
  unfold partB foreB
  rw [decide_eq_true h, Bool.and_true, Bool.or_comm]
theorem ruleB_last {ps : List ByteArray} {ex : Bool} {m : Nat} (hm : ps.length = m + 1) (h8 : m + 1 ≤ 8) (hx : ex = true → 1 ≤ m) (h : ∀ j, j < m → labL (ps.getD j ByteArray.empty).data.toList = true) : ruleB ⟨ps, ex⟩ = foreB (ps.getD m ByteArray.empty) ex := by
  have e : partB ex ps.length m (ps.getD m ByteArray.empty) = foreB (ps.getD m ByteArray.empty) ex := part_last (by omega)
  cases hf : foreB (ps.getD m ByteArray.empty) ex with
  | false => exact ruleB_part (i := m) (by omega) (e.trans hf)
  | true =>
    refine ruleB_of (by omega) (fun h => by have := hx h; omega) fun i hi => ?_
    by_cases him : i = m
    · rw [him, e, hf]
    · rw [part_inner (by omega)]
      exact h i (by omega)
set_option maxHeartbeats 4000000 in
theorem implRule (p : Value) (ps : List ByteArray) (ex : Bool) (w : World) (hl : ps.length ≤ 1099511627776) (hsz : ∀ x ∈ ps, x.size ≤ 1048576) (h : StrRow w p ps) :
    Calls Tryd.prog 49 #[.agg #[p, .bool ex]] w fun e w' => e = .returned (.bool (ruleB ⟨ps, ex⟩)) ∧ Below w.heap.size w w' := by
  have HSZ : Hid (∀ x ∈ ps, x.size ≤ 1048576) := hsz
  clear hsz
  have HB : Hid (Below w.heap.size w (w.alloc (.cells #[p, .bool ex] 32))) := (Below.refl _ _).alloc (Nat.le_refl _) _
  by_cases h18 : 1 ≤ ps.length ∧ ps.length ≤ 8
  · rcases h with ⟨rfl, _⟩ | ⟨h0, g, off, cap, rfl, hg, hc⟩
    · simp at h18
    have HC : Hid (∀ i, i < ps.length → w.cell? ⟨g, off + i, none⟩ = some (.string (ps.getD i ByteArray.empty))) := hc
    clear hc
    obtain ⟨m, hm⟩ : ∃ m, ps.length = m + 1 := ⟨ps.length - 1, by omega⟩
    have HM : Hid (ps.length = m + 1) := hm
    have hm8 : m + 1 ≤ 8 := by omega
    rw [hm] at HB ⊢
    clear hm h18 h0 hl
    have hn0 : ((m : Int) + 1 == 0) = false := beq_eq_false_iff_ne.2 (by omega)
    have hn8 : decide (8 < (m : Int) + 1) = false := decide_eq_false (by omega)
    by_cases hx : ex = true ∧ m = 0
    · obtain ⟨rfl, rfl⟩ := hx
      have HR : Hid (ruleB ⟨ps, true⟩ = false) := by
        show _ = _
        cases hr : ruleB ⟨ps, true⟩ with
        | false => rfl
        | true =>
          have := (ruleB_yes hr).2.1 rfl
          have h2 : 2 ≤ ps.length := this
          have := HM.out
          omega
      go_enter Tryd.func49, Tryd.ntmps49
      go_wp2_with fail
      go_ret
      exact ⟨ret_bool HR.out.symm, HB.out⟩
    · have HX : Hid (ex = true → 1 ≤ m) := fun he => by
        by_cases h2 : 1 ≤ m
        · exact h2
        · exact absurd ⟨he, by omega⟩ hx
      have hx2 : ex = false ∨ (ex = true ∧ 1 ≤ m) := by
        cases ex with
        | false => exact .inl rfl
        | true => exact .inr ⟨rfl, HX.out rfl⟩
      clear hx
      have HMEM : Hid (∀ i, i < m + 1 → (ps.getD i ByteArray.empty).size ≤ 1048576) := fun i hi => HSZ.out _ (by
        have := HM.out
        rw [List.getD_eq_getElem?_getD, List.getElem?_eq_getElem (by omega)]
        exact List.getElem_mem _)
      have HLAST : Hid ((∀ j, j < m → labL (ps.getD j ByteArray.empty).data.toList = true) → ruleB ⟨ps, ex⟩ = foreB (ps.getD m ByteArray.empty) ex) := ruleB_last HM.out hm8 HX.out
      have HPART : Hid (∀ j, j < m → labL (ps.getD j ByteArray.empty).data.toList = false → ruleB ⟨ps, ex⟩ = false) := fun j hj h => ruleB_part (i := j) (by have := HM.out; omega) ((part_inner (by have := HM.out; omega)).trans h)
      obtain ⟨O, hO⟩ : ∃ O, O = w.alloc (.cells #[.slice (some ⟨g, off, none⟩) (m + 1) (m + 1 + cap), .bool ex] 32) := ⟨_, rfl⟩
      have AO : BAt O w.heap.size [.slice (some ⟨g, off, none⟩) (m + 1) (m + 1 + cap), .bool ex] := by rw [hO]; exact BAt.new w #[.slice (some ⟨g, off, none⟩) (m + 1) (m + 1 + cap), .bool ex] _
      rw [← hO] at HB
      have HCO : Hid (∀ i, i < m + 1 → O.cell? ⟨g, off + i, none⟩ = some (.string (ps.getD i ByteArray.empty))) := fun i hi => (HB.out.cell (p := ⟨g, off + i, none⟩) hg).trans (HC.out i (by have := HM.out; omega))
      clear HC HSZ
      have c0 := AO.1 0 _ rfl
      have c1 := AO.1 1 _ rfl
      clear AO
      generalize ruleB ⟨ps, ex⟩ = R at HLAST HPART ⊢
      go_enter Tryd.func49, Tryd.ntmps49
      go_upto_region 1 with fail
      rw [← hO]
      clear hO
      rcases hx2 with rfl | ⟨rfl, h1m⟩
      · skip
        go_wp2_with fail
        go_loop [29] (fun i => ∃ k : Nat, k ≤ m ∧ i = .int .i64 k ∧ Hid (∀ j, j < k → labL (ps.getD j ByteArray.empty).data.toList = true)) (fun i => m - (intOf i).toNat)
        case atStart => exact ⟨0, Nat.zero_le _, rfl, fun j hj => absurd hj (Nat.not_lt_zero _)⟩
        case round =>
          obtain ⟨k, hk, rfl, HP⟩ := hrel
          by_cases hlt : k < m
          · have hki : (k : Int) < m := by omega
            have ca := HCO.out k (by omega)
            have hs := HMEM.out k (by omega)
            have CL : Hid (∀ W, Calls Tryd.prog 64 #[.string (ps.getD k ByteArray.empty)] W fun e w' => e = .returned (.bool (labL (ps.getD k ByteArray.empty).data.toList)) ∧ W = w') := fun W => implLabelOk _ W (by unfold maxLen; omega)
            have HY : Hid (labL (ps.getD k ByteArray.empty).data.toList = true → ∀ j, j < k + 1 → labL (ps.getD j ByteArray.empty).data.toList = true) := fun h j hj => by
              by_cases hjk : j < k
              · exact HP.out j hjk
              · rw [show j = k by omega]; exact h
            have HN : Hid (labL (ps.getD k ByteArray.empty).data.toList = false → R = false) := HPART.out k hlt
            clear HP
            generalize labL (ps.getD k ByteArray.empty).data.toList = L at CL HY HN
            generalize ps.getD k ByteArray.empty = x at ca hs CL
            cases L with
            | true =>
              have HY2 : Hid (∀ j, j < k + 1 → labL (ps.getD j ByteArray.empty).data.toList = true) := HY.out rfl
              clear HY HN
              go_wp2_with (go_at_call 64; refine (CL.out _).mono ?_; rintro e w' ⟨rfl, rfl⟩)
              go_round
              case rel => exact ⟨k + 1, by omega, by go_num, HY2⟩
              case measure => simp [intOf]; omega
            | false =>
              have HR : Hid (R = false) := HN.out rfl
              clear HY HN
              go_wp2_with (go_at_call 64; refine (CL.out _).mono ?_; rintro e w' ⟨rfl, rfl⟩)
              go_ret
              exact ⟨ret_bool HR.out.symm, HB.out⟩
          · have hki : ¬ (k : Int) < m := by omega
            have HR : Hid (R = foreB (ps.getD m ByteArray.empty) false) := HLAST.out fun j hj => HP.out j (by omega)
            have ca := HCO.out m (by omega)
            have hs := HMEM.out m (by omega)
            have CF : Hid (∀ W, Calls Tryd.prog 65 #[.string (ps.getD m ByteArray.empty), .bool false] W fun e w' => e = .returned (.bool (foreB (ps.getD m ByteArray.empty) false)) ∧ ∃ m, w' = W.drewN m) := fun W => implForemost _ _ W hs
            clear HP
            generalize foreB (ps.getD m ByteArray.empty) false = F at HR CF
            generalize ps.getD m ByteArray.empty = x at ca hs CF
            go_wp2_with fail
            go_quiet ((go_at_call 65; exact Calls.quiet_of (CF.out _)))
            go_wp2_with fail
            go_ret
            exact ⟨ret_bool HR.out.symm, below_drewN HB.out _⟩
      · skip
        go_wp2_with fail
        go_loop [29] (fun i => ∃ k : Nat, k ≤ m ∧ i = .int .i64 k ∧ Hid (∀ j, j < k → labL (ps.getD j ByteArray.empty).data.toList = true)) (fun i => m - (intOf i).toNat)
        case atStart => exact ⟨0, Nat.zero_le _, rfl, fun j hj => absurd hj (Nat.not_lt_zero _)⟩
        case round =>
          obtain ⟨k, hk, rfl, HP⟩ := hrel
          by_cases hlt : k < m
          · have hki : (k : Int) < m := by omega
            have ca := HCO.out k (by omega)
            have hs := HMEM.out k (by omega)
            have CL : Hid (∀ W, Calls Tryd.prog 64 #[.string (ps.getD k ByteArray.empty)] W fun e w' => e = .returned (.bool (labL (ps.getD k ByteArray.empty).data.toList)) ∧ W = w') := fun W => implLabelOk _ W (by unfold maxLen; omega)
            have HY : Hid (labL (ps.getD k ByteArray.empty).data.toList = true → ∀ j, j < k + 1 → labL (ps.getD j ByteArray.empty).data.toList = true) := fun h j hj => by
              by_cases hjk : j < k
              · exact HP.out j hjk
              · rw [show j = k by omega]; exact h
            have HN : Hid (labL (ps.getD k ByteArray.empty).data.toList = false → R = false) := HPART.out k hlt
            clear HP
            generalize labL (ps.getD k ByteArray.empty).data.toList = L at CL HY HN
            generalize ps.getD k ByteArray.empty = x at ca hs CL
            cases L with
            | true =>
              have HY2 : Hid (∀ j, j < k + 1 → labL (ps.getD j ByteArray.empty).data.toList = true) := HY.out rfl
              clear HY HN
              go_wp2_with (go_at_call 64; refine (CL.out _).mono ?_; rintro e w' ⟨rfl, rfl⟩)
              go_round
              case rel => exact ⟨k + 1, by omega, by go_num, HY2⟩
              case measure => simp [intOf]; omega
            | false =>
              have HR : Hid (R = false) := HN.out rfl
              clear HY HN
              go_wp2_with (go_at_call 64; refine (CL.out _).mono ?_; rintro e w' ⟨rfl, rfl⟩)
              go_ret
              exact ⟨ret_bool HR.out.symm, HB.out⟩
          · have hki : ¬ (k : Int) < m := by omega
            have HR : Hid (R = foreB (ps.getD m ByteArray.empty) true) := HLAST.out fun j hj => HP.out j (by omega)
            have ca := HCO.out m (by omega)
            have hs := HMEM.out m (by omega)
            have CF : Hid (∀ W, Calls Tryd.prog 65 #[.string (ps.getD m ByteArray.empty), .bool true] W fun e w' => e = .returned (.bool (foreB (ps.getD m ByteArray.empty) true)) ∧ ∃ m, w' = W.drewN m) := fun W => implForemost _ _ W hs
            clear HP
            generalize foreB (ps.getD m ByteArray.empty) true = F at HR CF
            generalize ps.getD m ByteArray.empty = x at ca hs CF
            go_wp2_with fail
            go_quiet ((go_at_call 65; exact Calls.quiet_of (CF.out _)))
            go_wp2_with fail
            go_ret
            exact ⟨ret_bool HR.out.symm, below_drewN HB.out _⟩
  · have HR : Hid (ruleB ⟨ps, ex⟩ = false) := by
      show _ = _
      unfold ruleB
      rw [decide_eq_false h18]
      rfl
    obtain ⟨ao, cap, rfl⟩ := h.slice
    clear h
    by_cases h0 : ps.length = 0
    · rw [h0] at HB ⊢
      go_enter Tryd.func49, Tryd.ntmps49
      go_wp2_with fail
      go_ret
      exact ⟨ret_bool HR.out.symm, HB.out⟩
    · have hn0 : ((ps.length : Int) == 0) = false := beq_eq_false_iff_ne.2 (by omega)
      have hn8 : 8 < (ps.length : Int) := by omega
      go_enter Tryd.func49, Tryd.ntmps49
      go_wp2_with fail
      go_ret
      exact ⟨ret_bool HR.out.symm, HB.out⟩
set_option maxHeartbeats 4000000 in
theorem implJoins (l : List RV) (v p : Value) (b : RV) (w : World) (hl : l.length ≤ 1048576) (hz : ∀ r ∈ l, r.ps.length ≤ 2097152) (hb : b.ps.length ≤ 2097152) (hs : ∀ x ∈ b.ps, x.size ≤ 1048576) (h : RuleRow w v l) (hp : StrRow w p b.ps) :
    Calls Tryd.prog 25 #[v, .agg #[p, .bool b.ex]] w fun e w' => e = .returned (.bool (joinB l b)) ∧ Below w.heap.size w w' := by
  obtain ⟨O, hO⟩ : ∃ O, O = w.alloc (.cells #[p, .bool b.ex] 32) := ⟨_, rfl⟩
  have bO : Below w.heap.size w O := by rw [hO]; exact (Below.refl _ _).alloc (Nat.le_refl _) _
  have AO : BAt O w.heap.size [p, .bool b.ex] := by rw [hO]; exact BAt.new w #[p, .bool b.ex] _
  have hz0 : w.heap.size < O.heap.size := by rw [hO]; simp
  have CR : Hid (Calls Tryd.prog 49 #[.agg #[p, .bool b.ex]] O fun e w' => e = .returned (.bool (ruleB b)) ∧ Below O.heap.size O w') := implRule p b.ps b.ex O (by omega) hs (hp.below bO)
  have CH : Hid (∀ W, Below O.heap.size O W → Calls Tryd.prog 50 #[v, .agg #[p, .bool b.ex]] W fun e w' => e = .returned (.bool (l.any fun x => sameB x b)) ∧ Below W.heap.size W w') := fun W hb' => implHasRule l v p b W hl hz hb ((h.below bO).below hb') ((hp.below bO).below hb')
  have HJ : Hid (joinB l b = (decide (l.length < 60) && ruleB b && !(l.any fun x => sameB x b))) := rfl
  have c0 := AO.1 0 _ rfl
  have c1 := AO.1 1 _ rfl
  obtain ⟨ao, cap, rfl⟩ := h.slice
  obtain ⟨po, pcap, rfl⟩ := hp.slice
  clear h hp hz hs AO
  generalize joinB l b = J at HJ ⊢
  generalize ruleB b = R at HJ CR
  generalize (l.any fun x => sameB x b) = H at HJ CH
  generalize b.ps.length = nb at *
  generalize b.ex = eb at *
  by_cases h6 : l.length < 60
  · have h6i : (l.length : Int) < 60 := by omega
    rw [decide_eq_true h6] at HJ
    go_enter Tryd.func25, Tryd.ntmps25
    go_upto_region 1 with fail
    rw [← hO]
    clear hO
    go_wp2_with fail
    refine CR.out.mono ?_
    rintro e w1 ⟨rfl, b1⟩
    have d0 := (b1.cell (p := ⟨w.heap.size, 0, none⟩) hz0).trans c0
    have d1 := (b1.cell (p := ⟨w.heap.size, 1, none⟩) hz0).trans c1
    have B1 := bO.trans (b1.mono bO.size)
    have CH1 := CH.out w1 b1
    have CH2 : Hid (Calls Tryd.prog 50 #[.slice ao l.length cap, .agg #[.slice po nb pcap, .bool eb]] w1 fun e w' => e = .returned (.bool H) ∧ Below w1.heap.size w1 w') := CH1
    clear CH1 CH CR b1 c0 c1
    cases R with
    | false =>
      go_wp2_with fail
      go_ret
      exact ⟨ret_bool (by rw [HJ.out]; rfl), B1⟩
    | true =>
      go_wp2_with fail
      refine CH2.out.mono ?_
      rintro e w2 ⟨rfl, b2⟩
      go_wp2_with fail
      go_ret
      exact ⟨ret_bool (by rw [HJ.out]; cases H <;> rfl), B1.trans (b2.mono B1.size)⟩
  · have h6i : ¬ (l.length : Int) < 60 := by omega
    rw [decide_eq_false h6] at HJ
    go_enter Tryd.func25, Tryd.ntmps25
    go_upto_region 1 with fail
    rw [← hO]
    clear hO
    go_wp2_with fail
    go_ret
    exact ⟨ret_bool (by rw [HJ.out]; rfl), bO⟩
theorem RuleRow.take {w : World} {g off cap : Nat} {l : List RV} (k : Nat) (hk : k ≤ l.length) (hg : g < w.heap.size)
    (hc : ∀ i, i < l.length → ∃ p, w.cell? ⟨g, off + i * 2, none⟩ = some p ∧ StrRow w p (l.getD i rv0).ps ∧ w.cell? ⟨g, off + i * 2 + 1, none⟩ = some (.bool (l.getD i rv0).ex)) : RuleRow w (.slice (some ⟨g, off, none⟩) k (l.length + cap)) (l.take k) := by
  have hlen : (l.take k).length = k := by rw [List.length_take]; omega
  by_cases h0 : k = 0
  · subst h0
    exact .inl ⟨rfl, _, _, rfl⟩
  · refine .inr ⟨by omega, g, off, l.length + cap - k, by rw [hlen, Nat.add_sub_cancel' (by omega)], hg, fun i hi => ?_⟩
    rw [hlen] at hi
    rw [show (l.take k).getD i rv0 = l.getD i rv0 by rw [List.getD_eq_getElem?_getD, List.getD_eq_getElem?_getD, List.getElem?_take_of_lt (by omega)]]
    exact hc i (by omega)
set_option maxHeartbeats 4000000 in
theorem implRulesOk (l : List RV) (v : Value) (w : World) (hl : l.length ≤ 1048576) (hz : RSz l) (h : RuleRow w v l) :
    Calls Tryd.prog 9 #[v] w fun e w' => e = .returned (.bool (rulesB l)) ∧ Below w.heap.size w w' := by
  have HZ : Hid (RSz l) := hz
  clear hz
  rcases h with ⟨rfl, ao, cap, rfl⟩ | ⟨h0, g, off, cap, rfl, hg, hc⟩
  · clear hl HZ
    go_enter Tryd.func9, Tryd.ntmps9
    go_wp2
    refine wp_loop_rounds 1 ?_
    rw [rounds_succ]
    go_wp2
    go_ret
    exact ⟨rfl, Below.refl _ _⟩
  · have HC : Hid (∀ i, i < l.length → ∃ p, w.cell? ⟨g, off + i * 2, none⟩ = some p ∧ StrRow w p (l.getD i rv0).ps ∧ w.cell? ⟨g, off + i * 2 + 1, none⟩ = some (.bool (l.getD i rv0).ex)) := hc
    have HTK : Hid (∀ k, k ≤ l.length → ∀ W, Below w.heap.size w W → RuleRow W (.slice (some ⟨g, off, none⟩) k (l.length + cap)) (l.take k)) := fun k hk W hb => (RuleRow.take k hk hg hc).below hb
    clear hc
    go_enter Tryd.func9, Tryd.ntmps9
    go_wp2
    go_loopw [7] (fun i wr => ∃ k : Nat, k ≤ l.length ∧ i = .int .i64 k ∧ Hid (∀ j, j < k → joinB (l.take j) (l.getD j rv0) = true) ∧ Below w.heap.size w wr) (fun i _ => l.length - (intOf i).toNat)
    case atStart => exact ⟨0, Nat.zero_le _, rfl, fun j hj => absurd hj (Nat.not_lt_zero _), Below.refl _ _⟩
    case round =>
      obtain ⟨k, hk, rfl, HN, hbel⟩ := hrel
      by_cases hlt : k < l.length
      · obtain ⟨p, c1, c2, c3⟩ := HC.out k hlt
        have c1w := (hbel.cell (p := ⟨g, off + k * 2, none⟩) hg).trans c1
        have c3w := (hbel.cell (p := ⟨g, off + k * 2 + 1, none⟩) hg).trans c3
        have hki : (k : Int) < l.length := by omega
        obtain ⟨hz1, hz2⟩ := rsz_at HZ.out hlt
        have HJN : Hid (joinB (l.take k) (l.getD k rv0) = false → rulesB l = false) := rules_join_no hlt
        have HJY : Hid (joinB (l.take k) (l.getD k rv0) = true → ∀ j, j < k + 1 → joinB (l.take j) (l.getD j rv0) = true) := fun h j hj => by
          by_cases hjk : j < k
          · exact HN.out j hjk
          · rw [show j = k by omega]; exact h
        have CJ : Hid (∀ W, Below w.heap.size w W → Calls Tryd.prog 25 #[.slice (some ⟨g, off, none⟩) k (l.length + cap), .agg #[p, .bool (l.getD k rv0).ex]] W fun e w' => e = .returned (.bool (joinB (l.take k) (l.getD k rv0))) ∧ Below W.heap.size W w') := fun W hb => implJoins (l.take k) _ p (l.getD k rv0) W (by rw [List.length_take]; omega) (fun r hr => (HZ.out r (List.mem_of_mem_take hr)).1) hz1 hz2 (HTK.out k hk W hb) (c2.below hb)
        obtain ⟨po, pcap, hpo⟩ := c2.slice
        rw [hpo] at c1w CJ
        clear c1 c2 c3 hz2 hz1 HN hpo
        generalize joinB (l.take k) (l.getD k rv0) = J at CJ HJN HJY
        generalize (l.getD k rv0).ps.length = np at *
        generalize (l.getD k rv0).ex = ek at *
        go_upto_region 4 with fail
        obtain ⟨O, hO⟩ : ∃ O, O = wr.alloc (.cells #[.slice po np pcap, .bool ek] 32) := ⟨_, rfl⟩
        have bO : Below wr.heap.size wr O := by rw [hO]; exact (Below.refl _ _).alloc (Nat.le_refl _) _
        have AO : BAt O wr.heap.size [.slice po np pcap, .bool ek] := by rw [hO]; exact BAt.new wr #[.slice po np pcap, .bool ek] _
        have BO := hbel.trans (bO.mono hbel.size)
        have d0 := AO.1 0 _ rfl
        have d1 := AO.1 1 _ rfl
        rw [← hO]
        clear hO AO c1w c3w bO
        have hkc : (k : Int) ≤ ((l.length + cap : Nat) : Int) := by omega
        go_region_with (go_at_call 25; refine (CJ.out _ (by first | exact BO.drew | exact BO)).mono ?_; rintro e w1 ⟨rfl, b1⟩)
        all_goals
          have B1 := BO.drew.trans (b1.mono BO.size)
          clear b1 d0 d1 BO CJ
          cases J with
          | false =>
            have HF : Hid (rulesB l = false) := HJN.out rfl
            clear HJN HJY
            go_wp2_with fail
            go_ret
            exact ⟨ret_bool HF.out.symm, B1⟩
          | true =>
            have HT : Hid (∀ j, j < k + 1 → joinB (l.take j) (l.getD j rv0) = true) := HJY.out rfl
            clear HJN HJY
            go_wp2_with fail
            go_roundw
            case rel => exact ⟨k + 1, by omega, by go_num, HT, B1⟩
            case measure => simp [intOf]; omega
      · have hki : ¬ (k : Int) < l.length := by omega
        have HE : Hid (rulesB l = true) := rules_join_yes fun i hi => HN.out i (by omega)
        clear HN
        go_wp2_with fail
        go_ret
        exact ⟨ret_bool HE.out.symm, hbel⟩
end Go.Proofs.YtijliddchoehhaaDoor
