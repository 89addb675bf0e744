/- Contracts of the specification's l10Fits and Fits. -/
import Derived.Test.YtijliddchoehhaaRows
import Derived.Test.YtijliddchoehhaaRuleSpec
import Derived.Test.YtijliddchoehhaaPartsWalk
import Derived.Handy
import Derived.Deep.DeepCutAuto
namespace Go.Proofs.Ytijliddchoehhaa
open Go.RowKit
set_option linter.unusedVariables false

def fitAt (r : RV) (ps : List ByteArray) (i : Nat) : Bool := decide ((r.ps.getD i ByteArray.empty).data.toList = [42]) || decide (r.ps.getD i ByteArray.empty = ps.getD i ByteArray.empty)
theorem fitsP_yes {r : RV} {ps : List ByteArray} (hl : r.ps.length ≤ ps.length) (h : ∀ i, i < r.ps.length → fitAt r ps i = true) : fitsP r ps = true := by
  unfold fitsP
  rw [decide_eq_true hl, Bool.true_and]
  exact all_range.2 h
theorem fitsP_no {r : RV} {ps : List ByteArray} {i : Nat} (hi : i < r.ps.length) (h : fitAt r ps i = false) : fitsP r ps = false := by
  cases hf : fitsP r ps with
  | false => rfl
  | true =>
    unfold fitsP at hf
    simp only [Bool.and_eq_true] at hf
    have := all_range.1 hf.2 i hi
    unfold fitAt at h
    rw [h] at this
    cases this
set_option maxHeartbeats 4000000 in
theorem specFitsP (p v : Value) (r : RV) (ps : List ByteArray) (w : World) (hl : r.ps.length ≤ 1099511627776) (hl2 : ps.length ≤ 1099511627776) (h : StrRow w p r.ps) (hv : StrRow w v ps) :
    Calls Try.prog 26 #[.agg #[p, .bool r.ex], v] w fun e w' => e = .returned (.bool (fitsP r ps)) ∧ Below w.heap.size w w' := by
  by_cases hle : r.ps.length ≤ ps.length
  · by_cases h0 : r.ps.length = 0
    · have HF : Hid (fitsP r ps = true) := fitsP_yes hle (fun i hi => by omega)
      obtain ⟨ao, cap, rfl⟩ := h.slice
      obtain ⟨bo, cap', rfl⟩ := hv.slice
      rw [h0]
      have hni : ¬ ((ps.length : Int) < 0) := by omega
      clear h hv
      go_enter Try.func26, Try.ntmps26
      go_wp2_with fail
      refine wp_loop_rounds 1 ?_
      rw [rounds_succ]
      go_wp2_with fail
      go_ret
      exact ⟨ret_bool HF.out.symm, (Below.refl _ _).alloc (Nat.le_refl _) _⟩
    · rcases h with ⟨h, _⟩ | ⟨_, g, off, cap, rfl, hg, hc⟩
      · rw [h] at h0; exact absurd rfl h0
      rcases hv with ⟨h, _⟩ | ⟨_, g', off', cap', rfl, hg', hc'⟩
      · rw [h] at hle; exact absurd (Nat.le_zero.1 hle) h0
      have HC : Hid (∀ i, i < r.ps.length → w.cell? ⟨g, off + i, none⟩ = some (.string (r.ps.getD i ByteArray.empty))) := hc
      have HC' : Hid (∀ i, i < ps.length → w.cell? ⟨g', off' + i, none⟩ = some (.string (ps.getD i ByteArray.empty))) := hc'
      have hle' : ¬ ((ps.length : Int) < r.ps.length) := by omega
      clear hc hc'
      obtain ⟨O, hO⟩ : ∃ O, O = w.alloc (.cells #[.slice (some ⟨g, off, none⟩) r.ps.length (r.ps.length + cap), .bool r.ex] 35) := ⟨_, rfl⟩
      have hbO : Below w.heap.size w O := by rw [hO]; exact (Below.refl _ _).alloc (Nat.le_refl _) _
      have cO : O.cell? ⟨w.heap.size, 0, none⟩ = some (.slice (some ⟨g, off, none⟩) r.ps.length (r.ps.length + cap)) := by
        rw [hO, World.cell?_alloc_at _ _ _ _ rfl]; rfl
      go_enter Try.func26, Try.ntmps26
      go_upto_region 1 with fail
      rw [← hO]
      clear hO
      go_wp2_with fail
      go_loopw [5] (fun i wr => ∃ k : Nat, k ≤ r.ps.length ∧ i = .int .i64 k ∧ Hid (∀ j, j < k → fitAt r ps j = true) ∧ ∃ m, wr = O.drewN m) (fun i _ => r.ps.length - (intOf i).toNat)
      case atStart => exact ⟨0, Nat.zero_le _, rfl, fun j hj => absurd hj (Nat.not_lt_zero _), 0, rfl⟩
      case round =>
        obtain ⟨k, hk, rfl, HF, m, rfl⟩ := hrel
        by_cases hlt : k < r.ps.length
        · have hki : (k : Int) < r.ps.length := by omega
          have hkp : (k : Int) < ps.length := by omega
          have ca := (hbO.cell (p := ⟨g, off + k, none⟩) hg).trans (HC.out k hlt)
          have cb := (hbO.cell (p := ⟨g', off' + k, none⟩) hg').trans (HC'.out k (by omega))
          have HFA : Hid (fitAt r ps k = (decide ((r.ps.getD k ByteArray.empty).data.toList = [42]) || decide (r.ps.getD k ByteArray.empty = ps.getD k ByteArray.empty))) := rfl
          have HYES : Hid (fitAt r ps k = true → ∀ j, j < k + 1 → fitAt r ps j = true) := fun h j hj => by
            by_cases hjk : j < k
            · exact HF.out j hjk
            · rw [show j = k by omega]; exact h
          have HNO : Hid (fitAt r ps k = false → fitsP r ps = false) := fitsP_no hlt
          have hb1 := lit_eq (r.ps.getD k ByteArray.empty) 42
          clear HF
          generalize fitAt r ps k = F at HFA HYES HNO
          generalize decide ((r.ps.getD k ByteArray.empty).data.toList = [42]) = b1 at HFA hb1
          generalize r.ps.getD k ByteArray.empty = x at ca HFA hb1
          generalize ps.getD k ByteArray.empty = y at cb HFA
          cases b1 with
          | true =>
            have HY := HYES.out (HFA.out.trans (by simp))
            have HY2 : Hid (∀ j, j < k + 1 → fitAt r ps j = true) := HY
            clear HYES HNO HFA HY
            go_wp2_with fail
            go_quiet (fail)
            go_wp2_with fail
            go_roundw
            case rel => exact ⟨k + 1, by omega, by go_num, HY2, m + nq, by first | rfl | rw [World.drewN_drewN]⟩
            case measure => simp [intOf]; omega
          | false =>
            by_cases he : x = y
            · subst he
              have HY := HYES.out (HFA.out.trans (by simp))
              have HY2 : Hid (∀ j, j < k + 1 → fitAt r ps j = true) := HY
              clear HYES HNO HFA HY
              go_wp2_with fail
              go_quiet (fail)
              go_wp2_with fail
              go_roundw
              case rel => exact ⟨k + 1, by omega, by go_num, HY2, m + nq, by first | rfl | rw [World.drewN_drewN]⟩
              case measure => simp [intOf]; omega
            · have HN : Hid (fitsP r ps = false) := HNO.out (HFA.out.trans (by rw [decide_eq_false he]; rfl))
              have hst := str_ne he
              clear HYES HNO HFA he
              go_wp2_with fail
              go_quiet (fail)
              go_wp2_with fail
              go_ret
              exact ⟨ret_bool HN.out.symm, by first | exact below_drewN (below_drewN hbO _) _ | exact below_drewN hbO _⟩
        · have hki : ¬ (k : Int) < r.ps.length := by omega
          have HY : Hid (fitsP r ps = true) := fitsP_yes hle fun i hi => HF.out i (by omega)
          clear HF
          go_wp2_with fail
          go_ret
          exact ⟨ret_bool HY.out.symm, below_drewN hbO _⟩
  · have HF : Hid (fitsP r ps = false) := by
      show _ = _
      unfold fitsP
      rw [decide_eq_false hle]
      rfl
    obtain ⟨ao, cap, rfl⟩ := h.slice
    obtain ⟨bo, cap', rfl⟩ := hv.slice
    have hni : (ps.length : Int) < r.ps.length := by omega
    clear h hv hle
    go_enter Try.func26, Try.ntmps26
    go_wp2_with fail
    go_ret
    exact ⟨ret_bool HF.out.symm, (Below.refl _ _).alloc (Nat.le_refl _) _⟩
set_option maxHeartbeats 4000000 in
theorem specFits (p : Value) (r : RV) (s : ByteArray) (w : World) (hl : r.ps.length ≤ 1099511627776) (hs : s.size ≤ 1048576) (h : StrRow w p r.ps) :
    Calls Try.prog 14 #[.agg #[p, .bool r.ex], .string s] w fun e w' => e = .returned (.bool (fitsB r s)) ∧ Below w.heap.size w w' := by
  obtain ⟨O, hO⟩ : ∃ O, O = w.alloc (.cells #[p, .bool r.ex] 35) := ⟨_, rfl⟩
  have hbO : Below w.heap.size w O := by rw [hO]; exact (Below.refl _ _).alloc (Nat.le_refl _) _
  have hzO : w.heap.size < O.heap.size := by rw [hO]; simp
  have cO : O.cell? ⟨w.heap.size, 0, none⟩ = some p := by rw [hO, World.cell?_alloc_at _ _ _ _ rfl]; rfl
  have cO1 : O.cell? ⟨w.heap.size, 1, none⟩ = some (.bool r.ex) := by rw [hO, World.cell?_alloc_at _ _ _ _ rfl]; rfl
  have HO : Hid (StrRow O p r.ps) := h.below hbO
  have hpl : (partsL s).length ≤ 1099511627776 := by
    unfold partsL
    split
    · simp
    · rw [List.length_reverse]
      have := fields_le s 46
      omega
  have CP : Hid (∀ W, Calls Try.prog 27 #[.string s] W fun e w' => ∃ v, e = .returned v ∧ w'.ownsRow W.heap.size 9 1 v (partsL s).length (scells (partsL s)) ∧ Below W.heap.size W w') := fun W => specParts s W hs
  have HFB : Hid (fitsB r s = fitsP r (partsL s)) := rfl
  go_enter Try.func14, Try.ntmps14
  go_upto_region 1 with fail
  rw [← hO]
  clear hO h
  go_region_with (first | (go_at_call 27; refine (CP.out _).mono ?_; rintro e wc ⟨v, rfl, hown, hbc⟩; have cc := (hbc.cell (p := ⟨w.heap.size, 0, none⟩) hzO).trans cO; have cc1 := (hbc.cell (p := ⟨w.heap.size, 1, none⟩) hzO).trans cO1) | (go_at_call 26; refine (specFitsP p v r (partsL s) _ hl hpl (HO.out.same hbc.size hbc.block) (StrRow.of_own hown)).mono ?_; rintro e wd ⟨rfl, hbd⟩))
  all_goals
    go_wp2_with fail
    go_ret
    exact ⟨ret_bool HFB.out.symm, (hbO.drew.trans (hbc.mono hbO.size)).trans (hbd.mono (hbO.drew.trans (hbc.mono hbO.size)).size)⟩
end Go.Proofs.Ytijliddchoehhaa
