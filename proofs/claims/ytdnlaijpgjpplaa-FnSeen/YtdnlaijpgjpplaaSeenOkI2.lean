/- The contract of the code's SeenOk. -/
import Derived.Test.YtdnlaijpgjpplaaRows
import Derived.Test.YtdnlaijpgjpplaaSeenOkI
namespace Go.Proofs.Ytdnlaijpgjpplaa
open Go.RowKit
set_option linter.unusedVariables false
set_option linter.unusedSimpArgs false

theorem sokS_parts (m : List EV) (ll : List (List EV)) : sokS m ll = ((decide (m.length ≤ 8) && decide (ll.length ≤ 6)) && (sokL m && (ll.all sokR && decide (m.length + psum (fun i => (ll.getD i []).length) ll.length ≤ 400)))) := rfl
set_option maxRecDepth 100000 in
set_option maxHeartbeats 4000000 in
theorem implSeenOk (m : List EV) (ll : List (List EV)) (p q : Value) (w : World) (hm : m.length ≤ 1048576) (hn : ll.length ≤ 1048576) (hr : ∀ i, i < ll.length → (ll.getD i []).length ≤ 1048576) (hp : EntRow w p m) (hq : RunRow w q ll) :
    Calls Try.prog 12 #[.agg #[p, q]] w fun e w' => e = .returned (.bool (sokS m ll)) ∧ Below w.heap.size w w' := by
  obtain ⟨O, hO⟩ : ∃ O, O = w.alloc (.cells #[p, q] 27) := ⟨_, rfl⟩
  have bO : Below w.heap.size w O := by rw [hO]; exact (Below.refl _ _).alloc (Nat.le_refl _) _
  have AO : BAt O w.heap.size [p, q] := by rw [hO]; exact BAt.new w #[p, q] _
  have CL : Hid (Calls Try.prog 32 #[p] O fun e w' => e = .returned (.bool (sokL m)) ∧ Below O.heap.size O w') := implLayerOk m p O (by omega) (hp.below bO)
  obtain ⟨pa, pc, rfl⟩ := hp.slice
  clear hp
  have HS := hidM (sokS_parts m ll)
  have HQ : Hid (RunRow w q ll) := hq
  have HR : Hid (∀ i, i < ll.length → (ll.getD i []).length ≤ 1048576) := hr
  clear hr
  obtain ⟨qa, qc, hqe⟩ := hq.slice
  subst hqe
  clear hq
  go_enter Try.func12, Try.ntmps12
  go_upto_region 1 with fail
  rw [← hO]
  clear hO
  have c0 := AO.1 0 _ rfl
  have c1 := AO.1 1 _ rfl
  by_cases h8 : m.length ≤ 8
  · have h8z : ¬ (8 : Int) < (m.length : Int) := by omega
    rw [decide_eq_true h8, Bool.true_and] at HS
    by_cases h6 : ll.length ≤ 6
    · have h6z : ¬ (6 : Int) < (ll.length : Int) := by omega
      rw [decide_eq_true h6, Bool.true_and] at HS
      cases hL : sokL m with
      | false =>
        have HF := hidM (show sokS m ll = false by rw [HS.out, hL]; rfl)
        rw [hL] at CL
        go_wp2_with fail
        refine CL.out.mono ?_
        rintro e w1 ⟨rfl, b1⟩
        go_wp2_with fail
        go_ret
        exact ⟨by rw [HF.out]; rfl, bO.trans (b1.mono bO.size)⟩
      | true =>
        rw [hL, Bool.true_and] at HS
        rw [hL] at CL
        go_wp2_with fail
        refine CL.out.mono ?_
        rintro e w1 ⟨rfl, b1⟩
        have B1 : Below w.heap.size w w1 := bO.trans (b1.mono bO.size)
        have A1 := AO.below b1
        have e0 := A1.1 0 _ rfl
        have e1 := A1.1 1 _ rfl
        clear CL c0 c1 b1 bO AO hL
        rcases HQ.out with ⟨h0, ao, cap, hv⟩ | ⟨h0, g, off, cap, hv, hg, hc⟩
        · have hl0 : ll.length = 0 := by rw [h0]; rfl
          have HF := hidM (show sokS m ll = decide (m.length ≤ 400) by rw [HS.out, h0]; rfl)
          have h4 : ((m.length : Int) ≤ 400) := by omega
          have h4b : decide (m.length ≤ 400) = true := decide_eq_true (by omega)
          rw [h4b] at HF
          rw [hl0] at e1
          clear HS HQ HR hv h0 hl0 h6 h6z
          go_wp2
          refine wp_loop_rounds 1 ?_
          rw [rounds_succ]
          go_wp2
          go_ret
          exact ⟨by rw [HF.out]; rfl, B1⟩
        · injection hv with hv1 hv2 hv3
          subst hv1 hv3
          have HC : Hid (∀ i, i < ll.length → ∃ x, w.cell? ⟨g, off + i, none⟩ = some x ∧ EntRow w x (ll.getD i [])) := hc
          clear hc HQ hv2
          obtain ⟨F, hF⟩ : ∃ F : Nat → Nat, F = fun i => (ll.getD i []).length := ⟨_, rfl⟩
          have HF : Hid (F = fun i => (ll.getD i []).length) := hF
          rw [← hF] at HS
          clear hF
          have HFb : Hid (∀ i, i < ll.length → F i ≤ 1048576) := fun i hi => by rw [HF.out]; exact HR.out i hi
          go_wp2
          go_loopw [3, 28] (fun s i wr => ∃ (k t : Nat), k ≤ ll.length ∧ i = .int .i64 k ∧ s = .int .i64 t ∧ t ≤ 8 + k * 1048576 ∧ Hid (t = m.length + psum F k) ∧ Hid (∀ j, j < k → sokR (ll.getD j []) = true) ∧ Below w.heap.size w wr) (fun _ i _ => ll.length - (intOf i).toNat)
          case atStart => exact ⟨0, m.length, Nat.zero_le _, rfl, rfl, by omega, (by show m.length = m.length + 0; rfl), fun j hj => absurd hj (Nat.not_lt_zero _), B1⟩
          case round =>
            obtain ⟨k, t, hk, rfl, rfl, ht, HT, HN, hbel⟩ := hrel
            clear B1 e0 e1 A1
            by_cases hlt : k < ll.length
            · have hki : (k : Int) < ll.length := by omega
              obtain ⟨x, d1, d2⟩ := HC.out k hlt
              have d1w := (hbel.cell (p := ⟨g, off + k, none⟩) hg).trans d1
              have hx := HR.out k hlt
              have HFk : Hid (F k = (ll.getD k []).length) := by show _ = _; rw [HF.out]
              have CX : Hid (∀ W, Below w.heap.size w W → Calls Try.prog 32 #[x] W fun e w' => e = .returned (.bool (sokL (ll.getD k []))) ∧ Below W.heap.size W w') := fun W hW => implLayerOk (ll.getD k []) x W (by omega) (d2.below hW)
              have HX : Hid (sokR (ll.getD k []) = false → sokS m ll = false) := fun h => by rw [HS.out, sokR_no hlt h]; rfl
              have HY : Hid (sokR (ll.getD k []) = true → ∀ j, j < k + 1 → sokR (ll.getD j []) = true) := fun h j hj => by
                by_cases e : j = k
                · subst e; exact h
                · exact HN.out j (by omega)
              have HOR : Hid (sokR (ll.getD k []) = (!decide ((ll.getD k []).length = 0) && sokL (ll.getD k []))) := rfl
              obtain ⟨xa, xc, hxx⟩ := d2.slice
              clear d1 d2
              generalize (ll.getD k []).length = XN at *
              generalize sokR (ll.getD k []) = XR at *
              generalize sokL (ll.getD k []) = XL at *
              subst hxx
              by_cases hx0 : XN = 0
              · have HFF := hidM (HX.out (by rw [HOR.out, decide_eq_true hx0]; rfl))
                have hx0z : ((XN : Int) == 0) = true := by rw [beq_iff_eq]; omega
                subst hx0
                clear HX HY HOR CX HT HN
                go_wp2_with fail
                go_ret
                exact ⟨by rw [HFF.out]; rfl, hbel⟩
              · have hx0z : ((XN : Int) == 0) = false := by rw [beq_eq_false_iff_ne]; omega
                rw [decide_eq_false hx0, Bool.not_false, Bool.true_and] at HOR
                cases XL with
                | false =>
                  have HFF := hidM (HX.out HOR.out)
                  clear HX HY HT HN
                  go_wp2_with fail
                  refine (CX.out _ hbel).mono ?_
                  rintro e w2 ⟨rfl, b2⟩
                  go_wp2_with fail
                  go_ret
                  exact ⟨by rw [HFF.out]; rfl, hbel.trans (b2.mono hbel.size)⟩
                | true =>
                  have HYY := hidM (HY.out HOR.out)
                  have HT2 : Hid (t + XN = m.length + psum F (k + 1)) := by
                    show _ = _
                    have a1 := HT.out; have a2 := HFk.out
                    have a3 : psum F (k + 1) = psum F k + F k := rfl
                    omega
                  clear HX HY HT HN
                  go_wp2_with fail
                  refine (CX.out _ hbel).mono ?_
                  rintro e w2 ⟨rfl, b2⟩
                  have B2 := hbel.trans (b2.mono hbel.size)
                  clear CX d1w
                  go_wp2_with fail
                  go_roundw
                  case rel => exact ⟨k + 1, t + XN, by omega, by go_num, by go_num, by omega, HT2, HYY.out, B2⟩
                  case measure => simp [intOf]; omega
            · have hki : ¬ (k : Int) < ll.length := by omega
              have HFF : Hid (sokS m ll = decide (t ≤ 400)) := by
                show _ = _
                rw [HS.out, sokR_yes (fun i hi => HN.out i (by omega)), Bool.true_and]
                have := HT.out
                rw [show k = ll.length by omega] at this
                rw [this]
              have HDD : Hid (decide (t ≤ 400) = decide ((t : Int) ≤ 400)) := by show _ = _; exact decide_eq_decide.2 (by omega)
              clear HT HN HS
              go_wp2_with fail
              go_ret
              exact ⟨by rw [HFF.out, HDD.out]; first | rfl | simp, hbel⟩
    · have h6z : (6 : Int) < (ll.length : Int) := by omega
      have HF := hidM (show sokS m ll = false by rw [HS.out, decide_eq_false h6]; rfl)
      go_wp2_with fail
      go_ret
      exact ⟨by rw [HF.out]; rfl, bO⟩
  · have h8z : (8 : Int) < (m.length : Int) := by omega
    have HF := hidM (show sokS m ll = false by rw [HS.out, decide_eq_false h8]; rfl)
    go_wp2_with fail
    go_ret
    exact ⟨by rw [HF.out]; rfl, bO⟩
end Go.Proofs.Ytdnlaijpgjpplaa
