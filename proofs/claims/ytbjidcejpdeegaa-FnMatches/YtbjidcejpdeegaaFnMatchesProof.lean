/- Proved: laws.FnMatches answers true at every code and leaves it as it was; no condition. -/
import Derived.Test.YtbjidcejpdeegaaRows
import Derived.Test.YtbjidcejpdeegaaMatLaw
import Derived.ProofKit
import Derived.HandedShaped
import Derived.OpenShut
import Derived.ShutString
import Derived.ChangeOld
import Derived.Below
namespace Go.Proofs.Ytbjidcejpdeegaa.fnMatches
open Go.ChangeShapes Go.WideShapes Go.ChangeAt Go.RowKit
open Go.ChangeMaps (open_string shut_string)
set_option linter.unusedVariables false

theorem own : ownKnob Try.prog.godebug = none := by kernel_rfl
theorem laidOut : laidOutB Try.prog = true := by kernel_rfl

/-- WHAT THE WALK IS TOLD OF A SLICE OF INTEGERS THAT CAME IN: it is nil; or it leads to a row of 'cap' cells, the numbers 'zs' (the first 'len' are its elements, the rest its spare room), each fitting its kind. -/
def IsRow (k : IntKind) (w : World) (a : Option Addr) (len cap : Nat) (zs : List Int) : Prop :=
  (a = none ∧ len = 0 ∧ cap = 0 ∧ zs = []) ∨
  ∃ x, a = some x ∧ len ≤ cap ∧ cap ≤ maxLen ∧ zs.length = cap ∧ (∀ i, i < zs.length → w.cell? (x.add i) = some (.int k (zs.getD i 0))) ∧ ∀ n ∈ zs, (Lit.int k n).wf = true

set_option maxRecDepth 100000 in
set_option maxHeartbeats 8000000 in
theorem walk (a0 : Option Addr) (len0 cap0 : Nat) (z0 : List Int) (w : World) (w0 : IsRow .u8 w a0 len0 cap0 z0) (hM : MaxI w) :
    Calls Try.prog 3 #[.slice a0 len0 cap0] w fun e w' => e = .returned (.bool true) ∧ Below w.heap.size w w' := by
  by_cases hbig : 1048576 < (len0 : Int)
  · go_enter Try.func3, Try.ntmps3
    go_wp2_with fail
    refine (big_yes _ _ _ _ hbig).mono ?_
    rintro e w' ⟨rfl, rfl⟩
    go_wp2
    go_ret
    exact ⟨rfl, Below.refl _ _⟩
  · have hl : len0 ≤ 1048576 := by omega
    have hcode : CodeRow w.heap.size w a0 len0 := by
      rcases w0 with ⟨rfl, rfl, rfl, rfl⟩ | ⟨x, rfl, h1, h2, h3, h4, h5⟩
      · exact .inl rfl
      · by_cases h0 : len0 = 0
        · exact .inl h0
        · obtain ⟨b, off, rfl, hc⟩ := ints_at h4 (by omega)
          refine .inr ⟨b, off, rfl, World.block_lt_of_cell? w ⟨b, off + 0, none⟩ (hc 0 (by omega)), fun i hi => ?_⟩
          refine ⟨_, hc i (by omega), ?_⟩
          have hb := bounds_u8 (h5 (z0.getD i 0) (by
            rw [List.getD_eq_getElem?_getD, List.getElem?_eq_getElem (by omega)]
            exact List.getElem_mem _))
          exact hb
    have HCO : Hid (CodeRow w.heap.size w a0 len0) := hcode
    clear w0 hcode
    go_enter Try.func3, Try.ntmps3
    go_wp2_with fail
    refine (big_no _ _ _ _ (by omega)).mono ?_
    rintro e w' ⟨rfl, rfl⟩
    go_wp2_with fail
    refine (drawMatches _ _ _ _ hl HCO.out).mono ?_
    rintro e w0 ⟨p, s, hp, hs, rfl, b0⟩
    have HX : Hid (∀ W, Below w.heap.size w W → MaxI W) := fun W hW => max_below hM hW
    have CI : Hid (∀ (x y : ByteArray) (W : World), x.size ≤ 4194304 → y.size ≤ 4194304 → Below w.heap.size w W → Calls Try.prog 11 #[.string x, .string y] W fun e w' => e = .returned (.bool (matB x.data.toList y.data.toList)) ∧ Below W.heap.size W w') := fun x y W hx hy hW => implMatches x y W hx hy (HX.out W hW)
    have CS : Hid (∀ W, Calls Try.prog 12 #[.string p, .string s] W fun e w' => e = .returned (.bool (matB p.data.toList s.data.toList)) ∧ Below W.heap.size W w') := fun W => specMatches p s W (by omega) (by omega)
    have C1 : Hid (∀ W, Below w.heap.size w W → Calls Try.prog 11 #[.string p, .string s] W fun e w' => e = .returned (.bool (matB p.data.toList s.data.toList)) ∧ Below W.heap.size W w') := fun W hW => CI.out p s W (by omega) (by omega) hW
    obtain ⟨m, hm⟩ : ∃ m, matB p.data.toList s.data.toList = m := ⟨_, rfl⟩
    obtain ⟨en, hen⟩ : ∃ en, endM p.data.toList = en := ⟨_, rfl⟩
    have HM : Hid (matB p.data.toList s.data.toList = m) := hm
    have HEN : Hid (endM p.data.toList = en) := hen
    rw [hm] at CS C1
    clear hm hen hM HX HCO
    go_wp2_with fail
    refine (C1.out _ b0).mono ?_
    rintro e w1 ⟨rfl, b1⟩
    have B1 := b0.trans (b1.mono b0.size)
    clear b1 b0
    go_wp2_with fail
    refine (CS.out _).mono ?_
    rintro e w2 ⟨rfl, b2⟩
    have B2 := B1.trans (b2.mono B1.size)
    clear b2 B1 C1 CS
    have hmm : (m != m) = false := by cases m <;> rfl
    go_upto_region 7 with fail
    go_cut [6] (fun v wx => v = .bool en ∧ wx = w2)
    case first =>
      by_cases h0 : 0 < p.size
      · have hem := empty_no h0
        have H1 := end_at h0
        rw [HEN.out] at H1
        obtain ⟨d, hd⟩ : ∃ d : Nat, (p[p.size - 1]'(by omega)).toNat = d := ⟨_, rfl⟩
        have ix := run_at Try.prog 9 Try.underlying9 p ((p.size : Int) - 1) (p.size - 1) d (by omega) (by omega) hd
        have hpi : 0 < (p.size : Int) := by omega
        have HT : Hid (en = ((d : Int) == 36)) := by
          show _ = _
          rw [H1, Bool.eq_iff_iff, decide_eq_true_eq, beq_iff_eq]
          exact ⟨fun h => by rw [← hd, h]; rfl, fun h => UInt8.toNat_inj.1 (by rw [hd]; show d = 36; omega)⟩
        clear H1 hd
        go_wp2_with fail
        go_meet
        exact ⟨by rw [HT.out], rfl⟩
      · have hem := empty_yes (u := p) (by omega)
        have HT : Hid (en = false) := HEN.out.symm.trans (end_nil h0)
        go_wp2_with fail
        go_meet
        exact ⟨by rw [HT.out], rfl⟩
    case rest =>
      obtain ⟨rfl, hw⟩ := hcut
      obtain rfl := hw.symm
      go_upto_region 8 with fail
      go_cut [54] (fun v wx => v = .bool false ∧ Below w.heap.size w wx)
      case first =>
        cases en with
        | true =>
          go_wp2_with fail
          go_meet
          exact ⟨rfl, B2⟩
        | false =>
          have C2 : Hid (∀ W, Below w.heap.size w W → Calls Try.prog 11 #[.string (p ++ ⟨#[42]⟩), .string s] W fun e w' => e = .returned (.bool m) ∧ Below W.heap.size W w') := fun W hW => by
            have := CI.out (p ++ ⟨#[42]⟩) s W (by rw [ByteArray.size_append]; show p.size + 1 ≤ 4194304; omega) (by omega) hW
            rw [app_data, show (⟨#[42]⟩ : ByteArray).data.toList = [42] from rfl, mat_star HEN.out, HM.out] at this
            exact this
          cases m with
          | true =>
            have C3 : Hid (∀ W, Below w.heap.size w W → Calls Try.prog 11 #[.string p, .string (s ++ ⟨#[109, 111, 114, 101]⟩)] W fun e w' => e = .returned (.bool true) ∧ Below W.heap.size W w') := fun W hW => by
              have := CI.out p (s ++ ⟨#[109, 111, 114, 101]⟩) W (by omega) (by rw [ByteArray.size_append]; show s.size + 4 ≤ 4194304; omega) hW
              rw [app_data, mat_more HEN.out HM.out] at this
              exact this
            clear CI
            go_wp2_with fail
            refine (C2.out _ B2).mono ?_
            rintro e w3 ⟨rfl, b3⟩
            have B3 := B2.trans (b3.mono B2.size)
            clear b3
            go_wp2_with fail
            refine (C3.out _ B3).mono ?_
            rintro e w4 ⟨rfl, b4⟩
            have B4 := B3.trans (b4.mono B3.size)
            clear b4
            go_wp2_with fail
            go_meet
            exact ⟨rfl, B4⟩
          | false =>
            clear CI
            go_wp2_with fail
            refine (C2.out _ B2).mono ?_
            rintro e w3 ⟨rfl, b3⟩
            have B3 := B2.trans (b3.mono B2.size)
            clear b3
            go_wp2_with fail
            go_meet
            exact ⟨rfl, B3⟩
      case rest =>
        obtain ⟨rfl, B3⟩ := hcut
        generalize wc = w3 at *
        clear B2
        obtain ⟨tw, htw⟩ : ∃ tw, endM p.data.toList.dropLast = tw := ⟨_, rfl⟩
        have HTW : Hid (endM p.data.toList.dropLast = tw) := htw
        clear htw
        go_upto_region 10 with fail
        go_cut [7] (fun v wx => v = .bool tw ∧ wx = w3)
        case first =>
          by_cases h1 : 1 < p.size
          · have H1 := twice_at h1
            rw [HTW.out] at H1
            obtain ⟨d, hd⟩ : ∃ d : Nat, (p[p.size - 2]'(by omega)).toNat = d := ⟨_, rfl⟩
            have ix := run_at Try.prog 9 Try.underlying9 p ((p.size : Int) - 2) (p.size - 2) d (by omega) (by omega) hd
            have hpi : 1 < (p.size : Int) := by omega
            have HT : Hid (tw = ((d : Int) == 36)) := by
              show _ = _
              rw [H1, Bool.eq_iff_iff, decide_eq_true_eq, beq_iff_eq]
              exact ⟨fun h => by rw [← hd, h]; rfl, fun h => UInt8.toNat_inj.1 (by rw [hd]; show d = 36; omega)⟩
            clear H1 hd
            go_wp2_with fail
            go_meet
            exact ⟨by rw [HT.out], rfl⟩
          · have hpi : ¬ 1 < (p.size : Int) := by omega
            have HT : Hid (tw = false) := HTW.out.symm.trans (twice_no h1)
            go_wp2_with fail
            go_meet
            exact ⟨by rw [HT.out], rfl⟩
        case rest =>
          obtain ⟨rfl, hw⟩ := hcut
          obtain rfl := hw.symm
          go_upto_region 11 with fail
          go_cut [83] (fun v wx => v = .bool false ∧ Below w.heap.size w wx)
          case first =>
            cases en with
            | false =>
              go_wp2_with fail
              go_meet
              exact ⟨rfl, B3⟩
            | true =>
              cases m with
              | false =>
                go_wp2_with fail
                go_meet
                exact ⟨rfl, B3⟩
              | true =>
                cases tw with
                | true =>
                  go_wp2_with fail
                  go_meet
                  exact ⟨rfl, B3⟩
                | false =>
                  have h0 : 0 < p.size := by
                    rcases Nat.lt_or_ge 0 p.size with h | h
                    · exact h
                    · have := end_nil (p := p) (by omega)
                      rw [HEN.out] at this
                      cases this
                  have C4 : Hid (∀ W, Below w.heap.size w W → Calls Try.prog 11 #[.string (p.extract 0 (p.size - 1)), .string s] W fun e w' => e = .returned (.bool true) ∧ Below W.heap.size W w') := fun W hW => by
                    have := CI.out (p.extract 0 (p.size - 1)) s W (by simp; omega) (by omega) hW
                    rw [drop_last, mat_cut HEN.out HTW.out HM.out] at this
                    exact this
                  have hpi : ((p.size : Int) - 1).toNat = p.size - 1 := by omega
                  clear CI
                  go_wp2_with fail
                  refine (C4.out _ B3).mono ?_
                  rintro e w4 ⟨rfl, b4⟩
                  have B4 := B3.trans (b4.mono B3.size)
                  clear b4
                  go_wp2_with fail
                  go_meet
                  exact ⟨rfl, B4⟩
          case rest =>
            obtain ⟨rfl, B4⟩ := hcut
            generalize wc = w4 at *
            clear B3
            go_wp2_with fail
            go_loop [8, 9] (fun b i => ∃ (k : Nat) (st : Bool), k ≤ s.size ∧ i = .int .i64 k ∧ b = .bool st ∧ Hid (st = false → ∀ j, j < k → s.data.toList[j]? ≠ some 42 ∧ s.data.toList[j]? ≠ some 36)) (fun _ i => s.size - (intOf i).toNat)
            case atStart => exact ⟨0, false, Nat.zero_le _, rfl, rfl, fun _ j hj => absurd hj (Nat.not_lt_zero _)⟩
            case round =>
              obtain ⟨k, st, hk, rfl, rfl, HS⟩ := hrel
              by_cases hlt : k < s.size
              · have hki : (k : Int) < s.size := by omega
                cases st with
                | true =>
                  have HS2 : Hid (true = false → ∀ j, j < k + 1 → s.data.toList[j]? ≠ some 42 ∧ s.data.toList[j]? ≠ some 36) := fun h => by cases h
                  go_wp2_with fail
                  go_round
                  case rel => exact ⟨k + 1, true, by omega, by go_num, rfl, HS2⟩
                  case measure => simp [intOf] <;> omega
                | false =>
                  obtain ⟨d, hd⟩ : ∃ d : Nat, (s[k]'hlt).toNat = d := ⟨_, rfl⟩
                  have ix := run_at Try.prog 9 Try.underlying9 s (k : Int) k d hlt rfl hd
                  have hsk : s.data.toList[k]? = some (s[k]'hlt) := List.getElem?_eq_getElem (by simp; omega)
                  have HS2 : Hid ((((d : Int) == 42) || ((d : Int) == 36)) = false → ∀ j, j < k + 1 → s.data.toList[j]? ≠ some 42 ∧ s.data.toList[j]? ≠ some 36) := fun h j hj => by
                    by_cases hjk : j < k
                    · exact HS.out rfl j hjk
                    · rw [show j = k by omega, hsk]
                      rw [Bool.or_eq_false_iff, beq_eq_false_iff_ne, beq_eq_false_iff_ne] at h
                      exact ⟨fun e => h.1 (by rw [← hd, Option.some.inj e]; rfl), fun e => h.2 (by rw [← hd, Option.some.inj e]; rfl)⟩
                  clear hd hsk HS
                  cases h42 : ((d : Int) == 42) with
                  | true =>
                    rw [h42] at HS2
                    go_wp2_with fail
                    go_round
                    case rel => exact ⟨k + 1, _, by omega, by go_num, rfl, HS2⟩
                    case measure => simp [intOf] <;> omega
                  | false =>
                    rw [h42, Bool.false_or] at HS2
                    go_wp2_with fail
                    go_round
                    case rel => exact ⟨k + 1, _, by omega, by go_num, rfl, HS2⟩
                    case measure => simp [intOf] <;> omega
              · have hki : ¬ (k : Int) < s.size := by omega
                cases st with
                | true =>
                  go_wp2_with fail
                  go_ret
                  exact ⟨rfl, B4⟩
                | false =>
                  have hfree : ∀ c ∈ s.data.toList, c ≠ 42 ∧ c ≠ 36 := fun c hc => by
                    obtain ⟨j, hj, e⟩ := List.mem_iff_getElem.1 hc
                    have hj2 : j < s.size := by simpa using hj
                    have := HS.out rfl j (by omega)
                    rw [List.getElem?_eq_getElem hj, e] at this
                    exact ⟨fun h => this.1 (by rw [h]), fun h => this.2 (by rw [h])⟩
                  obtain ⟨q1, q2, q3⟩ := mat_self hfree
                  have D1 : Hid (∀ W, Below w.heap.size w W → Calls Try.prog 11 #[.string s, .string s] W fun e w' => e = .returned (.bool true) ∧ Below W.heap.size W w') := fun W hW => by
                    have := CI.out s s W (by omega) (by omega) hW
                    rw [q1] at this
                    exact this
                  have D2 : Hid (∀ W, Below w.heap.size w W → Calls Try.prog 11 #[.string (s ++ ⟨#[36]⟩), .string s] W fun e w' => e = .returned (.bool true) ∧ Below W.heap.size W w') := fun W hW => by
                    have := CI.out (s ++ ⟨#[36]⟩) s W (by rw [ByteArray.size_append]; show s.size + 1 ≤ 4194304; omega) (by omega) hW
                    rw [app_data, show (⟨#[36]⟩ : ByteArray).data.toList = [36] from rfl, q2] at this
                    exact this
                  have D3 : Hid (∀ W, Below w.heap.size w W → Calls Try.prog 11 #[.string (s ++ ⟨#[120]⟩), .string s] W fun e w' => e = .returned (.bool false) ∧ Below W.heap.size W w') := fun W hW => by
                    have := CI.out (s ++ ⟨#[120]⟩) s W (by rw [ByteArray.size_append]; show s.size + 1 ≤ 4194304; omega) (by omega) hW
                    rw [app_data, show (⟨#[120]⟩ : ByteArray).data.toList = [120] from rfl, q3] at this
                    exact this
                  clear hfree q1 q2 q3 CI HS
                  go_wp2_with fail
                  refine (D1.out _ B4).mono ?_
                  rintro e w5 ⟨rfl, b5⟩
                  have B5 := B4.trans (b5.mono B4.size)
                  clear b5
                  go_wp2_with fail
                  refine (D2.out _ B5).mono ?_
                  rintro e w6 ⟨rfl, b6⟩
                  have B6 := B5.trans (b6.mono B5.size)
                  clear b6
                  go_wp2_with fail
                  refine (D3.out _ B6).mono ?_
                  rintro e w7 ⟨rfl, b7⟩
                  have B7 := B6.trans (b7.mono B6.size)
                  clear b7
                  go_wp2_with fail
                  go_ret
                  exact ⟨rfl, B7⟩

set_option maxRecDepth 100000 in
theorem lifted (os : Os) (started : os.Started) (H : Type) (enc : TypeId × Value → H) :
    ReturnsInHanded {} Try.checked os 3 .any (Rows.fnMatchesSpec.pre6 enc Try.prog Try.f3 Rows.fnMatchesRow.domain false) (Rows.fnMatchesSpec.post enc Try.prog Try.f3 false true false false) := by
  refine returnsInHanded_of_change_shaped (C := Try.checked) own started (by kernel_rfl) Try.func3
    (ChangeSpec.witness6 (enc := enc) (C := Try.checked) false ⟨#[], #[.slice none 0 0], []⟩ 8 (by kernel_rfl) (by kernel_rfl) (by kernel_rfl) (by kernel_rfl)) ?_
  intro W base args ds gs before hval0 hW hcnd _ hSh _
  have hval : ∀ (j : Nat) t v, Try.f3.params[j]? = some t → args[j]? = some v → Value.okWide Try.prog W .any base t v := hval0
  have hW' := hW
  obtain ⟨p, q, hA0, hV, rfl, hfz, hnd⟩ := hW
  have hA : DataW.TrodAll enc Try.prog W 0 (fun _ => true) true Try.f3.params.toList args.toList ds p := hA0
  rw [Try.params3] at hA hval
  obtain ⟨v0, vs0, d0, ds0, p0, q0, hargs, rfl, rfl, h0, r0⟩ := trodAll_cons hA
  obtain ⟨rfl, rfl, rfl⟩ := trodAll_nil r0
  obtain rfl : args = #[v0] := by cases args; simp_all
  obtain ⟨rfl, rfl⟩ := trodVars_none hV
  obtain ⟨a0, len0, cap0, rfl⟩ := okWide_slice Try.underlying22 (hval 0 22 v0 rfl rfl)
  have k0 := h0
  have lt0 : ∀ x ∈ p0, x.block < W.heap.size := by obtain ⟨m, hm⟩ := k0; exact DataW.trod_lt m _ _ _ hm
  obtain ⟨z0, w0⟩ : ∃ zs, IsRow .u8 W a0 len0 cap0 zs := by
    obtain ⟨fuel, hf⟩ := h0
    rcases open_ints Try.underlying22 Try.underlying5 (by kernel_rfl) hf with ⟨hcs, _⟩ | ⟨x, l, c, zs, hcs, _, hl, hm, hz, _, hcell, hwz⟩
    · simp [Value.cells] at hcs
      obtain ⟨rfl, rfl, rfl⟩ := hcs
      exact ⟨[], .inl ⟨rfl, rfl, rfl, rfl⟩⟩
    · simp [Value.cells] at hcs
      obtain ⟨rfl, rfl, rfl⟩ := hcs
      exact ⟨zs, .inr ⟨_, rfl, hl, hm, by simpa using hz, hcell, hwz⟩⟩
  clear hA0 hval0
  refine (walk a0 len0 cap0 z0 W w0 (max_shaped hSh)).mono fun e W' ⟨he, bel⟩ => ?_
  subst he
  exact ⟨_, rfl, _, _, _, [], _, [], hW', trodAll_mk1 (shut_bool Try.underlying4 _), (trodAll_cons_mk (Below.trod laidOut (by kernel_rfl) (of_decide_eq_true (by kernel_rfl)) k0 bel lt0) trodAll_mk0), rfl, bel.frame _, fun h => by cases h⟩

theorem over : Rows.fnMatchesRow.holds Try.pinned (OpenSpec.ofChange Rows.fnMatchesSpec) :=
  OpenClaim.holds_of_wide 3 Try.f3 rfl rfl rfl rfl rfl rfl rfl ⟨rfl, rfl, rfl, rfl, rfl⟩ rfl rfl rfl rfl rfl (by kernel_rfl) Try.func3 (by kernel_rfl)
    (of_decide_eq_true (by kernel_rfl)) (by unfold Func.isWrapper; first | (rw [if_pos (by decide +kernel)]; kernel_rfl) | (rw [if_neg (by decide +kernel)]; exact ⟨rfl, rfl⟩))
    (fun os started H enc _ => lifted os started H enc)

theorem proved : Rows.FnMatchesSaid := over
end Go.Proofs.Ytbjidcejpdeegaa.fnMatches

namespace Go.Proofs.Ytbjidcejpdeegaa
theorem fnMatches_holds : Rows.FnMatchesSaid := fnMatches.proved
#print axioms fnMatches_holds
end Go.Proofs.Ytbjidcejpdeegaa
