/- The contract of the code's Matches: a loop by goto over the pieces. -/
import Derived.Test.YtbjidcejpdeegaaRows
import Derived.Test.YtbjidcejpdeegaaMatGreedy
import Derived.Test.YtbjidcejpdeegaaMaxLaid
import Derived.Test.YtbjidcejpdeegaaExtPlain
import Derived.Test.YtbjidcejpdeegaaShelf
import Derived.Handy
import Derived.WalkMore
import Derived.ScopeJumps
namespace Go.Proofs.Ytbjidcejpdeegaa
open Go.RowKit
set_option linter.unusedVariables false

theorem code_mono {P : Program} {c : Code} {Q Q' : Exit → Act → World → Prop} {a : Act} {w : World} (h : c.wp P Q a w) (hm : ∀ e a w, Q e a w → Q' e a w) : c.wp P Q' a w := by
  intro b k cs
  obtain ⟨e, a', w', hq, harr⟩ := h b k cs
  exact ⟨e, a', w', hm _ _ _ hq, harr⟩
/-- A scope whose one label is jumped back to: what follows the label is walked once. -/
theorem scope_back {P : Program} {c body : Code} {a : Act} {w : World} {Q : Exit → Act → World → Prop} (l : Nat) (J : Act → World → Prop) (μ : Act → World → Nat) (hf : findLabel c l = some (Code.skip.seq body))
    (pass : ∀ a w, J a w → body.wp P (Exit.jump l (fun a' w' => J a' w' ∧ μ a' w' < μ a w) Q) a w)
    (first : (∀ a w, J a w → body.wp P (Exit.jump l J Q) a w) → c.wp P (Exit.jump l J Q) a w) : (Code.scope c).wp P Q a w := by
  refine wp_scope_jumps l J μ hf (first fun a w hJ => code_mono (pass a w hJ) fun e a' w' h => ?_) fun a w hJ => wp_seq (wp_skip (pass a w hJ))
  cases e with
  | goto l' => exact ⟨h.1, h.2.1⟩
  | normal => exact h
  | exit _ => exact h
  | ret => exact h
  | panic _ => exact h
  | outgrown => exact h

theorem suf_one (c : UInt8) (l : List UInt8) : Lib.hasSuffix l [c] = decide (l.getLast? = some c) := by
  rw [Bool.eq_iff_iff, decide_eq_true_eq]
  unfold Lib.hasSuffix
  rw [List.isSuffixOf_iff_suffix]
  constructor
  · rintro ⟨r, rfl⟩; simp
  · intro h
    obtain ⟨r, hr⟩ := List.getLast?_eq_some_iff.1 h
    exact ⟨r, hr.symm⟩
theorem suf_end (l : List UInt8) : Lib.hasSuffix l [36] = endM l := suf_one 36 l
theorem trim_end (l : List UInt8) : Lib.trimSuffix l [36] = cutM l := by
  unfold Lib.trimSuffix cutM
  rw [suf_end]
  by_cases h : endM l = true
  · rw [if_pos h, if_pos h, List.dropLast_eq_take]
    rfl
  · rw [if_neg h, if_neg h]
/-- How much is left to be cut. -/
def muM : Value → Value → Nat
  | .string q, .bool true => q.size + 1
  | _, _ => 0
theorem strCutStar (q : ByteArray) (W : World) (hq : q.size ≤ 16777216) (hM : MaxI W) :
    Calls Try.prog 29 #[.string q, .string ⟨#[42]⟩] W fun e w' => ∃ (x y : ByteArray) (m : Bool), e = .returned (.tuple #[.string x, .string y, .bool m]) ∧ Hid (x.data.toList = upB 42 q.data.toList) ∧ Hid (y.data.toList = behB 42 q.data.toList) ∧ Hid (m = q.data.toList.contains 42) ∧ Below W.heap.size W w' := by
  obtain ⟨m, hm⟩ := hM
  refine (Try.strings_Cut q ⟨#[42]⟩ m W (by omega) hm).mono ?_
  rintro e w' ⟨rfl, n, rfl⟩
  rw [show (⟨#[42]⟩ : ByteArray).data.toList = [42] from rfl, cut_one]
  exact ⟨_, _, _, rfl, rfl, rfl, rfl, ⟨rfl, rfl, rfl, Nat.le_refl _, fun _ _ => rfl⟩⟩
theorem bytes_len {x : ByteArray} {l : List UInt8} (h : x.data.toList = l) : x.size = l.length := by rw [← h]; simp
theorem cut_sizes {q x y : ByteArray} (hx : x.data.toList = upB 42 q.data.toList) (hy : y.data.toList = behB 42 q.data.toList) : x.size ≤ q.size ∧ y.size ≤ q.size ∧ (q.data.toList.contains 42 = true → y.size < q.size) := by
  have h1 := bytes_len hx
  have h2 := bytes_len hy
  have h3 : q.size = q.data.toList.length := by simp
  have h4 := congrArg List.length (up_left q.data.toList)
  rw [List.length_append, ← h1, ← h3] at h4
  unfold leftS at h4
  cases hc : q.data.toList.contains 42 with
  | true =>
    rw [hc, if_pos rfl, List.length_cons, ← h2] at h4
    exact ⟨by omega, by omega, fun _ => by omega⟩
  | false =>
    have h5 := ((up_beh 42 q.data.toList).2.1 hc).2
    rw [h5] at h2
    exact ⟨by omega, by rw [h2]; simp, fun h => by cases h⟩
set_option maxRecDepth 100000 in
set_option maxHeartbeats 4000000 in
theorem implMatches (p s : ByteArray) (w : World) (hp : p.size ≤ 4194304) (hs : s.size ≤ 4194304) (hM : MaxI w) :
    Calls Try.prog 11 #[.string p, .string s] w fun e w' => e = .returned (.bool (matB p.data.toList s.data.toList)) ∧ Below w.heap.size w w' := by
  obtain ⟨e, he⟩ : ∃ e, endM p.data.toList = e := ⟨_, rfl⟩
  obtain ⟨c, hc⟩ : ∃ c : ByteArray, (⟨(cutM p.data.toList).toArray⟩ : ByteArray) = c := ⟨_, rfl⟩
  have HCL : Hid (c.data.toList = cutM p.data.toList) := by rw [← hc]; exact rfl
  have CS : Hid (∀ W, Calls Try.prog 28 #[.string p, .string ⟨#[36]⟩] W fun e' w' => e' = .returned (.tuple #[.string c, .bool e]) ∧ W = w') := fun W => by
    refine (Try.strings_CutSuffix p ⟨#[36]⟩ W (by omega)).mono ?_
    rintro e' w' ⟨rfl, rfl⟩
    rw [show (⟨#[36]⟩ : ByteArray).data.toList = [36] from rfl, trim_end, suf_end, he, hc]
    exact ⟨rfl, rfl⟩
  have CC : Hid (∀ (q : ByteArray) (W : World), q.size ≤ 16777216 → Below w.heap.size w W → Calls Try.prog 29 #[.string q, .string ⟨#[42]⟩] W fun e w' => ∃ (x y : ByteArray) (m : Bool), e = .returned (.tuple #[.string x, .string y, .bool m]) ∧ Hid (x.data.toList = upB 42 q.data.toList) ∧ Hid (y.data.toList = behB 42 q.data.toList) ∧ Hid (m = q.data.toList.contains 42) ∧ Below W.heap.size W w') := fun q W hq hW => strCutStar q W hq (max_below hM hW)
  have CP : Hid (∀ (x : ByteArray) (W : World), Calls Try.prog 30 #[.string s, .string x] W fun e w' => e = .returned (.bool (Lib.hasPrefix s.data.toList x.data.toList)) ∧ W = w') := fun x W => (Try.strings_HasPrefix s x W).mono fun e w' h => ⟨h.1, h.2.symm⟩
  have CX : Hid (∀ (t x : ByteArray) (W : World), t.size ≤ 16777216 → Calls Try.prog 31 #[.string t, .string x] W fun e w' => e = .returned (.bool (Lib.hasSuffix t.data.toList x.data.toList)) ∧ W = w') := fun t x W ht => (Try.strings_HasSuffix t x W (by omega)).mono fun e w' h => ⟨h.1, h.2.symm⟩
  have CI : Hid (∀ (t x : ByteArray) (W : World), t.size ≤ 16777216 → Below w.heap.size w W → Calls Try.prog 32 #[.string t, .string x] W fun e w' => e = .returned (.int .i64 (Lib.index t.data.toList x.data.toList)) ∧ W = w') := fun t x W ht hW => by
    obtain ⟨m, hm⟩ := max_below hM hW
    exact (Try.strings_Index t x m W (by omega) hm).mono fun e w' h => ⟨h.1, h.2.symm⟩
  have HMC : Hid (matB p.data.toList s.data.toList = true ↔ Can s.data.toList e (cutM p.data.toList) 0) := by rw [← he]; exact matB_can _ _
  have hcs : c.size ≤ p.size := by
    have h1 := bytes_len HCL.out
    have h2 : p.data.toList.length = p.size := by simp
    rw [h1, ← h2]
    unfold cutM
    split
    · rw [List.length_dropLast]; omega
    · exact Nat.le_refl _
  clear he hc hM
  go_enter Try.func11, Try.ntmps11
  go_wp2_with fail
  have hsl : s.data.toList.length = s.size := by simp
  refine scope_back 0 (fun a' w' => Below w.heap.size w w' ∧ ∃ (k : Nat) (q : ByteArray) (x : Value) (m : Bool) (z : Int) (u10 u11 u12 u13 u14 u15 u16 u17 u18 u19 u20 u21 u22 u23 u24 u25 u26 u27 u28 u29 u30 u31 u32 u33 u34 u35 u36 u37 u38 u39 u40 u41 u42 u43 u44 u45 u46 u47 u48 u49 u50 u51 u52 u53 u54 u55 u56 u57 u58 u59 u60 u61 u62 u63 u64 u65 u66 : Value), a' = { tmps := #[.string p, .string s, undef, undef, .bool false, .string q, .bool e, x, .bool m, .int .i64 z, u10, u11, u12, u13, u14, u15, u16, u17, u18, u19, u20, u21, u22, u23, u24, u25, u26, u27, u28, u29, u30, u31, u32, u33, u34, u35, u36, u37, u38, u39, u40, u41, u42, u43, u44, u45, u46, u47, u48, u49, u50, u51, u52, u53, u54, u55, u56, u57, u58, u59, u60, u61, u62, u63, u64, u65, u66], defers := [] } ∧ z = (k : Int) ∧ k ≤ s.size ∧ q.size ≤ p.size ∧ Hid (matB p.data.toList s.data.toList = true ↔ Can s.data.toList e (if m = true then 42 :: q.data.toList else []) k)) (fun a' _ => muM (a'.tmps.getD 5 undef) (a'.tmps.getD 8 undef)) rfl ?_ ?_
  · rintro a' w' ⟨hbel, k, q, x, m, z, u10, u11, u12, u13, u14, u15, u16, u17, u18, u19, u20, u21, u22, u23, u24, u25, u26, u27, u28, u29, u30, u31, u32, u33, u34, u35, u36, u37, u38, u39, u40, u41, u42, u43, u44, u45, u46, u47, u48, u49, u50, u51, u52, u53, u54, u55, u56, u57, u58, u59, u60, u61, u62, u63, u64, u65, u66, rfl, rfl, hk, hq, HJ⟩
    clear HMC CS CP
    cases m with
    | false =>
      rw [if_neg (by decide)] at HJ
      have HJ2 : Hid (matB p.data.toList s.data.toList = true ↔ (e = true → k = s.size)) := by
        have := HJ.out
        rw [can_nil (by rw [hsl]; exact hk), hsl] at this
        exact this
      clear HJ
      cases e with
      | false =>
        go_wp2_with fail
        simp only [Exit.jump]
        go_ret
        exact ⟨ret_bool (HJ2.out.2 fun h => by cases h).symm, hbel⟩
      | true =>
        have HB : Hid (((k : Int) == (s.size : Int)) = matB p.data.toList s.data.toList) := by
          show _ = _
          rw [Bool.eq_iff_iff, HJ2.out, beq_iff_eq]
          exact ⟨fun h _ => by omega, fun h => by have := h rfl; omega⟩
        go_wp2_with fail
        simp only [Exit.jump]
        go_ret
        exact ⟨ret_bool HB.out, hbel⟩
    | true =>
      rw [if_pos rfl] at HJ
      go_wp2_with fail
      refine (CC.out _ _ (by omega) hbel).mono ?_
      rintro e' w1 ⟨x1, y1, m1, rfl, HX, HY, HMM, b1⟩
      have B1 := hbel.trans (b1.mono hbel.size)
      obtain ⟨z1, z2, z3⟩ := cut_sizes HX.out HY.out
      rw [← HMM.out] at z3
      have HUL : Hid (q.data.toList = x1.data.toList ++ leftS q.data.toList) := by show _ = _; rw [HX.out]; exact up_left _
      have HNS : Hid (42 ∉ x1.data.toList) := by show _; rw [HX.out]; exact (up_beh 42 q.data.toList).2.2
      have HLF : Hid (leftS q.data.toList = if m1 = true then 42 :: y1.data.toList else []) := by show _ = _; rw [HMM.out, HY.out]; rfl
      have HDR : Hid ((s.extract k s.size).data.toList = s.data.toList.drop k) := drop_data s k
      have hes : (s.extract k s.size).size ≤ 16777216 := by simp; omega
      have HXL : Hid (x1.data.toList.length = x1.size) := (bytes_len rfl).symm
      rw [HUL.out, HLF.out] at HJ
      clear HX HY HMM hbel b1 HUL HLF
      obtain ⟨t, ht⟩ : ∃ t, s.extract k s.size = t := ⟨_, rfl⟩
      have hki : (k : Int) ≤ s.size := by omega
      by_cases hem : e = true ∧ m1 = false
      · obtain ⟨rfl, rfl⟩ := hem
        rw [if_neg (by decide), List.append_nil] at HJ
        have CX1 := fun W => CX.out (s.extract k s.size) x1 W hes
        rw [HDR.out] at CX1
        obtain ⟨b, hb⟩ : ∃ b, Lib.hasSuffix (s.data.toList.drop k) x1.data.toList = b := ⟨_, rfl⟩
        rw [hb] at CX1
        have HB : Hid (b = matB p.data.toList s.data.toList) := by
          show _ = _
          rw [Bool.eq_iff_iff, HJ.out, can_last HNS.out (by rw [hsl]; exact hk), hb]
        have CXb : Hid (∀ W, Calls Try.prog 31 #[.string (s.extract k s.size), .string x1] W fun e w' => e = .returned (.bool b) ∧ W = w') := CX1
        clear CX1 hb HJ CX CI CC HNS HDR ht
        go_wp2_with fail
        refine (CXb.out _).mono ?_
        rintro e' w' ⟨rfl, rfl⟩
        go_wp2_with fail
        simp only [Exit.jump]
        go_ret
        exact ⟨ret_bool HB.out, B1⟩
      · have hem2 : e = false ∨ m1 = true := by
          cases e with
          | false => exact .inl rfl
          | true =>
            cases m1 with
            | true => exact .inr rfl
            | false => exact absurd ⟨rfl, rfl⟩ hem
        have HTL : Hid ((e = false ∧ (if m1 = true then 42 :: y1.data.toList else []) = []) ∨ ∃ r, (if m1 = true then 42 :: y1.data.toList else []) = 42 :: r) := by
          show _ ∨ _
          cases m1 with
          | true => exact .inr ⟨_, if_pos rfl⟩
          | false => exact .inl ⟨hem2.resolve_right (by decide), if_neg (by decide)⟩
        have CI1 := fun W hW => CI.out (s.extract k s.size) x1 W hes hW
        rw [HDR.out] at CI1
        obtain ⟨z, hz⟩ : ∃ z, Lib.index (s.data.toList.drop k) x1.data.toList = z := ⟨_, rfl⟩
        rw [hz] at CI1
        have CIb : Hid (∀ W, Below w.heap.size w W → Calls Try.prog 32 #[.string (s.extract k s.size), .string x1] W fun e w' => e = .returned (.int .i64 z) ∧ W = w') := CI1
        have HGo : Hid (z = -1 ∧ matB p.data.toList s.data.toList = false ∨ ∃ j : Nat, z = j ∧ k + j + x1.size ≤ s.size ∧ (matB p.data.toList s.data.toList = true ↔ Can s.data.toList e (if m1 = true then 42 :: y1.data.toList else []) (k + j + x1.size))) := by
          show _ ∨ _
          rcases Lib.index_spec (s.data.toList.drop k) x1.data.toList with ⟨h1, _⟩ | ⟨j, h1, _⟩
          · refine .inl ⟨hz.symm.trans h1, ?_⟩
            rw [← Bool.not_eq_true, HJ.out]
            exact can_miss HNS.out (by rw [hsl]; exact hk) h1
          · obtain ⟨h2, h3⟩ := can_hit (e := e) HNS.out (by rw [hsl]; exact hk) h1 HTL.out
            rw [HXL.out] at h2 h3
            exact .inr ⟨j, hz.symm.trans h1, by rw [hsl] at h2; exact h2, HJ.out.trans h3⟩
        clear CI1 hz HJ CX CI CC HNS HDR ht HTL HXL
        rcases HGo.out with ⟨rfl, hF⟩ | ⟨j, rfl, hj, hC⟩
        · have HF : Hid (matB p.data.toList s.data.toList = false) := hF
          clear hF HGo
          rcases hem2 with rfl | rfl
          · go_wp2_with fail
            refine (CIb.out _ B1).mono ?_
            rintro e' w' ⟨rfl, rfl⟩
            go_wp2_with fail
            simp only [Exit.jump]
            go_ret
            exact ⟨ret_bool HF.out.symm, B1⟩
          · cases e with
            | true =>
              go_wp2_with fail
              refine (CIb.out _ B1).mono ?_
              rintro e' w' ⟨rfl, rfl⟩
              go_wp2_with fail
              simp only [Exit.jump]
              go_ret
              exact ⟨ret_bool HF.out.symm, B1⟩
            | false =>
              go_wp2_with fail
              refine (CIb.out _ B1).mono ?_
              rintro e' w' ⟨rfl, rfl⟩
              go_wp2_with fail
              simp only [Exit.jump]
              go_ret
              exact ⟨ret_bool HF.out.symm, B1⟩
        · have HC2 : Hid (matB p.data.toList s.data.toList = true ↔ Can s.data.toList e (if m1 = true then 42 :: y1.data.toList else []) (k + j + x1.size)) := hC
          have hmu : muM (.string y1) (.bool m1) < q.size + 1 := by
            cases m1 with
            | false => exact Nat.succ_pos _
            | true => have := z3 rfl; show y1.size + 1 < q.size + 1; omega
          have hnum : ((k + j + x1.size : Nat) : Int) = (k : Int) + ((j : Int) + (x1.size : Int)) := by omega
          clear hC HGo
          rcases hem2 with rfl | rfl
          · go_wp2_with fail
            refine (CIb.out _ B1).mono ?_
            rintro e' w' ⟨rfl, rfl⟩
            go_wp2_with fail
            go_step3
            exact ⟨rfl, ⟨B1, k + j + x1.size, y1, _, m1, _, _, _, _, _, _, _, _, _, _, _, _, _, _, _, _, _, _, _, _, _, _, _, _, _, _, _, _, _, _, _, _, _, _, _, _, _, _, _, _, _, _, _, _, _, _, _, _, _, _, _, _, _, _, _, _, _, _, rfl, hnum.symm, hj, by omega, HC2⟩, hmu⟩
          · cases e with
            | true =>
              go_wp2_with fail
              refine (CIb.out _ B1).mono ?_
              rintro e' w' ⟨rfl, rfl⟩
              go_wp2_with fail
              go_step3
              exact ⟨rfl, ⟨B1, k + j + x1.size, y1, _, true, _, _, _, _, _, _, _, _, _, _, _, _, _, _, _, _, _, _, _, _, _, _, _, _, _, _, _, _, _, _, _, _, _, _, _, _, _, _, _, _, _, _, _, _, _, _, _, _, _, _, _, _, _, _, _, _, _, _, rfl, hnum.symm, hj, by omega, HC2⟩, hmu⟩
            | false =>
              go_wp2_with fail
              refine (CIb.out _ B1).mono ?_
              rintro e' w' ⟨rfl, rfl⟩
              go_wp2_with fail
              go_step3
              exact ⟨rfl, ⟨B1, k + j + x1.size, y1, _, true, _, _, _, _, _, _, _, _, _, _, _, _, _, _, _, _, _, _, _, _, _, _, _, _, _, _, _, _, _, _, _, _, _, _, _, _, _, _, _, _, _, _, _, _, _, _, _, _, _, _, _, _, _, _, _, _, _, _, rfl, hnum.symm, hj, by omega, HC2⟩, hmu⟩
  · intro hbody
    go_wp2_with fail
    refine (CS.out _).mono ?_
    rintro e' w' ⟨rfl, rfl⟩
    go_wp2_with fail
    refine (CC.out _ _ (by omega) (Below.refl _ _)).mono ?_
    rintro e' w1 ⟨x1, y1, m1, rfl, HX, HY, HMM, b1⟩
    obtain ⟨z1, z2, z3⟩ := cut_sizes HX.out HY.out
    have HPF : Hid (matB p.data.toList s.data.toList = true ↔ Lib.hasPrefix s.data.toList x1.data.toList = true ∧ Can s.data.toList e (if m1 = true then 42 :: y1.data.toList else []) x1.size) := by
      show _ ↔ _
      have h1 : cutM p.data.toList = x1.data.toList ++ (if m1 = true then 42 :: y1.data.toList else []) := by
        rw [← HCL.out, HX.out, HMM.out, HY.out]
        exact up_left _
      rw [HMC.out, h1, can_piece (by rw [HX.out]; exact (up_beh 42 c.data.toList).2.2), List.drop_zero, Nat.zero_add, bytes_len rfl]
      unfold Lib.hasPrefix
      rw [List.isPrefixOf_iff_prefix]
    have CP1 := CP.out x1
    obtain ⟨b, hb⟩ : ∃ b, Lib.hasPrefix s.data.toList x1.data.toList = b := ⟨_, rfl⟩
    rw [hb] at CP1 HPF
    have HXS : Hid (b = true → x1.size ≤ s.size) := fun h => by
      rw [h] at hb
      unfold Lib.hasPrefix at hb
      have := (List.isPrefixOf_iff_prefix.1 hb).length_le
      rw [hsl, ← bytes_len rfl] at this
      exact this
    have CPb : Hid (∀ W, Calls Try.prog 30 #[.string s, .string x1] W fun e w' => e = .returned (.bool b) ∧ W = w') := CP1
    clear CP1 hb CP CS CX CI HCL HMC HX HY HMM
    cases b with
    | false =>
      have HF : Hid (matB p.data.toList s.data.toList = false) := by
        show _ = _
        rw [← Bool.not_eq_true, HPF.out]
        rintro ⟨h, _⟩
        cases h
      go_wp2_with fail
      refine (CPb.out _).mono ?_
      rintro e' w' ⟨rfl, rfl⟩
      go_wp2_with fail
      simp only [Exit.jump]
      go_ret
      exact ⟨ret_bool HF.out.symm, b1⟩
    | true =>
      have hxs := HXS.out rfl
      have HJ : Hid (matB p.data.toList s.data.toList = true ↔ Can s.data.toList e (if m1 = true then 42 :: y1.data.toList else []) x1.size) := by
        show _ ↔ _
        rw [HPF.out]
        exact ⟨fun h => h.2, fun h => ⟨rfl, h⟩⟩
      clear HPF
      go_wp2_with fail
      refine (CPb.out _).mono ?_
      rintro e' w' ⟨rfl, rfl⟩
      go_wp2_with fail
      go_step3
      refine ‹∀ (a : Act) (w : World), Code.wp _ _ _ a w → _› _ _ (hbody _ _ ?_)
      exact ⟨b1, x1.size, y1, _, m1, _, _, _, _, _, _, _, _, _, _, _, _, _, _, _, _, _, _, _, _, _, _, _, _, _, _, _, _, _, _, _, _, _, _, _, _, _, _, _, _, _, _, _, _, _, _, _, _, _, _, _, _, _, _, _, _, _, _, rfl, rfl, hxs, by omega, HJ⟩
end Go.Proofs.Ytbjidcejpdeegaa
