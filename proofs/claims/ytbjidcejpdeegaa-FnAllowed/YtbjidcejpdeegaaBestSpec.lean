/- The contracts of the specification's Best, Allowed and Forbids. -/
import Derived.Test.YtbjidcejpdeegaaRows
import Derived.Test.YtbjidcejpdeegaaBestPlain
import Derived.Test.YtbjidcejpdeegaaMatSpec
import Derived.Handy
import Derived.Deep.DeepCutAuto
namespace Go.Proofs.Ytbjidcejpdeegaa
open Go.RowKit
set_option linter.unusedVariables false

/-- The place of the line that decides, -1 where there is none. -/
def bestZ : Option Nat → Int
  | none => -1
  | some k => (k : Int)
/-- No line is longer than a text that is measured. -/
def LSz (l : List LV) : Prop := l.length ≤ 1073741824 ∧ ∀ i, i < l.length → (l.getD i lv0).pa.size ≤ 4194304
theorem best_no {l : List LV} {s : List UInt8} {k : Nat} (h : matI l s k = false) : bestK l s (k + 1) = bestK l s k := by
  show bestI l s (bestK l s k) k = _
  unfold bestI
  rw [if_pos h]
theorem best_one {l : List LV} {s : List UInt8} {k : Nat} (h : matI l s k = true) (hb : bestK l s k = none) : bestK l s (k + 1) = some k := by
  show bestI l s (bestK l s k) k = _
  unfold bestI
  rw [if_neg (by rw [h]; decide), hb]
theorem best_over {l : List LV} {s : List UInt8} {k b : Nat} (h : matI l s k = true) (hb : bestK l s k = some b) : bestK l s (k + 1) = some (if overI l b k = true then k else b) := by
  show bestI l s (bestK l s k) k = _
  unfold bestI
  rw [if_neg (by rw [h]; decide), hb]
  dsimp only
  split <;> rfl
theorem best_stay {l : List LV} {s : List UInt8} {k b : Nat} (hb : bestK l s k = some b) (ho : overI l b k = false) : bestK l s (k + 1) = some b := by
  cases h : matI l s k with
  | false => rw [best_no h, hb]
  | true => rw [best_over h hb, if_neg (by rw [ho]; decide)]
theorem best_lt {l : List LV} {s : List UInt8} {k b : Nat} (hb : bestK l s k = some b) : b < k := by
  have := best_law l s k
  rw [hb] at this
  exact this.1
theorem over_more {l : List LV} {b i : Nat} (h : (l.getD b lv0).pa.size < (l.getD i lv0).pa.size) : overI l b i = true := (overI_iff l b i).2 (.inl h)
theorem over_less {l : List LV} {b i : Nat} (h : (l.getD i lv0).pa.size < (l.getD b lv0).pa.size) : overI l b i = false := by
  rw [← Bool.not_eq_true, overI_iff]
  rintro (h1 | ⟨h1, _⟩) <;> omega
theorem over_same {l : List LV} {b i : Nat} (h : (l.getD i lv0).pa.size = (l.getD b lv0).pa.size) : overI l b i = ((l.getD i lv0).al && !(l.getD b lv0).al) := by
  unfold overI
  rw [decide_eq_false (by omega), decide_eq_true h]
  simp
set_option maxRecDepth 100000 in
set_option maxHeartbeats 4000000 in
theorem specBest (l : List LV) (v : Value) (s : ByteArray) (w : World) (hl : LSz l) (hs : s.size ≤ 4194304) (h : LineRow w v l) :
    Calls Try.prog 16 #[v, .string s] w fun e w' => e = .returned (.int .i64 (bestZ (bestL l s.data.toList))) ∧ Below w.heap.size w w' := by
  obtain ⟨hln, hlz⟩ := hl
  rcases h with ⟨rfl, ao, cap, rfl⟩ | ⟨h0, g, off, cap, rfl, hg, hc⟩
  · go_enter Try.func16, Try.ntmps16
    go_wp2
    refine wp_loop_rounds 1 ?_
    rw [rounds_succ]
    go_wp2
    go_ret
    exact ⟨rfl, Below.refl _ _⟩
  · have HC : Hid (∀ i, i < l.length → w.cell? ⟨g, off + i * 2, none⟩ = some (.bool (l.getD i lv0).al) ∧ w.cell? ⟨g, off + i * 2 + 1, none⟩ = some (.string (l.getD i lv0).pa)) := hc
    have HZ : Hid (∀ i, i < l.length → (l.getD i lv0).pa.size ≤ 4194304) := hlz
    clear hc hlz
    go_enter Try.func16, Try.ntmps16
    go_wp2
    go_loopw [5, 6] (fun b i wr => ∃ (k : Nat) (z : Int), k ≤ l.length ∧ i = .int .i64 k ∧ b = .int .i64 z ∧ Hid (z = bestZ (bestK l s.data.toList k)) ∧ Below w.heap.size w wr) (fun _ i _ => l.length - (intOf i).toNat)
    case atStart => exact ⟨0, -1, Nat.zero_le _, rfl, rfl, rfl, Below.refl _ _⟩
    case round =>
      obtain ⟨k, z, hk, rfl, rfl, HZB, hbel⟩ := hrel
      by_cases hlt : k < l.length
      · have hki : (k : Int) < l.length := by omega
        obtain ⟨c1, c2⟩ := HC.out k hlt
        have c1w := (hbel.cell (p := ⟨g, off + k * 2, none⟩) hg).trans c1
        have c2w := (hbel.cell (p := ⟨g, off + k * 2 + 1, none⟩) hg).trans c2
        have hz := HZ.out k hlt
        have CM : Hid (∀ W, Calls Try.prog 12 #[.string (l.getD k lv0).pa, .string s] W fun e w' => e = .returned (.bool (matI l s.data.toList k)) ∧ Below W.heap.size W w') := fun W => specMatches _ s W hz hs
        cases hm : matI l s.data.toList k with
        | false =>
          have HB : Hid (bestK l s.data.toList (k + 1) = bestK l s.data.toList k) := best_no hm
          rw [hm] at CM
          clear c1 c2 hm hz
          generalize (l.getD k lv0).pa = pk at *
          go_wp2_with fail
          refine (CM.out _).mono ?_
          rintro e w1 ⟨rfl, b1⟩
          have B1 := hbel.trans (b1.mono hbel.size)
          go_wp2_with fail
          go_roundw
          case rel => exact ⟨k + 1, z, by omega, by go_num, rfl, by rw [HB.out]; exact HZB, B1⟩
          case measure => simp [intOf] <;> omega
        | true =>
          rw [hm] at CM
          cases hb : bestK l s.data.toList k with
          | none =>
            have HB : Hid (bestK l s.data.toList (k + 1) = some k) := best_one hm hb
            obtain rfl : z = -1 := by rw [HZB.out, hb]; rfl
            clear hm hb hz c1w c1 HZB
            generalize (l.getD k lv0).pa = pk at *
            go_wp2_with fail
            refine (CM.out _).mono ?_
            rintro e w1 ⟨rfl, b1⟩
            have B1 := hbel.trans (b1.mono hbel.size)
            have c2x := (B1.cell (p := ⟨g, off + k * 2 + 1, none⟩) hg).trans c2
            clear c2w c2
            go_wp2_with fail
            go_roundw
            case rel => exact ⟨k + 1, _, by omega, by go_num, rfl, by rw [HB.out]; rfl, B1⟩
            case measure => simp [intOf] <;> omega
          | some b =>
            have hbk := best_lt hb
            have HB : Hid (bestK l s.data.toList (k + 1) = some (if overI l b k = true then k else b)) := best_over hm hb
            obtain rfl : z = (b : Int) := by rw [HZB.out, hb]; rfl
            obtain ⟨d1, d2⟩ := HC.out b (by omega)
            have h3 := @over_more l b k
            have h4 := @over_less l b k
            have h5 := @over_same l b k
            have hzb := HZ.out b (by omega)
            have hbi : ¬ (b : Int) < 0 := by omega
            have hbl : (b : Int) < l.length := by omega
            generalize overI l b k = ov at *
            clear hm hb c1w HZB
            generalize (l.getD k lv0).pa = pk at *
            generalize (l.getD k lv0).al = ak at *
            generalize (l.getD b lv0).pa = pb at *
            generalize (l.getD b lv0).al = ab at *
            go_wp2_with fail
            refine (CM.out _).mono ?_
            rintro e w1 ⟨rfl, b1⟩
            have B1 := hbel.trans (b1.mono hbel.size)
            have c1x := (B1.cell (p := ⟨g, off + k * 2, none⟩) hg).trans c1
            have c2x := (B1.cell (p := ⟨g, off + k * 2 + 1, none⟩) hg).trans c2
            have d1x := (B1.cell (p := ⟨g, off + b * 2, none⟩) hg).trans d1
            have d2x := (B1.cell (p := ⟨g, off + b * 2 + 1, none⟩) hg).trans d2
            clear c2w c2 c1 d1 d2 b1 CM
            go_upto_region 7 with fail
            go_cut [64] (fun v wx => v = .bool ov ∧ wx = w1)
            case first =>
              have H3 : Hid (pb.size < pk.size → ov = true) := h3
              have H4 : Hid (pk.size < pb.size → ov = false) := h4
              have H5 : Hid (pk.size = pb.size → ov = (ak && !ab)) := h5
              clear h3 h4 h5
              by_cases hgt : pb.size < pk.size
              · have hov := H3.out hgt
                subst hov
                have hgi : (pb.size : Int) < pk.size := by omega
                go_wp2_with fail
                go_meet
                exact ⟨rfl, rfl⟩
              · have hgi : ¬ (pb.size : Int) < pk.size := by omega
                by_cases heq : pk.size = pb.size
                · have hov := H5.out heq
                  have hei : ((pk.size : Int) == (pb.size : Int)) = true := by rw [heq]; simp
                  clear H3 H4 H5 heq
                  cases ak with
                  | false =>
                    have hov' : ov = false := hov
                    clear hov
                    subst hov'
                    go_wp2_with fail
                    go_meet
                    exact ⟨rfl, rfl⟩
                  | true =>
                    have hov' : ov = !ab := hov
                    clear hov
                    subst hov'
                    go_wp2_with fail
                    go_meet
                    exact ⟨rfl, rfl⟩
                · have hov := H4.out (by omega)
                  subst hov
                  have hei : ((pk.size : Int) == (pb.size : Int)) = false := beq_eq_false_iff_ne.2 (by omega)
                  go_wp2_with fail
                  go_meet
                  exact ⟨rfl, rfl⟩
            case rest =>
              obtain ⟨rfl, hw⟩ := hcut
              obtain rfl := hw.symm
              clear h3 h4 h5 c1x c2x d1x d2x
              cases ov with
              | true =>
                go_wp2_with fail
                go_roundw
                case rel => exact ⟨k + 1, _, by omega, by go_num, rfl, by rw [HB.out]; rfl, B1⟩
                case measure => simp [intOf] <;> omega
              | false =>
                go_wp2_with fail
                go_roundw
                case rel => exact ⟨k + 1, _, by omega, by go_num, rfl, by rw [HB.out]; rfl, B1⟩
                case measure => simp [intOf] <;> omega
      · have hki : ¬ (k : Int) < l.length := by omega
        have HE : Hid (bestK l s.data.toList k = bestL l s.data.toList) := by show _ = _; rw [show k = l.length by omega]; rfl
        go_wp2_with fail
        go_ret
        exact ⟨by rw [← HE.out, ← HZB.out]; rfl, hbel⟩
theorem best_room {l : List LV} {s : List UInt8} {b : Nat} (hb : bestL l s = some b) : b < l.length := best_lt hb
theorem beq_text {s t : ByteArray} (h : s.data.toList = t.data.toList) : s = t := by
  cases s with
  | mk a =>
    cases t with
    | mk b => exact congrArg ByteArray.mk (Array.toList_inj.1 h)
set_option maxHeartbeats 2000000 in
theorem specAllowed (l : List LV) (v : Value) (s : ByteArray) (w : World) (hl : LSz l) (hs : s.size ≤ 4194304) (h : LineRow w v l) :
    Calls Try.prog 21 #[v, .string s] w fun e w' => e = .returned (.bool (allowB l s.data.toList)) ∧ Below w.heap.size w w' := by
  have CB : Hid (∀ W, Below w.heap.size w W → Calls Try.prog 16 #[v, .string s] W fun e w' => e = .returned (.int .i64 (bestZ (bestL l s.data.toList))) ∧ Below W.heap.size W w') := fun W hW => specBest l v s W hl hs (h.below hW)
  have HR : Hid (LineRow w v l) := h
  have hln := hl.1
  obtain ⟨ao, cap, rfl⟩ := h.slice
  clear h hl
  by_cases hr : s.data.toList = robotsT
  · have HA : Hid (allowB l s.data.toList = true) := by show _ = _; unfold allowB; rw [decide_eq_true hr]; rfl
    obtain rfl : s = ⟨#[47, 114, 111, 98, 111, 116, 115, 46, 116, 120, 116]⟩ := beq_text hr
    clear hr
    go_enter Try.func21, Try.ntmps21
    go_wp2_with fail
    refine (CB.out _ (Below.refl _ _)).mono ?_
    rintro e w1 ⟨rfl, b1⟩
    go_wp2_with fail
    go_ret
    exact ⟨ret_bool HA.out.symm, b1⟩
  · have hne : (s.toList == [47, 114, 111, 98, 111, 116, 115, 46, 116, 120, 116]) = false := beq_eq_false_iff_ne.2 fun e => hr (by rw [← ByteArray.toList_eq]; exact e)
    cases hb : bestL l s.data.toList with
    | none =>
      have HA : Hid (allowB l s.data.toList = true) := by show _ = _; unfold allowB; rw [hb]; simp
      rw [hb, show bestZ none = -1 from rfl] at CB
      clear hr hb
      go_enter Try.func21, Try.ntmps21
      go_wp2_with fail
      refine (CB.out _ (Below.refl _ _)).mono ?_
      rintro e w1 ⟨rfl, b1⟩
      go_wp2_with fail
      go_ret
      exact ⟨ret_bool HA.out.symm, b1⟩
    | some b =>
      have HA : Hid (allowB l s.data.toList = (l.getD b lv0).al) := by show _ = _; unfold allowB; rw [hb, decide_eq_false hr]; rfl
      rw [hb, show bestZ (some b) = (b : Int) from rfl] at CB
      have hbl := best_room hb
      have hbi : (b : Int) < l.length := by omega
      obtain ⟨g, off, cc, hv, hg, ca⟩ : ∃ g off cc, Value.slice ao l.length cap = .slice (some ⟨g, off, none⟩) l.length cc ∧ g < w.heap.size ∧ w.cell? ⟨g, off + b * 2, none⟩ = some (.bool (l.getD b lv0).al) := by
        rcases HR.out with ⟨h, _⟩ | ⟨_, g, off, cc, h1, h2, h3⟩
        · rw [h] at hbl; simp at hbl
        · exact ⟨g, off, _, h1, h2, (h3 b hbl).1⟩
      cases hv
      clear hr hb HR
      generalize (l.getD b lv0).al = al at *
      go_enter Try.func21, Try.ntmps21
      go_wp2_with fail
      refine (CB.out _ (Below.refl _ _)).mono ?_
      rintro e w1 ⟨rfl, b1⟩
      have caw := (b1.cell (p := ⟨g, off + b * 2, none⟩) hg).trans ca
      clear ca
      go_wp2_with fail
      go_ret
      exact ⟨ret_bool HA.out.symm, b1⟩
set_option maxHeartbeats 1000000 in
theorem specForbids (l : List LV) (v : Value) (w : World) (hl : LSz l) (h : LineRow w v l) :
    Calls Try.prog 22 #[v] w fun e w' => e = .returned (.bool (!allowB l [47])) ∧ Below w.heap.size w w' := by
  have CA : Hid (∀ W, Below w.heap.size w W → Calls Try.prog 21 #[v, .string ⟨#[47]⟩] W fun e w' => e = .returned (.bool (allowB l [47])) ∧ Below W.heap.size W w') := fun W hW => specAllowed l v ⟨#[47]⟩ W hl (by decide) (h.below hW)
  obtain ⟨ao, cap, rfl⟩ := h.slice
  clear h hl
  go_enter Try.func22, Try.ntmps22
  go_wp2_with fail
  refine (CA.out _ (Below.refl _ _)).mono ?_
  rintro e w1 ⟨rfl, b1⟩
  go_wp2_with fail
  go_ret
  exact ⟨rfl, b1⟩
end Go.Proofs.Ytbjidcejpdeegaa
