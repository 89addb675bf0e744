/- Proved: laws.FnAllowed answers true at every code and leaves it as it was; no condition. -/
import Derived.Test.YtbjidcejpdeegaaRows
import Derived.Test.YtbjidcejpdeegaaDraw12
import Derived.Test.YtbjidcejpdeegaaBestImpl
import Derived.ProofKit
import Derived.HandedShaped
import Derived.OpenShut
import Derived.ShutString
import Derived.ChangeOld
import Derived.Below
namespace Go.Proofs.Ytbjidcejpdeegaa.fnAllowed
open Go.ChangeShapes Go.WideShapes Go.ChangeAt Go.RowKit
open Go.ChangeMaps (open_string shut_string)
set_option linter.unusedVariables false

theorem own : ownKnob Try.prog.godebug = none := by kernel_rfl
theorem laidOut : laidOutB Try.prog = true := by kernel_rfl

/-- WHAT THE WALK IS TOLD OF A SLICE OF INTEGERS THAT CAME IN: it is nil; or it leads to a row of 'cap' cells, the numbers 'zs' (the first 'len' are its elements, the rest its spare room), each fitting its kind. -/
def IsRow (k : IntKind) (w : World) (a : Option Addr) (len cap : Nat) (zs : List Int) : Prop :=
  (a = none ∧ len = 0 ∧ cap = 0 ∧ zs = []) ∨
  ∃ x, a = some x ∧ len ≤ cap ∧ cap ≤ maxLen ∧ zs.length = cap ∧ (∀ i, i < zs.length → w.cell? (x.add i) = some (.int k (zs.getD i 0))) ∧ ∀ n ∈ zs, (Lit.int k n).wf = true

set_option maxRecDepth 100000 in
set_option maxHeartbeats 8000000 in
theorem walk (a0 : Option Addr) (len0 cap0 : Nat) (z0 : List Int) (w : World) (w0 : IsRow .u8 w a0 len0 cap0 z0) (hM : MaxI w) :
    Calls Try.prog 4 #[.slice a0 len0 cap0] w fun e w' => e = .returned (.bool true) ∧ Below w.heap.size w w' := by
  by_cases hbig : 1048576 < (len0 : Int)
  · go_enter Try.func4, Try.ntmps4
    go_wp2_with fail
    refine (big_yes _ _ _ _ hbig).mono ?_
    rintro e w' ⟨rfl, rfl⟩
    go_wp2
    go_ret
    exact ⟨rfl, Below.refl _ _⟩
  · have hl : len0 ≤ 1048576 := by omega
    have hcode : CodeRow w.heap.size w a0 len0 := by
      rcases w0 with ⟨rfl, rfl, rfl, rfl⟩ | ⟨x, rfl, h1, h2, h3, h4, h5⟩
      · exact .inl rfl
      · by_cases h0 : len0 = 0
        · exact .inl h0
        · obtain ⟨b, off, rfl, hc⟩ := ints_at h4 (by omega)
          refine .inr ⟨b, off, rfl, World.block_lt_of_cell? w ⟨b, off + 0, none⟩ (hc 0 (by omega)), fun i hi => ?_⟩
          refine ⟨_, hc i (by omega), ?_⟩
          have hb := bounds_u8 (h5 (z0.getD i 0) (by
            rw [List.getD_eq_getElem?_getD, List.getElem?_eq_getElem (by omega)]
            exact List.getElem_mem _))
          exact hb
    have HCO : Hid (CodeRow w.heap.size w a0 len0) := hcode
    clear w0 hcode
    go_enter Try.func4, Try.ntmps4
    go_wp2_with fail
    refine (big_no _ _ _ _ (by omega)).mono ?_
    rintro e w' ⟨rfl, rfl⟩
    go_wp2_with fail
    refine (drawAllowed _ _ _ _ hl HCO.out).mono ?_
    rintro e w0 ⟨l, vo, vc, s, hls, hs, rfl, hr, b0⟩
    have HX : Hid (∀ W, Below w0.heap.size w0 W → MaxI W) := fun W hW => max_below (max_below hM b0) hW
    have HR : Hid (LineRow w0 (.slice vo l.length vc) l) := hr
    have HLS : Hid (LSz l) := hls
    have hln := hls.1
    have B0 : Hid (Below w.heap.size w w0) := b0
    have CB : Hid (∀ W, Below w0.heap.size w0 W → Calls Try.prog 14 #[.slice vo l.length vc, .string s] W fun e w' => e = .returned (.int .i64 (bestZ (bestL l s.data.toList))) ∧ Below W.heap.size W w') := fun W hW => implBest l _ s W HLS.out (by omega) (HX.out W hW) (HR.out.below hW)
    have SB : Hid (∀ W, Below w0.heap.size w0 W → Calls Try.prog 16 #[.slice vo l.length vc, .string s] W fun e w' => e = .returned (.int .i64 (bestZ (bestL l s.data.toList))) ∧ Below W.heap.size W w') := fun W hW => specBest l _ s W HLS.out (by omega) (HR.out.below hW)
    have CA : Hid (∀ (x : ByteArray) (W : World), x.size ≤ 100 → Below w0.heap.size w0 W → Calls Try.prog 15 #[.slice vo l.length vc, .string x] W fun e w' => e = .returned (.bool (allowB l x.data.toList)) ∧ Below W.heap.size W w') := fun x W hx hW => implAllowed l _ x W HLS.out (by omega) (HX.out W hW) (HR.out.below hW)
    have CF : Hid (∀ W, Below w0.heap.size w0 W → Calls Try.prog 17 #[.slice vo l.length vc] W fun e w' => e = .returned (.bool (!allowB l [47])) ∧ Below W.heap.size W w') := fun W hW => implForbids l _ W HLS.out (HX.out W hW) (HR.out.below hW)
    have CM : Hid (∀ (i : Nat) (W : World), i < l.length → Below w0.heap.size w0 W → Calls Try.prog 11 #[.string (l.getD i lv0).pa, .string s] W fun e w' => e = .returned (.bool (matI l s.data.toList i)) ∧ Below W.heap.size W w') := fun i W hi hW => implMatches _ s W (HLS.out.2 i hi) (by omega) (HX.out W hW)
    have HBW : Hid (∀ i, i < l.length → ∃ g off cc, Value.slice vo l.length vc = .slice (some ⟨g, off, none⟩) l.length cc ∧ g < w0.heap.size ∧ ∀ j, j < l.length → w0.cell? ⟨g, off + j * 2, none⟩ = some (.bool (l.getD j lv0).al) ∧ w0.cell? ⟨g, off + j * 2 + 1, none⟩ = some (.string (l.getD j lv0).pa)) := fun i hi => by
      rcases HR.out with ⟨h, _⟩ | ⟨_, g, off, cc, h1, h2, h3⟩
      · rw [h] at hi; simp at hi
      · exact ⟨g, off, _, h1, h2, h3⟩
    have C47 := fun W hW => CA.out ⟨#[47]⟩ W (by decide) hW
    rw [show (⟨#[47]⟩ : ByteArray).data.toList = [47] from rfl] at C47
    have D47 : Hid (∀ W, Below w0.heap.size w0 W → Calls Try.prog 15 #[.slice vo l.length vc, .string ⟨#[47]⟩] W fun e w' => e = .returned (.bool (allowB l [47])) ∧ Below W.heap.size W w') := C47
    have CRO := fun W hW => CA.out ⟨#[47, 114, 111, 98, 111, 116, 115, 46, 116, 120, 116]⟩ W (by decide) hW
    rw [show allowB l (⟨#[47, 114, 111, 98, 111, 116, 115, 46, 116, 120, 116]⟩ : ByteArray).data.toList = true from rfl] at CRO
    have DRO : Hid (∀ W, Below w0.heap.size w0 W → Calls Try.prog 15 #[.slice vo l.length vc, .string ⟨#[47, 114, 111, 98, 111, 116, 115, 46, 116, 120, 116]⟩] W fun e w' => e = .returned (.bool true) ∧ Below W.heap.size W w') := CRO
    have CSA : Hid (∀ W, Below w0.heap.size w0 W → Calls Try.prog 15 #[.slice vo l.length vc, .string s] W fun e w' => e = .returned (.bool (allowB l s.data.toList)) ∧ Below W.heap.size W w') := fun W hW => CA.out s W hs hW
    have HLAW : Hid (match bestL l s.data.toList with
      | none => ∀ i, i < l.length → matI l s.data.toList i = false
      | some b => b < l.length ∧ matI l s.data.toList b = true ∧ ∀ i, i < l.length → matI l s.data.toList i = true → overI l b i = false) := best_law l s.data.toList l.length
    have HAL : Hid (allowB l s.data.toList = (decide (s.data.toList = robotsT) || match bestL l s.data.toList with
      | none => true
      | some k => (l.getD k lv0).al)) := rfl
    generalize allowB l [47] = a47 at CF D47
    generalize allowB l s.data.toList = asv at *
    generalize bestL l s.data.toList = bo at *
    obtain ⟨z, hz⟩ : ∃ z, bestZ bo = z := ⟨_, rfl⟩
    have HZ : Hid (bestZ bo = z) := hz
    rw [hz] at CB SB
    clear hz hM hr hls b0 HX HCO C47 CRO CA HR
    have hzz : (z != z) = false := by simp
    go_wp2_with fail
    refine (CB.out _ (Below.refl _ _)).mono ?_
    rintro e w1 ⟨rfl, b1⟩
    go_wp2_with fail
    refine (CSA.out _ b1).mono ?_
    rintro e w2 ⟨rfl, b2⟩
    have B2 := b1.trans (b2.mono b1.size)
    clear b1 b2
    go_wp2_with fail
    refine (SB.out _ B2).mono ?_
    rintro e w3 ⟨rfl, b3⟩
    have B3 := B2.trans (b3.mono B2.size)
    clear b3 B2
    have h47 : ((!a47) == a47) = false := by cases a47 <;> rfl
    go_wp2_with fail
    refine (CF.out _ B3).mono ?_
    rintro e w4 ⟨rfl, b4⟩
    have B4 := B3.trans (b4.mono B3.size)
    clear b4 B3
    go_wp2_with fail
    refine (D47.out _ B4).mono ?_
    rintro e w5 ⟨rfl, b5⟩
    have B5 := B4.trans (b5.mono B4.size)
    clear b5 B4
    go_wp2_with fail
    refine (DRO.out _ B5).mono ?_
    rintro e w6 ⟨rfl, b6⟩
    have B6 := B5.trans (b6.mono B5.size)
    clear b6 B5 CB SB CF D47 DRO CSA h47
    cases bo with
    | none =>
      obtain rfl : -1 = z := HZ.out
      have HN : Hid (∀ i, i < l.length → matI l s.data.toList i = false) := HLAW.out
      have HA1 : Hid (asv = true) := by show _ = _; rw [HAL.out]; simp
      clear HAL HLAW HZ
      go_wp2_with fail
      go_loopw [7] (fun i wr => ∃ k : Nat, k ≤ l.length ∧ i = .int .i64 k ∧ Below w0.heap.size w0 wr) (fun i _ => l.length - (intOf i).toNat)
      case atStart => exact ⟨0, Nat.zero_le _, rfl, B6⟩
      case round =>
        obtain ⟨k, hk, rfl, hbel⟩ := hrel
        clear B6
        by_cases hlt : k < l.length
        · have hki : (k : Int) < l.length := by omega
          obtain ⟨g, off, cc, hv, hg, hc⟩ := HBW.out k hlt
          have c2 := (hc k hlt).2
          have CK : Hid (∀ W, Below w0.heap.size w0 W → Calls Try.prog 11 #[.string (l.getD k lv0).pa, .string s] W fun e w' => e = .returned (.bool (matI l s.data.toList k)) ∧ Below W.heap.size W w') := fun W hW => CM.out k W hlt hW
          rw [HN.out k hlt] at CK
          cases hv
          have c2w := (hbel.cell (p := ⟨g, off + k * 2 + 1, none⟩) hg).trans c2
          clear hc c2
          generalize (l.getD k lv0).pa = pk at *
          go_wp2_with fail
          refine (CK.out _ hbel).mono ?_
          rintro e w7 ⟨rfl, b7⟩
          have B7 := hbel.trans (b7.mono hbel.size)
          clear b7 c2w
          go_wp2_with fail
          go_roundw
          case rel => exact ⟨k + 1, by omega, by go_num, B7⟩
          case measure => simp [intOf] <;> omega
        · have hki : ¬ (k : Int) < l.length := by omega
          have BB := B0.out.trans (hbel.mono B0.out.size)
          have ha1 := HA1.out
          subst ha1
          go_wp2_with fail
          go_ret
          exact ⟨rfl, BB⟩
    | some b =>
      obtain rfl : (b : Int) = z := HZ.out
      obtain ⟨hbl, hmb, hov⟩ := HLAW.out
      have HMB : Hid (matI l s.data.toList b = true) := hmb
      have HOV : Hid (∀ i, i < l.length → matI l s.data.toList i = true → overI l b i = false) := hov
      have HA1 : Hid (asv = (decide (s.data.toList = robotsT) || (l.getD b lv0).al)) := HAL.out
      have hbi : ¬ (b : Int) < 0 := by omega
      have hbli : (b : Int) < l.length := by omega
      clear HAL HLAW HZ hmb hov
      obtain ⟨g, off, cc, hv, hg, hc0⟩ := HBW.out b hbl
      have HC : Hid (∀ j, j < l.length → w0.cell? ⟨g, off + j * 2, none⟩ = some (.bool (l.getD j lv0).al) ∧ w0.cell? ⟨g, off + j * 2 + 1, none⟩ = some (.string (l.getD j lv0).pa)) := hc0
      cases hv
      clear hc0 HBW
      go_wp2_with fail
      go_loopw [7] (fun i wr => ∃ k : Nat, k ≤ l.length ∧ i = .int .i64 k ∧ Below w0.heap.size w0 wr) (fun i _ => l.length - (intOf i).toNat)
      case atStart => exact ⟨0, Nat.zero_le _, rfl, B6⟩
      case round =>
        obtain ⟨k, hk, rfl, hbel⟩ := hrel
        clear B6
        by_cases hlt : k < l.length
        · have hki : (k : Int) < l.length := by omega
          obtain ⟨c1, c2⟩ := HC.out k hlt
          obtain ⟨d1, d2⟩ := HC.out b hbl
          have CK : Hid (∀ W, Below w0.heap.size w0 W → Calls Try.prog 11 #[.string (l.getD k lv0).pa, .string s] W fun e w' => e = .returned (.bool (matI l s.data.toList k)) ∧ Below W.heap.size W w') := fun W hW => CM.out k W hlt hW
          have c2w := (hbel.cell (p := ⟨g, off + k * 2 + 1, none⟩) hg).trans c2
          cases hmk : matI l s.data.toList k with
          | false =>
            rw [hmk] at CK
            clear c1 c2 d1 d2 hmk
            generalize (l.getD k lv0).pa = pk at *
            go_wp2_with fail
            refine (CK.out _ hbel).mono ?_
            rintro e w7 ⟨rfl, b7⟩
            have B7 := hbel.trans (b7.mono hbel.size)
            clear b7 c2w
            go_wp2_with fail
            go_roundw
            case rel => exact ⟨k + 1, by omega, by go_num, B7⟩
            case measure => simp [intOf] <;> omega
          | true =>
            rw [hmk] at CK
            have hov := HOV.out k hlt hmk
            have h3 : ¬ (l.getD b lv0).pa.size < (l.getD k lv0).pa.size := fun h => by rw [over_more h] at hov; cases hov
            have h5 : (l.getD k lv0).pa.size = (l.getD b lv0).pa.size → ((l.getD k lv0).al && !(l.getD b lv0).al) = false := fun h => by rw [← over_same h]; exact hov
            have hzk := HLS.out.2 k hlt
            have hzb := HLS.out.2 b hbl
            clear hov hmk
            generalize (l.getD k lv0).pa = pk at *
            generalize (l.getD k lv0).al = ak at *
            generalize (l.getD b lv0).pa = pb at *
            generalize (l.getD b lv0).al = ab at *
            have H5 : Hid (pk.size = pb.size → (ak && !ab) = false) := h5
            clear h5
            go_wp2_with fail
            refine (CK.out _ hbel).mono ?_
            rintro e w7 ⟨rfl, b7⟩
            have B7 := hbel.trans (b7.mono hbel.size)
            have c1x := (B7.cell (p := ⟨g, off + k * 2, none⟩) hg).trans c1
            have c2x := (B7.cell (p := ⟨g, off + k * 2 + 1, none⟩) hg).trans c2
            have d1x := (B7.cell (p := ⟨g, off + b * 2, none⟩) hg).trans d1
            have d2x := (B7.cell (p := ⟨g, off + b * 2 + 1, none⟩) hg).trans d2
            clear b7 c2w c1 c2 d1 d2 CK
            have hgi : ¬ (pb.size : Int) < pk.size := by omega
            have hbd : decide ((b : Int) < 0) = false := decide_eq_false (by omega)
            have hgd : decide ((pb.size : Int) < (pk.size : Int)) = false := decide_eq_false (by omega)
            have hgn : decide (pb.size < pk.size) = false := decide_eq_false (by omega)
            go_upto_region 12 with fail
            go_cut [98] (fun v wx => v = .bool false ∧ Below w0.heap.size w0 wx)
            case first =>
              by_cases heq : pk.size = pb.size
              · have hov := H5.out heq
                have hei : ((pk.size : Int) == (pb.size : Int)) = true := by rw [heq]; simp
                clear heq h3 H5
                cases ak with
                | false =>
                  clear hov
                  go_quiet (fail)
                  go_wp2_with fail
                  go_meet
                  exact ⟨rfl, below_drewN B7 _⟩
                | true =>
                  obtain rfl : ab = true := by cases ab with | true => rfl | false => cases hov
                  clear hov
                  go_quiet (fail)
                  go_wp2_with fail
                  go_meet
                  exact ⟨rfl, below_drewN B7 _⟩
              · have hei : ((pk.size : Int) == (pb.size : Int)) = false := beq_eq_false_iff_ne.2 (by omega)
                clear heq h3 H5
                go_quiet (fail)
                go_wp2_with fail
                go_meet
                exact ⟨rfl, below_drewN B7 _⟩
            case rest =>
              obtain ⟨rfl, B8⟩ := hcut
              generalize wc = w8 at *
              clear c1x c2x d1x d2x B7
              go_wp2_with fail
              go_roundw
              case rel => exact ⟨k + 1, by omega, by go_num, B8⟩
              case measure => simp [intOf] <;> omega
        · have hki : ¬ (k : Int) < l.length := by omega
          obtain ⟨d1, d2⟩ := HC.out b hbl
          have CK : Hid (∀ W, Below w0.heap.size w0 W → Calls Try.prog 11 #[.string (l.getD b lv0).pa, .string s] W fun e w' => e = .returned (.bool (matI l s.data.toList b)) ∧ Below W.heap.size W w') := fun W hW => CM.out b W hbl hW
          rw [HMB.out] at CK
          have d2w := (hbel.cell (p := ⟨g, off + b * 2 + 1, none⟩) hg).trans d2
          generalize (l.getD b lv0).pa = pb at *
          generalize (l.getD b lv0).al = ab at *
          clear d2
          by_cases hro : s.data.toList = robotsT
          · obtain rfl : s = ⟨#[47, 114, 111, 98, 111, 116, 115, 46, 116, 120, 116]⟩ := beq_text hro
            clear hro
            have ha1 : asv = true := HA1.out
            subst ha1
            go_wp2_with fail
            refine (CK.out _ hbel).mono ?_
            rintro e w7 ⟨rfl, b7⟩
            have B7 := hbel.trans (b7.mono hbel.size)
            have d1x := (B7.cell (p := ⟨g, off + b * 2, none⟩) hg).trans d1
            have BB := B0.out.trans (B7.mono B0.out.size)
            clear b7 d1 d2w
            cases ab with
            | true =>
              go_wp2_with fail
              go_ret
              exact ⟨rfl, BB⟩
            | false =>
              go_wp2_with fail
              go_ret
              exact ⟨rfl, BB⟩
          · have ha1 : asv = ab := by
              have := HA1.out
              rw [decide_eq_false hro, Bool.false_or] at this
              exact this
            subst ha1
            have hss : (asv == asv) = true := by cases asv <;> rfl
            go_wp2_with fail
            refine (CK.out _ hbel).mono ?_
            rintro e w7 ⟨rfl, b7⟩
            have B7 := hbel.trans (b7.mono hbel.size)
            have d1x := (B7.cell (p := ⟨g, off + b * 2, none⟩) hg).trans d1
            have BB := B0.out.trans (B7.mono B0.out.size)
            clear b7 d1 d2w
            go_wp2_with fail
            go_ret
            exact ⟨rfl, BB⟩

set_option maxRecDepth 100000 in
theorem lifted (os : Os) (started : os.Started) (H : Type) (enc : TypeId × Value → H) :
    ReturnsInHanded {} Try.checked os 4 .any (Rows.fnAllowedSpec.pre6 enc Try.prog Try.f4 Rows.fnAllowedRow.domain false) (Rows.fnAllowedSpec.post enc Try.prog Try.f4 false true false false) := by
  refine returnsInHanded_of_change_shaped (C := Try.checked) own started (by kernel_rfl) Try.func4
    (ChangeSpec.witness6 (enc := enc) (C := Try.checked) false ⟨#[], #[.slice none 0 0], []⟩ 8 (by kernel_rfl) (by kernel_rfl) (by kernel_rfl) (by kernel_rfl)) ?_
  intro W base args ds gs before hval0 hW hcnd _ hSh _
  have hval : ∀ (j : Nat) t v, Try.f4.params[j]? = some t → args[j]? = some v → Value.okWide Try.prog W .any base t v := hval0
  have hW' := hW
  obtain ⟨p, q, hA0, hV, rfl, hfz, hnd⟩ := hW
  have hA : DataW.TrodAll enc Try.prog W 0 (fun _ => true) true Try.f4.params.toList args.toList ds p := hA0
  rw [Try.params4] at hA hval
  obtain ⟨v0, vs0, d0, ds0, p0, q0, hargs, rfl, rfl, h0, r0⟩ := trodAll_cons hA
  obtain ⟨rfl, rfl, rfl⟩ := trodAll_nil r0
  obtain rfl : args = #[v0] := by cases args; simp_all
  obtain ⟨rfl, rfl⟩ := trodVars_none hV
  obtain ⟨a0, len0, cap0, rfl⟩ := okWide_slice Try.underlying22 (hval 0 22 v0 rfl rfl)
  have k0 := h0
  have lt0 : ∀ x ∈ p0, x.block < W.heap.size := by obtain ⟨m, hm⟩ := k0; exact DataW.trod_lt m _ _ _ hm
  obtain ⟨z0, w0⟩ : ∃ zs, IsRow .u8 W a0 len0 cap0 zs := by
    obtain ⟨fuel, hf⟩ := h0
    rcases open_ints Try.underlying22 Try.underlying5 (by kernel_rfl) hf with ⟨hcs, _⟩ | ⟨x, l, c, zs, hcs, _, hl, hm, hz, _, hcell, hwz⟩
    · simp [Value.cells] at hcs
      obtain ⟨rfl, rfl, rfl⟩ := hcs
      exact ⟨[], .inl ⟨rfl, rfl, rfl, rfl⟩⟩
    · simp [Value.cells] at hcs
      obtain ⟨rfl, rfl, rfl⟩ := hcs
      exact ⟨zs, .inr ⟨_, rfl, hl, hm, by simpa using hz, hcell, hwz⟩⟩
  clear hA0 hval0
  refine (walk a0 len0 cap0 z0 W w0 (max_shaped hSh)).mono fun e W' ⟨he, bel⟩ => ?_
  subst he
  exact ⟨_, rfl, _, _, _, [], _, [], hW', trodAll_mk1 (shut_bool Try.underlying4 _), (trodAll_cons_mk (Below.trod laidOut (by kernel_rfl) (of_decide_eq_true (by kernel_rfl)) k0 bel lt0) trodAll_mk0), rfl, bel.frame _, fun h => by cases h⟩

theorem over : Rows.fnAllowedRow.holds Try.pinned (OpenSpec.ofChange Rows.fnAllowedSpec) :=
  OpenClaim.holds_of_wide 4 Try.f4 rfl rfl rfl rfl rfl rfl rfl ⟨rfl, rfl, rfl, rfl, rfl⟩ rfl rfl rfl rfl rfl (by kernel_rfl) Try.func4 (by kernel_rfl)
    (of_decide_eq_true (by kernel_rfl)) (by unfold Func.isWrapper; first | (rw [if_pos (by decide +kernel)]; kernel_rfl) | (rw [if_neg (by decide +kernel)]; exact ⟨rfl, rfl⟩))
    (fun os started H enc _ => lifted os started H enc)

theorem proved : Rows.FnAllowedSaid := over
end Go.Proofs.Ytbjidcejpdeegaa.fnAllowed

namespace Go.Proofs.Ytbjidcejpdeegaa
theorem fnAllowed_holds : Rows.FnAllowedSaid := fnAllowed.proved
#print axioms fnAllowed_holds
end Go.Proofs.Ytbjidcejpdeegaa
