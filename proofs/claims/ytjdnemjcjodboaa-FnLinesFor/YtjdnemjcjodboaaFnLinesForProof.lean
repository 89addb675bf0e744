/- Proved: laws.FnLinesFor answers true at every code and leaves it as it was; no condition. -/
import Derived.Test.YtjdnemjcjodboaaRows
import Derived.Test.YtjdnemjcjodboaaDraw11For
import Derived.Test.YtjdnemjcjodboaaRobSame
import Derived.Test.YtjdnemjcjodboaaRobForI
import Derived.Test.YtjdnemjcjodboaaRobSum
import Derived.ProofKit
import Derived.OpenShut
import Derived.ShutString
import Derived.ChangeOld
import Derived.Below
namespace Go.Proofs.Ytjdnemjcjodboaa.fnLinesFor
open Go.ChangeShapes Go.WideShapes Go.ChangeAt Go.RowKit
open Go.ChangeMaps (open_string shut_string)
set_option linter.unusedVariables false

theorem own : ownKnob Try.prog.godebug = none := by kernel_rfl
theorem laidOut : laidOutB Try.prog = true := by kernel_rfl

/-- WHAT THE WALK IS TOLD OF A SLICE OF INTEGERS THAT CAME IN: it is nil; or it leads to a row of 'cap' cells, the numbers 'zs' (the first 'len' are its elements, the rest its spare room), each fitting its kind. -/
def IsRow (k : IntKind) (w : World) (a : Option Addr) (len cap : Nat) (zs : List Int) : Prop :=
  (a = none ∧ len = 0 ∧ cap = 0 ∧ zs = []) ∨
  ∃ x, a = some x ∧ len ≤ cap ∧ cap ≤ maxLen ∧ zs.length = cap ∧ (∀ i, i < zs.length → w.cell? (x.add i) = some (.int k (zs.getD i 0))) ∧ ∀ n ∈ zs, (Lit.int k n).wf = true

set_option maxHeartbeats 8000000 in
theorem walk (a0 : Option Addr) (len0 cap0 : Nat) (z0 : List Int) (w : World) (w0 : IsRow .u8 w a0 len0 cap0 z0) :
    Calls Try.prog 3 #[.slice a0 len0 cap0] w fun e w' => e = .returned (.bool true) ∧ Below w.heap.size w w' := by
  by_cases hbig : 1048576 < (len0 : Int)
  · go_enter Try.func3, Try.ntmps3
    go_wp2_with fail
    refine (big_yes _ _ _ _ hbig).mono ?_
    rintro e w' ⟨rfl, rfl⟩
    go_wp2
    go_ret
    exact ⟨rfl, Below.refl _ _⟩
  · have hl : len0 ≤ 1048576 := by omega
    have hcode : CodeRow w.heap.size w a0 len0 := by
      rcases w0 with ⟨rfl, rfl, rfl, rfl⟩ | ⟨x, rfl, h1, h2, h3, h4, h5⟩
      · exact .inl rfl
      · by_cases h0 : len0 = 0
        · exact .inl h0
        · obtain ⟨b, off, rfl, hc⟩ := ints_at h4 (by omega)
          refine .inr ⟨b, off, rfl, World.block_lt_of_cell? w ⟨b, off + 0, none⟩ (hc 0 (by omega)), fun i hi => ?_⟩
          refine ⟨_, hc i (by omega), ?_⟩
          have hb := bounds_u8 (h5 (z0.getD i 0) (by
            rw [List.getD_eq_getElem?_getD, List.getElem?_eq_getElem (by omega)]
            exact List.getElem_mem _))
          exact hb
    have HCO : Hid (CodeRow w.heap.size w a0 len0) := hcode
    clear w0 hcode
    go_enter Try.func3, Try.ntmps3
    go_wp2_with fail
    refine (big_no _ _ _ _ (by omega)).mono ?_
    rintro e w' ⟨rfl, rfl⟩
    go_wp2_with fail
    refine (drawLinesFor _ _ _ _ hl HCO.out).mono ?_
    rintro e wa ⟨PS, vo, vc, y, ⟨z, hzz⟩, hy, rfl, pr, ba⟩
    have HN : Hid (sumP PS ≤ 1048576) := by rw [← hzz]; exact Nat.le_trans (rob_sum z) (by decide)
    have HPR : Hid (PartRow wa (.slice vo PS.length vc) PS) := pr
    have hll : PS.length ≤ 1048576 := by have := HN.out; unfold sumP at this; omega
    clear pr hzz HCO
    go_upto_region 4 with fail
    obtain ⟨U, hU⟩ : ∃ U, U = wa.alloc (.cells #[.slice vo PS.length vc] 26) := ⟨_, rfl⟩
    have bU : Below wa.heap.size wa U := by rw [hU]; exact (Below.refl _ _).alloc (Nat.le_refl _) _
    have AU : BAt U wa.heap.size [.slice vo PS.length vc] := by rw [hU]; exact BAt.new wa #[.slice vo PS.length vc] _
    rw [← hU]
    clear hU
    have BU := ba.trans (bU.mono ba.size)
    have HPU : Hid (PartRow U (.slice vo PS.length vc) PS) := HPR.out.below bU
    have CI : Hid (Calls Try.prog 9 #[.agg #[.slice vo PS.length vc], .string y] U fun e w' => ∃ v', e = .returned v' ∧ w'.ownsRow U.heap.size 58 2 v' (lfL PS y).length (lcells (lfL PS y)) ∧ Below U.heap.size U w') := implLinesFor PS _ y U HN.out (by omega) HPU.out
    have CA : Hid (∀ W, Calls Try.prog 10 #[.string y] W fun e w' => e = .returned (.string (agV y)) ∧ Below W.heap.size W w') := fun W => implAgentOf y W (by omega)
    have HL : Hid (lfL PS y = if hasP PS (agV y) = true then forL PS (agV y) else forL PS starV) := rfl
    have d0 := AU.1 0 _ rfl
    clear bU ba HPR
    generalize wa.heap.size = D at *
    generalize agV y = nm at *
    generalize lfL PS y = LL at *
    go_wp2_with fail
    refine CI.out.mono ?_
    rintro e wb ⟨v5, rfl, o5, bb⟩
    clear CI d0
    go_wp2_with fail
    refine (CA.out _).mono ?_
    rintro e wk ⟨rfl, bc⟩
    have bbc := bb.trans (bc.mono bb.size)
    have BC := BU.trans (bbc.mono BU.size)
    have HPC : Hid (PartRow wk (.slice vo PS.length vc) PS) := HPU.out.below bbc
    have AC := AU.below bbc
    have HLC : Hid (LineRow wk v5 LL) := (LineRow.of_own' o5).below bc
    have hDC := AC.2.2
    clear bb bc bbc CA BU HPU AU o5
    go_upto_region 8 with fail
    obtain ⟨O, hO⟩ : ∃ O, O = (wk.alloc (.cells #[] 58)).alloc (.cells #[] 58) := ⟨_, rfl⟩
    have bO : Below wk.heap.size wk O := by rw [hO]; exact ((Below.refl _ _).alloc (Nat.le_refl _) _).alloc (by simp) _
    have OM : Hid (O.ownsRow wk.heap.size 58 2 (.slice (some ⟨wk.heap.size, 0, none⟩) 0 0) 0 []) := by
      rw [hO]
      exact (World.ownsRow_made (e := 58) (size := 2) (base := wk.heap.size) wk #[] 0 (Nat.le_refl _) (by decide) rfl).alloc _
    have OA : Hid (O.ownsRow wk.heap.size 58 2 (.slice (some ⟨wk.heap.size + 1, 0, none⟩) 0 0) 0 []) := by
      have := World.ownsRow_made (e := 58) (size := 2) (base := wk.heap.size) (wk.alloc (.cells #[] 58)) #[] 0 (by simp) (by decide) rfl
      rw [World.size_alloc, ← hO] at this
      exact this
    have HAP0 : Hid (apt (.slice (some ⟨wk.heap.size, 0, none⟩) 0 0) (.slice (some ⟨wk.heap.size + 1, 0, none⟩) 0 0)) := fun b e1 e2 => by
      injection e1 with e1
      injection e2 with e2
      have h1 : wk.heap.size = b := e1
      have h2 : wk.heap.size + 1 = b := e2
      omega
    rw [← hO]
    clear hO
    go_wp2_with fail
    go_loopw [7, 8, 9, 10] (fun m a b i wr => ∃ k : Nat, k ≤ PS.length ∧ i = .int .i64 k ∧ b = .bool (hasP (PS.take k) nm) ∧ Hid (wr.ownsRow wk.heap.size 58 2 m (forL (PS.take k) nm).length (lcells (forL (PS.take k) nm))) ∧ Hid (wr.ownsRow wk.heap.size 58 2 a (forL (PS.take k) starV).length (lcells (forL (PS.take k) starV))) ∧ Hid (apt m a) ∧ Below wk.heap.size wk wr) (fun _ _ _ i _ => PS.length - (intOf i).toNat)
    case atStart => exact ⟨0, Nat.zero_le _, rfl, rfl, OM, OA, HAP0, bO⟩
    case round =>
      obtain ⟨k, hk, rfl, rfl, HM, HA, HAP, hbel⟩ := hrel
      clear OM OA HAP0 bO
      have c0 := (hbel.cell (p := ⟨D, 0, none⟩) hDC).trans (AC.1 0 _ rfl)
      by_cases hlt : k < PS.length
      · have hki : (k : Int) < PS.length := by omega
        obtain ⟨g, off, p, q, cc, hv, hg, c1, c2, c3, c4⟩ : ∃ g off p q cc, Value.slice vo PS.length vc = .slice (some ⟨g, off, none⟩) PS.length cc ∧ g < wk.heap.size ∧ wk.cell? ⟨g, off + k * 2, none⟩ = some p ∧ StrRow wk p (PS.getD k pt0).ag ∧ wk.cell? ⟨g, off + k * 2 + 1, none⟩ = some q ∧ LineRow wk q (PS.getD k pt0).ln := by
          rcases HPC.out with ⟨h, _⟩ | ⟨_, g, off, cc, h1, h2, h3⟩
          · rw [h] at hlt; simp at hlt
          · obtain ⟨p, q, q1, q2, q3, q4⟩ := h3 k hlt
            exact ⟨g, off, p, q, _, h1, h2, q1, q2, q3, q4⟩
        cases hv
        have c1w := (hbel.cell (p := ⟨g, off + k * 2, none⟩) hg).trans c1
        have c3w := (hbel.cell (p := ⟨g, off + k * 2 + 1, none⟩) hg).trans c3
        have HC1 : Hid (wk.cell? ⟨g, off + k * 2, none⟩ = some p) := c1
        have HC3 : Hid (wk.cell? ⟨g, off + k * 2 + 1, none⟩ = some q) := c3
        obtain ⟨_, ha1, hl1⟩ := part_lens HN.out hlt
        have CH : Hid (∀ n W, Below wk.heap.size wk W → Calls Try.prog 11 #[p, .string n] W fun e w' => e = .returned (.bool (hasS (PS.getD k pt0).ag n)) ∧ W = w') := fun n W hW => lawAmong _ p n W (by omega) (c2.below hW)
        have HLR : Hid (∀ W, Below wk.heap.size wk W → LineRow W q (PS.getD k pt0).ln) := fun W hW => c4.below hW
        have HF1 : Hid (∀ n, forL (PS.take (k + 1)) n = forL (PS.take k) n ++ (if hasS (PS.getD k pt0).ag n = true then (PS.getD k pt0).ln else [])) := forL_next hlt
        have HH1 : Hid (hasP (PS.take (k + 1)) nm = (hasP (PS.take k) nm || hasS (PS.getD k pt0).ag nm)) := hasP_next hlt nm
        have hfl1 := forL_most HN.out nm k hk
        have hfl2 := forL_most HN.out starV k hk
        obtain ⟨qa, qc, hqq⟩ := c4.slice
        obtain ⟨pa, pc, hpp⟩ := c2.slice
        subst hqq hpp
        clear c1 c2 c3 c4
        generalize PS.getD k pt0 = x at *
        generalize hxn : x.ln.length = xn at *
        go_wp2_with fail
        refine (CH.out nm _ hbel).mono ?_
        rintro e w' ⟨rfl, rfl⟩
        go_upto_if 39 with fail
        go_cut [7, 9] (fun m b wx => b = .bool (hasP (PS.take (k + 1)) nm) ∧ Hid (wx.ownsRow wk.heap.size 58 2 m (forL (PS.take (k + 1)) nm).length (lcells (forL (PS.take (k + 1)) nm))) ∧ Hid (wx.ownsRow wk.heap.size 58 2 u8 (forL (PS.take k) starV).length (lcells (forL (PS.take k) starV))) ∧ Hid (apt m u8) ∧ Below wk.heap.size wk wx)
        case first =>
          cases hh : hasS x.ag nm with
          | false =>
            have HE : Hid (forL (PS.take (k + 1)) nm = forL (PS.take k) nm) := by
              have := HF1.out nm
              rwa [hh, if_neg (by decide), List.append_nil] at this
            have HB : Hid (hasP (PS.take (k + 1)) nm = hasP (PS.take k) nm) := by
              have := HH1.out
              rwa [hh, Bool.or_false] at this
            have HM2 : Hid (wr.ownsRow wk.heap.size 58 2 u7 (forL (PS.take (k + 1)) nm).length (lcells (forL (PS.take (k + 1)) nm))) := by rw [HE.out]; exact HM
            clear hh
            go_wp2_with fail
            go_meet
            case rel => exact ⟨by rw [HB.out], HM2, HA, HAP, hbel⟩
          | true =>
            have HE : Hid (forL (PS.take (k + 1)) nm = forL (PS.take k) nm ++ x.ln) := by
              have := HF1.out nm
              rwa [hh, if_pos rfl] at this
            have HB : Hid (hasP (PS.take (k + 1)) nm = true) := by
              have := HH1.out
              rwa [hh, Bool.or_true] at this
            clear hh
            go_wp2_with (at_builtin; refine wpList_append_lines rfl _ _ 29 rfl wk.heap.size 58 (.agg #[.bool false, .string ⟨#[]⟩]) 24 Try.underlying29 Try.infoLn rfl u7 (forL (PS.take k) nm) rfl HM.out (.slice qa xn qc) x.ln rfl (HLR.out _ hbel) (by omega) (by unfold maxLen; omega) hbel.size ?_)
            intro v' w1 ho1 hg1 hat
            have HM1 : Hid (w1.ownsRow wk.heap.size 58 2 v' (forL (PS.take (k + 1)) nm).length (lcells (forL (PS.take (k + 1)) nm))) := by
              show World.ownsRow _ _ _ _ _ _ _
              rw [HE.out, List.length_append, hxn]
              exact ho1
            have HA1 : Hid (w1.ownsRow wk.heap.size 58 2 u8 (forL (PS.take k) starV).length (lcells (forL (PS.take k) starV))) := own_at HA.out fun b e => hg1.block b (HA.out.lt b e).2 fun e2 => HAP.out b e2.symm e
            have HAP1 : Hid (apt v' u8) := fun b e1 e2 => by
              rcases hat with h | h
              · rw [h] at e1; exact HAP.out b e1 e2
              · rw [h] at e1; injection e1 with e1; have := (HA.out.lt b e2).2; omega
            have B1 := hbel.grown hg1 hbel.size fun b e => (HM.out.lt b e).1
            clear ho1 hg1 hat HM HA HAP hbel c0 c1w c3w CH
            go_wp2_with fail
            go_meet
            case rel => exact ⟨by rw [HB.out], HM1, HA1, HAP1, B1⟩
        case rest =>
          obtain ⟨rfl, HM1, HA1, HAP1, B1⟩ := hcut
          clear HM HA HAP hbel c0 c1w c3w
          have c0 := (B1.cell (p := ⟨D, 0, none⟩) hDC).trans (AC.1 0 _ rfl)
          have c1 := (B1.cell (p := ⟨g, off + k * 2, none⟩) hg).trans HC1.out
          have c3 := (B1.cell (p := ⟨g, off + k * 2 + 1, none⟩) hg).trans HC3.out
          go_wp2_with fail
          refine (CH.out starV _ B1).mono ?_
          rintro e w' ⟨rfl, rfl⟩
          cases hh : hasS x.ag starV with
          | false =>
            have HE : Hid (forL (PS.take (k + 1)) starV = forL (PS.take k) starV) := by
              have := HF1.out starV
              rwa [hh, if_neg (by decide), List.append_nil] at this
            have HA2 : Hid (wc.ownsRow wk.heap.size 58 2 u8 (forL (PS.take (k + 1)) starV).length (lcells (forL (PS.take (k + 1)) starV))) := by rw [HE.out]; exact HA1
            clear hh
            go_wp2_with fail
            go_roundw
            case rel => exact ⟨k + 1, by omega, by go_num, rfl, HM1, HA2, HAP1, B1⟩
            case measure => simp [intOf] <;> omega
          | true =>
            have HE : Hid (forL (PS.take (k + 1)) starV = forL (PS.take k) starV ++ x.ln) := by
              have := HF1.out starV
              rwa [hh, if_pos rfl] at this
            clear hh
            go_wp2_with (at_builtin; refine wpList_append_lines rfl _ _ 29 rfl wk.heap.size 58 (.agg #[.bool false, .string ⟨#[]⟩]) 24 Try.underlying29 Try.infoLn rfl u8 (forL (PS.take k) starV) rfl HA1.out (.slice qa xn qc) x.ln rfl (HLR.out _ B1) (by omega) (by unfold maxLen; omega) B1.size ?_)
            intro v' w1 ho1 hg1 hat
            have HA2 : Hid (w1.ownsRow wk.heap.size 58 2 v' (forL (PS.take (k + 1)) starV).length (lcells (forL (PS.take (k + 1)) starV))) := by
              show World.ownsRow _ _ _ _ _ _ _
              rw [HE.out, List.length_append, hxn]
              exact ho1
            have HM2 : Hid (w1.ownsRow wk.heap.size 58 2 u7 (forL (PS.take (k + 1)) nm).length (lcells (forL (PS.take (k + 1)) nm))) := own_at HM1.out fun b e => hg1.block b (HM1.out.lt b e).2 fun e2 => HAP1.out b e e2.symm
            have HAP2 : Hid (apt u7 v') := fun b e1 e2 => by
              rcases hat with h | h
              · rw [h] at e2; exact HAP1.out b e1 e2
              · rw [h] at e2; injection e2 with e2; have := (HM1.out.lt b e1).2; omega
            have B2 := B1.grown hg1 B1.size fun b e => (HA1.out.lt b e).1
            clear ho1 hg1 hat HM1 HA1 HAP1 B1 c0 c1 c3 CH
            go_wp2_with fail
            go_roundw
            case rel => exact ⟨k + 1, by omega, by go_num, rfl, HM2, HA2, HAP2, B2⟩
            case measure => simp [intOf] <;> omega
      · have hki : ¬ (k : Int) < PS.length := by omega
        have HE : Hid (PS.take k = PS) := List.take_of_length_le (by omega)
        have HMR : Hid (LineRow wr u7 (forL PS nm)) := by
          have := LineRow.of_own' HM.out
          rwa [HE.out] at this
        have HAR : Hid (LineRow wr u8 (forL PS starV)) := by
          have := LineRow.of_own' HA.out
          rwa [HE.out] at this
        have HBE : Hid (hasP (PS.take k) nm = hasP PS nm) := by show _ = _; rw [HE.out]
        have HLW : Hid (LineRow wr v5 LL) := HLC.out.below hbel
        have hf1 := forL_most HN.out nm k hk
        have hf2 := forL_most HN.out starV k hk
        rw [HE.out] at hf1 hf2
        have BE := BC.trans (hbel.mono BC.size)
        cases hh : hasP PS nm with
        | true =>
          have HLE : Hid (LL = forL PS nm) := by
            have := HL.out
            rwa [hh, if_pos rfl] at this
          have HB2 : hasP (PS.take k) nm = true := HBE.out.trans hh
          have CS : Hid (Calls Try.prog 12 #[v5, u7] wr fun e w' => e = .returned (.bool true) ∧ Below wr.heap.size wr w') := lawSame (forL PS nm) v5 u7 wr (by omega) (by rw [← HLE.out]; exact HLW.out) HMR.out
          rw [HB2]
          clear hh HM HA HAP HB2
          go_wp2_with fail
          refine CS.out.mono ?_
          rintro e wz ⟨rfl, bz⟩
          go_wp2_with fail
          go_ret
          exact ⟨rfl, BE.trans (bz.mono BE.size)⟩
        | false =>
          have HLE : Hid (LL = forL PS starV) := by
            have := HL.out
            rwa [hh, if_neg (by decide)] at this
          have HB2 : hasP (PS.take k) nm = false := HBE.out.trans hh
          have CS : Hid (Calls Try.prog 12 #[v5, u8] wr fun e w' => e = .returned (.bool true) ∧ Below wr.heap.size wr w') := lawSame (forL PS starV) v5 u8 wr (by omega) (by rw [← HLE.out]; exact HLW.out) HAR.out
          rw [HB2]
          clear hh HM HA HAP HB2
          go_wp2_with fail
          refine CS.out.mono ?_
          rintro e wz ⟨rfl, bz⟩
          go_wp2_with fail
          go_ret
          exact ⟨rfl, BE.trans (bz.mono BE.size)⟩

set_option maxRecDepth 100000 in
theorem lifted (os : Os) (started : os.Started) (H : Type) (enc : TypeId × Value → H) :
    ReturnsInHanded {} Try.checked os 3 .any (Rows.fnLinesForSpec.pre6 enc Try.prog Try.f3 Rows.fnLinesForRow.domain false) (Rows.fnLinesForSpec.post enc Try.prog Try.f3 false true false false) := by
  refine returnsInHanded_of_change (C := Try.checked) own started (by kernel_rfl) Try.func3
    (ChangeSpec.witness6 (enc := enc) (C := Try.checked) false ⟨#[], #[.slice none 0 0], []⟩ 8 (by kernel_rfl) (by kernel_rfl) (by kernel_rfl) (by kernel_rfl)) ?_
  intro W base args ds gs before hval0 hW hcnd _
  have hval : ∀ (j : Nat) t v, Try.f3.params[j]? = some t → args[j]? = some v → Value.okWide Try.prog W .any base t v := hval0
  have hW' := hW
  obtain ⟨p, q, hA0, hV, rfl, hfz, hnd⟩ := hW
  have hA : DataW.TrodAll enc Try.prog W 0 (fun _ => true) true Try.f3.params.toList args.toList ds p := hA0
  rw [Try.params3] at hA hval
  obtain ⟨v0, vs0, d0, ds0, p0, q0, hargs, rfl, rfl, h0, r0⟩ := trodAll_cons hA
  obtain ⟨rfl, rfl, rfl⟩ := trodAll_nil r0
  obtain rfl : args = #[v0] := by cases args; simp_all
  obtain ⟨rfl, rfl⟩ := trodVars_none hV
  obtain ⟨a0, len0, cap0, rfl⟩ := okWide_slice Try.underlying22 (hval 0 22 v0 rfl rfl)
  have k0 := h0
  have lt0 : ∀ x ∈ p0, x.block < W.heap.size := by obtain ⟨m, hm⟩ := k0; exact DataW.trod_lt m _ _ _ hm
  obtain ⟨z0, w0⟩ : ∃ zs, IsRow .u8 W a0 len0 cap0 zs := by
    obtain ⟨fuel, hf⟩ := h0
    rcases open_ints Try.underlying22 Try.underlying5 (by kernel_rfl) hf with ⟨hcs, _⟩ | ⟨x, l, c, zs, hcs, _, hl, hm, hz, _, hcell, hwz⟩
    · simp [Value.cells] at hcs
      obtain ⟨rfl, rfl, rfl⟩ := hcs
      exact ⟨[], .inl ⟨rfl, rfl, rfl, rfl⟩⟩
    · simp [Value.cells] at hcs
      obtain ⟨rfl, rfl, rfl⟩ := hcs
      exact ⟨zs, .inr ⟨_, rfl, hl, hm, by simpa using hz, hcell, hwz⟩⟩
  clear hA0 hval0
  refine (walk a0 len0 cap0 z0 W w0).mono fun e W' ⟨he, bel⟩ => ?_
  subst he
  exact ⟨_, rfl, _, _, _, [], _, [], hW', trodAll_mk1 (shut_bool Try.underlying4 _), (trodAll_cons_mk (Below.trod laidOut (by kernel_rfl) (of_decide_eq_true (by kernel_rfl)) k0 bel lt0) trodAll_mk0), rfl, bel.frame _, fun h => by cases h⟩

theorem over : Rows.fnLinesForRow.holds Try.pinned (OpenSpec.ofChange Rows.fnLinesForSpec) :=
  OpenClaim.holds_of_wide 3 Try.f3 rfl rfl rfl rfl rfl rfl rfl ⟨rfl, rfl, rfl, rfl, rfl⟩ rfl rfl rfl rfl rfl (by kernel_rfl) Try.func3 (by kernel_rfl)
    (of_decide_eq_true (by kernel_rfl)) (by unfold Func.isWrapper; first | (rw [if_pos (by decide +kernel)]; kernel_rfl) | (rw [if_neg (by decide +kernel)]; exact ⟨rfl, rfl⟩))
    (fun os started H enc _ => lifted os started H enc)

theorem proved : Rows.FnLinesForSaid := over
end Go.Proofs.Ytjdnemjcjodboaa.fnLinesFor

namespace Go.Proofs.Ytjdnemjcjodboaa
theorem fnLinesFor_holds : Rows.FnLinesForSaid := fnLinesFor.proved
#print axioms fnLinesFor_holds
end Go.Proofs.Ytjdnemjcjodboaa
