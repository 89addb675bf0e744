/- Proved: laws.FnActs answers true at every slice of bytes and leaves it as it was; no condition. -/
import Derived.Test.YtidecdlaeomfoaaGreatRows
import Derived.Test.YtidecdlaeomfoaaGreatQA36
import Derived.Test.YtidecdlaeomfoaaGreatQA37
import Derived.ProofKit
import Derived.OpenShut
import Derived.ShutString
import Derived.ChangeOld
import Derived.Below
namespace Go.Proofs.YtidecdlaeomfoaaGreat.fnActs
open Go.ChangeShapes Go.WideShapes Go.ChangeAt Go.RowKit
open Go.ChangeMaps (open_string shut_string)
set_option linter.unusedVariables false

theorem own : ownKnob Tryz.prog.godebug = none := by kernel_rfl
theorem laidOut : laidOutB Tryz.prog = true := by kernel_rfl

/-- WHAT THE WALK IS TOLD OF A SLICE OF INTEGERS THAT CAME IN: it is nil; or it leads to a row of 'cap' cells, the numbers 'zs' (the first 'len' are its elements, the rest its spare room), each fitting its kind. -/
def IsRow (k : IntKind) (w : World) (a : Option Addr) (len cap : Nat) (zs : List Int) : Prop :=
  (a = none ∧ len = 0 ∧ cap = 0 ∧ zs = []) ∨
  ∃ x, a = some x ∧ len ≤ cap ∧ cap ≤ maxLen ∧ zs.length = cap ∧ (∀ i, i < zs.length → w.cell? (x.add i) = some (.int k (zs.getD i 0))) ∧ ∀ n ∈ zs, (Lit.int k n).wf = true

set_option maxHeartbeats 8000000 in
theorem walk (a0 : Option Addr) (len0 cap0 : Nat) (z0 : List Int) (w : World) (w0 : IsRow .u8 w a0 len0 cap0 z0) :
    Calls Tryz.prog 3 #[.slice a0 len0 cap0] w fun e w' => e = .returned (.bool true) ∧ Below w.heap.size w w' := by
  by_cases hbig : 1048576 < (len0 : Int)
  · go_enter Tryz.func3, Tryz.ntmps3
    go_wp2_with fail
    refine (big_yes _ _ _ _ hbig).mono ?_
    rintro e w' ⟨rfl, rfl⟩
    go_wp2
    go_ret
    exact ⟨rfl, Below.refl _ _⟩
  · have hl : len0 ≤ 1048576 := by omega
    have hcode : CodeRow w.heap.size w a0 len0 := by
      rcases w0 with ⟨rfl, rfl, rfl, rfl⟩ | ⟨x, rfl, h1, h2, h3, h4, h5⟩
      · exact .inl rfl
      · by_cases h0 : len0 = 0
        · exact .inl h0
        · obtain ⟨b, off, rfl, hc⟩ := ints_at h4 (by omega)
          refine .inr ⟨b, off, rfl, World.block_lt_of_cell? w ⟨b, off + 0, none⟩ (hc 0 (by omega)), fun i hi => ?_⟩
          refine ⟨_, hc i (by omega), ?_⟩
          have hb := bounds_u8 (h5 (z0.getD i 0) (by
            rw [List.getD_eq_getElem?_getD, List.getElem?_eq_getElem (by omega)]
            exact List.getElem_mem _))
          exact hb
    have HCO : Hid (CodeRow w.heap.size w a0 len0) := hcode
    clear w0 hcode
    go_enter Tryz.func3, Tryz.ntmps3
    go_wp2_with fail
    refine (big_no _ _ _ _ (by omega)).mono ?_
    rintro e w' ⟨rfl, rfl⟩
    go_wp2_with fail
    refine (drawPutAct _ _ _ _ hl HCO.out).mono ?_
    rintro e wa ⟨⟨k, t, b, n⟩, hx, rfl, ba⟩
    have hx1 := hx.1
    have hx2 := hx.2
    dsimp only at hx1 hx2 ⊢
    have CPU := hidB (fun W => implPutAct ⟨k, t, b, n⟩ W (by dsimp only; omega) (by dsimp only; omega))
    have CSO := hidB (fun W => specActOk ⟨k, t, b, n⟩ W)
    have CIO := hidB (fun W => implActOk ⟨k, t, b, n⟩ W)
    dsimp only at CPU CSO CIO
    go_upto_region 4 with fail
    obtain ⟨V, hV⟩ : ∃ V, V = wa.alloc (.cells #[.int .i64 k, .string t, .string b, .int .i64 n] 25) := ⟨_, rfl⟩
    have bV : Below wa.heap.size wa V := by rw [hV]; exact (Below.refl _ _).alloc (Nat.le_refl _) _
    have AV : BAt V wa.heap.size [.int .i64 k, .string t, .string b, .int .i64 n] := by rw [hV]; exact BAt.new wa #[.int .i64 k, .string t, .string b, .int .i64 n] _
    have B0 := hidB (ba.trans (bV.mono ba.size))
    rw [← hV]
    clear hV bV ba hx hx1 hx2
    generalize wa.heap.size = R1 at *
    have c0 := AV.1 0 _ rfl
    have c1 := AV.1 1 _ rfl
    have c2 := AV.1 2 _ rfl
    have c3 := AV.1 3 _ rfl
    have hlA := actL_len ⟨k, t, b, n⟩
    have HAL : Hid (actL ⟨k, t, b, n⟩ = if actB ⟨k, t, b, n⟩ then rwA ⟨k, t, b, n⟩ else []) := rfl
    generalize actL ⟨k, t, b, n⟩ = A at *
    go_wp2_with fail
    refine (CPU.out _).mono ?_
    rintro e wb ⟨vb, rfl, ob, bb⟩
    have B1 := hidB (B0.out.trans (bb.mono B0.out.size))
    replace AV := AV.below bb
    have RB := hidB (BRow.of_own ob)
    obtain ⟨bo, bc, hvb⟩ := (BRow.of_own ob).slice
    subst hvb
    clear ob bb CPU c0 c1 c2 c3 B0
    have c0 := AV.1 0 _ rfl
    have c1 := AV.1 1 _ rfl
    have c2 := AV.1 2 _ rfl
    have c3 := AV.1 3 _ rfl
    cases hP : actB ⟨k, t, b, n⟩ with
    | false =>
      rw [hP] at CSO CIO HAL
      have hA0 : (A.length : Int) = 0 := by rw [HAL.out]; rfl
      clear hP HAL RB
      go_wp2_with fail
      refine (CSO.out _).mono ?_
      rintro e wc ⟨rfl, bc2⟩
      have B2 := hidB (B1.out.trans (bc2.mono B1.out.size))
      replace AV := AV.below bc2
      clear bc2 c0 c1 c2 c3 B1
      have c0 := AV.1 0 _ rfl
      have c1 := AV.1 1 _ rfl
      have c2 := AV.1 2 _ rfl
      have c3 := AV.1 3 _ rfl
      go_wp2_with fail
      refine (CIO.out _).mono ?_
      rintro e wd ⟨rfl, bd⟩
      have B3 := B2.out.trans (bd.mono B2.out.size)
      clear bd c0 c1 c2 c3 B2 AV CSO CIO
      go_wp2_with fail
      go_ret
      exact ⟨rfl, B3⟩
    | true =>
      rw [hP] at CSO HAL
      have HA : Hid (A = rwA ⟨k, t, b, n⟩) := HAL.out
      have HGT := hidB (get_put ⟨k, t, b, n⟩ hP)
      have CGA : Hid (∀ W, BRow W (.slice bo A.length bc) A → Calls Tryz.prog 9 #[.slice bo A.length bc] W fun e w' => e = .returned (.tuple #[.agg #[.int .i64 k, .string t, .string b, .int .i64 n], .bool true]) ∧ Below W.heap.size W w') := fun W h => by
        have := implGetAct _ A W h (by omega)
        rw [HA.out, HGT.out] at this
        rw [HA.out]
        exact this
      clear hP HAL CIO HA HGT
      go_wp2_with fail
      refine (CSO.out _).mono ?_
      rintro e wc ⟨rfl, bc2⟩
      have B2 := hidB (B1.out.trans (bc2.mono B1.out.size))
      replace AV := AV.below bc2
      replace RB := hidB (RB.out.below bc2)
      clear bc2 c0 c1 c2 c3 B1 CSO
      go_wp2_with fail
      refine (CGA.out _ RB.out).mono ?_
      rintro e wd ⟨rfl, bd⟩
      have B3 := hidB (B2.out.trans (bd.mono B2.out.size))
      replace AV := AV.below bd
      clear bd B2 RB CGA
      have heq : ∀ W, _ := eqActV k t b n k t b n
      rw [eqAB_self] at heq
      go_upto_region 8 with fail
      obtain ⟨X, hX⟩ : ∃ X, X = wd.alloc (.cells #[.int .i64 k, .string t, .string b, .int .i64 n] 25) := ⟨_, rfl⟩
      have bX : Below wd.heap.size wd X := by rw [hX]; exact (Below.refl _ _).alloc (Nat.le_refl _) _
      have AX : BAt X wd.heap.size [.int .i64 k, .string t, .string b, .int .i64 n] := by rw [hX]; exact BAt.new wd #[.int .i64 k, .string t, .string b, .int .i64 n] _
      have B4 := hidB (B3.out.trans (bX.mono B3.out.size))
      replace AV := AV.below bX
      rw [← hX]
      clear hX bX B3
      generalize wd.heap.size = R2 at *
      have c0 := AV.1 0 _ rfl
      have c1 := AV.1 1 _ rfl
      have c2 := AV.1 2 _ rfl
      have c3 := AV.1 3 _ rfl
      have d0 := AX.1 0 _ rfl
      have d1 := AX.1 1 _ rfl
      have d2 := AX.1 2 _ rfl
      have d3 := AX.1 3 _ rfl
      go_wp2_with fail
      refine (drawActList _ _ _ _ hl (HCO.out.later B4.out)).mono ?_
      rintro e we ⟨lo, lc, l, hx, hl44, rfl, RLe, be⟩
      have B5 := hidB (B4.out.trans (be.mono B4.out.size))
      have hsz : ASz l := ⟨by omega, fun i hi => by
        have h1 : l.getD i av0 ∈ l := by
          rw [List.getD_eq_getElem?_getD, List.getElem?_eq_getElem hi]
          exact List.getElem_mem hi
        have := actB_le (hx _ h1)
        omega⟩
      have CPA := hidB (fun v W (h : ActRow W v l) => implPutActs l v W hsz h)
      have hlen := actsL_len l
      have hNs : (actsL l).length ≤ 177760 := by omega
      have CRA : Hid (∀ v W, BRow W v (actsL l) → Calls Tryz.prog 12 #[v] W fun e w' => ActsR W (l, (actsL l).length) e w') := fun v W h => by
        have := implReadActs v (actsL l) W h (by omega)
        rwa [read_acts l hx] at this
      have CRC := hidB (fun (c : Nat) v W (h : BRow W v ((actsL l).take c)) => implReadActs v ((actsL l).take c) W h (by rw [List.length_take]; omega))
      have HCUT := hidB (fun c h => read_cut l hx c h)
      have HNO := hidB (fun h => acts_none hx h)
      clear be B4 AV AX c0 c1 c2 c3 d0 d1 d2 d3 heq hsz hlen hx
      generalize actsL l = F at *
      go_wp2_with fail
      refine (CPA.out _ _ RLe.out).mono ?_
      rintro e wf ⟨vF, rfl, oF, bf⟩
      have B6 := hidB (B5.out.trans (bf.mono B5.out.size))
      have RLf := hidB (RLe.out.below bf)
      have OF := hidB oF
      clear bf CPA RLe B5
      rcases own_shape oF with ⟨hN0, hF0, fo, fc, rfl⟩ | ⟨hNp, fg, fc, rfl⟩
      · have hl0 : l = [] := HNO.out hN0
        subst hl0
        have hF : F = [] := List.eq_nil_of_length_eq_zero hN0
        subst hF
        have CR0 : Hid (∀ v W, BRow W v [] → Calls Tryz.prog 12 #[v] W fun e w' => ActsR W ([], 0) e w') := CRA.out
        clear oF CRA CRC HCUT HNO OF RLf hN0 hF0
        go_wp2_with fail
        refine (CR0.out _ _ (.inl ⟨rfl, _, _, rfl⟩)).mono ?_
        rintro e wg ⟨vm, rfl, om, bg⟩
        have B7 := hidB (B6.out.trans (bg.mono B6.out.size))
        obtain ⟨mo, mc, hvm⟩ := (ActRow.of_own om).slice
        subst hvm
        clear om bg B6
        go_wp2_with fail
        refine (CR0.out _ _ (.inl ⟨rfl, _, _, rfl⟩)).mono ?_
        rintro e wh ⟨vp, rfl, op, bh⟩
        have B8 := hidB (B7.out.trans (bh.mono B7.out.size))
        obtain ⟨po, pc, hvp⟩ := (ActRow.of_own op).slice
        subst hvp
        clear op bh B7 CR0
        go_wp2_with fail
        refine wp_loop_rounds 1 ?_
        rw [rounds_succ]
        go_wp2_with fail
        go_ret
        exact ⟨rfl, B8.out⟩
      · obtain ⟨N, HN⟩ : ∃ N, Hid (N = F.length) := ⟨_, rfl⟩
        have hroom := own_room oF
        rw [← HN.out] at hNp hNs hroom CRA ⊢
        have hNi : (0 : Int) < (N : Int) := by omega
        have hNz : ¬ (N : Int) = 0 := by omega
        have RF := hidB (show BRow wf (.slice (some ⟨fg, 0, none⟩) N fc) F by rw [HN.out]; exact BRow.of_own OF.out)
        have hfg : fg < wf.heap.size := (OF.out.lt fg rfl).2
        have HCE : Hid (∀ i, i < F.length → wf.cell? ⟨fg, 0 + i, none⟩ = some (.int .u8 ((F.getD i 0).toNat : Int))) := fun i hi => by
          rw [Nat.zero_add]
          exact bcell_at OF.out i hi
        clear oF OF HNO
        go_wp2_with fail
        refine (CRA.out _ _ RF.out).mono ?_
        rintro e wg ⟨vm, rfl, om, bg⟩
        have B7 := hidB (B6.out.trans (bg.mono B6.out.size))
        have RLg := hidB (RLf.out.below bg)
        have RM := hidB (ActRow.of_own om)
        have RFc : Hid (∀ c, c ≤ N → BRow wg (.slice (some ⟨fg, 0, none⟩) c fc) (F.take c)) := fun c hc => by
          have h := (BRow.part hfg HCE.out (a := 0) (n := c) (c := fc) (o := 0) (by have := HN.out; omega) (by omega) rfl).below bg
          unfold partL at h
          rwa [List.drop_zero] at h
        obtain ⟨mo, mc, hvm⟩ := (ActRow.of_own om).slice
        subst hvm
        clear om bg B6 RLf RF HCE CRA hfg
        go_wp2_with fail
        refine (lawsAt 2 _ _ _ _ _ (by omega) hl (HCO.out.later B7.out)).mono ?_
        rintro e w1 ⟨y1, hy1, rfl, rfl⟩
        go_wp2_with fail
        refine (lawsAt 3 _ _ _ _ _ (by omega) hl (HCO.out.later B7.out)).mono ?_
        rintro e w1 ⟨y2, hy2, rfl, rfl⟩
        obtain ⟨c, hc⟩ : ∃ c, (y1 * 256 + y2) % N = c := ⟨_, rfl⟩
        have hcN : c < N := by rw [← hc]; exact Nat.mod_lt _ (by omega)
        have hr1 : ((y1 : Int) * 256 + (y2 : Int)) % (N : Int) = (c : Int) := by rw [← hc, Int.natCast_emod, Int.natCast_add, Int.natCast_mul]; rfl
        have hr2 : ((y1 : Int) * 256 + (y2 : Int)).tmod (N : Int) = (c : Int) := by
          rw [Int.tmod_eq_emod_of_nonneg (by omega)]; exact hr1
        obtain ⟨j, pl, hjp, hpc, hjl⟩ := HCUT.out c (by have := HN.out; omega)
        have CRD := hidB (fun v W (h : BRow W v (F.take c)) => CRC.out c v W h)
        rw [hjp] at CRD
        clear hc hjp HCUT CRC
        go_wp2_with fail
        refine (CRD.out _ _ (RFc.out c (by omega))).mono ?_
        rintro e wh ⟨vp, rfl, op, bh⟩
        have B8 := hidB (B7.out.trans (bh.mono B7.out.size))
        have RLh := hidB (RLg.out.below bh)
        have RMh := hidB (RM.out.below bh)
        have RPh : Hid (ActRow wh vp (l.take j)) := hidB (ActRow.of_own op)
        obtain ⟨po, pc, hvp⟩ := (ActRow.of_own op).slice
        have hjl2 : (l.take j).length = j := by rw [List.length_take]; omega
        replace hvp : vp = .slice po (l.take j).length pc := hvp
        rw [hjl2] at hvp
        subst hvp
        have hpi : ¬ (c : Int) < (pl : Int) := by omega
        have hji : ¬ (l.length : Int) < (j : Int) := by omega
        have hje : ((j : Int) == (l.length : Int)) = false := beq_eq_false_iff_ne.2 (by omega)
        have HPA : Hid (∀ k, k < j → ∃ g off, po = some ⟨g, off, none⟩ ∧ g < wh.heap.size ∧ ActAt wh g (off + k * 4) (l.getD k av0)) := fun k hk => by
          rcases RPh.out with ⟨h, _⟩ | ⟨_, g, off, cap, hv, hg, hc⟩
          · rw [h] at hjl2; simp at hjl2; omega
          · rw [hjl2] at hv hc
            injection hv with hv1 _ _
            refine ⟨g, off, hv1, hg, ?_⟩
            have h1 := hc k hk
            have e : (l.take j).getD k av0 = l.getD k av0 := by
              rw [List.getD_eq_getElem?_getD, List.getD_eq_getElem?_getD, List.getElem?_take, if_pos hk]
            rwa [e] at h1
        clear op bh B7 RLg RM RFc CRD RPh hjl2 hroom hy1 hy2 hr1 hr2 hcN
        rcases RLh.out with ⟨h, _⟩ | ⟨_, g, off, cap, hv, hg, hc⟩
        · rw [h] at hjl; simp at hjl
        rcases RMh.out with ⟨h, _⟩ | ⟨_, g', off', cap', hv', hg', hc'⟩
        · rw [h] at hjl; simp at hjl
        injection hv with hv1 _ hv3
        injection hv' with hv1' _ hv3'
        subst hv1 hv1'
        have HC1 := hidB hc
        have HC2 := hidB hc'
        clear RLh RMh hv3 hv3' hc hc'
        go_wp2_with fail
        go_loopw [14] (fun i wr => ∃ k : Nat, k ≤ l.length ∧ i = .int .i64 k ∧ Below wh.heap.size wh wr) (fun i _ => l.length - (intOf i).toNat)
        case atStart => exact ⟨0, Nat.zero_le _, rfl, Below.refl _ _⟩
        case round =>
          obtain ⟨i, hi, rfl, hbel⟩ := hrel
          by_cases hlt : i < l.length
          · have hki : (i : Int) < (l.length : Int) := by omega
            have zb := hbel.size
            have hgr : g < wr.heap.size := by omega
            have hgr' : g' < wr.heap.size := by omega
            have c1 := hidB ((HC1.out i hlt).below hbel hg)
            have c2 := hidB ((HC2.out i hlt).below hbel hg')
            have HP1 : Hid (i < j → ∃ g off, po = some ⟨g, off, none⟩ ∧ g < wr.heap.size ∧ ActAt wr g (off + i * 4) (l.getD i av0)) := fun h => by
              obtain ⟨g3, off3, h1, h2, h3⟩ := HPA.out i h
              exact ⟨g3, off3, h1, by omega, h3.below hbel h2⟩
            generalize l.getD i av0 = X at *
            obtain ⟨y0, y1, y2, y3⟩ := X
            have heq : ∀ W, _ := eqActV y0 y1 y2 y3 y0 y1 y2 y3
            rw [eqAB_self] at heq
            go_upto_region 22 with fail
            refine wp_region_held_drew (S := fun W => Below wr.heap.size wr W) (by kernel_rfl) (Below.refl _ _).drew (fun h0 => ?_)
            refine wpAnyH_take (i := 0) (v := ?_) rfl (by kernel_rfl) (by kernel_rfl) (by kernel_rfl) (fun _ _ _ h => h) (Or.inl ⟨by rfl, fun W hW => ?_⟩) h0 ?_
            rotate_left
            · clear hW
              go_simp
              try with_reducible rfl
            simp only [Act.put, List.getElem_toArray, List.getElem_cons_zero, List.setIfInBounds_toArray, List.set_cons_zero, List.set_cons_succ]
            refine wpAnyH_take (i := 1) (v := ?_) rfl (by kernel_rfl) (by kernel_rfl) (by kernel_rfl) (fun _ _ _ h => h) (Or.inl ⟨by rfl, fun W hW => ?_⟩) h0 ?_
            rotate_left
            · clear hW
              go_simp
              try with_reducible rfl
            simp only [Act.put, List.getElem_toArray, List.getElem_cons_zero, List.getElem_cons_succ, List.setIfInBounds_toArray, List.set_cons_zero, List.set_cons_succ]
            refine wpAnyH_take (i := 2) (v := ?_) rfl (by kernel_rfl) (by kernel_rfl) (by kernel_rfl) (fun _ _ _ h => h) (Or.inl ⟨by rfl, fun W hW => ?_⟩) h0 ?_
            rotate_left
            · clear hW
              go_simp
              try with_reducible rfl
            simp only [Act.put, List.getElem_toArray, List.getElem_cons_zero, List.getElem_cons_succ, List.setIfInBounds_toArray, List.set_cons_zero, List.set_cons_succ]
            refine wpAnyH_take (i := 3) (v := .agg #[.int .i64 y0, .string y1, .string y2, .int .i64 y3]) rfl (by kernel_rfl) (by kernel_rfl) (by kernel_rfl) (fun _ _ _ h => h) (Or.inl ⟨by rfl, fun W hW => ?_⟩) h0 ?_
            · obtain ⟨q0, q1, q2, q3⟩ := c2.out.below hW hgr'
              dsimp only at q0 q1 q2 q3
              clear hW
              go_simp
            simp only [Act.put, List.getElem_toArray, List.getElem_cons_zero, List.getElem_cons_succ, List.setIfInBounds_toArray, List.set_cons_zero, List.set_cons_succ]
            refine wpAnyH_take (i := 4) (v := ?_) rfl (by kernel_rfl) (by kernel_rfl) (by kernel_rfl) (fun _ _ _ h => h) (Or.inl ⟨by rfl, fun W hW => ?_⟩) h0 ?_
            rotate_left
            · clear hW
              go_simp
              try with_reducible rfl
            simp only [Act.put, List.getElem_toArray, List.getElem_cons_zero, List.getElem_cons_succ, List.setIfInBounds_toArray, List.set_cons_zero, List.set_cons_succ]
            refine wpAnyH_take (i := 5) (v := ?_) rfl (by kernel_rfl) (by kernel_rfl) (by kernel_rfl) (fun _ _ _ h => h) (Or.inl ⟨by rfl, fun W hW => ?_⟩) h0 ?_
            rotate_left
            · clear hW
              go_simp
              try with_reducible rfl
            simp only [Act.put, List.getElem_toArray, List.getElem_cons_zero, List.getElem_cons_succ, List.setIfInBounds_toArray, List.set_cons_zero, List.set_cons_succ]
            refine wpAnyH_take (i := 6) (v := ?_) rfl (by kernel_rfl) (by kernel_rfl) (by kernel_rfl) (fun _ _ _ h => h) (Or.inl ⟨by rfl, fun W hW => ?_⟩) h0 ?_
            rotate_left
            · clear hW
              go_simp
              try with_reducible rfl
            simp only [Act.put, List.getElem_toArray, List.getElem_cons_zero, List.getElem_cons_succ, List.setIfInBounds_toArray, List.set_cons_zero, List.set_cons_succ]
            refine wpAnyH_take (i := 7) (v := .agg #[.int .i64 y0, .string y1, .string y2, .int .i64 y3]) rfl (by kernel_rfl) (by kernel_rfl) (by kernel_rfl) (fun _ _ _ h => h) (Or.inl ⟨by rfl, fun W hW => ?_⟩) h0 ?_
            · obtain ⟨q0, q1, q2, q3⟩ := c1.out.below hW hgr
              dsimp only at q0 q1 q2 q3
              clear hW
              go_simp
            simp only [Act.put, List.getElem_toArray, List.getElem_cons_zero, List.getElem_cons_succ, List.setIfInBounds_toArray, List.set_cons_zero, List.set_cons_succ]
            refine wpAnyH_take (i := 8) (v := ?_) rfl (by kernel_rfl) (by kernel_rfl) (by kernel_rfl) (fun _ _ _ h => h) (Or.inl ⟨by rfl, fun W hW => ?_⟩) h0 ?_
            rotate_left
            · clear hW
              go_simp
              try with_reducible rfl
            simp only [Act.put, List.getElem_toArray, List.getElem_cons_zero, List.getElem_cons_succ, List.setIfInBounds_toArray, List.set_cons_zero, List.set_cons_succ]
            refine wpAnyH_take (i := 9) (v := ?_) rfl (by kernel_rfl) (by kernel_rfl) (by kernel_rfl) (fun _ _ _ h => h) (Or.inl ⟨by rfl, fun W hW => ?_⟩) h0 ?_
            rotate_left
            · clear hW
              go_simp
              try with_reducible rfl
            simp only [Act.put, List.getElem_toArray, List.getElem_cons_zero, List.getElem_cons_succ, List.setIfInBounds_toArray, List.set_cons_zero, List.set_cons_succ]
            refine wpAnyH_take (i := 10) (v := ?_) rfl (by kernel_rfl) (by kernel_rfl) (by kernel_rfl) (fun _ _ _ h => h) (Or.inl ⟨by rfl, fun W hW => ?_⟩) h0 ?_
            rotate_left
            · clear hW
              go_simp
              try with_reducible rfl
            simp only [Act.put, List.getElem_toArray, List.getElem_cons_zero, List.getElem_cons_succ, List.setIfInBounds_toArray, List.set_cons_zero, List.set_cons_succ]
            refine wpAnyH_take (i := 11) (v := ?_) rfl (by kernel_rfl) (by kernel_rfl) (by kernel_rfl) (fun _ _ _ h => h) (Or.inl ⟨by rfl, fun W hW => ?_⟩) h0 ?_
            rotate_left
            · clear hW
              go_simp
              try with_reducible rfl
            simp only [Act.put, List.getElem_toArray, List.getElem_cons_zero, List.getElem_cons_succ, List.setIfInBounds_toArray, List.set_cons_zero, List.set_cons_succ]
            refine wpAnyH_take (i := 12) (v := ?_) rfl (by kernel_rfl) (by kernel_rfl) (by kernel_rfl) (fun _ _ _ h => h) (Or.inl ⟨by rfl, fun W hW => ?_⟩) h0 ?_
            rotate_left
            · clear hW
              go_simp
              try with_reducible rfl
            simp only [Act.put, List.getElem_toArray, List.getElem_cons_zero, List.getElem_cons_succ, List.setIfInBounds_toArray, List.set_cons_zero, List.set_cons_succ]
            by_cases hij : i < j
            · have hiji : (i : Int) < (j : Int) := by omega
              obtain ⟨g3, off3, hpo, hg3, c3x⟩ := HP1.out hij
              have c3 := hidB c3x
              subst hpo
              clear c3x
              refine wpAnyH_take (i := 13) (v := ?_) rfl (by kernel_rfl) (by kernel_rfl) (by kernel_rfl) (fun _ _ _ h => h) (Or.inl ⟨by rfl, fun W hW => ?_⟩) h0 ?_
              rotate_left
              · clear hW
                go_simp
                try with_reducible rfl
              simp only [Act.put, List.getElem_toArray, List.getElem_cons_zero, List.getElem_cons_succ, List.setIfInBounds_toArray, List.set_cons_zero, List.set_cons_succ]
              refine wpAnyH_take (i := 14) (v := ?_) rfl (by kernel_rfl) (by kernel_rfl) (by kernel_rfl) (fun _ _ _ h => h) (Or.inl ⟨by rfl, fun W hW => ?_⟩) h0 ?_
              rotate_left
              · clear hW
                go_simp
                try with_reducible rfl
              simp only [Act.put, List.getElem_toArray, List.getElem_cons_zero, List.getElem_cons_succ, List.setIfInBounds_toArray, List.set_cons_zero, List.set_cons_succ]
              refine wpAnyH_take (i := 15) (v := ?_) rfl (by kernel_rfl) (by kernel_rfl) (by kernel_rfl) (fun _ _ _ h => h) (Or.inl ⟨by rfl, fun W hW => ?_⟩) h0 ?_
              rotate_left
              · clear hW
                go_simp
                try with_reducible rfl
              simp only [Act.put, List.getElem_toArray, List.getElem_cons_zero, List.getElem_cons_succ, List.setIfInBounds_toArray, List.set_cons_zero, List.set_cons_succ]
              refine wpAnyH_take (i := 16) (v := ?_) rfl (by kernel_rfl) (by kernel_rfl) (by kernel_rfl) (fun _ _ _ h => h) (Or.inl ⟨by rfl, fun W hW => ?_⟩) h0 ?_
              rotate_left
              · clear hW
                go_simp
                try with_reducible rfl
              simp only [Act.put, List.getElem_toArray, List.getElem_cons_zero, List.getElem_cons_succ, List.setIfInBounds_toArray, List.set_cons_zero, List.set_cons_succ]
              refine wpAnyH_take (i := 17) (v := ?_) rfl (by kernel_rfl) (by kernel_rfl) (by kernel_rfl) (fun _ _ _ h => h) (Or.inl ⟨by rfl, fun W hW => ?_⟩) h0 ?_
              rotate_left
              · clear hW
                go_simp
                try with_reducible rfl
              simp only [Act.put, List.getElem_toArray, List.getElem_cons_zero, List.getElem_cons_succ, List.setIfInBounds_toArray, List.set_cons_zero, List.set_cons_succ]
              refine wpAnyH_take (i := 18) (v := .agg #[.int .i64 y0, .string y1, .string y2, .int .i64 y3]) rfl (by kernel_rfl) (by kernel_rfl) (by kernel_rfl) (fun _ _ _ h => h) (Or.inl ⟨by rfl, fun W hW => ?_⟩) h0 ?_
              · obtain ⟨q0, q1, q2, q3⟩ := c3.out.below hW hg3
                dsimp only at q0 q1 q2 q3
                clear hW
                go_simp
              simp only [Act.put, List.getElem_toArray, List.getElem_cons_zero, List.getElem_cons_succ, List.setIfInBounds_toArray, List.set_cons_zero, List.set_cons_succ]
              refine wpAnyH_take (i := 19) (v := ?_) rfl (by kernel_rfl) (by kernel_rfl) (by kernel_rfl) (fun _ _ _ h => h) (Or.inl ⟨by rfl, fun W hW => ?_⟩) h0 ?_
              rotate_left
              · clear hW
                go_simp
                try with_reducible rfl
              simp only [Act.put, List.getElem_toArray, List.getElem_cons_zero, List.getElem_cons_succ, List.setIfInBounds_toArray, List.set_cons_zero, List.set_cons_succ]
              refine wpAnyH_take (i := 20) (v := ?_) rfl (by kernel_rfl) (by kernel_rfl) (by kernel_rfl) (fun _ _ _ h => h) (Or.inl ⟨by rfl, fun W hW => ?_⟩) h0 ?_
              rotate_left
              · clear hW
                go_simp
                try with_reducible rfl
              simp only [Act.put, List.getElem_toArray, List.getElem_cons_zero, List.getElem_cons_succ, List.setIfInBounds_toArray, List.set_cons_zero, List.set_cons_succ]
              refine wpAnyH_take (i := 21) (v := ?_) rfl (by kernel_rfl) (by kernel_rfl) (by kernel_rfl) (fun _ _ _ h => h) (Or.inl ⟨by rfl, fun W hW => ?_⟩) h0 ?_
              rotate_left
              · clear hW
                go_simp
                try with_reducible rfl
              simp only [Act.put, List.getElem_toArray, List.getElem_cons_zero, List.getElem_cons_succ, List.setIfInBounds_toArray, List.set_cons_zero, List.set_cons_succ]
              refine wpAnyH_take (i := 22) (v := .agg #[.int .i64 y0, .string y1, .string y2, .int .i64 y3]) rfl (by kernel_rfl) (by kernel_rfl) (by kernel_rfl) (fun _ _ _ h => h) (Or.inl ⟨by rfl, fun W hW => ?_⟩) h0 ?_
              · obtain ⟨q0, q1, q2, q3⟩ := c1.out.below hW hgr
                dsimp only at q0 q1 q2 q3
                clear hW
                go_simp
              simp only [Act.put, List.getElem_toArray, List.getElem_cons_zero, List.getElem_cons_succ, List.setIfInBounds_toArray, List.set_cons_zero, List.set_cons_succ]
              refine wpAnyH_take (i := 23) (v := ?_) rfl (by kernel_rfl) (by kernel_rfl) (by kernel_rfl) (fun _ _ _ h => h) (Or.inl ⟨by rfl, fun W hW => ?_⟩) h0 ?_
              rotate_left
              · clear hW
                go_simp
                try with_reducible rfl
              simp only [Act.put, List.getElem_toArray, List.getElem_cons_zero, List.getElem_cons_succ, List.setIfInBounds_toArray, List.set_cons_zero, List.set_cons_succ]
              refine wpAnyH_take (i := 24) (v := ?_) rfl (by kernel_rfl) (by kernel_rfl) (by kernel_rfl) (fun _ _ _ h => h) (Or.inl ⟨by rfl, fun W hW => ?_⟩) h0 ?_
              rotate_left
              · clear hW
                go_simp
                try with_reducible rfl
              simp only [Act.put, List.getElem_toArray, List.getElem_cons_zero, List.getElem_cons_succ, List.setIfInBounds_toArray, List.set_cons_zero, List.set_cons_succ]
              refine wpAnyH_take (i := 25) (v := ?_) rfl (by kernel_rfl) (by kernel_rfl) (by kernel_rfl) (fun _ _ _ h => h) (Or.inl ⟨by rfl, fun W hW => ?_⟩) h0 ?_
              rotate_left
              · clear hW
                go_simp
                try with_reducible rfl
              simp only [Act.put, List.getElem_toArray, List.getElem_cons_zero, List.getElem_cons_succ, List.setIfInBounds_toArray, List.set_cons_zero, List.set_cons_succ]
              refine wpAnyH_done (by kernel_rfl) ?_ _
              have B2 := hbel.trans (h0.mono hbel.size)
              clear h0 c1 c2 c3 heq HP1
              go_wp2_with fail
              go_roundw
              case rel => exact ⟨i + 1, by omega, by go_num, B2⟩
              case measure => simp [intOf]; omega
            · have hiji : ¬ (i : Int) < (j : Int) := by omega
              refine wpAnyH_take (i := 13) (v := ?_) rfl (by kernel_rfl) (by kernel_rfl) (by kernel_rfl) (fun _ _ _ h => h) (Or.inl ⟨by rfl, fun W hW => ?_⟩) h0 ?_
              rotate_left
              · clear hW
                go_simp
                try with_reducible rfl
              simp only [Act.put, List.getElem_toArray, List.getElem_cons_zero, List.getElem_cons_succ, List.setIfInBounds_toArray, List.set_cons_zero, List.set_cons_succ]
              refine wpAnyH_take (i := 14) (v := ?_) rfl (by kernel_rfl) (by kernel_rfl) (by kernel_rfl) (fun _ _ _ h => h) (Or.inl ⟨by rfl, fun W hW => ?_⟩) h0 ?_
              rotate_left
              · clear hW
                go_simp
                try with_reducible rfl
              simp only [Act.put, List.getElem_toArray, List.getElem_cons_zero, List.getElem_cons_succ, List.setIfInBounds_toArray, List.set_cons_zero, List.set_cons_succ]
              refine wpAnyH_take (i := 15) (v := undef) rfl (by kernel_rfl) (by kernel_rfl) (by kernel_rfl) (fun _ _ _ h => h) (Or.inr ⟨by rfl, rfl⟩) h0 ?_
              simp only [Act.put, List.getElem_toArray, List.getElem_cons_zero, List.getElem_cons_succ, List.setIfInBounds_toArray, List.set_cons_zero, List.set_cons_succ]
              refine wpAnyH_take (i := 16) (v := undef) rfl (by kernel_rfl) (by kernel_rfl) (by kernel_rfl) (fun _ _ _ h => h) (Or.inr ⟨by rfl, rfl⟩) h0 ?_
              simp only [Act.put, List.getElem_toArray, List.getElem_cons_zero, List.getElem_cons_succ, List.setIfInBounds_toArray, List.set_cons_zero, List.set_cons_succ]
              refine wpAnyH_take (i := 17) (v := undef) rfl (by kernel_rfl) (by kernel_rfl) (by kernel_rfl) (fun _ _ _ h => h) (Or.inr ⟨by rfl, rfl⟩) h0 ?_
              simp only [Act.put, List.getElem_toArray, List.getElem_cons_zero, List.getElem_cons_succ, List.setIfInBounds_toArray, List.set_cons_zero, List.set_cons_succ]
              refine wpAnyH_take (i := 18) (v := undef) rfl (by kernel_rfl) (by kernel_rfl) (by kernel_rfl) (fun _ _ _ h => h) (Or.inr ⟨by rfl, rfl⟩) h0 ?_
              simp only [Act.put, List.getElem_toArray, List.getElem_cons_zero, List.getElem_cons_succ, List.setIfInBounds_toArray, List.set_cons_zero, List.set_cons_succ]
              refine wpAnyH_take (i := 19) (v := undef) rfl (by kernel_rfl) (by kernel_rfl) (by kernel_rfl) (fun _ _ _ h => h) (Or.inr ⟨by rfl, rfl⟩) h0 ?_
              simp only [Act.put, List.getElem_toArray, List.getElem_cons_zero, List.getElem_cons_succ, List.setIfInBounds_toArray, List.set_cons_zero, List.set_cons_succ]
              refine wpAnyH_take (i := 20) (v := undef) rfl (by kernel_rfl) (by kernel_rfl) (by kernel_rfl) (fun _ _ _ h => h) (Or.inr ⟨by rfl, rfl⟩) h0 ?_
              simp only [Act.put, List.getElem_toArray, List.getElem_cons_zero, List.getElem_cons_succ, List.setIfInBounds_toArray, List.set_cons_zero, List.set_cons_succ]
              refine wpAnyH_take (i := 21) (v := undef) rfl (by kernel_rfl) (by kernel_rfl) (by kernel_rfl) (fun _ _ _ h => h) (Or.inr ⟨by rfl, rfl⟩) h0 ?_
              simp only [Act.put, List.getElem_toArray, List.getElem_cons_zero, List.getElem_cons_succ, List.setIfInBounds_toArray, List.set_cons_zero, List.set_cons_succ]
              refine wpAnyH_take (i := 22) (v := undef) rfl (by kernel_rfl) (by kernel_rfl) (by kernel_rfl) (fun _ _ _ h => h) (Or.inr ⟨by rfl, rfl⟩) h0 ?_
              simp only [Act.put, List.getElem_toArray, List.getElem_cons_zero, List.getElem_cons_succ, List.setIfInBounds_toArray, List.set_cons_zero, List.set_cons_succ]
              refine wpAnyH_take (i := 23) (v := undef) rfl (by kernel_rfl) (by kernel_rfl) (by kernel_rfl) (fun _ _ _ h => h) (Or.inr ⟨by rfl, rfl⟩) h0 ?_
              simp only [Act.put, List.getElem_toArray, List.getElem_cons_zero, List.getElem_cons_succ, List.setIfInBounds_toArray, List.set_cons_zero, List.set_cons_succ]
              refine wpAnyH_take (i := 24) (v := ?_) rfl (by kernel_rfl) (by kernel_rfl) (by kernel_rfl) (fun _ _ _ h => h) (Or.inl ⟨by rfl, fun W hW => ?_⟩) h0 ?_
              rotate_left
              · clear hW
                go_simp
                try with_reducible rfl
              simp only [Act.put, List.getElem_toArray, List.getElem_cons_zero, List.getElem_cons_succ, List.setIfInBounds_toArray, List.set_cons_zero, List.set_cons_succ]
              refine wpAnyH_take (i := 25) (v := ?_) rfl (by kernel_rfl) (by kernel_rfl) (by kernel_rfl) (fun _ _ _ h => h) (Or.inl ⟨by rfl, fun W hW => ?_⟩) h0 ?_
              rotate_left
              · clear hW
                go_simp
                try with_reducible rfl
              simp only [Act.put, List.getElem_toArray, List.getElem_cons_zero, List.getElem_cons_succ, List.setIfInBounds_toArray, List.set_cons_zero, List.set_cons_succ]
              refine wpAnyH_done (by kernel_rfl) ?_ _
              have B2 := hbel.trans (h0.mono hbel.size)
              clear h0 c1 c2 heq HP1
              go_wp2_with fail
              go_roundw
              case rel => exact ⟨i + 1, by omega, by go_num, B2⟩
              case measure => simp [intOf]; omega
          · have hki : ¬ (i : Int) < (l.length : Int) := by omega
            go_wp2_with fail
            go_ret
            exact ⟨rfl, B8.out.trans (hbel.mono B8.out.size)⟩

set_option maxRecDepth 100000 in
theorem lifted (os : Os) (started : os.Started) (H : Type) (enc : TypeId × Value → H) :
    ReturnsInHanded {} Tryz.checked os 3 .any (Rows.fnActsSpec.pre6 enc Tryz.prog Tryz.f3 Rows.fnActsRow.domain false) (Rows.fnActsSpec.post enc Tryz.prog Tryz.f3 false true false false) := by
  refine returnsInHanded_of_change (C := Tryz.checked) own started (by kernel_rfl) Tryz.func3
    (ChangeSpec.witness6 (enc := enc) (C := Tryz.checked) false ⟨#[], #[.slice none 0 0], []⟩ 8 (by kernel_rfl) (by kernel_rfl) (by kernel_rfl) (by kernel_rfl)) ?_
  intro W base args ds gs before hval0 hW hcnd _
  have hval : ∀ (j : Nat) t v, Tryz.f3.params[j]? = some t → args[j]? = some v → Value.okWide Tryz.prog W .any base t v := hval0
  have hW' := hW
  obtain ⟨p, q, hA0, hV, rfl, hfz, hnd⟩ := hW
  have hA : DataW.TrodAll enc Tryz.prog W 0 (fun _ => true) true Tryz.f3.params.toList args.toList ds p := hA0
  rw [Tryz.params3] at hA hval
  obtain ⟨v0, vs0, d0, ds0, p0, q0, hargs, rfl, rfl, h0, r0⟩ := trodAll_cons hA
  obtain ⟨rfl, rfl, rfl⟩ := trodAll_nil r0
  obtain rfl : args = #[v0] := by cases args; simp_all
  obtain ⟨rfl, rfl⟩ := trodVars_none hV
  obtain ⟨a0, len0, cap0, rfl⟩ := okWide_slice Tryz.underlying22 (hval 0 22 v0 rfl rfl)
  have k0 := h0
  have lt0 : ∀ x ∈ p0, x.block < W.heap.size := by obtain ⟨m, hm⟩ := k0; exact DataW.trod_lt m _ _ _ hm
  obtain ⟨z0, w0⟩ : ∃ zs, IsRow .u8 W a0 len0 cap0 zs := by
    obtain ⟨fuel, hf⟩ := h0
    rcases open_ints Tryz.underlying22 Tryz.underlying5 (by kernel_rfl) hf with ⟨hcs, _⟩ | ⟨x, l, c, zs, hcs, _, hl, hm, hz, _, hcell, hwz⟩
    · simp [Value.cells] at hcs
      obtain ⟨rfl, rfl, rfl⟩ := hcs
      exact ⟨[], .inl ⟨rfl, rfl, rfl, rfl⟩⟩
    · simp [Value.cells] at hcs
      obtain ⟨rfl, rfl, rfl⟩ := hcs
      exact ⟨zs, .inr ⟨_, rfl, hl, hm, by simpa using hz, hcell, hwz⟩⟩
  clear hA0 hval0
  refine (walk a0 len0 cap0 z0 W w0).mono fun e W' ⟨he, bel⟩ => ?_
  subst he
  exact ⟨_, rfl, _, _, _, [], _, [], hW', trodAll_mk1 (shut_bool Tryz.underlying4 _), (trodAll_cons_mk (Below.trod laidOut (by kernel_rfl) (of_decide_eq_true (by kernel_rfl)) k0 bel lt0) trodAll_mk0), rfl, bel.frame _, fun h => by cases h⟩

theorem over : Rows.fnActsRow.holds Tryz.pinned (OpenSpec.ofChange Rows.fnActsSpec) :=
  OpenClaim.holds_of_wide 3 Tryz.f3 rfl rfl rfl rfl rfl rfl rfl ⟨rfl, rfl, rfl, rfl, rfl⟩ rfl rfl rfl rfl rfl (by kernel_rfl) Tryz.func3 (by kernel_rfl)
    (of_decide_eq_true (by kernel_rfl)) (by unfold Func.isWrapper; first | (rw [if_pos (by decide +kernel)]; kernel_rfl) | (rw [if_neg (by decide +kernel)]; exact ⟨rfl, rfl⟩))
    (fun os started H enc _ => lifted os started H enc)

theorem proved : Rows.FnActsSaid := over
end Go.Proofs.YtidecdlaeomfoaaGreat.fnActs

namespace Go.Proofs.YtidecdlaeomfoaaGreat
theorem fnActs_holds : Rows.FnActsSaid := fnActs.proved
#print axioms fnActs_holds
end Go.Proofs.YtidecdlaeomfoaaGreat
