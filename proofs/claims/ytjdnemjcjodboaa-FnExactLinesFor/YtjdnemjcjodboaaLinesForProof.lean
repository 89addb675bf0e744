/- Proved: laws.FnExactLinesFor answers true at every robots and string and leaves them as they were; no condition. -/
import Derived.Test.YtjdnemjcjodboaaRows
import Derived.Test.YtjdnemjcjodboaaOpenRob
import Derived.Test.YtjdnemjcjodboaaRobTo2
import Derived.Test.YtjdnemjcjodboaaRobEq
import Derived.Test.YtjdnemjcjodboaaRobForI
import Derived.Test.YtjdnemjcjodboaaRobMost
import Derived.ProofKit
import Derived.OpenShut
import Derived.ShutString
import Derived.ChangeOld
import Derived.Below
namespace Go.Proofs.Ytjdnemjcjodboaa.fnExactLinesFor
open Go.ChangeShapes Go.WideShapes Go.ChangeAt Go.RowKit
open Go.ChangeMaps (open_string shut_string)
set_option linter.unusedVariables false

theorem own : ownKnob Try.prog.godebug = none := by kernel_rfl
theorem laidOut : laidOutB Try.prog = true := by kernel_rfl

set_option maxRecDepth 100000 in
set_option maxHeartbeats 8000000 in
theorem walk (p0 : Value) (l0 : List PT) (a1 : ByteArray) (w : World) (w0 : PartRow w p0 l0) (m0 : PMx l0) (w1 : a1.size ≤ maxLen) :
    Calls Try.prog 5 #[.agg #[p0], .string a1] w fun e w' => e = .returned (.bool true) ∧ Below w.heap.size w w' := by
  by_cases hbig : 1048576 < (a1.size : Int)
  · obtain ⟨ao, cap, hp0⟩ := w0.slice
    subst hp0
    have bO : Below w.heap.size w (w.alloc (.cells #[.slice ao l0.length cap] 40)) := (Below.refl _ _).alloc (Nat.le_refl _) _
    go_enter Try.func5, Try.ntmps5
    go_wp2_with fail
    go_ret
    exact ⟨rfl, bO⟩
  have ha : a1.size ≤ 1048576 := by omega
  have HM : Hid (PMx l0) := m0
  have HW : Hid (PartRow w p0 l0) := w0
  obtain ⟨ao, cap, hp0⟩ := w0.slice
  clear m0 w0
  have CZ : Hid (∀ W, Below w.heap.size w W → Calls Try.prog 14 #[.agg #[p0], .int .i64 1048576] W fun e w' => e = .returned (.int .i64 (leftZ 1048576 (sumP l0))) ∧ Below W.heap.size W w') := fun W hW => szRobots l0 p0 1048576 W (by decide) (by decide) HM.out (HW.out.below hW)
  subst hp0
  have HZ := leftZ_le (left := 1048576) (n := sumP l0) (by decide)
  generalize leftZ 1048576 (sumP l0) = z at CZ HZ
  obtain ⟨hz1, hz2, hz3⟩ := HZ
  have HZ3 : Hid (0 ≤ z → ((sumP l0 : Nat) : Int) ≤ 1048576) := hz3
  clear hz3
  obtain ⟨O, hO⟩ : ∃ O, O = w.alloc (.cells #[.slice ao l0.length cap] 40) := ⟨_, rfl⟩
  have bO : Below w.heap.size w O := by rw [hO]; exact (Below.refl _ _).alloc (Nat.le_refl _) _
  have AO : BAt O w.heap.size [.slice ao l0.length cap] := by rw [hO]; exact BAt.new w #[.slice ao l0.length cap] _
  go_enter Try.func5, Try.ntmps5
  go_upto_region 4 with fail
  rw [← hO]
  clear hO
  have c0 := AO.1 0 _ rfl
  go_wp2_with fail
  refine (CZ.out _ bO).mono ?_
  rintro e wa ⟨rfl, ba⟩
  by_cases hneg : z < 0
  · go_wp2_with fail
    go_ret
    exact ⟨rfl, bO.trans (ba.mono bO.size)⟩
  · have HN : Hid (sumP l0 ≤ 1048576) := by have := HZ3.out (by omega); show _ ≤ _; omega
    have hll : l0.length ≤ 1048576 := by have := HN.out; unfold sumP at this; omega
    have HS : Hid (PSm l0) := fun i hi => by have := part_lens HN.out hi; omega
    have HE : Hid (PSz l0) := fun i hi => by have := part_lens HN.out hi; omega
    have HA : Hid (∀ W, Below O.heap.size O W → PartRow W (.slice ao l0.length cap) l0) := fun W hb => HW.out.below (bO.trans (hb.mono bO.size))
    have CT : Hid (∀ W, Below O.heap.size O W → Calls Try.prog 16 #[.agg #[.slice ao l0.length cap]] W fun e w' => ∃ bo bc, e = .returned (.agg #[.slice bo l0.length bc]) ∧ RobOwn w' W.heap.size w'.heap.size (.slice bo l0.length bc) l0 ∧ Below W.heap.size W w') := fun W hW => toRobots l0 _ W (by omega) HS.out (HA.out W hW)
    have HLL : Hid ((lfL l0 a1).length ≤ 1048576) := by
      show _ ≤ _
      unfold lfL
      have h1 := forL_most HN.out (agV a1) l0.length (Nat.le_refl _)
      have h2 := forL_most HN.out starV l0.length (Nat.le_refl _)
      rw [List.take_length] at h1 h2
      split
      · exact h1
      · exact h2
    have CSP : Hid (∀ v W, PartRow W v l0 → Calls Try.prog 15 #[.agg #[v], .string a1] W fun e w' => ∃ v', e = .returned v' ∧ w'.ownsRow W.heap.size 58 2 v' (lfL l0 a1).length (lcells (lfL l0 a1)) ∧ Below W.heap.size W w') := fun v W h => specLinesFor l0 v a1 W HN.out ha h
    have CIM : Hid (∀ v W, PartRow W v l0 → Calls Try.prog 9 #[.agg #[v], .string a1] W fun e w' => ∃ v', e = .returned v' ∧ w'.ownsRow W.heap.size 58 2 v' (lfL l0 a1).length (lcells (lfL l0 a1)) ∧ Below W.heap.size W w') := fun v W h => implLinesFor l0 v a1 W HN.out ha h
    have HKM : Hid (kP 1 l0 l0.length ≤ 1000000000) := kP_most HN.out
    generalize lfL l0 a1 = L at *
    have hLL : L.length ≤ 1048576 := HLL.out
    have CE : Hid (∀ va vb W, LineRow W va L → LineRow W vb L → Calls Try.prog 17 #[va, vb] W fun e w' => e = .returned (.bool true) ∧ Below W.heap.size W w') := fun va vb W h1 h2 => eqLines L va vb W (by omega) h1 h2
    obtain ⟨y, hy⟩ : ∃ y : Int, ((1 + 2 * L.length : Nat) : Int) = y := ⟨_, rfl⟩
    have hy0 : ¬ y < 0 := by omega
    have CML : Hid (∀ v B W, W.ownsRow B 58 2 v L.length (lcells L) → Calls Try.prog 20 #[v, .int .i64 1] W fun e w' => e = .returned (.int .i64 y) ∧ w'.ownsRow B 58 2 v L.length (lcells (mkL 1 L.length)) ∧ W.grownBy w' v.ownBlock) := fun v B W h => by rw [← hy]; exact markLines L v 1 B W (by decide) (by omega) h
    have CHL : Hid (∀ v B W, W.ownsRow B 58 2 v L.length (lcells (mkL 1 L.length)) → Calls Try.prog 21 #[v, .int .i64 1] W fun e w' => e = .returned (.int .i64 y) ∧ Below W.heap.size W w') := fun v B W h => by rw [← hy]; exact heldLines L.length v 1 W (by decide) (by omega) (LineRow.of_own' (by rw [mkL_length]; exact h))
    have CMR : Hid (∀ v C D W, D ≤ W.heap.size → RobOwn W C D v l0 → Calls Try.prog 19 #[.agg #[v], .int .i64 1] W fun e w' => ∃ q : Int, 0 ≤ q ∧ e = .returned (.int .i64 q) ∧ Only C D W w') := fun v C D W ht h => (markRobots l0 v 1 C D W (by decide) hll HKM.out ht h).mono fun e w' hh => ⟨_, by omega, hh.1, hh.2.2⟩
    clear CZ HZ3 c0 HLL hy
    have c1 := (AO.below ba).1 0 _ rfl
    go_wp2_with fail
    refine (CT.out _ ba).mono ?_
    rintro e wb ⟨bo, bc, rfl, rb, bb⟩
    have B1 := ba.trans (bb.mono ba.size)
    have RB : Hid (PartRow wb (.slice bo l0.length bc) l0) := rb.row
    clear rb bb ba c1
    go_wp2_with fail
    refine (CSP.out _ _ RB.out).mono ?_
    rintro e wc ⟨v6, rfl, o6, b6⟩
    have B2 := B1.trans (b6.mono B1.size)
    have c2 := (AO.below B2).1 0 _ rfl
    have O6c : Hid (wc.ownsRow wb.heap.size 58 2 v6 L.length (lcells L)) := o6
    have H6 : Hid (∀ b, v6.ownBlock = some b → b < wc.heap.size) := fun b e => (O6c.out.lt b e).2
    clear b6 B1 RB o6 CSP
    go_wp2_with fail
    refine (CT.out _ B2).mono ?_
    rintro e wd ⟨co, cc, rfl, rd, bd⟩
    have B3 := B2.trans (bd.mono B2.size)
    have RD : Hid (RobOwn wd wc.heap.size wd.heap.size (.slice co l0.length cc) l0) := rd
    have O6d : Hid (wd.ownsRow wb.heap.size 58 2 v6 L.length (lcells L)) := own_below O6c.out bd
    have hOc : O.heap.size ≤ wc.heap.size := B2.size
    have hCD : wc.heap.size ≤ wd.heap.size := bd.size
    clear rd bd B2 c2 O6c
    go_upto_region 9 with fail
    obtain ⟨U, hU⟩ : ∃ U, U = wd.alloc (.cells #[.slice co l0.length cc] 26) := ⟨_, rfl⟩
    have bU : Below wd.heap.size wd U := by rw [hU]; exact (Below.refl _ _).alloc (Nat.le_refl _) _
    have AU : BAt U wd.heap.size [.slice co l0.length cc] := by rw [hU]; exact BAt.new wd #[.slice co l0.length cc] _
    rw [← hU]
    clear hU
    have B4 := B3.trans (bU.mono B3.size)
    have RU : Hid (RobOwn U wc.heap.size wd.heap.size (.slice co l0.length cc) l0) := RD.out.below (Nat.le_refl _) bU
    have O6u : Hid (U.ownsRow wb.heap.size 58 2 v6 L.length (lcells L)) := own_below O6d.out bU
    have hDU := AU.2.2
    have d0 := AU.1 0 _ rfl
    clear bU B3 RD O6d
    generalize wd.heap.size = D at *
    generalize wc.heap.size = C at *
    go_wp2_with fail
    refine (CIM.out _ _ RU.out.row).mono ?_
    rintro e we ⟨v8, rfl, o8, be⟩
    have B5 := B4.trans (be.mono B4.size)
    have RE : Hid (RobOwn we C D (.slice co l0.length cc) l0) := RU.out.same fun b _ hb => be.block b (by omega)
    have O6e : Hid (we.ownsRow wb.heap.size 58 2 v6 L.length (lcells L)) := own_below O6u.out be
    have O8e : Hid (we.ownsRow U.heap.size 58 2 v8 L.length (lcells L)) := o8
    have AE := AU.below be
    clear be B4 RU d0 AU O6u o8
    go_wp2_with fail
    refine (CE.out _ _ _ (LineRow.of_own' O8e.out) (LineRow.of_own' O6e.out)).mono ?_
    rintro e wf ⟨rfl, bf⟩
    have B6 := B5.trans (bf.mono B5.size)
    have RF : Hid (RobOwn wf C D (.slice co l0.length cc) l0) := RE.out.same fun b _ hb => bf.block b (by have := AE.2.2; omega)
    have O6f : Hid (wf.ownsRow wb.heap.size 58 2 v6 L.length (lcells L)) := own_below O6e.out bf
    have O8f : Hid (wf.ownsRow U.heap.size 58 2 v8 L.length (lcells L)) := own_below O8e.out bf
    have AF := AE.below bf
    clear bf B5 RE O6e O8e AE
    have c3 := (AO.below B6).1 0 _ rfl
    have e0 := AF.1 0 _ rfl
    have hDF := AF.2.2
    go_wp2_with fail
    go_region_with (first
      | (go_at_call 16; refine (CT.out _ B6.drew).mono ?_; rintro e wg ⟨fo, fc, rfl, rg, bg⟩; have f0 := (bg.cell (p := ⟨D, 0, none⟩) hDF).trans e0)
      | (go_at_call 18; refine (eqRobots l0 _ _ _ (by omega) HE.out (PartRow.below (w := wf.drew) RF.out.row bg) rg.row).mono ?_; rintro e wh ⟨rfl, bh⟩))
    all_goals
      have BG := bg.trans (bh.mono bg.size)
      have B7 := B6.drew.trans (BG.mono B6.size)
      have RH : Hid (RobOwn wh C D (.slice co l0.length cc) l0) := RF.out.same fun b _ hb => BG.block b (by simp; omega)
      have O6h : Hid (wh.ownsRow wb.heap.size 58 2 v6 L.length (lcells L)) := own_below (w := wf.drew) O6f.out BG
      have O8h : Hid (wh.ownsRow U.heap.size 58 2 v8 L.length (lcells L)) := own_below (w := wf.drew) O8f.out BG
      have AH : BAt wh D [.slice co l0.length cc] := BAt.below (W := wf.drew) AF BG
      clear bg bh BG B6 RF O6f O8f AF f0 rg c3 e0
      have d2 := AH.1 0 _ rfl
      have hDH := AH.2.2
      have HDH : Hid (D ≤ wh.heap.size) := by show _ ≤ _; omega
      go_wp2_with fail
      refine (CMR.out _ C D _ HDH.out RH.out).mono ?_
      rintro e wi ⟨kq, hkq, rfl, oi⟩
      have O6i : Hid (wi.ownsRow wb.heap.size 58 2 v6 L.length (lcells L)) := own_at O6h.out fun b e => oi.block b (O6h.out.lt b e).2 (.inl (H6.out b e))
      have O8i : Hid (wi.ownsRow U.heap.size 58 2 v8 L.length (lcells L)) := own_at O8h.out fun b e => oi.block b (O8h.out.lt b e).2 (.inr (by have := (O8h.out.lt b e).1; omega))
      have B8 := B7.trans ((oi.below (by omega)).mono hOc)
      clear oi B7 RH O6h O8h AH d2
      have hkn : ¬ kq < 0 := by omega
      go_wp2_with fail
      refine (CE.out _ _ _ (LineRow.of_own' O8i.out) (LineRow.of_own' O6i.out)).mono ?_
      rintro e wj ⟨rfl, bj⟩
      have B9 := B8.trans (bj.mono B8.size)
      have O6j : Hid (wj.ownsRow wb.heap.size 58 2 v6 L.length (lcells L)) := own_below O6i.out bj
      have O8j : Hid (wj.ownsRow U.heap.size 58 2 v8 L.length (lcells L)) := own_below O8i.out bj
      clear bj B8 O6i O8i
      go_wp2_with fail
      refine (CML.out _ _ _ O8j.out).mono ?_
      rintro e wk ⟨rfl, ok, gk⟩
      have O8k : Hid (wk.ownsRow U.heap.size 58 2 v8 L.length (lcells (mkL 1 L.length))) := ok
      have O6k : Hid (wk.ownsRow wb.heap.size 58 2 v6 L.length (lcells L)) := own_at O6j.out fun b e => gk.block b (O6j.out.lt b e).2 fun e2 => by have h1 := H6.out b e; have h2 := (O8j.out.lt b e2.symm).1; omega
      have B10 := B9.grown gk B9.size fun b e => by have := (O8j.out.lt b e).1; omega
      clear ok gk B9 O6j O8j
      go_wp2_with fail
      refine (CHL.out _ _ _ O8k.out).mono ?_
      rintro e wl ⟨rfl, bl⟩
      have B11 := B10.trans (bl.mono B10.size)
      have O6l : Hid (wl.ownsRow wb.heap.size 58 2 v6 L.length (lcells L)) := own_below O6k.out bl
      have O8l : Hid (wl.ownsRow U.heap.size 58 2 v8 L.length (lcells (mkL 1 L.length))) := own_below O8k.out bl
      have c5 := (AO.below B11).1 0 _ rfl
      clear bl B10 O6k O8k
      go_wp2_with fail
      refine (CT.out _ B11).mono ?_
      rintro e wm ⟨mo, mc, rfl, rm, bm⟩
      have B12 := B11.trans (bm.mono B11.size)
      have RM : Hid (PartRow wm (.slice mo l0.length mc) l0) := rm.row
      have O6m : Hid (wm.ownsRow wb.heap.size 58 2 v6 L.length (lcells L)) := own_below O6l.out bm
      have O8m : Hid (wm.ownsRow U.heap.size 58 2 v8 L.length (lcells (mkL 1 L.length))) := own_below O8l.out bm
      clear rm bm B11 O6l O8l c5
      go_wp2_with fail
      refine (CIM.out _ _ RM.out).mono ?_
      rintro e wn ⟨v12, rfl, o12, bn⟩
      have B13 := B12.trans (bn.mono B12.size)
      have O6n : Hid (wn.ownsRow wb.heap.size 58 2 v6 L.length (lcells L)) := own_below O6m.out bn
      have O8n : Hid (wn.ownsRow U.heap.size 58 2 v8 L.length (lcells (mkL 1 L.length))) := own_below O8m.out bn
      have O12n : Hid (LineRow wn v12 L) := LineRow.of_own' o12
      clear o12 bn B12 O6m O8m RM
      go_wp2_with fail
      refine (CE.out _ _ _ O12n.out (LineRow.of_own' O6n.out)).mono ?_
      rintro e wo ⟨rfl, bo'⟩
      have B14 := B13.trans (bo'.mono B13.size)
      have O8o : Hid (wo.ownsRow U.heap.size 58 2 v8 L.length (lcells (mkL 1 L.length))) := own_below O8n.out bo'
      clear bo' B13 O6n O8n O12n
      go_wp2_with fail
      refine (CHL.out _ _ _ O8o.out).mono ?_
      rintro e wp ⟨rfl, bp⟩
      have B15 := B14.trans (bp.mono B14.size)
      clear bp B14 O8o
      go_wp2_with fail
      go_ret
      exact ⟨rfl, bO.trans (B15.mono bO.size)⟩

set_option maxRecDepth 100000 in
theorem lifted (os : Os) (started : os.Started) (H : Type) (enc : TypeId × Value → H) :
    ReturnsInHanded {} Try.checked os 5 .any (Rows.fnExactLinesForSpec.pre6 enc Try.prog Try.f5 Rows.fnExactLinesForRow.domain false) (Rows.fnExactLinesForSpec.post enc Try.prog Try.f5 false true false false) := by
  refine returnsInHanded_of_change (C := Try.checked) own started (by kernel_rfl) Try.func5
    (ChangeSpec.witness6 (enc := enc) (C := Try.checked) false ⟨#[], #[.agg #[.slice none 0 0], .string ByteArray.empty], []⟩ 8 (by kernel_rfl) (by kernel_rfl) (by kernel_rfl) (by kernel_rfl)) ?_
  intro W base args ds gs before hval0 hW hcnd _
  have hval : ∀ (j : Nat) t v, Try.f5.params[j]? = some t → args[j]? = some v → Value.okWide Try.prog W .any base t v := hval0
  have hW' := hW
  obtain ⟨p, q, hA0, hV, rfl, hfz, hnd⟩ := hW
  have hA : DataW.TrodAll enc Try.prog W 0 (fun _ => true) true Try.f5.params.toList args.toList ds p := hA0
  rw [Try.params5] at hA hval
  obtain ⟨v0, vs0, d0, ds0, p0, qq0, hargs, rfl, rfl, h0, rr0⟩ := trodAll_cons hA
  obtain ⟨v1, vs1, d1, ds1, p1, qq1, rfl, rfl, rfl, h1, rr1⟩ := trodAll_cons rr0
  obtain ⟨rfl, rfl, rfl⟩ := trodAll_nil rr1
  obtain rfl : args = #[v0, v1] := by cases args; simp_all
  obtain ⟨rfl, rfl⟩ := trodVars_none hV
  have k0 := h0
  have lt0 : ∀ x ∈ p0, x.block < W.heap.size := by obtain ⟨m, hm⟩ := k0; exact DataW.trod_lt m _ _ _ hm
  obtain ⟨q0, l0, rfl, w0, m0⟩ := open_robots (hval 0 40 v0 rfl rfl) h0
  obtain ⟨a1, rfl, rfl, rfl, w1⟩ := open_string Try.underlying9 (hval 1 9 v1 rfl rfl) h1
  clear hA0 hval0
  refine (walk q0 l0 a1 W w0 m0 w1).mono fun e W' ⟨he, bel⟩ => ?_
  subst he
  exact ⟨_, rfl, _, _, _, [], _, [], hW', trodAll_mk1 (shut_bool Try.underlying4 _), (trodAll_cons_mk (Below.trod laidOut (by kernel_rfl) (of_decide_eq_true (by kernel_rfl)) k0 bel lt0) (trodAll_cons_mk (shut_string Try.underlying9 w1) trodAll_mk0)), rfl, bel.frame _, fun h => by cases h⟩

theorem over : Rows.fnExactLinesForRow.holds Try.pinned (OpenSpec.ofChange Rows.fnExactLinesForSpec) :=
  OpenClaim.holds_of_wide 5 Try.f5 rfl rfl rfl rfl rfl rfl rfl ⟨rfl, rfl, rfl, rfl, rfl⟩ rfl rfl rfl rfl rfl (by kernel_rfl) Try.func5 (by kernel_rfl)
    (of_decide_eq_true (by kernel_rfl)) (by unfold Func.isWrapper; first | (rw [if_pos (by decide +kernel)]; kernel_rfl) | (rw [if_neg (by decide +kernel)]; exact ⟨rfl, rfl⟩))
    (fun os started H enc _ => lifted os started H enc)

theorem proved : Rows.FnExactLinesForSaid := over
end Go.Proofs.Ytjdnemjcjodboaa.fnExactLinesFor

namespace Go.Proofs.Ytjdnemjcjodboaa
theorem fnExactLinesFor_holds : Rows.FnExactLinesForSaid := fnExactLinesFor.proved
#print axioms fnExactLinesFor_holds
end Go.Proofs.Ytjdnemjcjodboaa
