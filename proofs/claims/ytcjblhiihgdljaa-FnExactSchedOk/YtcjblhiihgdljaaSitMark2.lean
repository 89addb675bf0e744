/- The laws' marks, looked for, on sites and on queues; all of queues. -/
import Derived.Test.YtcjblhiihgdljaaRows
import Derived.Test.YtcjblhiihgdljaaSitMark
namespace Go.Proofs.Ytcjblhiihgdljaa
open Go.RowKit
set_option linter.unusedVariables false

set_option maxRecDepth 100000 in
set_option maxHeartbeats 8000000 in
theorem heldSits (l : List SiteV) (v : Value) (k0 : Nat) (w : World) (hk0 : 0 < k0) (hl : l.length ≤ 1073741824) (hK : kSit k0 l l.length ≤ 1000000000) (h : SitRow w v (markSit k0 l)) :
    Calls Try.prog 38 #[v, .int .i64 (k0 : Int)] w fun e w' => e = .returned (.int .i64 ((kSit k0 l l.length : Nat) : Int)) ∧ Below w.heap.size w w' := by
  have hml : (markSit k0 l).length = l.length := mixSit_length k0 l _
  rcases h.cases with ⟨h0, ao, cap, rfl⟩ | ⟨h0, g, off, cap, rfl, hg, hc⟩
  · have hl : l = [] := List.eq_nil_of_length_eq_zero (by rw [← hml, h0]; rfl)
    subst hl
    clear hml h0 h
    go_enter Try.func38, Try.ntmps38
    go_wp2
    refine wp_loop_rounds 1 ?_
    rw [rounds_succ]
    go_wp2
    go_ret
    exact ⟨rfl, Below.refl _ _⟩
  · rw [hml] at h0 hc ⊢
    have HC : Hid (∀ i, i < l.length → SitAt w g (off + i * 3) (mkSitX k0 l i)) := fun i hi => by
      have := hc i hi
      rwa [markSit_at k0 l hi] at this
    have HKL : Hid (∀ i, i ≤ l.length → k0 ≤ kSit k0 l i ∧ kSit k0 l i ≤ 1000000000) := fun i hi => ⟨by unfold kSit; omega, Nat.le_trans (kSit_le k0 l hi) hK⟩
    clear hc hml hK h
    go_enter Try.func38, Try.ntmps38
    go_wp2
    go_loopw [1, 5] (fun a i wr => ∃ (k : Nat) (z : Int), k ≤ l.length ∧ i = .int .i64 k ∧ a = .int .i64 z ∧ 0 < z ∧ z ≤ 1000000000 ∧ Hid (z = ((kSit k0 l k : Nat) : Int)) ∧ Below w.heap.size w wr) (fun _ i _ => l.length - (intOf i).toNat)
    case atStart => exact ⟨0, _, Nat.zero_le _, rfl, rfl, by omega, by have := (HKL.out 0 (Nat.zero_le _)); unfold kSit at this; simp [psum] at this; omega, rfl, Below.refl _ _⟩
    case round =>
      obtain ⟨k, z, hk, rfl, rfl, hz0, hz1, HZ, hbel⟩ := hrel
      by_cases hlt : k < l.length
      · have hki : (k : Int) < l.length := by omega
        have hzz := HZ.out
        have hks := kSit_succ k0 l k
        have hk1 := (HKL.out (k + 1) (by omega)).2
        have hz2 : z + 2 ≤ 1000000000 := by omega
        obtain ⟨M, hM⟩ : ∃ M, markS (kSit k0 l k) = M := ⟨_, rfl⟩
        have CM : Hid (∀ W, Calls Try.prog 61 #[.int .i64 z] W fun e w' => e = .returned (.string M) ∧ Below W.heap.size W w') := fun W => by
          have := markTextI z W (by omega) (by omega)
          rwa [show z.toNat = kSit k0 l k by omega, hM] at this
        have hA : SitAt wr g (off + k * 3) ⟨M, z + 1, mkWtL (kSit k0 l k + 2) (l.getD k sitv0).w.length⟩ := by
          have h1 := (HC.out k hlt).below hbel hg
          have e : mkSitX k0 l k = ⟨M, z + 1, mkWtL (kSit k0 l k + 2) (l.getD k sitv0).w.length⟩ := by
            unfold mkSitX
            rw [hM, show ((kSit k0 l k + 1 : Nat) : Int) = z + 1 by omega]
          rwa [e] at h1
        have hgw : g < wr.heap.size := by have := hbel.size; omega
        obtain ⟨c0, c1, q, c2, c3⟩ := hA
        have HCW : Hid (∀ W, Below wr.heap.size wr W → Calls Try.prog 63 #[q, .int .i64 (z + 1 + 1)] W fun e w' => e = .returned (.int .i64 (((kSit k0 l k + 2) + 3 * (l.getD k sitv0).w.length : Nat) : Int)) ∧ Below W.heap.size W w') := fun W hW => by
          have := heldWts (l.getD k sitv0).w.length q (kSit k0 l k + 2) W (by omega) (by omega) (c3.below hW)
          rwa [show ((kSit k0 l k + 2 : Nat) : Int) = z + 1 + 1 by omega] at this
        obtain ⟨qa, qc, hqs⟩ := c3.slice
        dsimp only at c0 c1 c2 hqs
        rw [mkWtL_length] at hqs
        obtain ⟨y, hy⟩ : ∃ y : Int, (((kSit k0 l k + 2) + 3 * (l.getD k sitv0).w.length : Nat) : Int) = y := ⟨_, rfl⟩
        have hy1 : y ≤ 1000000000 := by omega
        have hy0 : 0 < y := by omega
        have hyn : ¬ y < 0 := by omega
        have HY : Hid (y = ((kSit k0 l (k + 1) : Nat) : Int)) := hidM (by rw [← hy, hks])
        rw [hy] at HCW
        clear hM hzz hks hy hk1 c3
        generalize (l.getD k sitv0).w.length = XN at *
        subst hqs
        go_wp2_with fail
        go_region_with (go_at_call 61; refine (CM.out _).mono ?_; rintro e wc ⟨rfl, bwc⟩; have cc := (bwc.cell (p := ⟨g, off + k * 3, none⟩) hgw).trans c0)
        all_goals
          have B1 := hbel.drew.trans (bwc.mono hbel.size)
          have d1 := (bwc.cell (p := ⟨g, off + k * 3 + 1, none⟩) hgw).trans c1
          have d2 := (bwc.cell (p := ⟨g, off + k * 3 + 2, none⟩) hgw).trans c2
          have CW2 := hidM (HCW.out wc ((Below.refl _ _).drew.trans (bwc.mono (Nat.le_refl _))))
          clear bwc CM c0 c1 c2 hbel HCW
          go_wp2_with fail
          refine CW2.out.mono ?_
          rintro e wd ⟨rfl, bd⟩
          have B2 := B1.trans (bd.mono B1.size)
          clear bd CW2 d1 d2 B1
          go_wp2_with fail
          refine ⟨⟨k + 1, y, by omega, by go_num, rfl, hy0, hy1, HY, B2⟩, ?_⟩
          simp [intOf]
          omega
      · have hki : ¬ (k : Int) < l.length := by omega
        have HE : Hid (Value.int .i64 z = .int .i64 ((kSit k0 l l.length : Nat) : Int)) := hidM (by rw [HZ.out, show k = l.length by omega])
        clear HZ
        go_wp2_with fail
        go_ret
        exact ⟨by first | exact congrArg _ HE.out | (rw [HE.out]; rfl), hbel⟩
def kSch (si : List SiteV) (le : List LsV) : Nat := kSit 1 si si.length + 4 * le.length
set_option maxHeartbeats 8000000 in
theorem markSch (d sp nw sq : Int) (si : List SiteV) (le : List LsV) (p q : Value) (base top : Nat) (w : World) (hl : si.length ≤ 1073741824) (hK : kSch si le ≤ 1000000000) (ht : top ≤ w.heap.size) (h : SchOwn w base top p q si le) :
    Calls Try.prog 13 #[.agg #[.int .i64 d, .int .i64 sp, .int .i64 nw, .int .i64 sq, p, q], .int .i64 1] w fun e w' => e = .returned (.int .i64 ((kSch si le : Nat) : Int)) ∧ SchOwn w' base top p q (markSit 1 si) (mkLsL (kSit 1 si si.length) le.length) ∧ Only base top w w' := by
  obtain ⟨O, hO⟩ : ∃ O, O = w.alloc (.cells #[.int .i64 d, .int .i64 sp, .int .i64 nw, .int .i64 sq, p, q] 31) := ⟨_, rfl⟩
  have bO : Below w.heap.size w O := by rw [hO]; exact (Below.refl _ _).alloc (Nat.le_refl _) _
  have AO : BAt O w.heap.size [.int .i64 d, .int .i64 sp, .int .i64 nw, .int .i64 sq, p, q] := by rw [hO]; exact BAt.new w #[.int .i64 d, .int .i64 sp, .int .i64 nw, .int .i64 sq, p, q] _
  obtain ⟨a1, a2, a3⟩ := h.below ht bO
  have hk1 : 1 ≤ kSit 1 si si.length := by unfold kSit; omega
  have hk2 : kSit 1 si si.length ≤ 1000000000 := by unfold kSch at hK; omega
  have htO : top ≤ O.heap.size := by have := bO.size; omega
  have CM := hidM (markSits si p 1 base top O (by decide) hl hk2 htO a1)
  have CL : Hid (∀ W, W.ownsRow base 70 4 q le.length (lscells le) → Calls Try.prog 37 #[q, .int .i64 ((kSit 1 si si.length : Nat) : Int)] W fun e w' => e = .returned (.int .i64 ((kSch si le : Nat) : Int)) ∧ w'.ownsRow base 70 4 q le.length (lscells (mkLsL (kSit 1 si si.length) le.length)) ∧ W.grownBy w' q.ownBlock) := fun W hW => markLss le q (kSit 1 si si.length) base W (by omega) hK hW
  have HF : Hid (∀ W1, SitOwn W1 base top p (markSit 1 si) → OnlyL base top O W1 → BAt W1 w.heap.size [.int .i64 d, .int .i64 sp, .int .i64 nw, .int .i64 sq, p, q] ∧ W1.ownsRow base 70 4 q le.length (lscells le) ∧
      ∀ W2, W2.ownsRow base 70 4 q le.length (lscells (mkLsL (kSit 1 si si.length) le.length)) → W1.grownBy W2 q.ownBlock → SchOwn W2 base top p q (markSit 1 si) (mkLsL (kSit 1 si si.length) le.length) ∧ Only base top w W2) := fun W1 s1 h1 => by
    have l1 := h1.2.own a2
    refine ⟨AO.same h1.1.size (h1.1.block _ AO.2.2 (by omega)), l1, fun W2 o2 g2 => ⟨⟨?_, ?_, a3⟩, ?_⟩⟩
    · obtain ⟨cs, x⟩ := s1
      refine ⟨cs, own_at x.row fun b hb => g2.block b (x.row.lt b hb).2 fun e => apt_ty x.row l1 t_site_lease b hb e.symm, x.lid, x.part.1, fun i hi => ?_, x.part.2.2⟩
      have hq := x.part.2.1 i hi
      exact hq.same (Nat.le_refl _) fun b hb _ _ => g2.block b (hq.2.2.1.lt b hb).2 fun e => apt_ty l1 hq.2.2.1 t_lease_wait b e.symm hb
    · rw [mkLsL_length]; exact o2
    · exact ((Only.of_below bO).trans h1.1).trans (Only.of_grown g2 fun b hb => ⟨(l1.lt b hb).1, a3 b hb⟩)
  obtain ⟨_, _, hps⟩ := a1.row.slice
  obtain ⟨_, _, hqs⟩ := (LsRow.of_own a2).slice
  have c4 := AO.1 4 _ rfl
  clear a1 a2 a3 h AO
  obtain ⟨y, hy⟩ : ∃ y : Int, ((kSit 1 si si.length : Nat) : Int) = y := ⟨_, rfl⟩
  obtain ⟨y2, hy2⟩ : ∃ y : Int, ((kSch si le : Nat) : Int) = y := ⟨_, rfl⟩
  rw [hy] at CM CL
  rw [hy2] at CL ⊢
  generalize kSit 1 si si.length = KK at *
  clear hy hy2
  subst hps hqs
  go_enter Try.func13, Try.ntmps13
  go_upto_region 1 with fail
  rw [← hO]
  clear hO
  go_wp2_with fail
  refine CM.out.mono ?_
  rintro e w1 ⟨rfl, s1, o1⟩
  obtain ⟨A1, l1, HF1⟩ := HF.out w1 s1 o1
  have HF1 := hidM HF1
  have CL1 := hidM (CL.out w1 l1)
  have c5 := A1.1 5 _ rfl
  clear s1 o1 A1 l1 HF CM CL c4
  go_wp2_with fail
  refine CL1.out.mono ?_
  rintro e w2 ⟨rfl, o2, g2⟩
  obtain ⟨f1, f2⟩ := HF1.out w2 o2 g2
  have F1 := hidM f1
  have F2 := hidM f2
  clear f1 f2 o2 g2 CL1 HF1 c5
  go_wp2_with fail
  go_ret
  exact ⟨rfl, F1.out, F2.out⟩
set_option maxHeartbeats 8000000 in
theorem heldSch (d sp nw sq : Int) (si : List SiteV) (le : List LsV) (p q : Value) (w : World) (hl : si.length ≤ 1073741824) (hK : kSch si le ≤ 1000000000) (hp : SitRow w p (markSit 1 si)) (hq : LsRow w q (mkLsL (kSit 1 si si.length) le.length)) :
    Calls Try.prog 14 #[.agg #[.int .i64 d, .int .i64 sp, .int .i64 nw, .int .i64 sq, p, q], .int .i64 1] w fun e w' => e = .returned (.int .i64 ((kSch si le : Nat) : Int)) ∧ Below w.heap.size w w' := by
  obtain ⟨O, hO⟩ : ∃ O, O = w.alloc (.cells #[.int .i64 d, .int .i64 sp, .int .i64 nw, .int .i64 sq, p, q] 31) := ⟨_, rfl⟩
  have bO : Below w.heap.size w O := by rw [hO]; exact (Below.refl _ _).alloc (Nat.le_refl _) _
  have AO : BAt O w.heap.size [.int .i64 d, .int .i64 sp, .int .i64 nw, .int .i64 sq, p, q] := by rw [hO]; exact BAt.new w #[.int .i64 d, .int .i64 sp, .int .i64 nw, .int .i64 sq, p, q] _
  have hk1 : 1 ≤ kSit 1 si si.length := by unfold kSit; omega
  have hk2 : kSit 1 si si.length ≤ 1000000000 := by unfold kSch at hK; omega
  have CM := hidM (heldSits si p 1 O (by decide) hl hk2 (hp.below bO))
  have CQ : Hid (∀ W, Below w.heap.size w W → Calls Try.prog 39 #[q, .int .i64 ((kSit 1 si si.length : Nat) : Int)] W fun e w' => e = .returned (.int .i64 ((kSch si le : Nat) : Int)) ∧ Below W.heap.size W w') := fun W hW => heldLss le.length q (kSit 1 si si.length) W (by omega) hK (hq.below hW)
  obtain ⟨pa, pc, hpe⟩ := hp.slice
  obtain ⟨qa, qc, hqe⟩ := hq.slice
  have c4 := AO.1 4 _ rfl
  clear hp hq
  obtain ⟨y1, hy1⟩ : ∃ y : Int, ((kSit 1 si si.length : Nat) : Int) = y := ⟨_, rfl⟩
  obtain ⟨y2, hy2⟩ : ∃ y : Int, ((kSch si le : Nat) : Int) = y := ⟨_, rfl⟩
  have hn1 : ¬ y1 < 0 := by omega
  have hn2 : ¬ y2 < 0 := by unfold kSch at hy2; omega
  rw [hy1] at CM CQ
  rw [hy2] at CQ ⊢
  clear hy1 hy2 hk1 hk2 hK hl
  generalize (markSit 1 si).length = N1 at *
  generalize (mkLsL (kSit 1 si si.length) le.length).length = N2 at *
  subst hpe hqe
  go_enter Try.func14, Try.ntmps14
  go_upto_region 1 with fail
  rw [← hO]
  clear hO
  go_wp2_with fail
  refine CM.out.mono ?_
  rintro e w1 ⟨rfl, b1⟩
  have B1 := bO.trans (b1.mono bO.size)
  have c5 := (AO.below b1).1 5 _ rfl
  clear CM c4
  go_wp2_with fail
  refine (CQ.out _ B1).mono ?_
  rintro e w2 ⟨rfl, b2⟩
  have B2 := B1.trans (b2.mono B1.size)
  clear CQ c5
  go_wp2_with fail
  go_ret
  exact ⟨rfl, B2⟩
end Go.Proofs.Ytcjblhiihgdljaa
