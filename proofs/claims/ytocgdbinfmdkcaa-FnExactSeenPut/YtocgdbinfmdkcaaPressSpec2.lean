/- The contract of the specification's SeenPress. -/
import Derived.Test.YtocgdbinfmdkcaaRows
import Derived.Test.YtocgdbinfmdkcaaCopySpec
namespace Go.Proofs.Ytocgdbinfmdkcaa
open Go.RowKit
set_option linter.unusedVariables false

theorem RunRow.oneS {w : World} {b : Nat} {x : Value} {m : List EV} (hb : BAt w b [x]) (h : EntRow w x m) : RunRow w (.slice (some ⟨b, 0, none⟩) 1 1) [m] := .inr ⟨by simp, b, 0, 0, rfl, hb.2.2, fun i hi => by
  match i, hi with
  | 0, _ => exact ⟨x, hb.1 0 _ rfl, h⟩⟩
theorem asc_adj {l : List EV} (h : ∀ i, i + 1 < l.length → kl (l.getD i ev0) (l.getD (i + 1) ev0) = true) : Asc l := by
  have key : ∀ d i, i + d + 1 < l.length → kl (l.getD i ev0) (l.getD (i + d + 1) ev0) = true := by
    intro d
    induction d with
    | zero => intro i hi; exact h i hi
    | succ d ih => intro i hi; exact kl_trans (ih i (by omega)) (h (i + d + 1) (by omega))
  refine List.pairwise_iff_getElem.2 fun i j hi hj hij => ?_
  have := key (j - i - 1) i (by omega)
  rwa [show i + (j - i - 1) + 1 = j by omega, List.getD_eq_getElem?_getD, List.getD_eq_getElem?_getD, List.getElem?_eq_getElem hi, List.getElem?_eq_getElem hj] at this
theorem sokL_asc {l : List EV} (h : sokL l = true) : Asc l := asc_adj fun i hi => by
  unfold sokL at h
  rw [List.all_eq_true] at h
  have := h (i + 1) (List.mem_range.2 hi)
  unfold sokAt at this
  rw [Bool.and_eq_true, Bool.or_eq_true, decide_eq_true_eq] at this
  rcases this.2 with e | e
  · omega
  · exact e
theorem sokS_asc {m : List EV} {ll : List (List EV)} (h : sokS m ll = true) : Asc m ∧ ∀ i, i < ll.length → Asc (ll.getD i []) := by
  unfold sokS at h
  rw [Bool.and_eq_true, Bool.and_eq_true, Bool.and_eq_true, Bool.and_eq_true] at h
  refine ⟨sokL_asc h.2.1, fun i hi => ?_⟩
  have h2 := List.all_eq_true.1 h.2.2.1 (ll.getD i []) (by
    rw [List.getD_eq_getElem?_getD, List.getElem?_eq_getElem hi]
    exact List.getElem_mem _)
  unfold sokR at h2
  rw [Bool.and_eq_true] at h2
  exact sokL_asc h2.2
set_option maxRecDepth 100000 in
set_option maxHeartbeats 4000000 in
theorem specSeenPress (m : List EV) (ll : List (List EV)) (p q : Value) (w : World) (hm : m.length ≤ 1048576) (hn : ll.length ≤ 1048576) (hf : ∀ i, i < ll.length → (ll.getD i []).length ≤ 1048576) (hp : EntRow w p m) (hq : RunRow w q ll) :
    Calls Try.prog 25 #[.agg #[p, q]] w fun e w' => ∃ ao ac bo bc, e = .returned (.agg #[.slice ao (pressM m ll).length ac, .slice bo (pressL m ll).length bc]) ∧ EntRow w' (.slice ao (pressM m ll).length ac) (pressM m ll) ∧ RunRow w' (.slice bo (pressL m ll).length bc) (pressL m ll) ∧ Below w.heap.size w w' := by
  obtain ⟨O, hO⟩ : ∃ O, O = (w.alloc (.cells #[p, q] 27)).alloc (.cells #[.slice none 0 0, .slice none 0 0] 27) := ⟨_, rfl⟩
  have bO : Below w.heap.size w O := by rw [hO]; exact ((Below.refl _ _).alloc (Nat.le_refl _) _).alloc (by simp) _
  have hzO : w.heap.size + 2 ≤ O.heap.size := by rw [hO]; simp
  have A0 : BAt O w.heap.size [p, q] := by rw [hO]; exact (BAt.new w #[p, q] _).alloc _
  have A1 : BAt O (w.heap.size + 1) [.slice none 0 0, .slice none 0 0] := by
    rw [hO]
    have := BAt.new (w.alloc (.cells #[p, q] 27)) #[.slice none 0 0, .slice none 0 0] 27
    rwa [World.size_alloc] at this
  have HB : Hid (∀ W, Below O.heap.size O W → Below w.heap.size w W ∧ BAt W w.heap.size [p, q] ∧ BAt W (w.heap.size + 1) [.slice none 0 0, .slice none 0 0]) := fun W hW => ⟨bO.trans (hW.mono bO.size), A0.below hW, A1.below hW⟩
  have CK := hidM (specSeenOk m ll p q O hm hn hf (hp.below bO) (hq.below bO))
  have CO : Hid (∀ W, Below w.heap.size w W → Calls Try.prog 35 #[.agg #[p, q]] W fun e w' => ∃ p' q', e = .returned (.agg #[p', q']) ∧ w'.ownsRow W.heap.size 35 2 p' m.length (ecells m) ∧ RunOwn w' W.heap.size w'.heap.size q' ll ∧ Below W.heap.size W w') := fun W hW => specCopy m ll p q W hm hn hf (hp.below hW) (hq.below hW)
  have CA : Hid (sokS m ll = true → ∀ W, Below w.heap.size w W → Calls Try.prog 54 #[.agg #[p, q]] W fun e w' => ∃ v', e = .returned v' ∧ w'.ownsRow W.heap.size 35 2 v' (canon (m ++ ll.flatten)).length (ecells (canon (m ++ ll.flatten))) ∧ Below W.heap.size W w') := fun h W hW => specSeenAll m ll p q W (by have := sokS_sz h; omega) (by have := sokS_sz h; omega) (sokS_asc h).1 (sokS_asc h).2 (hp.below hW) (hq.below hW)
  have HPM : Hid (pressM m ll = if sokS m ll then [] else m) := rfl
  have HPL : Hid (pressL m ll = if sokS m ll then (if (canon (m ++ ll.flatten)).length = 0 then [] else [canon (m ++ ll.flatten)]) else ll) := rfl
  generalize pressM m ll = PM at *
  generalize pressL m ll = PL at *
  obtain ⟨pa, pc, rfl⟩ := hp.slice
  obtain ⟨qa, qc, rfl⟩ := hq.slice
  have c0 := A0.1 0 _ rfl
  have c1 := A0.1 1 _ rfl
  clear hp hq hf
  go_enter Try.func25, Try.ntmps25
  go_upto_region 1 with fail
  rw [← hO]
  clear hO A0 A1
  cases hk : sokS m ll with
  | false =>
    rw [hk] at CK HPM HPL
    rw [if_neg (by decide)] at HPM HPL
    have e1 := HPM.out
    have e2 := HPL.out
    subst e1 e2
    clear HPM HPL CA
    go_wp2_with fail
    refine CK.out.mono ?_
    rintro e w1 ⟨rfl, b1⟩
    obtain ⟨B1, AW, AR⟩ := HB.out _ b1
    have d0 := AW.1 0 _ rfl
    have d1 := AW.1 1 _ rfl
    have CO2 := hidM (CO.out _ B1)
    clear CK CO c0 c1
    go_wp2_with fail
    refine CO2.out.mono ?_
    rintro e w2 ⟨p2, q2, rfl, o2, r2, b2⟩
    have AR2 := AR.below b2
    have B2 := B1.trans (b2.mono B1.size)
    have hz1 := b1.size
    obtain ⟨ao, ac, hpe⟩ := (EntRow.of_own' o2).slice
    obtain ⟨bo, bc, hqe⟩ := r2.row.slice
    subst hpe hqe
    have hC : w.heap.size + 1 < w1.heap.size := by omega
    have E2 := hidM (fun x y => EntRow.of_own' (own_put (own_put o2 hC 0 x) hC 1 y))
    have R2 : Hid (∀ x y, RunRow ((w2.setCell ⟨w.heap.size + 1, 0, none⟩ x).setCell ⟨w.heap.size + 1, 1, none⟩ y) (.slice bo PL.length bc) PL) := fun x y => by
      obtain ⟨vs, k1, k2⟩ := r2
      exact RunRow.of_own (own_put (own_put k1 hC 0 x) hC 1 y) (k2.same (Nat.le_refl _) fun b h1 h2 h3 => by
        rw [Below.heap_setCell _ _ _ _ (by simp; omega), Below.heap_setCell _ _ _ _ (by simp; omega)])
    clear o2 r2 CO2 d0 d1
    have r0 := AR2.1 0 _ rfl
    have r1 := AR2.1 1 _ rfl
    have g1 := AR2.2.1
    go_wp2_with fail
    refine bodyPost_ret (seen_resultS rfl _ _ (w.heap.size + 1) _ _ rfl ((AR2.set 0 (by simp) _).set 1 (by simp) _)) rfl ⟨_, _, _, _, rfl, E2.out _ _, R2.out _ _, ?_⟩
    exact (B2.setCell (by simp) _).setCell (by simp) _
  | true =>
    rw [hk] at CK HPM HPL
    rw [if_pos rfl] at HPM HPL
    have e1 := HPM.out
    subst e1
    have CA2 := hidM (CA.out hk)
    clear HPM CO CA
    generalize canon (m ++ ll.flatten) = R at *
    go_wp2_with fail
    refine CK.out.mono ?_
    rintro e w1 ⟨rfl, b1⟩
    obtain ⟨B1, AW, AR⟩ := HB.out _ b1
    have d0 := AW.1 0 _ rfl
    have d1 := AW.1 1 _ rfl
    have CA3 := hidM (CA2.out _ B1)
    clear CK CA2 c0 c1
    go_wp2_with fail
    refine CA3.out.mono ?_
    rintro e w2 ⟨va, rfl, oa, b2⟩
    have AR2 := AR.below b2
    have B2 := B1.trans (b2.mono B1.size)
    have hz1 := b1.size
    have hz2 := b2.size
    obtain ⟨aa, ac, hva⟩ := (EntRow.of_own' oa).slice
    subst hva
    have OA := hidM oa
    have hC : w.heap.size + 1 < w1.heap.size := by omega
    have r0 := AR2.1 0 _ rfl
    have r1 := AR2.1 1 _ rfl
    have g1 := AR2.2.1
    clear oa CA3 d0 d1
    by_cases hR : R.length = 0
    · have e2 := HPL.out
      rw [if_pos hR] at e2
      subst e2
      have hRz : ((R.length : Int) == 0) = true := by rw [beq_iff_eq]; omega
      rw [hR] at *
      go_wp2_with fail
      refine bodyPost_ret (seen_resultS rfl _ _ (w.heap.size + 1) _ _ rfl ((AR2.set 0 (by simp) _).set 1 (by simp) _)) rfl ⟨_, _, _, _, rfl, .inl ⟨rfl, _, _, rfl⟩, .inl ⟨rfl, _, _, rfl⟩, ?_⟩
      exact (B2.setCell (by simp) _).setCell (by simp) _
    · have e2 := HPL.out
      rw [if_neg hR] at e2
      subst e2
      have hRz : ((R.length : Int) == 0) = false := by rw [beq_eq_false_iff_ne]; omega
      have AN := BAt.new w2 #[.slice aa R.length ac] 24
      have AR3 := AR2.alloc (.cells #[.slice aa R.length ac] 24)
      have s0 := AR3.1 0 _ rfl
      have s1 := AR3.1 1 _ rfl
      have sz := AR3.2.1
      have hne : w2.heap.size ≠ w.heap.size + 1 := by have := AR2.2.2; omega
      have E3 : Hid (∀ x y, RunRow (((w2.alloc (.cells #[.slice aa R.length ac] 24)).setCell ⟨w.heap.size + 1, 0, none⟩ x).setCell ⟨w.heap.size + 1, 1, none⟩ y) (.slice (some ⟨w2.heap.size, 0, none⟩) 1 1) [R]) := fun x y => RunRow.oneS ((AN.other hne 0 x).other hne 1 y) (EntRow.of_own' (own_put (own_put (OA.out.alloc _) hC 0 x) hC 1 y))
      clear OA AN
      go_wp2_with fail
      refine bodyPost_ret (seen_resultS rfl _ _ (w.heap.size + 1) _ _ rfl ((AR3.set 0 (by simp) _).set 1 (by simp) _)) rfl ⟨_, _, _, _, rfl, .inl ⟨rfl, _, _, rfl⟩, E3.out _ _, ?_⟩
      exact ((B2.alloc B2.size _).setCell (by simp) _).setCell (by simp) _
end Go.Proofs.Ytocgdbinfmdkcaa
