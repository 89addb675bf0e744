/- The contract of the code's SeenPress. -/
import Derived.Test.YtdnlaijpgjpplaaRows
import Derived.Test.YtdnlaijpgjpplaaSeenImpl2
namespace Go.Proofs.Ytdnlaijpgjpplaa
open Go.RowKit
set_option linter.unusedVariables false

set_option maxRecDepth 100000 in
set_option maxHeartbeats 4000000 in
theorem implSeenPress (m : List EV) (ll : List (List EV)) (p q : Value) (w : World) (hm : m.length ≤ 1048576) (hn : ll.length ≤ 1048576) (hf : ∀ i, i < ll.length → (ll.getD i []).length ≤ 1048576) (hz : RZ m ll) (hp : EntRow w p m) (hq : RunRow w q ll) :
    Calls Try.prog 14 #[.agg #[p, q]] w fun e w' => ∃ ao ac bo bc, e = .returned (.agg #[.slice ao (pressM m ll).length ac, .slice bo (pressL m ll).length bc]) ∧ SnOwn w' w.heap.size w'.heap.size (.slice ao (pressM m ll).length ac) (.slice bo (pressL m ll).length bc) (pressM m ll) (pressL m ll) ∧ Below w.heap.size w w' := by
  obtain ⟨O, hO⟩ : ∃ O, O = (w.alloc (.cells #[p, q] 27)).alloc (.cells #[.slice none 0 0, .slice none 0 0] 27) := ⟨_, rfl⟩
  have bO : Below w.heap.size w O := by rw [hO]; exact ((Below.refl _ _).alloc (Nat.le_refl _) _).alloc (by simp) _
  have hzO : w.heap.size + 2 ≤ O.heap.size := by rw [hO]; simp
  have A0 : BAt O w.heap.size [p, q] := by rw [hO]; exact (BAt.new w #[p, q] _).alloc _
  have A1 : BAt O (w.heap.size + 1) [.slice none 0 0, .slice none 0 0] := by
    rw [hO]
    have := BAt.new (w.alloc (.cells #[p, q] 27)) #[.slice none 0 0, .slice none 0 0] 27
    rwa [World.size_alloc] at this
  have HB : Hid (∀ W, Below O.heap.size O W → Below w.heap.size w W ∧ BAt W w.heap.size [p, q] ∧ BAt W (w.heap.size + 1) [.slice none 0 0, .slice none 0 0]) := fun W hW => ⟨bO.trans (hW.mono bO.size), A0.below hW, A1.below hW⟩
  have CK := hidM (implSeenOk m ll p q O hm hn hf (hp.below bO) (hq.below bO))
  have CO : Hid (∀ W, Below w.heap.size w W → Calls Try.prog 23 #[.agg #[p, q]] W fun e w' => ∃ ao ac bo bc, e = .returned (.agg #[.slice ao m.length ac, .slice bo ll.length bc]) ∧ SnOwn w' W.heap.size w'.heap.size (.slice ao m.length ac) (.slice bo ll.length bc) m ll ∧ Below W.heap.size W w') := fun W hW => implOwnSeen m ll p q W hm hn hf hz (hp.below hW) (hq.below hW)
  have CA : Hid (sokS m ll = true → ∀ W, Below w.heap.size w W → Calls Try.prog 10 #[.agg #[p, q]] W fun e w' => ∃ v', e = .returned v' ∧ w'.ownsRow W.heap.size 35 2 v' (canon (m ++ ll.flatten)).length (ecells (canon (m ++ ll.flatten))) ∧ Below W.heap.size W w') := fun h W hW => implSeenAll m ll p q W (by have := sokS_sz h; omega) (by have := sokS_sz h; omega) hz (hp.below hW) (hq.below hW)
  have HPM : Hid (pressM m ll = if sokS m ll then [] else m) := rfl
  have HPL : Hid (pressL m ll = if sokS m ll then (if (canon (m ++ ll.flatten)).length = 0 then [] else [canon (m ++ ll.flatten)]) else ll) := rfl
  generalize pressM m ll = PM at *
  generalize pressL m ll = PL at *
  obtain ⟨pa, pc, rfl⟩ := hp.slice
  obtain ⟨qa, qc, rfl⟩ := hq.slice
  have c0 := A0.1 0 _ rfl
  have c1 := A0.1 1 _ rfl
  clear hp hq hz hf
  go_enter Try.func14, Try.ntmps14
  go_upto_region 1 with fail
  rw [← hO]
  clear hO A0 A1
  cases hk : sokS m ll with
  | false =>
    rw [hk] at CK HPM HPL
    rw [if_neg (by decide)] at HPM HPL
    have e1 := HPM.out
    have e2 := HPL.out
    subst e1 e2
    clear HPM HPL CA
    go_wp2_with fail
    refine CK.out.mono ?_
    rintro e w1 ⟨rfl, b1⟩
    obtain ⟨B1, AW, AR⟩ := HB.out _ b1
    have d0 := AW.1 0 _ rfl
    have d1 := AW.1 1 _ rfl
    have CO2 := hidM (CO.out _ B1)
    clear CK CO c0 c1
    go_wp2_with fail
    refine CO2.out.mono ?_
    rintro e w2 ⟨ao, ac, bo, bc, rfl, s2, b2⟩
    have AR2 := AR.below b2
    have B2 := B1.trans (b2.mono B1.size)
    have S2 := hidM s2
    have hz1 := b1.size
    clear s2 CO2 d0 d1
    have r0 := AR2.1 0 _ rfl
    have r1 := AR2.1 1 _ rfl
    have g1 := AR2.2.1
    go_wp2_with fail
    refine bodyPost_ret (seen_resultI rfl _ _ (w.heap.size + 1) _ _ rfl ((AR2.set 0 (by simp) _).set 1 (by simp) _)) rfl ⟨_, _, _, _, rfl, ?_, ?_⟩
    · obtain ⟨vs, k1, k2⟩ := (S2.out.same (w' := (w2.setCell ⟨w.heap.size + 1, 0, none⟩ (.slice ao PM.length ac)).setCell ⟨w.heap.size + 1, 1, none⟩ (.slice bo PL.length bc)) (fun bb h1 h2 => by
        rw [Below.heap_setCell _ _ _ _ (by simp; omega), Below.heap_setCell _ _ _ _ (by simp; omega)])).wide (base' := w.heap.size) (by omega)
      exact ⟨vs, k1, k2.same (by simp) fun _ _ _ _ => rfl⟩
    · exact (B2.setCell (by simp) _).setCell (by simp) _
  | true =>
    rw [hk] at CK HPM HPL
    rw [if_pos rfl] at HPM HPL
    have e1 := HPM.out
    subst e1
    have CA2 := hidM (CA.out hk)
    clear HPM CO CA
    generalize canon (m ++ ll.flatten) = R at *
    go_wp2_with fail
    refine CK.out.mono ?_
    rintro e w1 ⟨rfl, b1⟩
    obtain ⟨U, hU⟩ : ∃ U, U = ((w1.alloc (.cells #[] 35)).alloc (.cells #[] 24)).alloc (.cells #[.slice (some ⟨w1.heap.size, 0, none⟩) 0 0, .slice (some ⟨w1.heap.size + 1, 0, none⟩) 0 0] 27) := ⟨_, rfl⟩
    have bU : Below w1.heap.size w1 U := by rw [hU]; exact (((Below.refl _ _).alloc (Nat.le_refl _) _).alloc (by simp) _).alloc (by simp; omega) _
    have bOU := b1.trans (bU.mono b1.size)
    have hzU : w1.heap.size + 3 ≤ U.heap.size := by rw [hU]; simp
    have hz1 := b1.size
    have OM : Hid (U.ownsRow O.heap.size 35 2 (.slice (some ⟨w1.heap.size, 0, none⟩) 0 0) 0 []) := hidM (by
      rw [hU]
      exact ((World.ownsRow_lit w1 #[] 0 hz1 (Nat.zero_le _) rfl).alloc _).alloc _)
    have OR : Hid (U.ownsRow (w1.heap.size + 1) 24 1 (.slice (some ⟨w1.heap.size + 1, 0, none⟩) 0 0) 0 []) := hidM (by
      rw [hU]
      have := World.ownsRow_lit (base := w1.heap.size + 1) (e := 24) (size := 1) (w1.alloc (.cells #[] 35)) #[] 0 (by simp) (Nat.zero_le _) rfl
      rw [World.size_alloc] at this
      exact this.alloc _)
    have AP : BAt U (w1.heap.size + 2) [.slice (some ⟨w1.heap.size, 0, none⟩) 0 0, .slice (some ⟨w1.heap.size + 1, 0, none⟩) 0 0] := by
      rw [hU]
      have := BAt.new ((w1.alloc (.cells #[] 35)).alloc (.cells #[] 24)) #[.slice (some ⟨w1.heap.size, 0, none⟩) 0 0, .slice (some ⟨w1.heap.size + 1, 0, none⟩) 0 0] 27
      rwa [World.size_alloc, World.size_alloc] at this
    go_upto_region 4 with fail
    rw [← hU]
    clear hU
    obtain ⟨BU, AW, AR⟩ := HB.out _ bOU
    have d0 := AW.1 0 _ rfl
    have d1 := AW.1 1 _ rfl
    have CA3 := hidM (CA2.out U BU)
    clear CA2 c0 c1 CK b1 bU
    generalize w1.heap.size = P1 at *
    go_wp2_with fail
    refine CA3.out.mono ?_
    rintro e w2 ⟨va, rfl, oa, b2⟩
    have OM2 := hidM (own_below OM.out b2)
    have OR2 := hidM (own_below OR.out b2)
    have AP2 := AP.below b2
    have AR2 := AR.below b2
    have B2 := BU.trans (b2.mono BU.size)
    have hz2 := b2.size
    have OA := hidM oa
    obtain ⟨aa, ac, hva⟩ := (EntRow.of_own' oa).slice
    subst hva
    have f0 := AP2.1 0 _ rfl
    have f1 := AP2.1 1 _ rfl
    have fz := AP2.2.1 1
    clear oa CA3 OM OR AP AR AW d0 d1 bOU
    by_cases hR : R.length = 0
    · have e2 := HPL.out
      rw [if_pos hR] at e2
      subst e2
      have hRz : ¬ (0 : Int) < (R.length : Int) := by omega
      have S0 := hidM (show SnOwn w2 O.heap.size w2.heap.size (.slice (some ⟨P1, 0, none⟩) 0 0) (.slice (some ⟨P1 + 1, 0, none⟩) 0 0) [] [] from
        SnOwn.mk (lo := P1 + 1) (top1 := w2.heap.size) (ll := []) (m := []) OM2.out ⟨[], OR2.out, (fun i hi => absurd hi (Nat.not_lt_zero _)), (fun a x ha => absurd ha (Nat.not_lt_zero _)), fun b hb => (OR2.out.lt b hb).2⟩ (by omega) (Nat.le_refl _) (fun b hb => (OM2.out.lt b hb).2) (fun b hb => .inl (by cases hb; show P1 < P1 + 1; omega)))
      have r0 := AR2.1 0 _ rfl
      have r1 := AR2.1 1 _ rfl
      have g1 := AR2.2.1
      clear OM2 OR2 HPL OA
      go_wp2_with fail
      refine bodyPost_ret (seen_resultI rfl _ _ (w.heap.size + 1) _ _ rfl ((AR2.set 0 (by simp) _).set 1 (by simp) _)) rfl ⟨_, _, _, _, rfl, ?_, ?_⟩
      · obtain ⟨vs, k1, k2⟩ := (S0.out.same (w' := (w2.setCell ⟨w.heap.size + 1, 0, none⟩ (.slice (some ⟨P1, 0, none⟩) 0 0)).setCell ⟨w.heap.size + 1, 1, none⟩ (.slice (some ⟨P1 + 1, 0, none⟩) 0 0)) (fun bb h1 h2 => by
          rw [Below.heap_setCell _ _ _ _ (by simp; omega), Below.heap_setCell _ _ _ _ (by simp; omega)])).wide (base' := w.heap.size) (by omega)
        exact ⟨vs, k1, k2.same (by simp) fun _ _ _ _ => rfl⟩
      · exact (B2.setCell (by simp) _).setCell (by simp) _
    · have e2 := HPL.out
      rw [if_neg hR] at e2
      subst e2
      have hRz : (0 : Int) < (R.length : Int) := by omega
      have hOB : P1 + 1 ≤ w2.heap.size := by omega
      clear HPL
      go_wp2_with (at_builtin; refine wpList_append_newAt _ rfl _ _ 25 rfl (P1 + 1) 24 (.slice none 0 0) 24 Try.underlying25 Try.infoRw rfl _ _ _ rfl OR2.out #[.slice aa R.length ac] 1 rfl rfl (by intro u hu; simp at hu; rw [hu]; rfl) (by omega) (by unfold maxLen; omega) hOB ?_)
      intro v3 w3 o3 g3 hv3
      have hs3 := g3.size
      have I0 : InR w2 (P1 + 1) (P1 + 2) (.slice (some ⟨P1 + 1, 0, none⟩) 0 0) [] [R] 0 := ⟨(fun i hi => absurd hi (Nat.not_lt_zero _)), (fun a x ha => absurd ha (Nat.not_lt_zero _)), fun b hb => by cases hb; show P1 + 1 < P1 + 2; omega⟩
      obtain ⟨ra, rc, hrv⟩ : ∃ ra rc, v3 = .slice ra 1 rc := by
        rcases o3.2 with ⟨h, h2⟩ | ⟨g, cap, cur, h, _⟩
        · exact absurd h2 (by decide)
        · exact ⟨_, _, h⟩
      obtain ⟨w4, hw4⟩ : ∃ w4, w4 = w3.setCell ⟨P1 + 2, 1, none⟩ (.slice ra 1 rc) := ⟨_, rfl⟩
      have hb4 : ∀ b, b ≠ P1 + 2 → w4.heap[b]? = w3.heap[b]? := fun b hb => by rw [hw4]; exact Below.heap_setCell _ _ _ _ hb
      have hz4 : w4.heap.size = w3.heap.size := by rw [hw4]; simp
      have hvb : ∀ b, v3.ownBlock = some b → b = P1 + 1 ∨ b = w2.heap.size + 1 := fun b hb => by
        rcases hv3 with e | e
        · rw [e] at hb; injection hb with hb; exact .inl hb.symm
        · rw [e] at hb; injection hb with hb; exact .inr hb.symm
      have RO : RunOwn w4 (P1 + 1) w4.heap.size v3 [R] := by
        refine ⟨[.slice aa R.length ac], own_at (by simpa using o3) (fun b hb => hb4 b (by have := hvb b hb; omega)), I0.more (p := .slice aa R.length ac) (fun b h1 h2 h3 => ?_) (fun a ha => absurd ha (Nat.not_lt_zero _)) (fun _ _ => rfl) ?_ (by omega) rfl ?_ (fun b e => ?_) (fun b e1 e2 => ?_)⟩
        · exact absurd (by show some b = some (P1 + 1); congr 1; omega) h3
        · rcases hv3 with e | e
          · exact .inl e
          · exact .inr fun b hb => by have h1 := (o3.lt b hb).2; have h2 := hvb b hb; rw [e] at hb; injection hb with hb; omega
        · refine own_at (own_wide1 (OA.out.kept g3 ?_) (by omega)) (fun b hb => hb4 b (by have := (OA.out.lt b hb).1; omega))
          cases hxb : (Value.slice aa R.length ac).ownBlock with
          | none => exact .inl rfl
          | some b => exact .inr fun e => by have h1 := (OA.out.lt b hxb).1; injection e with e; have e' : b = P1 + 1 := e; omega
        · have := OA.out.lt b e; omega
        · have h1 := OA.out.lt b e1; have h2 := hvb b e2; omega
      have OM3 : w4.ownsRow O.heap.size 35 2 (.slice (some ⟨P1, 0, none⟩) 0 0) 0 [] := own_at (OM2.out.kept g3 (.inr fun e => by injection e with e; have e' : P1 = P1 + 1 := e; omega)) (fun b hb => hb4 b (by cases hb; show P1 ≠ P1 + 2; omega))
      have S0 := hidM (show SnOwn w4 O.heap.size w4.heap.size (.slice (some ⟨P1, 0, none⟩) 0 0) v3 [] [R] from SnOwn.mk (lo := P1 + 1) (top1 := w4.heap.size) OM3 RO (by omega) (Nat.le_refl _) (fun b hb => (OM3.lt b hb).2) (fun b hb => .inl (by cases hb; show P1 < P1 + 1; omega)))
      have AP3 : BAt w3 (P1 + 2) [.slice (some ⟨P1, 0, none⟩) 0 0, .slice (some ⟨P1 + 1, 0, none⟩) 0 0] := AP2.same hs3 (g3.block _ AP2.2.2 (fun e => by injection e with e; have e' : P1 + 2 = P1 + 1 := e; omega))
      have AR3 : BAt w3 (w.heap.size + 1) [.slice none 0 0, .slice none 0 0] := AR2.same hs3 (g3.block _ AR2.2.2 (fun e => by injection e with e; have e' : w.heap.size + 1 = P1 + 1 := e; omega))
      have B3 : Below w.heap.size w w3 := B2.grown g3 B2.size (fun b hb => by cases hb; show w.heap.size ≤ P1 + 1; omega)
      subst hrv
      clear o3 g3 hv3 I0 RO OM3 OM2 OR2 OA f0 f1 fz AP2 AR2 hb4 hz4 hvb
      rw [hw4] at S0
      clear hw4
      have AP4 := AP3.set 1 (by simp) (.slice ra 1 rc)
      have AR4 : BAt (w3.setCell ⟨P1 + 2, 1, none⟩ (.slice ra 1 rc)) (w.heap.size + 1) [.slice none 0 0, .slice none 0 0] := AR3.other (by omega) 1 _
      have f0 := AP3.1 0 _ rfl
      have f1 := AP3.1 1 _ rfl
      have fz := AP3.2.1 1
      have r0 := AR3.1 0 _ rfl
      have r1 := AR3.1 1 _ rfl
      have g1 := AR3.2.1
      have h0 := AP4.1 0 _ rfl
      have h1 := AP4.1 1 _ rfl
      have k0 := AR4.1 0 _ rfl
      have k1 := AR4.1 1 _ rfl
      have kz := AR4.2.1
      go_wp2_with fail
      refine bodyPost_ret (seen_resultI rfl _ _ (w.heap.size + 1) _ _ rfl ((AR4.set 0 (by simp) _).set 1 (by simp) _)) rfl ⟨_, _, _, _, rfl, ?_, ?_⟩
      · obtain ⟨vs, k1, k2⟩ := (S0.out.same (w' := ((w3.setCell ⟨P1 + 2, 1, none⟩ (.slice ra 1 rc)).setCell ⟨w.heap.size + 1, 0, none⟩ (.slice (some ⟨P1, 0, none⟩) 0 0)).setCell ⟨w.heap.size + 1, 1, none⟩ (.slice ra 1 rc)) (fun bb h1 h2 => by
          rw [Below.heap_setCell _ _ _ _ (by simp; omega), Below.heap_setCell _ _ _ _ (by simp; omega)])).wide (base' := w.heap.size) (by omega)
        exact ⟨vs, k1, k2.same (by simp) fun _ _ _ _ => rfl⟩
      · exact ((B3.setCell (by simp; omega) _).setCell (by simp) _).setCell (by simp) _
end Go.Proofs.Ytdnlaijpgjpplaa
