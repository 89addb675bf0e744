/- The contract of the specification's SchedOk. -/
import Derived.Test.YtcjblhiihgdljaaGreatRows
import Derived.Test.YtcjblhiihgdljaaGreatSchSpecP
import Derived.Test.YtcjblhiihgdljaaGreatSchAllS
import Derived.Deep.QuietTactic
namespace Go.Proofs.YtcjblhiihgdljaaGreat
open Go.RowKit
set_option linter.unusedVariables false
set_option linter.unusedSimpArgs false

def allTwo (l : List WtV) (j i : Nat) : Prop := (l.getD j wtv0).k ≠ (l.getD i wtv0).k ∧ ¬ ((l.getD j wtv0).q = (l.getD i wtv0).q ∧ 0 ≤ (l.getD i wtv0).q)
theorem allAt_iff (l : List WtV) (i : Nat) : allAt l i ↔ (0 < (l.getD i wtv0).k.size ∧ inB (l.getD i wtv0).p 0 1000 = true ∧ i < 200) ∧ ∀ j, j < i → allTwo l j i := Iff.rfl
set_option maxRecDepth 100000 in
set_option maxHeartbeats 32000000 in
theorem specSchedOk (d sp nw sq : Int) (si : List SiteV) (le : List LsV) (p q : Value) (w : World) (hf : SitFew si) (hl : le.length ≤ 1073741824) (hp : SitRow w p si) (hq : LsRow w q le) :
    Calls Tryz.prog 50 #[.agg #[.int .i64 d, .int .i64 sp, .int .i64 nw, .int .i64 sq, p, q]] w fun e w' => AnsB (SOk d sp nw sq si le) w e w' := by
  obtain ⟨O, hO⟩ : ∃ O, O = w.alloc (.cells #[.int .i64 d, .int .i64 sp, .int .i64 nw, .int .i64 sq, p, q] 27) := ⟨_, rfl⟩
  have bO : Below w.heap.size w O := by rw [hO]; exact (Below.refl _ _).alloc (Nat.le_refl _) _
  have AO : Hid (BAt O w.heap.size [.int .i64 d, .int .i64 sp, .int .i64 nw, .int .i64 sq, p, q]) := hidM (by rw [hO]; exact BAt.new w #[.int .i64 d, .int .i64 sp, .int .i64 nw, .int .i64 sq, p, q] _)
  have HS := hidM hp
  have HL := hidM hq
  have HF := hidM hf
  have C0 : Hid (∀ x a b W, Calls Tryz.prog 51 #[.int .i64 x, .int .i64 a, .int .i64 b] W fun e w' => e = .returned (.bool (inB x a b)) ∧ W = w') := fun x a b W => specIn x a b W
  have CS : Hid (∀ W, timesB d sp nw sq = true → Below w.heap.size w W → Calls Tryz.prog 102 #[.agg #[.int .i64 d, .int .i64 sp, .int .i64 nw, .int .i64 sq, p, q]] W fun e w' => AnsB (SitesL sq si le) W e w') := fun W ht hW => specL18Sites d sp nw sq si le p q W (by have := timesB_iff.1 ht; omega) HF.out hl (HS.out.below hW) (HL.out.below hW)
  have CA : Hid (∀ W, SitesL sq si le → Below w.heap.size w W → Calls Tryz.prog 103 #[.agg #[.int .i64 d, .int .i64 sp, .int .i64 nw, .int .i64 sq, p, q]] W fun e w' => WtR W (allL si le) e w') := fun W hs hW => specL18All d sp nw sq si le p q W (by have := waitL_bound (M := 1073741824) si HF.out.2; have := hs.2.2; omega) (by have := hs.2.2; omega) (HS.out.below hW) (HL.out.below hW)
  have HLN : Hid (SitesL sq si le → (allL si le).length ≤ 1099511627776) := fun hs => by rw [allL_len]; have := waitL_bound (M := 1073741824) si HF.out.2; have := hs.2.2; omega
  have HI : Hid (SOk d sp nw sq si le ↔ (timesB d sp nw sq = true ∧ SitesL sq si le ∧ ∀ i, i < (allL si le).length → allAt (allL si le) i)) := spec_iff
  have HT : Hid (timesB d sp nw sq = (inB d 1 1000 && (inB sp 1 10000 && (inB nw 0 100000000 && inB sq 0 1000000)))) := rfl
  obtain ⟨pa, pc, hpe⟩ := hp.slice
  obtain ⟨qa, qc, hqe⟩ := hq.slice
  generalize SOk d sp nw sq si le = P at *
  generalize timesB d sp nw sq = bt at *
  clear hp hq hf hl HS HL HF
  subst hpe hqe
  have c0 := AO.out.1 0 _ rfl
  have c1 := AO.out.1 1 _ rfl
  have c2 := AO.out.1 2 _ rfl
  have c3 := AO.out.1 3 _ rfl
  have c4 := AO.out.1 4 _ rfl
  have c5 := AO.out.1 5 _ rfl
  go_enter Tryz.func50, Tryz.ntmps50
  go_upto_region 1 with fail
  rw [← hO]
  clear hO
  generalize hb1 : inB d 1 1000 = b1 at *
  generalize hb2 : inB sp 1 10000 = b2 at *
  generalize hb3 : inB nw 0 100000000 = b3 at *
  generalize hb4 : inB sq 0 1000000 = b4 at *
  have D1 : Hid (∀ W, Calls Tryz.prog 51 #[.int .i64 d, .int .i64 1, .int .i64 1000] W fun e w' => e = .returned (.bool b1) ∧ W = w') := fun W => by rw [← hb1]; exact C0.out d 1 1000 W
  have D2 : Hid (∀ W, Calls Tryz.prog 51 #[.int .i64 sp, .int .i64 1, .int .i64 10000] W fun e w' => e = .returned (.bool b2) ∧ W = w') := fun W => by rw [← hb2]; exact C0.out sp 1 10000 W
  have D3 : Hid (∀ W, Calls Tryz.prog 51 #[.int .i64 nw, .int .i64 0, .int .i64 100000000] W fun e w' => e = .returned (.bool b3) ∧ W = w') := fun W => by rw [← hb3]; exact C0.out nw 0 100000000 W
  have D4 : Hid (∀ W, Calls Tryz.prog 51 #[.int .i64 sq, .int .i64 0, .int .i64 1000000] W fun e w' => e = .returned (.bool b4) ∧ W = w') := fun W => by rw [← hb4]; exact C0.out sq 0 1000000 W
  clear hb1 hb2 hb3 hb4
  have HTN : Hid ((b1 && (b2 && (b3 && b4))) = false → BIs false P) := fun h => BIs.no fun h2 => by have := (HI.out.1 h2).1; rw [HT.out, h] at this; cases this
  go_wp2_with fail
  refine (D1.out _).mono ?_
  rintro e w1 ⟨rfl, rfl⟩
  clear D1
  cases b1 with
  | false =>
    have HN := hidM (HTN.out rfl)
    clear HTN HI HT
    go_wp2_with fail
    go_ret
    exact AnsB.mk HN.out bO
  | true =>
    go_wp2_with fail
    refine (D2.out _).mono ?_
    rintro e w1 ⟨rfl, rfl⟩
    clear D2
    cases b2 with
    | false =>
      have HN := hidM (HTN.out rfl)
      clear HTN HI HT
      go_wp2_with fail
      go_ret
      exact AnsB.mk HN.out bO
    | true =>
      go_wp2_with fail
      refine (D3.out _).mono ?_
      rintro e w1 ⟨rfl, rfl⟩
      clear D3
      cases b3 with
      | false =>
        have HN := hidM (HTN.out rfl)
        clear HTN HI HT
        go_wp2_with fail
        go_ret
        exact AnsB.mk HN.out bO
      | true =>
        go_wp2_with fail
        refine (D4.out _).mono ?_
        rintro e w1 ⟨rfl, rfl⟩
        clear D4
        cases b4 with
        | false =>
          have HN := hidM (HTN.out rfl)
          clear HTN HI HT
          go_wp2_with fail
          go_ret
          exact AnsB.mk HN.out bO
        | true =>
          have HTT : Hid (bt = true) := hidM (by rw [HT.out]; rfl)
          have CS2 := hidM (CS.out O HTT.out bO)
          clear CS HTN
          go_wp2_with fail
          refine CS2.out.mono ?_
          rintro e w2 ⟨b5, rfl, hb5, d2⟩
          have HB5 := hidM hb5
          have B2 := bO.trans (d2.mono bO.size)
          have A2 := hidM (AO.out.below d2)
          clear d2 hb5 CS2 AO c0 c1 c2 c3 c4 c5
          cases b5 with
          | false =>
            have HN : Hid (BIs false P) := BIs.no fun h => HB5.out.neg (HI.out.1 h).2.1
            clear HI HT HTT HB5
            go_wp2_with fail
            go_ret
            exact AnsB.mk HN.out B2
          | true =>
            have CA2 := hidM (CA.out w2 HB5.out.pos B2)
            have hln := HLN.out HB5.out.pos
            have c0 := A2.out.1 0 _ rfl
            have c1 := A2.out.1 1 _ rfl
            have c2 := A2.out.1 2 _ rfl
            have c3 := A2.out.1 3 _ rfl
            have c4 := A2.out.1 4 _ rfl
            have c5 := A2.out.1 5 _ rfl
            have HJ : Hid (P ↔ ∀ i, i < (allL si le).length → allAt (allL si le) i) := hidM ⟨fun h => (HI.out.1 h).2.2, fun h => HI.out.2 ⟨HTT.out, HB5.out.pos, h⟩⟩
            clear CA HLN HT HTT HB5 HI
            generalize allL si le = l at *
            go_wp2_with fail
            refine CA2.out.mono ?_
            rintro e wA ⟨ra, rc, rfl, ow, d3⟩
            have bA := B2.trans (d3.mono B2.size)
            have HX := hidM (WtRow.of_own ow)
            clear ow d3 CA2 A2 c0 c1 c2 c3 c4 c5 B2 bO
            go_wp2_with fail
            go_loopw [4] (fun i wr => ∃ k : Nat, k ≤ l.length ∧ i = .int .i64 k ∧ Hid (∀ j, j < k → allAt l j) ∧ Below wA.heap.size wA wr) (fun i _ => l.length - (intOf i).toNat)
            case atStart => exact ⟨0, Nat.zero_le _, rfl, fun j h => absurd h (Nat.not_lt_zero _), Below.refl _ _⟩
            case round =>
              obtain ⟨k, hk, rfl, HA, hbA⟩ := hrel
              have bW := bA.trans (hbA.mono bA.size)
              by_cases hlt : k < l.length
              · have hki : (k : Int) < l.length := by omega
                rcases HX.out with ⟨h0, _⟩ | ⟨_, g, off, cap, hpe, hg, hc⟩
                · rw [h0] at hlt; exact absurd hlt (Nat.not_lt_zero _)
                · injection hpe with i1 i2 i3
                  subst i1
                  clear i2 i3
                  have HC : Hid (∀ j, j < l.length → WtAt wA g (off + j * 3) (l.getD j wtv0)) := hc
                  clear hc
                  obtain ⟨x0, x1, x2⟩ := (HC.out k hlt).below hbA hg
                  have HE : Hid ((l.getD k wtv0).k.toList.isEmpty = true ↔ ¬ 0 < (l.getD k wtv0).k.size) := emp_iff
                  have HNO : Hid (¬ (0 < (l.getD k wtv0).k.size ∧ inB (l.getD k wtv0).p 0 1000 = true ∧ k < 200) → BIs false P) := fun h => BIs.no fun h2 => h (HJ.out.1 h2 k hlt).1
                  have C1 : Hid (∀ W, Calls Tryz.prog 51 #[.int .i64 (l.getD k wtv0).p, .int .i64 0, .int .i64 1000] W fun e w' => e = .returned (.bool (inB (l.getD k wtv0).p 0 1000)) ∧ W = w') := fun W => C0.out _ _ _ W
                  have HYES : Hid ((0 < (l.getD k wtv0).k.size ∧ inB (l.getD k wtv0).p 0 1000 = true ∧ k < 200) → (∀ j, j < k → allTwo l j k) → ∀ j, j < k + 1 → allAt l j) := fun h1 h2 j hj => by
                    by_cases e : j = k
                    · subst e; exact ⟨h1, h2⟩
                    · exact HA.out j (by omega)
                  generalize hpb : inB (l.getD k wtv0).p 0 1000 = pb at *
                  clear hpb
                  generalize hx0 : (l.getD k wtv0).k = y0 at *
                  generalize (l.getD k wtv0).p = y1 at *
                  by_cases he : y0.toList.isEmpty = true
                  · have HN := hidM (HNO.out (fun h => HE.out.1 he h.1))
                    clear HNO HE HA HYES HJ
                    go_wp2_with fail
                    go_ret
                    exact AnsB.mk HN.out bW
                  · have he2 : y0.toList.isEmpty = false := by cases h : y0.toList.isEmpty with | true => exact absurd h he | false => rfl
                    have HEP : Hid (0 < y0.size) := by
                      by_cases h : 0 < y0.size
                      · exact h
                      · exact absurd (HE.out.2 h) he
                    clear he HE
                    cases pb with
                    | false =>
                      have HN := hidM (HNO.out (fun h => by have := h.2.1; cases this))
                      clear HNO HA HYES HJ
                      go_wp2_with fail
                      refine (C1.out _).mono ?_
                      rintro e w1 ⟨rfl, rfl⟩
                      go_wp2_with fail
                      go_ret
                      exact AnsB.mk HN.out bW
                    | true =>
                      by_cases h200 : 200 ≤ k
                      · have h200b : decide ((200 : Int) ≤ (k : Int)) = true := decide_eq_true (by omega)
                        have HN := hidM (HNO.out (fun h => by have := h.2.2; omega))
                        clear HNO HA HYES HJ
                        go_wp2_with fail
                        refine (C1.out _).mono ?_
                        rintro e w1 ⟨rfl, rfl⟩
                        go_wp2_with fail
                        go_ret
                        exact AnsB.mk HN.out bW
                      · have h200b : decide ((200 : Int) ≤ (k : Int)) = false := decide_eq_false (by omega)
                        have HYS : Hid ((∀ j, j < k → allTwo l j k) → ∀ j, j < k + 1 → allAt l j) := fun h => HYES.out ⟨HEP.out, rfl, by omega⟩ h
                        clear HNO HA HYES
                        go_wp2_with fail
                        refine (C1.out _).mono ?_
                        rintro e w1 ⟨rfl, rfl⟩
                        go_wp2_with fail
                        go_loopw [5] (fun i wi => ∃ m : Nat, m ≤ k ∧ i = .int .i64 m ∧ Hid (∀ j, j < m → allTwo l j k) ∧ Below wA.heap.size wA wi) (fun i _ => k - (intOf i).toNat)
                        case atStart => exact ⟨0, Nat.zero_le _, rfl, fun j h => absurd h (Nat.not_lt_zero _), hbA⟩
                        case round =>
                          clear x0 x1 x2 hbA bW C1
                          obtain ⟨m, hm, rfl, HM, hbi⟩ := hrel
                          by_cases hmk : m < k
                          · have hmi : (m : Int) < k := by omega
                            have hml : (m : Int) < l.length := by omega
                            obtain ⟨x0, x1, x2⟩ := (HC.out k hlt).below hbi hg
                            obtain ⟨z0, z1, z2⟩ := (HC.out m (by omega)).below hbi hg
                            have HTW : Hid (allTwo l m k ↔ (l.getD m wtv0).k ≠ y0 ∧ ¬ ((l.getD m wtv0).q = (l.getD k wtv0).q ∧ 0 ≤ (l.getD k wtv0).q)) := hidM (by unfold allTwo; rw [hx0])
                            have HBAD : Hid (¬ allTwo l m k → BIs false P) := fun h => BIs.no fun h2 => h ((HJ.out.1 h2 k hlt).2 m hmk)
                            have HGOOD : Hid (allTwo l m k → ∀ j, j < m + 1 → allTwo l j k) := fun h j hj => by
                              by_cases e : j = m
                              · subst e; exact h
                              · exact HM.out j (by omega)
                            clear x1 z1 HM
                            rw [hx0] at x0
                            generalize allTwo l m k = TW at *
                            generalize (l.getD m wtv0).k = u0 at *
                            generalize (l.getD m wtv0).q = u2 at *
                            generalize (l.getD k wtv0).q = y2 at *
                            by_cases hke : u0 = y0
                            · have hkb : (u0.toList == y0.toList) = true := by rw [hke]; simp
                              have HN := hidM (HBAD.out (fun h => (HTW.out.1 h).1 hke))
                              clear HBAD HGOOD HTW hke
                              go_wp2_with fail
                              go_quiet (fail)
                              go_wp2_with fail
                              go_ret
                              exact AnsB.mk HN.out (below_drewN (bA.trans (hbi.mono bA.size)) _)
                            · have hkb : (u0.toList == y0.toList) = false := by rw [beq_toList]; exact decide_eq_false hke
                              by_cases hqe : u2 = y2
                              · subst hqe
                                have hqb : (u2 == u2) = true := beq_self_eq_true _
                                by_cases hq0 : 0 ≤ u2
                                · have hq0b : decide (0 ≤ u2) = true := decide_eq_true hq0
                                  have HN := hidM (HBAD.out (fun h => (HTW.out.1 h).2 ⟨rfl, hq0⟩))
                                  clear HBAD HGOOD HTW hke
                                  go_wp2_with fail
                                  go_quiet (fail)
                                  go_wp2_with fail
                                  go_ret
                                  exact AnsB.mk HN.out (below_drewN (bA.trans (hbi.mono bA.size)) _)
                                · have hq0b : decide (0 ≤ u2) = false := decide_eq_false hq0
                                  have HM2 := hidM (HGOOD.out (HTW.out.2 ⟨hke, fun h => hq0 h.2⟩))
                                  clear HBAD HGOOD HTW hke
                                  go_wp2_with fail
                                  go_quiet (fail)
                                  go_wp2_with fail
                                  go_roundw
                                  case rel => exact ⟨m + 1, by omega, by go_num, HM2, below_drewN hbi _⟩
                                  case measure => simp [intOf]; omega
                              · have hqb : (u2 == y2) = false := beq_eq_false_iff_ne.2 hqe
                                have HM2 := hidM (HGOOD.out (HTW.out.2 ⟨hke, fun h => hqe h.1⟩))
                                clear HBAD HGOOD HTW hke
                                go_wp2_with fail
                                go_quiet (fail)
                                go_wp2_with fail
                                go_roundw
                                case rel => exact ⟨m + 1, by omega, by go_num, HM2, below_drewN hbi _⟩
                                case measure => simp [intOf]; omega
                          · have hmi : ¬ (m : Int) < k := by omega
                            have HZ := hidM (HYS.out (fun j hj => HM.out j (by omega)))
                            clear HM HYS HJ
                            go_wp2_with fail
                            go_roundw
                            case rel => exact ⟨k + 1, by omega, by go_num, HZ, hbi⟩
                            case measure => simp [intOf]; omega
              · have hki : ¬ (k : Int) < l.length := by omega
                have HN : Hid (BIs true P) := BIs.yes (HJ.out.2 fun j hj => HA.out j (by omega))
                clear HA HJ
                go_wp2_with fail
                go_ret
                exact AnsB.mk HN.out bW
end Go.Proofs.YtcjblhiihgdljaaGreat
