/- Contracts of the code's wholeRule and Fits. -/
import Derived.Test.YtijliddchoehhaaRows
import Derived.Test.YtijliddchoehhaaFitsImpl
namespace Go.Proofs.Ytijliddchoehhaa
open Go.RowKit
set_option linter.unusedVariables false

theorem drop_first {l : List ByteArray} {k : Nat} (h : k < l.length) : l.drop k = l.getD k ByteArray.empty :: l.drop (k + 1) := by
  rw [List.drop_eq_getElem_cons h, List.getD_eq_getElem?_getD, List.getElem?_eq_getElem h]
  rfl
theorem StrRow.head {w : World} {v : Value} {x : ByteArray} {l : List ByteArray} (h : StrRow w v (x :: l)) : ∃ g off c, v = .slice (some ⟨g, off, none⟩) (l.length + 1) (l.length + 1 + c) := by
  rcases h with ⟨h, _⟩ | ⟨_, g, off, c, h1, _⟩
  · cases h
  · exact ⟨g, off, c, h1⟩
theorem StrRow.none {w : World} {v : Value} (h : StrRow w v []) : ∃ ao c, v = .slice ao 0 c := by
  rcases h with ⟨_, ao, c, h⟩ | ⟨h, _⟩
  · exact ⟨ao, c, h⟩
  · simp at h
theorem fitAt_one (r : RV) (ps : List ByteArray) (k : Nat) : fitAt r ps k = fit1 (r.ps.getD k ByteArray.empty) (ps.getD k ByteArray.empty) := rfl
set_option maxHeartbeats 1000000 in
theorem implWhole (p v : Value) (r : RV) (ps : List ByteArray) (w : World) (hl : r.ps.length ≤ 1099511627776) (hl2 : ps.length ≤ 1099511627776) (h : StrRow w p r.ps) (hv : StrRow w v ps) :
    Calls Try.prog 29 #[.agg #[p, v], .func (.func 31) #[] #[]] w fun e w' => e = .returned (.bool (fitsP r ps)) ∧ Below w.heap.size w w' := by
  obtain ⟨O, hO⟩ : ∃ O, O = w.alloc (.cells #[p, v] 59) := ⟨_, rfl⟩
  have bO : Below w.heap.size w O := by rw [hO]; exact (Below.refl _ _).alloc (Nat.le_refl _) _
  have AO : BAt O w.heap.size [p, v] := by rw [hO]; exact BAt.new w #[p, v] _
  have HP : Hid (StrRow w p r.ps) := h
  have HV : Hid (StrRow w v ps) := hv
  have HNF : Hid (∀ k, k < r.ps.length → fit1 (r.ps.getD k ByteArray.empty) (ps.getD k ByteArray.empty) = false → fitsP r ps = false) := fun k hk h => fitsP_no hk h
  have HNL : Hid (ps.length < r.ps.length → fitsP r ps = false) := fun h => by
    unfold fitsP
    rw [decide_eq_false (by omega)]
    rfl
  have HY : Hid (r.ps.length ≤ ps.length → (∀ j, j < r.ps.length → fitAt r ps j = true) → fitsP r ps = true) := fun h1 h2 => fitsP_yes h1 h2
  have HF : Hid (∀ j, fitAt r ps j = fit1 (r.ps.getD j ByteArray.empty) (ps.getD j ByteArray.empty)) := fun j => rfl
  generalize fitAt r ps = fit at HY HF
  generalize fitsP r ps = F at HNF HNL HY ⊢
  generalize r.ps = rs at *
  obtain ⟨po, pc, rfl⟩ := h.slice
  obtain ⟨vo, vc, rfl⟩ := hv.slice
  clear h hv
  have c0 := AO.1 0 _ rfl
  have c1 := AO.1 1 _ rfl
  have HAO : Hid (BAt O w.heap.size [.slice po rs.length pc, .slice vo ps.length vc]) := AO
  clear AO
  go_enter Try.func29, Try.ntmps29
  go_upto_region 1 with fail
  rw [← hO]
  clear hO
  go_wp2_with fail
  go_loopw [10] (fun i wr => ∃ (k : Nat) (pv vv : Value), k ≤ rs.length ∧ k ≤ ps.length ∧ i = .int .i64 k ∧ Hid (BAt wr w.heap.size [pv, vv]) ∧ Hid (StrRow w pv (rs.drop k)) ∧ Hid (StrRow w vv (ps.drop k)) ∧ Hid (∀ j, j < k → fit j = true) ∧ Below w.heap.size w wr) (fun i _ => rs.length - (intOf i).toNat)
  case atStart => exact ⟨0, _, _, Nat.zero_le _, Nat.zero_le _, rfl, HAO, HP, HV, fun j hj => absurd hj (Nat.not_lt_zero _), bO⟩
  case round =>
    obtain ⟨k, pv, vv, hk, hkp, rfl, HA, HR, HS, HT, hbel⟩ := hrel
    clear HAO HP HV bO c0 c1
    by_cases hlt : k < rs.length
    · have hki : (k : Int) < rs.length := by omega
      have ha0 := HA.out.1 0 _ rfl
      have ha1 := HA.out.1 1 _ rfl
      have hdr := drop_first hlt
      have HR2 : Hid (StrRow w pv (rs.getD k ByteArray.empty :: rs.drop (k + 1))) := by rw [← hdr]; exact HR.out
      clear hdr HR
      by_cases hlp : k < ps.length
      · have hdp := drop_first hlp
        have HS2 : Hid (StrRow w vv (ps.getD k ByteArray.empty :: ps.drop (k + 1))) := by rw [← hdp]; exact HS.out
        clear hdp HS
        have HN : Hid (fit1 (rs.getD k ByteArray.empty) (ps.getD k ByteArray.empty) = false → F = false) := HNF.out k hlt
        have HT2 : Hid (fit1 (rs.getD k ByteArray.empty) (ps.getD k ByteArray.empty) = true → ∀ j, j < k + 1 → fit j = true) := fun h j hj => by
          by_cases hjk : j < k
          · exact HT.out j hjk
          · rw [show j = k by omega, HF.out]; exact h
        obtain ⟨g, off, c, hpv⟩ := HR2.out.head
        obtain ⟨g', off', c', hvv⟩ := HS2.out.head
        obtain ⟨n, hn⟩ : ∃ n, n = (rs.drop (k + 1)).length := ⟨_, rfl⟩
        obtain ⟨n', hn'⟩ : ∃ n', n' = (ps.drop (k + 1)).length := ⟨_, rfl⟩
        have hnl : n ≤ 1099511627776 := by rw [hn, List.length_drop]; omega
        have hnl' : n' ≤ 1099511627776 := by rw [hn', List.length_drop]; omega
        rw [← hn] at hpv
        rw [← hn'] at hvv
        subst hpv hvv
        have HHN : Hid (n = (rs.drop (k + 1)).length ∧ n' = (ps.drop (k + 1)).length) := ⟨hn, hn'⟩
        clear hn hn' HT
        generalize rs.getD k ByteArray.empty = x at *
        generalize ps.getD k ByteArray.empty = y at *
        cases hf : fit1 x y with
        | true =>
          have HT3 : Hid (∀ j, j < k + 1 → fit j = true) := HT2.out hf
          have CM : Hid (Calls Try.prog 31 #[.agg #[.slice (some ⟨g, off, none⟩) (n + 1) (n + 1 + c), .slice (some ⟨g', off', none⟩) (n' + 1) (n' + 1 + c')]] wr fun e w' => ∃ va vb, e = .returned (.tuple #[.agg #[va, vb], .bool true]) ∧ StrRow w va (rs.drop (k + 1)) ∧ StrRow w vb (ps.drop (k + 1)) ∧ Below wr.heap.size wr w') := implPartMore_yes g off n c g' off' n' c' x y _ _ w wr hbel HHN.out.1 HHN.out.2 hnl hnl' hf HR2.out HS2.out
          clear hf HN HT2 HHN HR2 HS2
          go_wp2_with fail
          refine CM.out.mono ?_
          rintro e w1 ⟨va, vb, rfl, sa, sb, b1⟩
          have A1 : BAt w1 w.heap.size [.slice (some ⟨g, off, none⟩) (n + 1) (n + 1 + c), .slice (some ⟨g', off', none⟩) (n' + 1) (n' + 1 + c')] := HA.out.below b1
          have B1 := hbel.trans (b1.mono hbel.size)
          have hz1 := A1.2.2
          obtain ⟨qo, qc, rfl⟩ := sa.slice
          obtain ⟨uo, uc, rfl⟩ := sb.slice
          generalize hnq : (rs.drop (k + 1)).length = nq at *
          generalize hnu : (ps.drop (k + 1)).length = nu at *
          have SA : Hid (StrRow w (.slice qo nq qc) (rs.drop (k + 1))) := sa
          have SB : Hid (StrRow w (.slice uo nu uc) (ps.drop (k + 1))) := sb
          have A2 := A1.alloc (.cells #[.slice qo nq qc, .slice uo nu uc] 59)
          have N2 := BAt.new w1 #[.slice qo nq qc, .slice uo nu uc] 59
          have B2 := B1.alloc B1.size (.cells #[.slice qo nq qc, .slice uo nu uc] 59)
          clear sa sb CM HA ha0 ha1 b1 hbel A1 hnq hnu
          obtain ⟨O2, hO2⟩ : ∃ O2, O2 = w1.alloc (.cells #[.slice qo nq qc, .slice uo nu uc] 59) := ⟨_, rfl⟩
          rw [← hO2] at A2 N2 B2
          have d0 := A2.1 0 _ rfl
          have d1 := A2.1 1 _ rfl
          have df := A2.2.1
          have m0 := N2.1 0 _ rfl
          have m1 := N2.1 1 _ rfl
          go_upto_region 4 with fail
          rw [← hO2]
          clear hO2
          go_wp2_with fail
          go_roundw
          case rel => exact ⟨k + 1, _, _, by omega, by omega, by go_num, (A2.set 0 (by simp) (.slice qo nq qc)).set 1 (by simp) (.slice uo nu uc), SA, SB, HT3, (B2.setCell (p := ⟨w.heap.size, 0, none⟩) (Nat.le_refl _) _).setCell (p := ⟨w.heap.size, 1, none⟩) (Nat.le_refl _) _⟩
          case measure => simp [intOf]; omega
        | false =>
          have HN2 : Hid (F = false) := HN.out hf
          have CM : Hid (Calls Try.prog 31 #[.agg #[.slice (some ⟨g, off, none⟩) (n + 1) (n + 1 + c), .slice (some ⟨g', off', none⟩) (n' + 1) (n' + 1 + c')]] wr fun e w' => ∃ (a b : Option Addr) (n1 c1 n2 c2 : Nat), e = .returned (.tuple #[.agg #[.slice a n1 c1, .slice b n2 c2], .bool false]) ∧ Below wr.heap.size wr w') := implPartMore_no g off n c g' off' n' c' x y _ _ wr hnl hnl' hf (HR2.out.below hbel) (HS2.out.below hbel)
          clear hf HN HT2 HHN HR2 HS2
          go_wp2_with fail
          refine CM.out.mono ?_
          rintro e w1 ⟨a5, b5, n5, c5, m5, d5, rfl, b1⟩
          have B1 := hbel.trans (b1.mono hbel.size)
          clear b1 CM HA ha0 ha1
          go_wp2_with fail
          go_ret
          exact ⟨ret_bool HN2.out.symm, B1.alloc B1.size _⟩
      · have HN2 : Hid (F = false) := HNL.out (by omega)
        have hde : ps.drop k = [] := List.drop_eq_nil_of_le (by omega)
        have hse := HS.out
        rw [hde] at hse
        obtain ⟨ao, ac, rfl⟩ := hse.none
        have CM : Hid (Calls Try.prog 31 #[.agg #[pv, .slice ao 0 ac]] wr fun e w' => ∃ (a b : Option Addr) (n1 c1 n2 c2 : Nat), e = .returned (.tuple #[.agg #[.slice a n1 c1, .slice b n2 c2], .bool false]) ∧ Below wr.heap.size wr w') := implPartMore_end pv _ ao ac wr (HR2.out.below hbel)
        obtain ⟨g, off, c, hpv⟩ := HR2.out.head
        generalize (rs.drop (k + 1)).length = n at hpv
        subst hpv
        clear HS HR2 hde hse HT
        go_wp2_with fail
        refine CM.out.mono ?_
        rintro e w1 ⟨a5, b5, n5, c5, m5, d5, rfl, b1⟩
        have B1 := hbel.trans (b1.mono hbel.size)
        clear b1 CM HA ha0 ha1
        go_wp2_with fail
        go_ret
        exact ⟨ret_bool HN2.out.symm, B1.alloc B1.size _⟩
    · have hki : ¬ (k : Int) < rs.length := by omega
      have HE : Hid (F = true) := HY.out (by omega) fun j hj => HT.out j (by omega)
      clear HT HA HR HS
      go_wp2_with fail
      go_ret
      exact ⟨ret_bool HE.out.symm, hbel⟩
set_option maxHeartbeats 4000000 in
theorem implFits (p : Value) (r : RV) (s : ByteArray) (w : World) (hl : r.ps.length ≤ 1048576) (hs : s.size ≤ 1048576) (h : StrRow w p r.ps) :
    Calls Try.prog 16 #[.agg #[p, .bool r.ex], .string s] w fun e w' => e = .returned (.bool (fitsB r s)) ∧ Below w.heap.size w w' := by
  obtain ⟨O, hO⟩ : ∃ O, O = w.alloc (.cells #[p, .bool r.ex] 35) := ⟨_, rfl⟩
  have hbO : Below w.heap.size w O := by rw [hO]; exact (Below.refl _ _).alloc (Nat.le_refl _) _
  have hzO : w.heap.size < O.heap.size := by rw [hO]; simp
  have cO : O.cell? ⟨w.heap.size, 0, none⟩ = some p := by rw [hO, World.cell?_alloc_at _ _ _ _ rfl]; rfl
  have HO : Hid (StrRow O p r.ps) := h.below hbO
  have hpl : (partsL s).length ≤ 1099511627776 := by
    unfold partsL
    split
    · simp
    · rw [List.length_reverse]
      have := fields_le s 46
      omega
  have CP : Hid (∀ W, Calls Try.prog 30 #[.string s] W fun e w' => ∃ v, e = .returned v ∧ w'.ownsRow W.heap.size 9 1 v (partsL s).length (scells (partsL s)) ∧ Below W.heap.size W w') := fun W => implParts s W hs
  have CP2 : Hid (∀ W, Calls Try.prog 30 #[.string s] W fun e w' => ∃ ao cap, e = .returned (.slice ao (partsL s).length cap) ∧ StrRow w' (.slice ao (partsL s).length cap) (partsL s) ∧ Below W.heap.size W w') := fun W => (CP.out W).mono fun e w' ⟨v, h1, h2, h3⟩ => by
    have hr := StrRow.of_own h2
    obtain ⟨ao, cap, rfl⟩ := hr.slice
    exact ⟨ao, cap, h1, hr, h3⟩
  clear CP
  obtain ⟨po, pc, rfl⟩ := h.slice
  have CW : Hid (∀ W v, O.heap.size ≤ W.heap.size → (∀ k, k < O.heap.size → W.heap[k]? = O.heap[k]?) → StrRow W v (partsL s) → Calls Try.prog 29 #[.agg #[.slice po r.ps.length pc, v], .func (.func 31) #[] #[]] W fun e w' => e = .returned (.bool (fitsB r s)) ∧ Below W.heap.size W w') := fun W v hz hb hv => implWhole _ v r (partsL s) W (by omega) hpl (HO.out.same hz hb) hv
  clear HO
  generalize partsL s = ps at *
  generalize r.ps.length = n at *
  go_enter Try.func16, Try.ntmps16
  go_upto_region 1 with fail
  rw [← hO]
  clear hO h
  go_region_with (first | (go_at_call 30; refine (CP2.out _).mono ?_; rintro e wc ⟨ao, cap, rfl, hown, hbc⟩; have cc := (hbc.cell (p := ⟨w.heap.size, 0, none⟩) hzO).trans cO) | (go_at_call 29; refine (CW.out _ _ hbc.size hbc.block hown).mono ?_; rintro e wd ⟨rfl, hbd⟩))
  all_goals
    go_wp2_with fail
    go_ret
    exact ⟨rfl, (hbO.drew.trans (hbc.mono hbO.size)).trans (hbd.mono (hbO.drew.trans (hbc.mono hbO.size)).size)⟩
end Go.Proofs.Ytijliddchoehhaa
