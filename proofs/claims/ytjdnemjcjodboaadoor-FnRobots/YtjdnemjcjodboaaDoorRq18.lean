/- RobLaw. -/
import Derived.Test.YtjdnemjcjodboaaDoorRq17
set_option maxHeartbeats 16000000
set_option maxRecDepth 100000
namespace Go.Proofs.YtjdnemjcjodboaaDoor
open Go.RowKit
set_option linter.unusedVariables false
theorem CodeX.later {cs : Nat → Int} {w W : World} {ao : Option Addr} {len : Nat} (h : CodeX cs w.heap.size w ao len) (hb : Below w.heap.size w W) : CodeX cs W.heap.size W ao len := by
 rcases h with h | ⟨b, off, h1, h2, h3⟩
 ·exact .inl h
 exact .inr ⟨b, off, h1, Nat.lt_of_lt_of_le h2 hb.size, fun j hj => ⟨(World.cell?_of_block (w := w) (a := ⟨b, off + j, none⟩) (hb.block b h2)).trans (h3 j hj).1, (h3 j hj).2⟩⟩
theorem robT_size (ps : List PT) : (robT ps).length ≤ 13 * sumP ps := by
 rw [robT_parts]
 have h := parts_len ps ps.length (Nat.le_refl _)
 rw [List.take_length] at h
 unfold sumP
 omega
theorem getD_in {α : Type} {l : List α} (d : α) {j : Nat} (h : j < l.length) : l.getD j d ∈ l := by
 rw [List.getD_eq_getElem?_getD, List.getElem?_eq_getElem h]
 exact List.getElem_mem _
theorem ok_ag {ps : List PT} (h : robOk ps) {k j : Nat} (hk : k < ps.length) (hj : j < (ps.getD k pt0).ag.length) : agL ((ps.getD k pt0).ag.getD j ByteArray.empty).data.toList = ((ps.getD k pt0).ag.getD j ByteArray.empty).data.toList :=
 ((h.1 _ (getD_in pt0 hk)).2.1 _ (getD_in _ hj)).1
theorem ok_ln {ps : List PT} (h : robOk ps) {k j : Nat} (hk : k < ps.length) (hj : j < (ps.getD k pt0).ln.length) : lnOk ((ps.getD k pt0).ln.getD j lv0) :=
 (h.1 _ (getD_in pt0 hk)).2.2 _ (getD_in _ hj)
theorem fld_rob (so : Option Addr) (n sc : Nat) (W : World) : (Instr.field 26 (.agg #[.slice so n sc]) 0).run Tryd.prog W = .ok (.slice so n sc) W := by kernel_rfl
theorem lawRobots (cs : Nat → Int) (ao : Option Addr) (len cap : Nat) (w : World) (hl : len ≤ 1048576) (hcode : CodeX cs w.heap.size w ao len) (hK : Marks w) (hM : MaxI w) :
  Calls Tryd.prog 3 #[.slice ao len cap] w fun e w' => e = .returned (.bool true) ∧ Below w.heap.size w w' := by
 have HM2 : Hid (∀ W, Below w.heap.size w W → Marks W) := fun W hW => hK.later hW
 have CD : Hid (∀ W, Below w.heap.size w W → Calls Tryd.prog 8 #[.slice ao len cap] W fun e w' => e = .returned (.string (drawF cs len)) ∧ (drawF cs len).size ≤ 1048576 ∧ Below W.heap.size W w') := fun W hW => drawParseRobotsX cs ao len cap W hl (hcode.later hW)
 have CI : Hid (∀ s W, s.size ≤ 1099511627776 → Below w.heap.size w W → Calls Tryd.prog 7 #[.string s] W fun e w' => ∃ ao c, e = .returned (.agg #[.slice ao (robV s).length c]) ∧ PartRow w' (.slice ao (robV s).length c) (robV s) ∧ Below W.heap.size W w') := fun s W hs hW => (implParseRobots s W hs (hK.later hW) (max_below hM hW)).mono fun e w' ⟨v, he, hr, hb⟩ => by
  obtain ⟨ao, c, rfl⟩ := hr.row.slice
  exact ⟨ao, c, he, hr.row, hb⟩
 have HOK : Hid (robOk (robV (drawF cs len))) := by rw [robV_eq]; exact rob_ok _
 have HSUM : Hid (sumP (robV (drawF cs len)) ≤ 200000) := rob_sum _
 have HSP : Hid (∀ W, (drawF cs len).size ≤ 1048576 → Calls Tryd.prog 12 #[.string (drawF cs len)] W fun e w' => ∃ ao c, e = .returned (.agg #[.slice ao (robV (drawF cs len)).length c]) ∧ Below W.heap.size W w') := fun W hs => (specParseRobots _ W hs).mono fun e w' ⟨v, he, hr, hb⟩ => by
  obtain ⟨ao, c, rfl⟩ := hr.row.slice
  exact ⟨ao, c, he, hb⟩
 clear hcode hK hM
 go_enter Tryd.func3, Tryd.ntmps3
 go_wp2_with fail
 refine (big_no _ _ _ _ (by omega)).mono ?_
 rintro e w' ⟨rfl, rfl⟩
 go_wp2_with fail
 refine (CD.out _ (Below.refl _ _)).mono ?_
 rintro e w0 ⟨rfl, hZ, b0⟩
 have CI1 := CI.out (drawF cs len) w0 (by omega) b0
 have CSP : Hid (∀ W, Calls Tryd.prog 12 #[.string (drawF cs len)] W fun e w' => ∃ ao c, e = .returned (.agg #[.slice ao (robV (drawF cs len)).length c]) ∧ Below W.heap.size W w') := fun W => HSP.out W hZ
 clear HSP
 have HCI1 : Hid (Calls Tryd.prog 7 #[.string (drawF cs len)] w0 fun e w' => ∃ ao c, e = .returned (.agg #[.slice ao (robV (drawF cs len)).length c]) ∧ PartRow w' (.slice ao (robV (drawF cs len)).length c) (robV (drawF cs len)) ∧ Below w0.heap.size w0 w') := CI1
 clear CI1
 generalize robV (drawF cs len) = R at *
 generalize drawF cs len = Z at *
 go_wp2_with fail
 refine HCI1.out.mono ?_
 rintro e w1 ⟨vo, vc, rfl, r1, b1⟩
 have HPR : Hid (PartRow w1 (.slice vo R.length vc) R) := r1
 have B1 := b0.trans (b1.mono b0.size)
 clear r1 b1 b0 HCI1
 have hrl : R.length ≤ 200000 := by have := HSUM.out; unfold sumP at this; omega
 have HN : Hid (sumP R ≤ 1048576) := Nat.le_trans HSUM.out (by decide)
 go_upto_region 4 with fail
 obtain ⟨U1, hU1⟩ : ∃ U1, U1 = w1.alloc (.cells #[.slice vo R.length vc] 26) := ⟨_, rfl⟩
 have bU1 : Below w1.heap.size w1 U1 := by rw [hU1]; exact (Below.refl _ _).alloc (Nat.le_refl _) _
 have A1 : BAt U1 w1.heap.size [.slice vo R.length vc] := by rw [hU1]; exact BAt.new w1 #[.slice vo R.length vc] _
 rw [← hU1]
 clear hU1
 have HP1 : Hid (PartRow U1 (.slice vo R.length vc) R) := HPR.out.below bU1
 have BU1 := B1.trans (bU1.mono B1.size)
 clear B1 bU1 HPR
 generalize w1.heap.size = D at *
 have d0 := A1.1 0 _ rfl
 have HTS : Hid ((⟨(robT R).toArray⟩ : ByteArray).size ≤ 2600000) := by
  show (robT R).toArray.size ≤ _
  rw [List.size_toArray]
  have := robT_size R
  have := HSUM.out
  omega
 have CT : Hid (∀ v W, PartRow W v R → CB 9 #[.agg #[v]] W (.string ⟨(robT R).toArray⟩)) := fun v W h => implRobotsText R v W HN.out h
 have HBK : Hid ((⟨(robT R).toArray⟩ : ByteArray).size ≤ 20000 → robV ⟨(robT R).toArray⟩ = R) := fun h => by
  rw [robV_eq]
  exact rob_back HOK.out (by rw [← List.size_toArray]; exact h)
 generalize (⟨(robT R).toArray⟩ : ByteArray) = T at *
 go_wp2_with fail
 refine (CT.out _ _ HP1.out).mono ?_
 rintro e w2 ⟨rfl, b2⟩
 have A2 := A1.below b2
 have HP2 : Hid (PartRow w2 (.slice vo R.length vc) R) := HP1.out.below b2
 have B2 := BU1.trans (b2.mono BU1.size)
 have hts := HTS.out
 have CI2 : Hid (Calls Tryd.prog 7 #[.string T] w2 fun e w' => ∃ ao c, e = .returned (.agg #[.slice ao (robV T).length c]) ∧ PartRow w' (.slice ao (robV T).length c) (robV T) ∧ Below w2.heap.size w2 w') := CI.out T w2 (by omega) B2
 clear A1 b2 HP1 BU1 d0 CI HTS
 generalize robV T = X at *
 go_wp2_with fail
 refine CI2.out.mono ?_
 rintro e w3 ⟨xo, xc, rfl, r3, b3⟩
 have HX3 : Hid (PartRow w3 (.slice xo X.length xc) X) := r3
 have A3 := A2.below b3
 have HP3 : Hid (PartRow w3 (.slice vo R.length vc) R) := HP2.out.below b3
 have B3 := B2.trans (b3.mono B2.size)
 clear A2 b3 HP2 B2 r3 CI2
 go_upto_region 6 with fail
 obtain ⟨U, hU⟩ : ∃ U, U = w3.alloc (.cells #[.slice xo X.length xc] 26) := ⟨_, rfl⟩
 have bU : Below w3.heap.size w3 U := by rw [hU]; exact (Below.refl _ _).alloc (Nat.le_refl _) _
 have AE : BAt U w3.heap.size [.slice xo X.length xc] := by rw [hU]; exact BAt.new w3 #[.slice xo X.length xc] _
 rw [← hU]
 clear hU
 have AC := A3.below bU
 have HPU : Hid (PartRow U (.slice vo R.length vc) R) := HP3.out.below bU
 have HXU : Hid (PartRow U (.slice xo X.length xc) X) := HX3.out.below bU
 have BU := B3.trans (bU.mono B3.size)
 clear A3 bU HP3 HX3 B3
 generalize w3.heap.size = E at *
 go_cut [36] (fun v wx => v = .bool false ∧ Below U.heap.size U wx)
 case first =>
  have c0 := AC.1 0 _ rfl
  have e0 := AE.1 0 _ rfl
  by_cases h2 : T.size ≤ 20000
  ·have HXR : Hid (X = R) := HBK.out h2
   have h2i : (T.size : Int) ≤ 20000 := by omega
   have HXL : Hid (PartRow U (.slice xo X.length xc) R) := by
    have h9 : ∀ Y, X = Y → PartRow U (.slice xo X.length xc) Y := fun Y e => by subst e; exact HXU.out
    exact h9 R HXR.out
   have hxl : X.length = R.length := by rw [HXR.out]
   rw [hxl] at e0 HXL
   clear hxl HXU HBK
   go_wp2_with fail
   refine (CT.out _ _ HXL.out).mono ?_
   rintro e w4 ⟨rfl, b4⟩
   go_wp2_with fail
   go_meet
   case rel => exact ⟨rfl, b4⟩
  have h2i : ¬ (T.size : Int) ≤ 20000 := by omega
  go_wp2_with fail
  go_meet
  case rel => exact ⟨rfl, Below.refl _ _⟩
 obtain ⟨rfl, bC⟩ := hcut
 have AD := AC.below bC
 have HPC : Hid (PartRow wc (.slice vo R.length vc) R) := HPU.out.below bC
 have BC := BU.trans (bC.mono BU.size)
 have hDC := AD.2.2
 clear AC HPU BU bC HXU HBK AE CT
 go_wp2_with fail
 go_loopw [6] (fun i wr => ∃ k : Nat, k ≤ R.length ∧ i = .int .i64 k ∧ Below wc.heap.size wc wr) (fun i _ => R.length - (intOf i).toNat)
 case atStart => exact ⟨0, Nat.zero_le _, rfl, Below.refl _ _⟩
 obtain ⟨k, hk, rfl, hbel⟩ := hrel
 have c0 := (hbel.cell (p := ⟨D, 0, none⟩) hDC).trans (AD.1 0 _ rfl)
 by_cases hlt : k < R.length
 ·have hki : (k : Int) < R.length := by omega
  obtain ⟨g, off, p, q, cc, hv, hg, c1, c2, c3, c4⟩ : ∃ g off p q cc, Value.slice vo R.length vc = .slice (some ⟨g, off, none⟩) R.length cc ∧ g < wc.heap.size ∧ wc.cell? ⟨g, off + k * 2, none⟩ = some p ∧ StrRow wc p (R.getD k pt0).ag ∧ wc.cell? ⟨g, off + k * 2 + 1, none⟩ = some q ∧ LineRow wc q (R.getD k pt0).ln := by
   rcases HPC.out with ⟨h, _⟩ | ⟨_, g, off, cc, h1, h2, h3⟩
   ·rw [h] at hlt; simp at hlt
   obtain ⟨p, q, q1, q2, q3, q4⟩ := h3 k hlt
   exact ⟨g, off, p, q, _, h1, h2, q1, q2, q3, q4⟩
  cases hv
  obtain ⟨_, ha1, hl1⟩ := part_lens HN.out hlt
  have HOA : Hid (∀ j, j < (R.getD k pt0).ag.length → agL ((R.getD k pt0).ag.getD j ByteArray.empty).data.toList = ((R.getD k pt0).ag.getD j ByteArray.empty).data.toList) := fun j hj => ok_ag HOK.out hlt hj
  have HOL : Hid (∀ j, j < (R.getD k pt0).ln.length → lnOk ((R.getD k pt0).ln.getD j lv0)) := fun j hj => ok_ln HOK.out hlt hj
  have HAZ : Hid (∀ j, j < (R.getD k pt0).ag.length → ((R.getD k pt0).ag.getD j ByteArray.empty).size ≤ 1048576) := fun j => ag_size HN.out hlt
  have HLZ : Hid (∀ j, j < (R.getD k pt0).ln.length → ((R.getD k pt0).ln.getD j lv0).pa.size ≤ 1048576) := fun j => ln_size HN.out hlt
  generalize R.getD k pt0 = x at *
  obtain ⟨pa, pc, hpp⟩ := c2.slice
  obtain ⟨qa, qc, hqq⟩ := c4.slice
  subst hpp hqq
  have HC1 : Hid (wc.cell? ⟨g, off + k * 2, none⟩ = some (.slice pa x.ag.length pc)) := c1
  have HC3 : Hid (wc.cell? ⟨g, off + k * 2 + 1, none⟩ = some (.slice qa x.ln.length qc)) := c3
  have HSR : Hid (StrRow wc (.slice pa x.ag.length pc) x.ag) := c2
  have HLR : Hid (LineRow wc (.slice qa x.ln.length qc) x.ln) := c4
  clear c1 c2 c3 c4
  go_wp2_with fail
  clear c0
  go_loopw [7] (fun i wr => ∃ j : Nat, j ≤ x.ln.length ∧ i = .int .i64 j ∧ Below wc.heap.size wc wr) (fun i _ => x.ln.length - (intOf i).toNat)
  case atStart => exact ⟨0, Nat.zero_le _, rfl, hbel⟩
  clear hbel
  obtain ⟨j, hj, rfl, hbel⟩ := hrel
  have c0 := (hbel.cell (p := ⟨D, 0, none⟩) hDC).trans (AD.1 0 _ rfl)
  have c3 := (hbel.cell (p := ⟨g, off + k * 2 + 1, none⟩) hg).trans HC3.out
  by_cases hjl : j < x.ln.length
  ·have hji : (j : Int) < x.ln.length := by omega
   obtain ⟨g', off', c2, hv, hg', ca⟩ : ∃ g' off' cc, Value.slice qa x.ln.length qc = .slice (some ⟨g', off', none⟩) x.ln.length cc ∧ g' < wc.heap.size ∧ wc.cell? ⟨g', off' + j * 2 + 1, none⟩ = some (.string (x.ln.getD j lv0).pa) := by
    rcases HLR.out with ⟨h, _⟩ | ⟨_, g', off', cc, h1, h2, h3⟩
    ·rw [h] at hjl; simp at hjl
    exact ⟨g', off', _, h1, h2, (h3 j hjl).2⟩
   cases hv
   have c4 := (hbel.cell (p := ⟨g', off' + j * 2 + 1, none⟩) hg').trans ca
   have hok := HOL.out j hjl
   have hlz := HLZ.out j hjl
   have CPA : Hid (CB 10 #[.string (x.ln.getD j lv0).pa] wr (.string (x.ln.getD j lv0).pa)) := (implPatternOf _ wr (HM2.out _ (BC.trans (hbel.mono BC.size))) (by omega)).mono fun e w' h => ⟨by
    rw [h.1, show plL 2 (x.ln.getD j lv0).pa.data.toList = (x.ln.getD j lv0).pa.data.toList from hok.2.1, arr_id], h.2⟩
   have he := empty_no (show 0 < (x.ln.getD j lv0).pa.size from by have := hok.1; simpa using this)
   clear hok ca hlz
   generalize (x.ln.getD j lv0).pa = y at *
   go_wp2_with fail
   refine CPA.out.mono ?_
   rintro e wp ⟨rfl, bp⟩
   have BP := hbel.trans (bp.mono hbel.size)
   clear c0 c3 c4 CPA bp hbel
   go_wp2_with fail
   go_roundw
   case rel => exact ⟨j + 1, by omega, by go_num, BP⟩
   case measure => simp [intOf] <;> omega
  have hji : ¬ (j : Int) < x.ln.length := by omega
  clear HOL HLZ
  go_wp2_with fail
  clear c0 c3
  go_loopw [9] (fun i wr => ∃ j : Nat, j ≤ x.ag.length ∧ i = .int .i64 j ∧ Below wc.heap.size wc wr) (fun i _ => x.ag.length - (intOf i).toNat)
  case atStart => exact ⟨0, Nat.zero_le _, rfl, hbel⟩
  clear hbel hj hjl hji
  obtain ⟨j, hj, rfl, hbel⟩ := hrel
  have c0 := (hbel.cell (p := ⟨D, 0, none⟩) hDC).trans (AD.1 0 _ rfl)
  have c1 := (hbel.cell (p := ⟨g, off + k * 2, none⟩) hg).trans HC1.out
  by_cases hjl : j < x.ag.length
  ·have hji : (j : Int) < x.ag.length := by omega
   obtain ⟨g', off', c2, hv, hg', ca⟩ : ∃ g' off' cc, Value.slice pa x.ag.length pc = .slice (some ⟨g', off', none⟩) x.ag.length cc ∧ g' < wc.heap.size ∧ wc.cell? ⟨g', off' + j, none⟩ = some (.string (x.ag.getD j ByteArray.empty)) := by
    rcases HSR.out with ⟨h, _⟩ | ⟨_, g', off', cc, h1, h2, h3⟩
    ·rw [h] at hjl; simp at hjl
    exact ⟨g', off', _, h1, h2, h3 j hjl⟩
   cases hv
   have hoa := HOA.out j hjl
   have haz := HAZ.out j hjl
   have CAG : Hid (∀ W, CB 11 #[.string (x.ag.getD j ByteArray.empty)] W (.string (x.ag.getD j ByteArray.empty))) := fun W => (implAgentOf _ W haz).mono fun e w' h => ⟨by rw [h.1, hoa, arr_id], h.2⟩
   clear hoa haz
   generalize x.ag.getD j ByteArray.empty = y at *
   have HSA : Hid (∀ W, Below wc.heap.size wc W → W.cell? ⟨D, 0, none⟩ = some (.slice (some ⟨g, off, none⟩) R.length vc) ∧ W.cell? ⟨g, off + k * 2, none⟩ = some (.slice (some ⟨g', off', none⟩) x.ag.length pc) ∧ W.cell? ⟨g', off' + j, none⟩ = some (.string y)) := fun W hW => ⟨(hW.cell (p := ⟨D, 0, none⟩) hDC).trans (AD.1 0 _ rfl), (hW.cell (p := ⟨g, off + k * 2, none⟩) hg).trans HC1.out, (hW.cell (p := ⟨g', off' + j, none⟩) hg').trans ca⟩
   have HS0 : Hid (wr.cell? ⟨D, 0, none⟩ = some (.slice (some ⟨g, off, none⟩) R.length vc) ∧ wr.cell? ⟨g, off + k * 2, none⟩ = some (.slice (some ⟨g', off', none⟩) x.ag.length pc) ∧ wr.cell? ⟨g', off' + j, none⟩ = some (.string y)) := HSA.out wr hbel
   clear ca
   go_upto_region 20 with fail
   clear c0 c1
   refine wp_region_held_drew (S := fun W => W.cell? ⟨D, 0, none⟩ = some (.slice (some ⟨g, off, none⟩) R.length vc) ∧ W.cell? ⟨g, off + k * 2, none⟩ = some (.slice (some ⟨g', off', none⟩) x.ag.length pc) ∧ W.cell? ⟨g', off' + j, none⟩ = some (.string y)) (by kernel_rfl) HS0.out (fun h0 => ?_)
   refine wpAnyH_take (i := 0) (v := ?_) rfl (by kernel_rfl) (by kernel_rfl) (by kernel_rfl) (fun _ _ _ h => h) (Or.inl ⟨by rfl, fun W hW => ?_⟩) h0 ?_
   rotate_left
   ·clear hW
    go_simp
    try with_reducible rfl
   simp only [Act.put, List.getElem_toArray, List.getElem_cons_zero, List.setIfInBounds_toArray, List.set_cons_zero, List.set_cons_succ]
   refine wpAnyH_take (i := 1) (v := (.slice (some ⟨g, off, none⟩) R.length vc)) rfl (by kernel_rfl) (by kernel_rfl) (by kernel_rfl) (fun _ _ _ h => h) (Or.inl ⟨by rfl, fun W hW => ?_⟩) h0 ?_
   ·obtain ⟨q1, q2, q3⟩ := hW
    go_simp
   simp only [Act.put, List.getElem_toArray, List.getElem_cons_zero, List.getElem_cons_succ, List.setIfInBounds_toArray, List.set_cons_zero, List.set_cons_succ]
   refine wpAnyH_take (i := 2) (v := ?_) rfl (by kernel_rfl) (by kernel_rfl) (by kernel_rfl) (fun _ _ _ h => h) (Or.inl ⟨by rfl, fun W hW => ?_⟩) h0 ?_
   rotate_left
   ·clear hW
    go_simp
    try with_reducible rfl
   simp only [Act.put, List.getElem_toArray, List.getElem_cons_zero, List.getElem_cons_succ, List.setIfInBounds_toArray, List.set_cons_zero, List.set_cons_succ]
   refine wpAnyH_take (i := 3) (v := (.pointer (some ⟨g, off + k * 2, none⟩))) rfl (by kernel_rfl) (by kernel_rfl) (by kernel_rfl) (fun _ _ _ h => h) (Or.inl ⟨by rfl, fun W hW => ?_⟩) h0 ?_
   ·clear hW
    go_simp
    skip
   simp only [Act.put, List.getElem_toArray, List.getElem_cons_zero, List.getElem_cons_succ, List.setIfInBounds_toArray, List.set_cons_zero, List.set_cons_succ]
   refine wpAnyH_take (i := 4) (v := (.pointer (some ⟨g, off + k * 2, none⟩))) rfl (by kernel_rfl) (by kernel_rfl) (by kernel_rfl) (fun _ _ _ h => h) (Or.inl ⟨by rfl, fun W hW => ?_⟩) h0 ?_
   ·clear hW
    go_simp
    skip
   simp only [Act.put, List.getElem_toArray, List.getElem_cons_zero, List.getElem_cons_succ, List.setIfInBounds_toArray, List.set_cons_zero, List.set_cons_succ]
   refine wpAnyH_take (i := 5) (v := (.slice (some ⟨g', off', none⟩) x.ag.length pc)) rfl (by kernel_rfl) (by kernel_rfl) (by kernel_rfl) (fun _ _ _ h => h) (Or.inl ⟨by rfl, fun W hW => ?_⟩) h0 ?_
   ·obtain ⟨q1, q2, q3⟩ := hW
    go_simp
   simp only [Act.put, List.getElem_toArray, List.getElem_cons_zero, List.getElem_cons_succ, List.setIfInBounds_toArray, List.set_cons_zero, List.set_cons_succ]
   refine wpAnyH_take (i := 6) (v := ?_) rfl (by kernel_rfl) (by kernel_rfl) (by kernel_rfl) (fun _ _ _ h => h) (Or.inl ⟨by rfl, fun W hW => ?_⟩) h0 ?_
   rotate_left
   ·clear hW
    go_simp
    try with_reducible rfl
   simp only [Act.put, List.getElem_toArray, List.getElem_cons_zero, List.getElem_cons_succ, List.setIfInBounds_toArray, List.set_cons_zero, List.set_cons_succ]
   refine wpAnyH_take (i := 7) (v := (.pointer (some ⟨g', off' + j, none⟩))) rfl (by kernel_rfl) (by kernel_rfl) (by kernel_rfl) (fun _ _ _ h => h) (Or.inl ⟨by rfl, fun W hW => ?_⟩) h0 ?_
   ·clear hW
    go_simp
    skip
   simp only [Act.put, List.getElem_toArray, List.getElem_cons_zero, List.getElem_cons_succ, List.setIfInBounds_toArray, List.set_cons_zero, List.set_cons_succ]
   refine wpAnyH_take (i := 8) (v := (.string y)) rfl (by kernel_rfl) (by kernel_rfl) (by kernel_rfl) (fun _ _ _ h => h) (Or.inl ⟨by rfl, fun W hW => ?_⟩) h0 ?_
   ·obtain ⟨q1, q2, q3⟩ := hW
    go_simp
   simp only [Act.put, List.getElem_toArray, List.getElem_cons_zero, List.getElem_cons_succ, List.setIfInBounds_toArray, List.set_cons_zero, List.set_cons_succ]
   refine wpAnyH_take (i := 10) (v := ?_) rfl (by kernel_rfl) (by kernel_rfl) (by kernel_rfl) (fun _ _ _ h => h) (Or.inl ⟨by rfl, fun W hW => ?_⟩) h0 ?_
   rotate_left
   ·clear hW
    go_simp
    try with_reducible rfl
   simp only [Act.put, List.getElem_toArray, List.getElem_cons_zero, List.getElem_cons_succ, List.setIfInBounds_toArray, List.set_cons_zero, List.set_cons_succ]
   refine wpAnyH_take (i := 11) (v := (.slice (some ⟨g, off, none⟩) R.length vc)) rfl (by kernel_rfl) (by kernel_rfl) (by kernel_rfl) (fun _ _ _ h => h) (Or.inl ⟨by rfl, fun W hW => ?_⟩) h0 ?_
   ·obtain ⟨q1, q2, q3⟩ := hW
    go_simp
   simp only [Act.put, List.getElem_toArray, List.getElem_cons_zero, List.getElem_cons_succ, List.setIfInBounds_toArray, List.set_cons_zero, List.set_cons_succ]
   refine wpAnyH_take (i := 12) (v := ?_) rfl (by kernel_rfl) (by kernel_rfl) (by kernel_rfl) (fun _ _ _ h => h) (Or.inl ⟨by rfl, fun W hW => ?_⟩) h0 ?_
   rotate_left
   ·clear hW
    go_simp
    try with_reducible rfl
   simp only [Act.put, List.getElem_toArray, List.getElem_cons_zero, List.getElem_cons_succ, List.setIfInBounds_toArray, List.set_cons_zero, List.set_cons_succ]
   refine wpAnyH_take (i := 13) (v := (.pointer (some ⟨g, off + k * 2, none⟩))) rfl (by kernel_rfl) (by kernel_rfl) (by kernel_rfl) (fun _ _ _ h => h) (Or.inl ⟨by rfl, fun W hW => ?_⟩) h0 ?_
   ·clear hW
    go_simp
    skip
   simp only [Act.put, List.getElem_toArray, List.getElem_cons_zero, List.getElem_cons_succ, List.setIfInBounds_toArray, List.set_cons_zero, List.set_cons_succ]
   refine wpAnyH_take (i := 14) (v := (.pointer (some ⟨g, off + k * 2, none⟩))) rfl (by kernel_rfl) (by kernel_rfl) (by kernel_rfl) (fun _ _ _ h => h) (Or.inl ⟨by rfl, fun W hW => ?_⟩) h0 ?_
   ·clear hW
    go_simp
    skip
   simp only [Act.put, List.getElem_toArray, List.getElem_cons_zero, List.getElem_cons_succ, List.setIfInBounds_toArray, List.set_cons_zero, List.set_cons_succ]
   refine wpAnyH_take (i := 15) (v := (.slice (some ⟨g', off', none⟩) x.ag.length pc)) rfl (by kernel_rfl) (by kernel_rfl) (by kernel_rfl) (fun _ _ _ h => h) (Or.inl ⟨by rfl, fun W hW => ?_⟩) h0 ?_
   ·obtain ⟨q1, q2, q3⟩ := hW
    go_simp
   simp only [Act.put, List.getElem_toArray, List.getElem_cons_zero, List.getElem_cons_succ, List.setIfInBounds_toArray, List.set_cons_zero, List.set_cons_succ]
   refine wpAnyH_take (i := 16) (v := ?_) rfl (by kernel_rfl) (by kernel_rfl) (by kernel_rfl) (fun _ _ _ h => h) (Or.inl ⟨by rfl, fun W hW => ?_⟩) h0 ?_
   rotate_left
   ·clear hW
    go_simp
    try with_reducible rfl
   simp only [Act.put, List.getElem_toArray, List.getElem_cons_zero, List.getElem_cons_succ, List.setIfInBounds_toArray, List.set_cons_zero, List.set_cons_succ]
   refine wpAnyH_take (i := 17) (v := (.pointer (some ⟨g', off' + j, none⟩))) rfl (by kernel_rfl) (by kernel_rfl) (by kernel_rfl) (fun _ _ _ h => h) (Or.inl ⟨by rfl, fun W hW => ?_⟩) h0 ?_
   ·clear hW
    go_simp
    skip
   simp only [Act.put, List.getElem_toArray, List.getElem_cons_zero, List.getElem_cons_succ, List.setIfInBounds_toArray, List.set_cons_zero, List.set_cons_succ]
   refine wpAnyH_take (i := 18) (v := (.string y)) rfl (by kernel_rfl) (by kernel_rfl) (by kernel_rfl) (fun _ _ _ h => h) (Or.inl ⟨by rfl, fun W hW => ?_⟩) h0 ?_
   ·obtain ⟨q1, q2, q3⟩ := hW
    go_simp
   simp only [Act.put, List.getElem_toArray, List.getElem_cons_zero, List.getElem_cons_succ, List.setIfInBounds_toArray, List.set_cons_zero, List.set_cons_succ]
   refine wpAnyH_ready (rs := [9]) (by kernel_rfl) (by simp) (AllReadyH.cons rfl (fun K hK => ?_) AllReadyH.nil)
   go_simp
   go_wp2_with (go_at_call 11; refine (CAG.out _).mono ?_; rintro e wq ⟨rfl, hbq⟩)
   have bq3 : Below wr.heap.size wr wq := (Below.refl wr.heap.size wr).drew.trans hbq
   have BQ := hbel.trans (bq3.mono hbel.size)
   refine hK.out _ _ (HSA.out _ BQ) (fun h1 => ?_)
   clear hK K hbq
   refine wpAnyH_take (i := 19) (v := ?_) rfl (by kernel_rfl) (by kernel_rfl) (by kernel_rfl) (fun _ _ _ h => h) (Or.inl ⟨by rfl, fun W hW => ?_⟩) h1 ?_
   rotate_left
   ·clear hW
    go_simp
    try with_reducible rfl
   simp only [Act.put, List.getElem_toArray, List.getElem_cons_zero, List.getElem_cons_succ, List.setIfInBounds_toArray, List.set_cons_zero, List.set_cons_succ]
   refine wpAnyH_done (by kernel_rfl) ?_ _
   clear HS0 HSA CAG h0 h1 bq3 hbel
   go_wp2_with fail
   go_roundw
   case rel => exact ⟨j + 1, by omega, by go_num, BQ⟩
   case measure => simp [intOf] <;> omega
  have hji : ¬ (j : Int) < x.ag.length := by omega
  go_wp2_with fail
  go_roundw
  case rel => exact ⟨k + 1, by omega, by go_num, hbel⟩
  case measure => simp [intOf] <;> omega
 have hki : ¬ (k : Int) < R.length := by omega
 have HSA : Hid (∀ W, Below wc.heap.size wc W → W.cell? ⟨D, 0, none⟩ = some (.slice vo R.length vc) ∧ True ∧ True) := fun W hW => ⟨(hW.cell (p := ⟨D, 0, none⟩) hDC).trans (AD.1 0 _ rfl), trivial, trivial⟩
 have HS0 : Hid (wr.cell? ⟨D, 0, none⟩ = some (.slice vo R.length vc) ∧ True ∧ True) := HSA.out wr hbel
 have HBD : Hid (Below w.heap.size w wr.drew) := (BC.trans (hbel.mono BC.size)).drew
 go_upto_region 22 with fail
 clear c0
 refine wp_region_held_drew (S := fun W => W.cell? ⟨D, 0, none⟩ = some (.slice vo R.length vc) ∧ True ∧ True) (by kernel_rfl) HS0.out (fun h0 => ?_)
 refine wpAnyH_take (i := 0) (v := ?_) rfl (by kernel_rfl) (by kernel_rfl) (by kernel_rfl) (fun _ _ _ h => h) (Or.inl ⟨by rfl, fun W hW => ?_⟩) h0 ?_
 rotate_left
 ·clear hW
  go_simp
  try with_reducible rfl
 simp only [Act.put, List.getElem_toArray, List.getElem_cons_zero, List.setIfInBounds_toArray, List.set_cons_zero, List.set_cons_succ]
 refine wpAnyH_take (i := 1) (v := (.slice vo R.length vc)) rfl (by kernel_rfl) (by kernel_rfl) (by kernel_rfl) (fun _ _ _ h => h) (Or.inl ⟨by rfl, fun W hW => ?_⟩) h0 ?_
 ·obtain ⟨q1, q2, q3⟩ := hW
  go_simp
 simp only [Act.put, List.getElem_toArray, List.getElem_cons_zero, List.getElem_cons_succ, List.setIfInBounds_toArray, List.set_cons_zero, List.set_cons_succ]
 refine wpAnyH_take (i := 2) (v := ?_) rfl (by kernel_rfl) (by kernel_rfl) (by kernel_rfl) (fun _ _ _ h => h) (Or.inl ⟨by rfl, fun W hW => ?_⟩) h0 ?_
 rotate_left
 ·clear hW
  go_simp
  try with_reducible rfl
 simp only [Act.put, List.getElem_toArray, List.getElem_cons_zero, List.getElem_cons_succ, List.setIfInBounds_toArray, List.set_cons_zero, List.set_cons_succ]
 refine wpAnyH_take (i := 3) (v := ?_) rfl (by kernel_rfl) (by kernel_rfl) (by kernel_rfl) (fun _ _ _ h => h) (Or.inl ⟨by rfl, fun W hW => ?_⟩) h0 ?_
 rotate_left
 ·clear hW
  go_simp
  try with_reducible rfl
 simp only [Act.put, List.getElem_toArray, List.getElem_cons_zero, List.getElem_cons_succ, List.setIfInBounds_toArray, List.set_cons_zero, List.set_cons_succ]
 refine wpAnyH_ready (rs := [4]) (by kernel_rfl) (by simp) (AllReadyH.cons rfl (fun K hK => ?_) AllReadyH.nil)
 go_simp
 go_wp2_with (go_at_call 8; refine (CD.out _ HBD.out).mono ?_; rintro e wq ⟨rfl, _, hbq⟩)
 have bq3 : Below wr.heap.size wr wq := (Below.refl wr.heap.size wr).drew.trans hbq
 have BQ := hbel.trans (bq3.mono hbel.size)
 refine hK.out _ _ (HSA.out _ BQ) (fun h1 => ?_)
 clear hK K hbq
 refine wpAnyH_ready (rs := [5]) (by kernel_rfl) (by simp) (AllReadyH.cons rfl (fun K hK => ?_) AllReadyH.nil)
 go_simp
 go_wp2_with (go_at_call 12; refine (CSP.out _).mono ?_; rintro e ws ⟨so, sc, rfl, hbs⟩)
 have BS := BQ.trans (hbs.mono BQ.size)
 refine hK.out _ _ (HSA.out _ BS) (fun h2 => ?_)
 clear hK K hbs
 have hfld := fld_rob so R.length sc
 refine wpAnyH_take (i := 6) (v := (.slice so R.length sc)) rfl (by kernel_rfl) (by kernel_rfl) (by kernel_rfl) (fun _ _ _ h => h) (Or.inl ⟨by rfl, fun W hW => ?_⟩) h2 ?_
 ·clear hW
  go_simp
  skip
 simp only [Act.put, List.getElem_toArray, List.getElem_cons_zero, List.getElem_cons_succ, List.setIfInBounds_toArray, List.set_cons_zero, List.set_cons_succ]
 refine wpAnyH_take (i := 7) (v := (.int .i64 (R.length : Int))) rfl (by kernel_rfl) (by kernel_rfl) (by kernel_rfl) (fun _ _ _ h => h) (Or.inl ⟨by rfl, fun W hW => ?_⟩) h2 ?_
 ·clear hW
  go_simp
  skip
 simp only [Act.put, List.getElem_toArray, List.getElem_cons_zero, List.getElem_cons_succ, List.setIfInBounds_toArray, List.set_cons_zero, List.set_cons_succ]
 refine wpAnyH_take (i := 8) (v := (.bool true)) rfl (by kernel_rfl) (by kernel_rfl) (by kernel_rfl) (fun _ _ _ h => h) (Or.inl ⟨by rfl, fun W hW => ?_⟩) h2 ?_
 ·clear hW
  go_simp
  skip
 simp only [Act.put, List.getElem_toArray, List.getElem_cons_zero, List.getElem_cons_succ, List.setIfInBounds_toArray, List.set_cons_zero, List.set_cons_succ]
 refine wpAnyH_take (i := 9) (v := ?_) rfl (by kernel_rfl) (by kernel_rfl) (by kernel_rfl) (fun _ _ _ h => h) (Or.inl ⟨by rfl, fun W hW => ?_⟩) h2 ?_
 rotate_left
 ·clear hW
  go_simp
  try with_reducible rfl
 simp only [Act.put, List.getElem_toArray, List.getElem_cons_zero, List.getElem_cons_succ, List.setIfInBounds_toArray, List.set_cons_zero, List.set_cons_succ]
 refine wpAnyH_done (by kernel_rfl) ?_ _
 have BF := BC.trans (BS.mono BC.size)
 clear HS0 HSA h0 h1 h2 bq3 hbel BQ BS
 go_wp2_with fail
 go_ret
 exact ⟨rfl, BF⟩
end Go.Proofs.YtjdnemjcjodboaaDoor
