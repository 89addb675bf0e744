/- Contracts of the code's readRule and ParseRules. -/
import Derived.Test.YtijliddchoehhaaDoorRows
import Derived.Test.YtijliddchoehhaaDoorRuleParse
import Derived.Test.YtijliddchoehhaaDoorRuleOwn
import Derived.Test.YtijliddchoehhaaDoorRulesImpl2
import Derived.Test.YtijliddchoehhaaDoorAppAt
import Derived.Test.YtijliddchoehhaaDoorTrimWalk
namespace Go.Proofs.YtijliddchoehhaaDoor
open Go.RowKit
set_option linter.unusedVariables false

theorem cut_mark (t : ByteArray) : (⟨(Lib.trimPrefix t.data.toList [33]).toArray⟩ : ByteArray) = (if t.data.toList.head? = some 33 then t.extract 1 t.size else t) ∧ Lib.hasPrefix t.data.toList [33] = decide (t.data.toList.head? = some 33) := by
  unfold Lib.trimPrefix Lib.hasPrefix
  match hl : t.data.toList with
  | [] => exact ⟨by simp; exact ba_eq.2 (by rw [hl]), by simp⟩
  | c :: r =>
    by_cases h : c = 33
    · subst h
      refine ⟨?_, by simp⟩
      simp
      refine ba_eq.2 ?_
      rw [extract_list, hl]
      have : t.data.toList.length = t.size := by simp
      rw [hl] at this
      simp at this
      simp
      rw [← this]
      simp
    · refine ⟨?_, ?_⟩
      · simp [h, Ne.symm h]
        exact ba_eq.2 (by rw [hl])
      · have hh : ((33 : UInt8) == c) = false := beq_eq_false_iff_ne.2 (Ne.symm h)
        simp [h, List.isPrefixOf, hh]
set_option maxHeartbeats 2000000 in
theorem implReadRule (t : ByteArray) (w : World) (hs : t.size ≤ 1048576) :
    Calls Tryd.prog 30 #[.string t] w fun e w' => ∃ ao cap, e = .returned (.agg #[.slice ao (readR t).ps.length cap, .bool (readR t).ex]) ∧ w'.ownsRow w.heap.size 9 1 (.slice ao (readR t).ps.length cap) (readR t).ps.length (scells (readR t).ps) ∧ Below w.heap.size w w' := by
  obtain ⟨u, hu⟩ : ∃ u : ByteArray, u = (if t.data.toList.head? = some 33 then t.extract 1 t.size else t) := ⟨_, rfl⟩
  obtain ⟨b, hb⟩ : ∃ b : Bool, b = decide (t.data.toList.head? = some 33) := ⟨_, rfl⟩
  have hcm := cut_mark t
  rw [← hu, ← hb] at hcm
  have hus : u.size ≤ 1048576 := by
    rw [hu]
    split
    · rw [ByteArray.size_extract]; omega
    · exact hs
  have hrp : (readR t).ps = partsL u := by
    rw [hu]
    unfold readR
    split <;> rfl
  have hre : (readR t).ex = b := by
    rw [hb]
    unfold readR
    split <;> simp [*]
  have CP : Hid (∀ W, Calls Tryd.prog 54 #[.string t, .string ⟨#[33]⟩] W fun e w' => e = .returned (.tuple #[.string u, .bool b]) ∧ W = w') := fun W =>
    (Tryd.strings_CutPrefix t ⟨#[33]⟩ W).mono fun e w' h => ⟨by rw [h.1, show (⟨#[33]⟩ : ByteArray).data.toList = [33] from rfl, hcm.1, hcm.2], h.2.symm⟩
  have CQ : Hid (∀ W, Calls Tryd.prog 55 #[.string u] W fun e w' => ∃ ao cap, e = .returned (.slice ao (partsL u).length cap) ∧ w'.ownsRow W.heap.size 9 1 (.slice ao (partsL u).length cap) (partsL u).length (scells (partsL u)) ∧ Below W.heap.size W w') := fun W => (implParts u W hus).mono fun e w' ⟨v, h1, h2, h3⟩ => by
    have hr := StrRow.of_own h2
    obtain ⟨ao, cap, rfl⟩ := hr.slice
    exact ⟨ao, cap, h1, h2, h3⟩
  rw [hrp, hre]
  clear hrp hre hcm hu hb hus
  generalize partsL u = ps at *
  obtain ⟨O, hO⟩ : ∃ O, O = w.alloc (.cells #[.slice none 0 0, .bool false] 32) := ⟨_, rfl⟩
  have bO : Below w.heap.size w O := by rw [hO]; exact (Below.refl _ _).alloc (Nat.le_refl _) _
  have AO : BAt O w.heap.size [.slice none 0 0, .bool false] := by rw [hO]; exact BAt.new w #[.slice none 0 0, .bool false] _
  have hzO : w.heap.size < O.heap.size := by rw [hO]; simp
  go_enter Tryd.func30, Tryd.ntmps30
  go_upto_region 1 with fail
  rw [← hO]
  clear hO
  go_wp2_with fail
  refine (CP.out _).mono ?_
  rintro e w' ⟨rfl, rfl⟩
  go_wp2_with fail
  refine (CQ.out _).mono ?_
  rintro e w1 ⟨ao, cap, rfl, o1, b1⟩
  have A1 := AO.below b1
  have O1 := hidden o1
  have B1 := bO.trans (b1.mono bO.size)
  clear CP CQ AO b1 bO o1
  have r0 := A1.1 0 _ rfl
  have r1 := A1.1 1 _ rfl
  have f1 := A1.2.1
  go_wp2_with fail
  refine bodyPost_ret (rule_result1 rfl _ _ w.heap.size (.slice ao ps.length cap) (.bool b) rfl ((A1.set 0 (by simp) _).set 1 (by simp) _)) rfl ⟨_, _, rfl, ?_, ?_⟩
  · exact own_wide0 (own_put (own_put O1.out hzO _ _) hzO _ _) (by omega)
  · exact (B1.setCell (by simp) _).setCell (by simp) _
/-- 'append' of one rule, which lies in a new block of its own, to rules that the call owns. -/
theorem wpList_append_rule {P : Program} (wr : World) {ops : Array Oper} {rest : List Oper} {o : Oper} {a : Act} {Q : Exit → Act → World → Prop}
    (hg : o.guard = none) (s x : Operand) (t : TypeId) (hop : o.op = .call { callee := .builtin .append, args := #[s, x], argTypes := #[t, t] })
    (B : Nat) (e : TypeId) (z : Value) (bytes : Nat) (ht : P.underlying t = some (.slice e)) (hinfo : (P.info? e).map (fun i => (i.zero, i.size, i.bytes)) = some (some z, 2, bytes)) (hz : z.cells.size = 2)
    (v : Value) (n : Nat) (xs : List Value) (hs : a.eval s = v) (hown : wr.ownsRow B e 2 v n xs)
    (p q : Value) (hx : a.eval x = .slice (some ⟨wr.heap.size, 0, none⟩) 1 1) (h1 : p.oneCell' = true) (h2 : q.oneCell' = true)
    (hroom : (n + 1) * bytes ≤ 140737488355328) (hroom' : n + 1 ≤ maxLen) (hB : B ≤ wr.heap.size)
    (hK : ∀ v' w1, w1.ownsRow B e 2 v' (n + 1) (xs ++ [p, q]) → wr.grownBy w1 v.ownBlock → (v'.ownBlock = v.ownBlock ∨ v'.ownBlock = some (wr.heap.size + 1)) → wpList P ops Q rest (a.put o.dst v') w1) :
    wpList P ops Q (o :: rest) a (wr.alloc (.cells #[p, q] e)) := by
  obtain ⟨i0, hi, hz0, hz1, hz2⟩ := info_parts hinfo
  refine wpList_append_own_at (wr.alloc (.cells #[p, q] e)) hg s x t hop B e i0 z 2 bytes ht hi hz0 hz1 hz2 hz (by decide) v n xs hs (hown.alloc _) ⟨wr.heap.size, 0, none⟩ 1 1 [p, q] hx (by simp) ?_ ?_ hroom' hroom (by simp; omega) ?_
  · intro j u hj
    rw [Addr.add_lit, Nat.zero_add]
    rw [World.cell?_alloc_at _ _ _ _ rfl]
    simpa using hj
  · intro u hu
    simp at hu
    rcases hu with rfl | rfl
    · exact h1
    · exact h2
  · intro v' w1 h1 h2 _ h4
    refine hK v' w1 h1 ⟨h2.os, h2.tape, h2.output, ?_, fun k hk hne => (h2.block k (by simp; omega) hne).trans (Below.heap_alloc wr _ k hk)⟩ (by simpa using h4)
    have := h2.size
    simp at this
    omega
theorem getD_snoc_lt {l : List RV} {r : RV} {i : Nat} (h : i < l.length) : (l ++ [r]).getD i rv0 = l.getD i rv0 := by
  rw [List.getD_eq_getElem?_getD, List.getD_eq_getElem?_getD, List.getElem?_append_left h]
theorem getD_snoc_eq {l : List RV} {r : RV} : (l ++ [r]).getD l.length rv0 = r := by
  rw [List.getD_eq_getElem?_getD, List.getElem?_append_right (Nat.le_refl _)]; simp
/-- A rule more, whose texts lie above all that was there. -/
theorem RuleOwn.snoc {w2 W w1 : World} {base : Nat} {v v' p : Value} {acc : List RV} {r : RV} {vs : List Value} {P : Nat → Value}
    (h1 : w2.ownsRow base 32 2 v acc.length vs)
    (h2 : ∀ i, i < acc.length → vs[i * 2]? = some (P i) ∧ vs[i * 2 + 1]? = some (.bool (acc.getD i rv0).ex) ∧ w2.ownsRow base 9 1 (P i) (acc.getD i rv0).ps.length (scells (acc.getD i rv0).ps) ∧ apart (P i) v ∧ ∀ j, j < acc.length → j ≠ i → apart (P i) (P j))
    (hb : Below w2.heap.size w2 W) (hbase : base ≤ w2.heap.size) (hp : W.ownsRow w2.heap.size 9 1 p r.ps.length (scells r.ps))
    (ho : w1.ownsRow base 32 2 v' (acc.length + 1) (vs ++ [p, .bool r.ex])) (hg : W.grownBy w1 v.ownBlock) (hat : v'.ownBlock = v.ownBlock ∨ v'.ownBlock = some (W.heap.size + 1)) : RuleOwn w1 base v' (acc ++ [r]) := by
  have hvl : vs.length = acc.length * 2 := h1.1
  have pge : ∀ b, p.ownBlock = some b → w2.heap.size ≤ b ∧ b < W.heap.size := fun b e => hp.lt b e
  have vlt : ∀ b, v.ownBlock = some b → b < w2.heap.size := fun b e => (h1.lt b e).2
  have Plt : ∀ i, i < acc.length → ∀ b, (P i).ownBlock = some b → b < w2.heap.size := fun i hi b e => ((h2 i hi).2.2.1.lt b e).2
  have hzW := hb.size
  have apv : apart p v := fun b e e2 => by have := pge b e; have := vlt b e2; omega
  have new : ∀ q : Value, apart q v → (∀ b, q.ownBlock = some b → b < W.heap.size) → apart q v' := fun q ha hlt b e => by
    rcases hat with h | h
    · rw [h]; exact ha b e
    · rw [h]; intro e2; cases e2; have := hlt _ e; omega
  refine ⟨vs ++ [p, .bool r.ex], fun i => if i < acc.length then P i else p, by rw [List.length_append]; exact ho, fun i hi => ?_⟩
  rw [List.length_append] at hi
  simp at hi
  by_cases hia : i < acc.length
  · obtain ⟨a1, a2, a3, a4, a5⟩ := h2 i hia
    simp only [hia, if_true]
    rw [getD_snoc_lt hia]
    refine ⟨by rw [List.getElem?_append_left (by omega)]; exact a1, by rw [List.getElem?_append_left (by omega)]; exact a2, (own_below a3 hb).kept hg (by
      cases hv : (P i).ownBlock with
      | none => exact .inl rfl
      | some b => exact .inr fun e => a4 b hv e.symm), new _ a4 (fun b e => by have := Plt i hia b e; omega), fun j hj hne => ?_⟩
    rw [List.length_append] at hj
    simp at hj
    by_cases hja : j < acc.length
    · simp only [hja, if_true]; exact a5 j hja hne
    · simp only [hja, if_false]
      intro b e e2
      have := Plt i hia b e
      have := pge b e2
      omega
  · obtain rfl : i = acc.length := by omega
    simp only [Nat.lt_irrefl, if_false]
    rw [getD_snoc_eq]
    refine ⟨?_, ?_, own_wide0 (hp.kept hg (by
      cases hv : p.ownBlock with
      | none => exact .inl rfl
      | some b => exact .inr fun e => apv b hv e.symm)) hbase, new _ apv (fun b e => (pge b e).2), fun j hj hne => ?_⟩
    · rw [List.getElem?_append_right (by omega), hvl, Nat.sub_self]; rfl
    · rw [List.getElem?_append_right (by omega), hvl, show acc.length * 2 + 1 - acc.length * 2 = 1 by omega]; rfl
    · rw [List.length_append] at hj
      simp at hj
      have hja : j < acc.length := by omega
      simp only [hja, if_true]
      intro b e e2
      have := Plt j hja b e2
      have := pge b e
      omega
theorem RuleOwn.made (w : World) : RuleOwn (w.alloc (.cells #[] 32)) w.heap.size (.slice (some ⟨w.heap.size, 0, none⟩) 0 0) [] :=
  ⟨[], fun _ => undef, World.ownsRow_made w #[] 0 (Nat.le_refl _) (by decide) rfl, fun i hi => absurd hi (Nat.not_lt_zero _)⟩
set_option maxHeartbeats 8000000 in
theorem implParseRules (s : ByteArray) (w : World) (hs : s.size ≤ 1048576) (hT : Lib.Utf8Tabs 1 2 w) :
    Calls Tryd.prog 10 #[.string s] w fun e w' => ∃ v, e = .returned (.tuple #[v, .int .i64 (parseR s).2]) ∧ RuleOwn w' w.heap.size v (parseR s).1 ∧ Below w.heap.size w w' := by
  clear hT
  have bO : Below w.heap.size w (w.alloc (.cells #[] 32)) := (Below.refl _ _).alloc (Nat.le_refl _) _
  have HM : Hid (RuleOwn (w.alloc (.cells #[] 32)) w.heap.size (.slice (some ⟨w.heap.size, 0, none⟩) 0 0) []) := RuleOwn.made w
  have CF : Hid (∀ W, Calls Tryd.prog 26 #[.string s, .int .u8 10] W fun e w' => ∃ v, e = .returned v ∧ w'.ownsRow W.heap.size 9 1 v (fieldsL s 10).length (scells (fieldsL s 10)) ∧ Below W.heap.size W w') := fun W => implFields s 10 W hs
  have HP : Hid (parseF (fieldsL s 10) 0 [] = parseR s) := rfl
  have HSZ : Hid (∀ x ∈ fieldsL s 10, x.size ≤ s.size) := fieldsL_sizes s 10
  have hfl := fields_le s 10
  have hfp := fieldsL_pos s 10
  generalize parseR s = R at HP ⊢
  go_enter Tryd.func10, Tryd.ntmps10
  go_wp2_with fail
  refine (CF.out _).mono ?_
  rintro e w1 ⟨vf, rfl, of, b1⟩
  have B1 : Below w.heap.size w w1 := bO.trans (b1.mono bO.size)
  have HM1 : Hid (RuleOwn w1 w.heap.size (.slice (some ⟨w.heap.size, 0, none⟩) 0 0) []) := HM.out.below b1
  clear CF bO HM b1
  generalize fieldsL s 10 = fs at *
  rcases own_shape of with ⟨h, _⟩ | ⟨_, g, cap, rfl⟩
  · omega
  have hg := (of.lt g rfl).1
  rw [World.size_alloc] at hg
  have hg2 := (of.lt g rfl).2
  have HC0 : Hid (∀ j, j < fs.length → w1.cell? ⟨g, j, none⟩ = some (.string (fs.getD j ByteArray.empty))) := fun j hj => scell_at of j hj
  clear of
  go_wp2_with fail
  go_loopw [4, 13] (fun o i wr => ∃ (k : Nat) (acc : List RV) (ao : Option Addr) (c : Nat), k ≤ fs.length ∧ i = .int .i64 k ∧ o = .slice ao acc.length c ∧ Hid (RuleOwn wr w.heap.size (.slice ao acc.length c) acc) ∧ Hid (parseF (fs.drop k) k acc = R) ∧ Hid (rulesB acc = true) ∧ wr.heap[g]? = w1.heap[g]? ∧ some g ≠ (Value.slice ao acc.length c).ownBlock ∧ Below w.heap.size w wr) (fun _ i _ => fs.length - (intOf i).toNat)
  case atStart => exact ⟨0, [], _, _, Nat.zero_le _, rfl, rfl, HM1, HP.out, (by decide : rulesB [] = true), rfl, (fun e => by simp [Value.ownBlock] at e; omega), B1⟩
  case round =>
    obtain ⟨k, acc, ao, c, hk, rfl, rfl, HR, HF, HB, hgk, hgo, hbel⟩ := hrel
    clear HP HM1
    by_cases hlt : k < fs.length
    · have hki : (k : Int) < fs.length := by omega
      have ca : wr.cell? ⟨g, k, none⟩ = some (.string (fs.getD k ByteArray.empty)) := (World.cell?_of_block (w := w1) (a := ⟨g, k, none⟩) hgk).trans (HC0.out k hlt)
      have hgw : g < wr.heap.size := World.block_lt_of_cell? wr ⟨g, k, none⟩ ca
      have hxs := HSZ.out _ (by
        show fs.getD k ByteArray.empty ∈ fs
        rw [List.getD_eq_getElem?_getD, List.getElem?_eq_getElem hlt]
        exact List.getElem_mem _)
      have hF := HF.out
      rw [drop_getD hlt, parseF_cons] at hF
      clear HF
      generalize fs.getD k ByteArray.empty = x at ca hxs hF
      have hls := lineT_size x
      have htm : (⟨(Lib.trimS x.data.toList blanks4).toArray⟩ : ByteArray).size ≤ 1048576 := by
        rw [mk_size]
        have := trimS_le x.data.toList blanks4
        have h3 : x.data.toList.length = x.size := by simp
        omega
      have CT : Hid (∀ W, Calls Tryd.prog 28 #[.string x] W fun e w' => e = .returned (.string ⟨(Lib.trimS x.data.toList blanks4).toArray⟩) ∧ Below W.heap.size W w') := fun W => implTrim x W (by omega)
      have CL : Hid (∀ W, Calls Tryd.prog 27 #[.string ⟨(Lib.trimS x.data.toList blanks4).toArray⟩] W fun e w' => e = .returned (.string (lineT x)) ∧ Below W.heap.size W w') := fun W => implLower _ W htm
      clear htm
      generalize (⟨(Lib.trimS x.data.toList blanks4).toArray⟩ : ByteArray) = T1 at CT CL
      generalize lineT x = t at hF hls CL
      go_wp2_with fail
      refine (CT.out _).mono ?_
      rintro e wt ⟨rfl, bt⟩
      go_wp2_with fail
      refine (CL.out _).mono ?_
      rintro e w2 ⟨rfl, bl⟩
      have b2 := bt.trans (bl.mono bt.size)
      have HR2 : Hid (RuleOwn w2 w.heap.size (.slice ao acc.length c) acc) := HR.out.below b2
      have B2 := hbel.trans (b2.mono hbel.size)
      have hgk2 : w2.heap[g]? = w1.heap[g]? := (b2.block g hgw).trans hgk
      have hgw2 : g < w2.heap.size := Nat.lt_of_lt_of_le hgw b2.size
      clear CT CL bt bl b2 hbel HR ca hgk hgw
      have hgk := hgk2
      clear hgk2
      have CH : Hid (∀ W, Calls Tryd.prog 29 #[.string t, .string ⟨#[47, 47]⟩] W fun e w' => e = .returned (.bool (Lib.hasPrefix t.data.toList [47, 47])) ∧ W = w') := fun W => (Tryd.strings_HasPrefix t ⟨#[47, 47]⟩ W).mono fun e w' h => ⟨h.1, h.2.symm⟩
      cases hpb : passB t with
      | true =>
        rw [if_pos hpb] at hF
        have HF : Hid (parseF (fs.drop (k + 1)) (k + 1) acc = R) := hF
        clear hF
        by_cases h0 : t.size = 0
        · have he := empty_yes h0
          clear hpb
          go_wp2_with fail
          go_roundw
          case rel => exact ⟨k + 1, acc, ao, c, by omega, by go_num, rfl, HR2, HF, HB, hgk, hgo, B2⟩
          case measure => simp [intOf]; omega
        · have he := empty_no (show 0 < t.size by omega)
          have hpre : Lib.hasPrefix t.data.toList [47, 47] = true := by
            unfold passB at hpb
            rw [decide_eq_false h0] at hpb
            exact hpb
          rw [hpre] at CH
          clear hpb hpre
          go_wp2_with fail
          refine (CH.out _).mono ?_
          rintro e wz ⟨rfl, rfl⟩
          go_wp2_with fail
          go_roundw
          case rel => exact ⟨k + 1, acc, ao, c, by omega, by go_num, rfl, HR2, HF, HB, hgk, hgo, B2⟩
          case measure => simp [intOf]; omega
      | false =>
        obtain ⟨h0, hpre⟩ := passB_not hpb
        rw [if_neg (by rw [hpb]; decide)] at hF
        have HF := hidden hF
        rw [hpre] at CH
        clear hF hpb hpre
        have he := empty_no h0
        have hts : t.size ≤ 1048576 := by omega
        have CR : Hid (∀ W, Calls Tryd.prog 30 #[.string t] W fun e w' => ∃ po pc, e = .returned (.agg #[.slice po (readR t).ps.length pc, .bool (readR t).ex]) ∧ w'.ownsRow W.heap.size 9 1 (.slice po (readR t).ps.length pc) (readR t).ps.length (scells (readR t).ps) ∧ Below W.heap.size W w') := fun W => implReadRule t W hts
        have HRZ : Hid ((readR t).ps.length ≤ 2097152 ∧ ∀ x ∈ (readR t).ps, x.size ≤ 1048576) := by
          show _ ∧ _
          unfold readR
          split
          · have hx1 : (t.extract 1 t.size).size ≤ 1048576 := by rw [ByteArray.size_extract]; omega
            exact ⟨by have := parts_len (t.extract 1 t.size); show (partsL _).length ≤ _; omega, fun x hx => Nat.le_trans (parts_sizes _ x hx) hx1⟩
          · exact ⟨by have := parts_len t; show (partsL _).length ≤ _; omega, fun x hx => Nat.le_trans (parts_sizes _ x hx) hts⟩
        generalize readR t = rr at *
        have h60 := rules_60 HB.out
        go_wp2_with fail
        refine (CH.out _).mono ?_
        rintro e wz ⟨rfl, rfl⟩
        go_wp2_with fail
        refine (CR.out _).mono ?_
        rintro e w3 ⟨po, pc, rfl, o3, b3⟩
        have HO3 := hidden o3
        have HR3 : Hid (RuleOwn w3 w.heap.size (.slice ao acc.length c) acc) := HR2.out.below b3
        obtain ⟨O, hO⟩ : ∃ O, O = w3.alloc (.cells #[.slice po rr.ps.length pc, .bool rr.ex] 32) := ⟨_, rfl⟩
        have bO : Below w3.heap.size w3 O := by rw [hO]; exact (Below.refl _ _).alloc (Nat.le_refl _) _
        have AO : BAt O w3.heap.size [.slice po rr.ps.length pc, .bool rr.ex] := by rw [hO]; exact BAt.new w3 #[.slice po rr.ps.length pc, .bool rr.ex] _
        have hzO := AO.2.2
        have CJ : Hid (Calls Tryd.prog 25 #[.slice ao acc.length c, .agg #[.slice po rr.ps.length pc, .bool rr.ex]] O fun e w' => e = .returned (.bool (rulesB (acc ++ [rr]))) ∧ Below O.heap.size O w') := by
          rw [rules_snoc HB.out]
          exact implJoins acc _ _ rr O (by omega) (fun r hr => (rules_sz HB.out r hr).1) HRZ.out.1 HRZ.out.2 (HR3.out.below bO).row ((StrRow.of_own HO3.out).below bO)
        have B3 := b3.trans (bO.mono b3.size)
        have HO4 : Hid (O.ownsRow w2.heap.size 9 1 (.slice po rr.ps.length pc) rr.ps.length (scells rr.ps)) := own_below HO3.out bO
        clear CR CH o3 b3 HO3 HR3 bO HRZ he
        go_upto_region 8 with fail
        rw [← hO]
        clear hO
        have c0 := AO.1 0 _ rfl
        have c1 := AO.1 1 _ rfl
        generalize w3.heap.size = D at *
        generalize hnp : rr.ps.length = np at *
        have HNP : Hid (rr.ps.length = np) := hnp
        clear hnp
        go_wp2_with fail
        refine CJ.out.mono ?_
        rintro e w4 ⟨rfl, b4⟩
        have A4 := AO.below b4
        have B4 : Hid (Below w2.heap.size w2 w4) := B3.trans (b4.mono B3.size)
        have HO5 : Hid (w4.ownsRow w2.heap.size 9 1 (.slice po np pc) np (scells rr.ps)) := own_below HO4.out b4
        have BW := B2.trans (B4.out.mono B2.size)
        clear c0 c1 AO B3 b4 HO4 CJ
        have c0 := A4.1 0 _ rfl
        have c1 := A4.1 1 _ rfl
        cases hrb : rulesB (acc ++ [rr]) with
        | false =>
          have hE := HF.out
          rw [hrb, if_neg (by decide)] at hE
          have HZ : Hid (RuleOwn (w4.alloc (.cells #[] 32)) w.heap.size (.slice (some ⟨w4.heap.size, 0, none⟩) 0 0) []) := ⟨[], fun _ => undef, own_wide0 (World.ownsRow_made w4 #[] 0 (Nat.le_refl _) (by decide) rfl) BW.size, fun i hi => absurd hi (Nat.not_lt_zero _)⟩
          have BZ := BW.alloc BW.size (.cells #[] 32)
          clear hrb HF
          subst hE
          go_wp2_with fail
          go_ret2
          exact ⟨_, rfl, HZ.out, BZ⟩
        | true =>
          have hE := HF.out
          rw [hrb, if_pos rfl] at hE
          have HE : Hid (parseF (fs.drop (k + 1)) (k + 1) (acc ++ [rr]) = R) := hE
          have HB2 : Hid (rulesB (acc ++ [rr]) = true) := hrb
          clear hrb HF hE
          obtain ⟨vs, P, q1, q2⟩ := HR2.out
          have q1w := own_below q1 B4.out
          have HQ := hidden q1
          have HQ2 := hidden q2
          clear q1 q2
          go_wp2_with (at_builtin; refine wpList_append_rule _ rfl _ _ 24 rfl w.heap.size 32 (.agg #[.slice none 0 0, .bool false]) 32 Tryd.underlying24 Tryd.infoRule rfl _ _ _ rfl q1w (.slice po np pc) (.bool rr.ex) rfl rfl rfl (by omega) (by unfold maxLen; omega) BW.size ?_)
          intro v' w5 o5 g5 hat
          have RO : RuleOwn w5 w.heap.size v' (acc ++ [rr]) := RuleOwn.snoc HQ.out HQ2.out B4.out B2.size (by rw [HNP.out]; exact HO5.out) o5 g5 hat
          have B5 : Below w.heap.size w w5 := BW.grown g5 BW.size (fun b hb => (q1w.lt b hb).1)
          have hgw4 : g < w4.heap.size := Nat.lt_of_lt_of_le hgw2 B4.out.size
          have hgk5 : w5.heap[g]? = w1.heap[g]? := ((g5.block g hgw4 hgo).trans (B4.out.block g hgw2)).trans hgk
          have hal : (acc ++ [rr]).length = acc.length + 1 := by simp
          obtain ⟨ao5, c5, hv5⟩ := RO.row.slice
          have hgo5 : some g ≠ v'.ownBlock := by
            rcases hat with h | h
            · rw [h]; exact hgo
            · rw [h]; intro e; cases e; omega
          have HRO := hidden RO
          rw [hv5] at HRO hgo5
          subst hv5
          clear RO o5 g5 hat HQ HQ2 q1w HR2 A4 c0 c1 hgk hgo B4 BW HO5
          go_wp2_with fail
          go_roundw
          case rel => exact ⟨k + 1, acc ++ [rr], ao5, c5, by omega, by go_num, rfl, HRO, HE, HB2, hgk5, hgo5, B5⟩
          case measure => simp [intOf]; omega
    · have hki : ¬ (k : Int) < fs.length := by omega
      have HE : Hid (R = (acc, -1)) := by
        have := HF.out
        rw [List.drop_of_length_le (by omega)] at this
        exact this.symm
      have hE := HE.out
      clear HF HE
      subst hE
      go_wp2_with fail
      go_ret2
      exact ⟨_, rfl, HR.out, hbel⟩
end Go.Proofs.YtijliddchoehhaaDoor
