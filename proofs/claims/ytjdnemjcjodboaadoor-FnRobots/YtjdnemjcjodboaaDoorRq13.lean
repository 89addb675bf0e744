/- RobParse. -/
import Derived.Test.YtjdnemjcjodboaaDoorRq12
import Derived.Test.YtjdnemjcjodboaaDoorRq10
set_option maxHeartbeats 16000000
set_option maxRecDepth 100000
namespace Go.Proofs.YtjdnemjcjodboaaDoor
open Go.RowKit
set_option linter.unusedVariables false
theorem Tryd.infoPt : (Tryd.prog.info? 33).map (fun i => (i.zero, i.size, i.bytes)) = some (some (.agg #[.slice none 0 0, .slice none 0 0]), 2, 48) := by kernel_rfl
theorem Tryd.infoL2 : (Tryd.prog.info? 35).map (fun i => (i.zero, i.size, i.bytes)) = some (some (.agg #[.bool false, .string ⟨#[]⟩]), 2, 24) := by kernel_rfl
theorem rob_res1 {fn : Func} {q : Tmp} (h : fn.results = #[.cell q 26]) (tmps : Array Value) (W : World) (B : Nat) (a : Value)
  (hp : tmps[q]?.getD undef = .pointer (some ⟨B, 0, none⟩)) (ha : BAt W B [a]) : (results fn tmps).run Tryd.prog W = .ok (.agg #[a]) W := by
 have c0 := ha.1 0 _ rfl
 simp [results, h, hp, asAddr, go_sem, c0, Addr.add_lit]
theorem specParseRobots (s : ByteArray) (w : World) (hs : s.size ≤ 1048576) :
  Calls Tryd.prog 12 #[.string s] w fun e w' => ∃ v, e = .returned (.agg #[v]) ∧ RobOwn w' w.heap.size w'.heap.size v (robV s) ∧ Below w.heap.size w w' := by
 have hcs := cutS_size s
 have CF : Hid (∀ W, Calls Tryd.prog 31 #[.string (cutS s)] W fun e w' => ∃ v, e = .returned v ∧ w'.ownsRow W.heap.size 9 1 v (fieldsL (crS (cutS s)) 10).length (scells (fieldsL (crS (cutS s)) 10)) ∧ Below W.heap.size W w') := fun W => specLines11 (cutS s) W (by omega)
 have HR : Hid ((fieldsL (crS (cutS s)) 10).foldl stepV [] = robV s) := rfl
 have HSZ : Hid (∀ k, k < (fieldsL (crS (cutS s)) 10).length → ((fieldsL (crS (cutS s)) 10).getD k ByteArray.empty).size ≤ 20000) := fun k hk => Nat.le_trans (field_size _ 10 hk) (by rw [crS_size]; exact hcs)
 have hfl := fieldsN_le (crS (cutS s)) 10
 rw [crS_size] at hfl
 have hfp := fieldsN_pos (crS (cutS s)) 10
 generalize fieldsL (crS (cutS s)) 10 = fs at *
 generalize robV s = R at *
 obtain ⟨O, hO⟩ : ∃ O, O = (w.alloc (.cells #[.slice none 0 0] 26)).alloc (.cells #[.slice none 0 0] 26) := ⟨_, rfl⟩
 go_enter Tryd.func12, Tryd.ntmps12
 go_upto_if 12 with fail
 go_cut [0] (fun v wx => v = .string (cutS s) ∧ wx = w.alloc (.cells #[.slice none 0 0] 26))
 case first =>
  by_cases hbig : 20000 < (s.size : Int)
  ·have HT : Hid (cutS s = s.extract 0 20000) := rfl
   go_wp2_with fail
   go_meet
   case rel => exact ⟨by rw [HT.out], rfl⟩
  have HT : Hid (cutS s = s) := cutS_small (by omega)
  go_wp2_with fail
  go_meet
  case rel => exact ⟨by rw [HT.out], rfl⟩
 obtain ⟨rfl, rfl⟩ := hcut
 go_upto_region 4 with fail
 have A2 : BAt O w.heap.size [.slice none 0 0] := by rw [hO]; exact (BAt.new w #[.slice none 0 0] _).alloc _
 have A3 : BAt O (w.heap.size + 1) [.slice none 0 0] := by
  rw [hO]
  have := BAt.new (w.alloc (.cells #[.slice none 0 0] 26)) #[.slice none 0 0] 26
  rw [World.size_alloc] at this
  exact this
 have bO : Below w.heap.size w O := by rw [hO]; exact ((Below.refl _ _).alloc (Nat.le_refl _) _).alloc (by simp) _
 have hzO : O.heap.size = w.heap.size + 2 := by rw [hO]; simp
 rw [← hO]
 clear hO
 go_wp2_with fail
 refine (CF.out _).mono ?_
 rintro e w1 ⟨vf, rfl, of, b1⟩
 have B2 := A2.below b1
 have B3 := A3.below b1
 have bw1 := bO.trans (b1.mono bO.size)
 clear A2 A3 bO CF
 rcases own_shape of with ⟨h, _⟩ | ⟨_, g, cap, rfl⟩
 ·omega
 have hg := (of.lt g rfl).1
 have hg2 := (of.lt g rfl).2
 have HC0 : Hid (∀ j, j < fs.length → w1.cell? ⟨g, j, none⟩ = some (.string (fs.getD j ByteArray.empty))) := fun j hj => scell_at of j hj
 have HB2 : Hid (BAt w1 w.heap.size [.slice none 0 0]) := B2
 have HB3 : Hid (BAt w1 (w.heap.size + 1) [.slice none 0 0]) := B3
 have hz1 := b1.size
 clear of b1 B2 B3
 go_wp2_with fail
 go_loopw [5] (fun i wr => ∃ (k : Nat) (acc : List PT) (ao : Option Addr) (c : Nat), k ≤ fs.length ∧ i = .int .i64 k ∧ Hid (RobOwn wr w1.heap.size wr.heap.size (.slice ao acc.length c) acc) ∧ Hid (BAt wr (w.heap.size + 1) [.slice ao acc.length c]) ∧ Hid ((fs.drop k).foldl stepV acc = R) ∧ Hid (Few k acc) ∧ w1.grownBy wr (some (w.heap.size + 1))) (fun i _ => fs.length - (intOf i).toNat)
 case atStart => exact ⟨0, [], none, 0, Nat.zero_le _, rfl, RobOwn.nil _ _ _, HB3, HR.out, ⟨Nat.zero_le _, fun i hi => absurd hi (Nat.not_lt_zero _)⟩, World.grownBy.refl _ _⟩
 obtain ⟨k, acc, ao, c, hk, rfl, HRO, HBB, HF, HW, hgr⟩ := hrel
 clear HB3 HR
 by_cases hlt : k < fs.length
 ·have hki : (k : Int) < fs.length := by omega
  have ca : wr.cell? ⟨g, k, none⟩ = some (.string (fs.getD k ByteArray.empty)) := hgr.cell (a := ⟨g, k, none⟩) (HC0.out k hlt) (by intro e; injection e with e; have e2 : g = w.heap.size + 1 := e; omega)
  have hxs := HSZ.out k hlt
  have HF1 : Hid ((fs.drop (k + 1)).foldl stepV (stepV acc (fs.getD k ByteArray.empty)) = R) := (fold_next hlt acc).symm.trans HF.out
  have HW1 : Hid (Few (k + 1) (stepV acc (fs.getD k ByteArray.empty))) := HW.out.step _
  clear HF
  generalize fs.getD k ByteArray.empty = x at *
  have CL : Hid (∀ W, CB 32 #[.string x] W (.tuple #[.string (if hasK x.data.toList = true then keyV x else ⟨#[]⟩), .string (if hasK x.data.toList = true then valV x else ⟨#[]⟩), .bool (hasK x.data.toList)])) := fun W => specLine11 x W (by omega)
  cases hh : hasK x.data.toList with
  | false =>
   rw [stepV_none hh] at HF1 HW1
   rw [hh, if_neg (by decide), if_neg (by decide)] at CL
   clear hh
   go_wp2_with fail
   refine (CL.out _).mono ?_
   rintro e w2 ⟨rfl, b2⟩
   have HRO2 : Hid (RobOwn w2 w1.heap.size w2.heap.size (.slice ao acc.length c) acc) := (HRO.out.below (Nat.le_refl _) b2).wide b2.size
   have A3 := HBB.out.below b2
   have HBB2 : Hid (BAt w2 (w.heap.size + 1) [.slice ao acc.length c]) := A3
   have G2 := grow_below hgr b2
   have c0 := A3.1 0 _ rfl
   clear b2 hgr HRO HBB A3 CL
   go_wp2_with fail
   go_roundw
   case rel => exact ⟨k + 1, acc, ao, c, by omega, by go_num, HRO2, HBB2, HF1, HW1, G2⟩
   case measure => simp [intOf] <;> omega
  | true =>
   rw [hh, if_pos rfl, if_pos rfl] at CL
   have hvs := valV_size x
   have hWk := HW.out
   have CA : Hid (∀ W, CB 33 #[.string (valV x)] W (.string ⟨(agL (valV x).data.toList).toArray⟩)) := fun W => specAgentOf (valV x) W (by omega)
   have CP : Hid (∀ W, CB 16 #[.string (valV x)] W (.string ⟨(plL 2 (valV x).data.toList).toArray⟩)) := fun W => specPatternOf (valV x) W (by omega)
   go_wp2_with fail
   refine (CL.out _).mono ?_
   rintro e w2 ⟨rfl, b2⟩
   have HRO2 : Hid (RobOwn w2 w1.heap.size w2.heap.size (.slice ao acc.length c) acc) := (HRO.out.below (Nat.le_refl _) b2).wide b2.size
   have HBB2 : Hid (BAt w2 (w.heap.size + 1) [.slice ao acc.length c]) := HBB.out.below b2
   have G2 := grow_below hgr b2
   have hB3 : w.heap.size + 1 < w1.heap.size := by omega
   clear b2 hgr HRO HBB CL ca
   by_cases hU : keyL x.data.toList = keyU
   ·have HS : Hid (stepV acc x = setAg (openP acc) ⟨(agL (valV x).data.toList).toArray⟩) := stepV_ag hh hU
    rw [HS.out] at HF1 HW1
    have hkey : ((keyV x).toList == [117, 115, 101, 114, 45, 97, 103, 101, 110, 116]) = true := txt_eq (a := keyV x) hU
    clear hU hh HS CP hWk
    generalize keyV x = KV at *
    generalize (⟨(agL (valV x).data.toList).toArray⟩ : ByteArray) = AV at *
    generalize valV x = VV at *
    have hnk : acc.length ≤ 20001 := by have := HW.out.1; omega
    have han : (lastG (openP acc)).ag.length ≤ 20001 := by have := openP_last HW.out; omega
    obtain ⟨n, hn⟩ : ∃ n, acc.length = n := ⟨_, rfl⟩
    have HNN : Hid (acc.length = n) := hn
    rw [hn] at HBB2 HRO2 hnk
    clear hn
    have hni : (n : Int) ≤ 20001 := by omega
    have c0 := HBB2.out.1 0 _ rfl
    have f0 := HBB2.out.2.1
    go_upto_if 39 with fail
    refine wp_cond_true rfl ?_
    apply wp_seq_k
    intro _ _
    go_cut [9] (fun v wx => ∃ (m gv cv : Nat), v = .int .i64 ((m : Int) + 1) ∧ Hid (RobOwn wx w1.heap.size wx.heap.size (.slice (some ⟨gv, 0, none⟩) (m + 1) cv) (openP acc)) ∧ Hid ((openP acc).length = m + 1) ∧ Hid (BAt wx (w.heap.size + 1) [.slice (some ⟨gv, 0, none⟩) (m + 1) cv]) ∧ w1.grownBy wx (some (w.heap.size + 1)) ∧ m ≤ 20001)
    case first =>
     by_cases h0 : n = 0
     ·have HNEW : Hid (openP acc = acc ++ [pt0]) := by
       show _ = _
       rw [show acc = [] from List.eq_nil_of_length_eq_zero (HNN.out.trans h0)]
       rfl
      have hz0 : ((n : Int) == 0) = true := by rw [h0]; rfl
      clear h0
      obtain ⟨vs0, k1, k2⟩ := HRO2.out
      have K1 : Hid (w2.ownsRow w1.heap.size 33 2 (.slice ao n c) acc.length vs0) := k1
      have K2 : Hid (Inner w2 w1.heap.size w2.heap.size (.slice ao n c) vs0 acc acc.length) := k2
      have K3 : Hid (w2.ownsRow w1.heap.size 33 2 (.slice ao n c) n vs0) := by have := k1; rw [HNN.out] at this; exact this
      clear k1 k2
      go_wp2_with (at_builtin; refine wpList_append_rule _ rfl _ _ 24 rfl w1.heap.size 33 (.agg #[.slice none 0 0, .slice none 0 0]) 48 Tryd.underlying24 Tryd.infoPt rfl (.slice ao n c) n vs0 rfl K3.out (.slice none 0 0) (.slice none 0 0) rfl rfl rfl (by omega) (by unfold maxLen; omega) G2.size ?_)
      intro v5 w5 o5 g5 hat5
      have hvB : ∀ b, (Value.slice ao n c).ownBlock = some b → w1.heap.size ≤ b := fun b e => (K3.out.lt b e).1
      have RO5 := RobOwn.snoc (x := pt0) K1.out K2.out (fun _ _ => rfl) (Nat.le_refl _) G2.size (World.ownsRow_nil _ _ _ _) (World.ownsRow_nil _ _ _ _) (fun b e => by cases e) (by rw [HNN.out]; exact o5) g5 (hat5.imp id fun h b e => by rw [h] at e; injection e with e; omega)
      have A5 : BAt w5 (w.heap.size + 1) [.slice ao n c] := HBB2.out.same g5.size (g5.block _ HBB2.out.2.2 fun e => by have := hvB _ e.symm; omega)
      have G5 : w1.grownBy w5 (some (w.heap.size + 1)) := grow_to G2 g5.size ⟨g5.os, g5.tape, g5.output⟩ fun b hb => g5.block b (Nat.lt_of_lt_of_le hb G2.size) fun e => by have := hvB b e.symm; omega
      obtain ⟨gv, cv, rfl⟩ : ∃ gv cv, v5 = .slice (some ⟨gv, 0, none⟩) (n + 1) cv := by
       rcases o5.2 with ⟨_, h⟩ | ⟨gv, cv, cur, h, _⟩
       ·omega
       exact ⟨gv, cv, h⟩
      have c5 := A5.1 0 _ rfl
      have f5 := A5.2.1
      have HRO5 : Hid (RobOwn (w5.setCell ⟨w.heap.size + 1, 0, none⟩ (.slice (some ⟨gv, 0, none⟩) (n + 1) cv)) w1.heap.size (w5.setCell ⟨w.heap.size + 1, 0, none⟩ (.slice (some ⟨gv, 0, none⟩) (n + 1) cv)).heap.size (.slice (some ⟨gv, 0, none⟩) (n + 1) cv) (acc ++ [pt0])) := (RO5.same fun b hb1 hb2 => Below.heap_setCell _ _ _ _ (show b ≠ w.heap.size + 1 by omega)).wide (by simp)
      have A3 : Hid (BAt (w5.setCell ⟨w.heap.size + 1, 0, none⟩ (.slice (some ⟨gv, 0, none⟩) (n + 1) cv)) (w.heap.size + 1) [.slice (some ⟨gv, 0, none⟩) (n + 1) cv]) := A5.set 0 (by simp) _
      have G3 := grow_trans G5 (put_grown w5 (w.heap.size + 1) 0 (.slice (some ⟨gv, 0, none⟩) (n + 1) cv))
      clear RO5 A5 G5 o5 g5 hat5 hvB K1 K2 K3 HRO2 HBB2 G2 c0 f0
      rw [← HNEW.out] at HRO5
      have HLM : Hid ((openP acc).length = n + 1) := by show _ = _; rw [HNEW.out, List.length_append, HNN.out]; rfl
      clear HNEW
      go_wp2_with fail
      go_meet
      case rel => exact ⟨n, gv, cv, by go_num, HRO5, HLM, A3, G3, by omega⟩
     obtain ⟨m, hm⟩ : ∃ m, n = m + 1 := ⟨n - 1, by omega⟩
     have hz0 : ((n : Int) == 0) = false := beq_eq_false_iff_ne.2 (by omega)
     have HM : Hid (n = m + 1) := hm
     have hn1 : (n : Int) - 1 = (m : Int) := by omega
     have hmn : (m : Int) < (n : Int) := by omega
     have hwm : IntKind.i64.wrap (m : Int) = (m : Int) := by rw [IntKind.wrap_i64]; omega
     clear hm
     obtain ⟨gq, cq', vsq, p, q, hv, h1, h2, hp, hq, cp, cq, op, oq⟩ := HRO2.out.last (HNN.out.trans HM.out)
     simp only [Value.slice.injEq] at hv
     obtain ⟨rfl, hnmm, rfl⟩ := hv
     clear hnmm
     have HNP : Hid (newP acc = !decide ((lastG acc).ln.length = 0)) := newP_last (by rw [HNN.out]; omega)
     obtain ⟨qa, qk, hqq⟩ := (LineRow.of_own' oq).slice
     have cqw : w2.cell? ⟨gq, m * 2 + 1, none⟩ = some (.slice qa (lastG acc).ln.length qk) := by rw [← hqq]; exact cq
     clear h1 h2 hp hq cp cq op oq hqq
     have hq1 : 0 ≤ ((lastG acc).ln.length : Int) := by omega
     by_cases hl0 : (lastG acc).ln.length = 0
     ·have HSAME : Hid (openP acc = acc) := by
       show _ = _
       unfold openP
       rw [HNP.out, decide_eq_true hl0]
       rfl
      have hq0 : ¬ 0 < ((lastG acc).ln.length : Int) := by omega
      have HRO5 : Hid (RobOwn w2 w1.heap.size w2.heap.size (.slice (some ⟨gq, 0, none⟩) (m + 1) c) (openP acc)) := by rw [HSAME.out]; rw [← HM.out]; exact HRO2
      have HLM : Hid ((openP acc).length = m + 1) := by rw [HSAME.out]; exact HNN.out.trans HM.out
      have A3 : Hid (BAt w2 (w.heap.size + 1) [.slice (some ⟨gq, 0, none⟩) (m + 1) c]) := by rw [← HM.out]; exact HBB2
      clear HNP hl0 HSAME
      generalize (lastG acc).ln.length = ln at *
      go_wp2_with fail
      go_meet
      case rel => exact ⟨m, gq, c, by rw [show (n : Int) = (m : Int) + 1 by omega], HRO5, HLM, A3, G2, by omega⟩
     have HNEW : Hid (openP acc = acc ++ [pt0]) := by
      show _ = _
      unfold openP
      rw [HNP.out, decide_eq_false hl0]
      rfl
     have hq0 : 0 < ((lastG acc).ln.length : Int) := by omega
     clear HNP hl0
     generalize (lastG acc).ln.length = ln at *
     obtain ⟨vs0, k1, k2⟩ := HRO2.out
     have K1 : Hid (w2.ownsRow w1.heap.size 33 2 (.slice (some ⟨gq, 0, none⟩) n c) acc.length vs0) := k1
     have K2 : Hid (Inner w2 w1.heap.size w2.heap.size (.slice (some ⟨gq, 0, none⟩) n c) vs0 acc acc.length) := k2
     have K3 : Hid (w2.ownsRow w1.heap.size 33 2 (.slice (some ⟨gq, 0, none⟩) n c) n vs0) := by have := k1; rw [HNN.out] at this; exact this
     clear k1 k2
     go_wp2_with (at_builtin; refine wpList_append_rule _ rfl _ _ 24 rfl w1.heap.size 33 (.agg #[.slice none 0 0, .slice none 0 0]) 48 Tryd.underlying24 Tryd.infoPt rfl (.slice (some ⟨gq, 0, none⟩) n c) n vs0 rfl K3.out (.slice none 0 0) (.slice none 0 0) rfl rfl rfl (by omega) (by unfold maxLen; omega) G2.size ?_)
     intro v5 w5 o5 g5 hat5
     have hvB : ∀ b, (Value.slice (some ⟨gq, 0, none⟩) n c).ownBlock = some b → w1.heap.size ≤ b := fun b e => (K3.out.lt b e).1
     have RO5 := RobOwn.snoc (x := pt0) K1.out K2.out (fun _ _ => rfl) (Nat.le_refl _) G2.size (World.ownsRow_nil _ _ _ _) (World.ownsRow_nil _ _ _ _) (fun b e => by cases e) (by rw [HNN.out]; exact o5) g5 (hat5.imp id fun h b e => by rw [h] at e; injection e with e; omega)
     have A5 : BAt w5 (w.heap.size + 1) [.slice (some ⟨gq, 0, none⟩) n c] := HBB2.out.same g5.size (g5.block _ HBB2.out.2.2 fun e => by have := hvB _ e.symm; omega)
     have G5 : w1.grownBy w5 (some (w.heap.size + 1)) := grow_to G2 g5.size ⟨g5.os, g5.tape, g5.output⟩ fun b hb => g5.block b (Nat.lt_of_lt_of_le hb G2.size) fun e => by have := hvB b e.symm; omega
     obtain ⟨gv, cv, rfl⟩ : ∃ gv cv, v5 = .slice (some ⟨gv, 0, none⟩) (n + 1) cv := by
      rcases o5.2 with ⟨_, h⟩ | ⟨gv, cv, cur, h, _⟩
      ·omega
      exact ⟨gv, cv, h⟩
     have c5 := A5.1 0 _ rfl
     have f5 := A5.2.1
     have HRO5 : Hid (RobOwn (w5.setCell ⟨w.heap.size + 1, 0, none⟩ (.slice (some ⟨gv, 0, none⟩) (n + 1) cv)) w1.heap.size (w5.setCell ⟨w.heap.size + 1, 0, none⟩ (.slice (some ⟨gv, 0, none⟩) (n + 1) cv)).heap.size (.slice (some ⟨gv, 0, none⟩) (n + 1) cv) (acc ++ [pt0])) := (RO5.same fun b hb1 hb2 => Below.heap_setCell _ _ _ _ (show b ≠ w.heap.size + 1 by omega)).wide (by simp)
     have A3 : Hid (BAt (w5.setCell ⟨w.heap.size + 1, 0, none⟩ (.slice (some ⟨gv, 0, none⟩) (n + 1) cv)) (w.heap.size + 1) [.slice (some ⟨gv, 0, none⟩) (n + 1) cv]) := A5.set 0 (by simp) _
     have G3 := grow_trans G5 (put_grown w5 (w.heap.size + 1) 0 (.slice (some ⟨gv, 0, none⟩) (n + 1) cv))
     clear RO5 A5 G5 o5 g5 hat5 hvB K1 K2 K3 HRO2 HBB2 G2 c0 f0
     rw [← HNEW.out] at HRO5
     have HLM : Hid ((openP acc).length = n + 1) := by show _ = _; rw [HNEW.out, List.length_append, HNN.out]; rfl
     clear HNEW
     go_wp2_with fail
     go_meet
     case rel => exact ⟨n, gv, cv, by go_num, HRO5, HLM, A3, G3, by omega⟩
    obtain ⟨m, gv, cv, rfl, HRO5, HLM, A3, G3, hm1⟩ := hcut
    clear HRO2 HBB2 G2 c0 f0 hnk HNN hni
    generalize openP acc = L at *
    obtain ⟨gy, cy, vs, p, q, hv, h1, h2, hp, hq, cp, cq, op, oq⟩ := HRO5.out.last HLM.out
    simp only [Value.slice.injEq, Option.some.injEq, Addr.mk.injEq, and_true, true_and] at hv
    obtain ⟨rfl, rfl⟩ := hv
    clear HRO5
    have hmi : (m : Int) ≤ 20001 := by omega
    go_upto_region 16 with fail
    generalize wc = w3 at *
    have H1 : Hid (w3.ownsRow w1.heap.size 33 2 (.slice (some ⟨gv, 0, none⟩) (m + 1) cv) (m + 1) vs) := h1
    have H2 : Hid (Inner w3 w1.heap.size w3.heap.size (.slice (some ⟨gv, 0, none⟩) (m + 1) cv) vs L (m + 1)) := h2
    have HP : Hid (vs[m * 2]? = some p) := hp
    have HQ : Hid (vs[m * 2 + 1]? = some q) := hq
    have OP : Hid (w3.ownsRow w1.heap.size 9 1 p (lastG L).ag.length (scells (lastG L).ag)) := op
    have HCP : Hid (w3.cell? ⟨gv, m * 2, none⟩ = some p) := cp
    have hgv := (h1.lt gv rfl).2
    have hmk : (m : Int) ≤ 20001 := by omega
    have hwm : IntKind.i64.wrap (m : Int) = (m : Int) := by rw [IntKind.wrap_i64]; omega
    clear h1 h2 hp hq op oq cp cq
    refine wp_region_held_drew (S := fun W => BAt W (w.heap.size + 1) [.slice (some ⟨gv, 0, none⟩) (m + 1) cv]) (by kernel_rfl) A3.out (fun h0 => ?_)
    refine wpAnyH_take (i := 0) (v := ?_) rfl (by kernel_rfl) (by kernel_rfl) (by kernel_rfl) (fun _ _ _ h => h) (Or.inl ⟨by rfl, fun W hW => ?_⟩) h0 ?_
    rotate_left
    ·clear hW
     go_simp
     try with_reducible rfl
    simp only [Act.put, List.getElem_toArray, List.getElem_cons_zero, List.setIfInBounds_toArray, List.set_cons_zero, List.set_cons_succ]
    refine wpAnyH_take (i := 1) (v := (.slice (some ⟨gv, 0, none⟩) (m + 1) cv)) rfl (by kernel_rfl) (by kernel_rfl) (by kernel_rfl) (fun _ _ _ h => h) (Or.inl ⟨by rfl, fun W hW => ?_⟩) h0 ?_
    ·have q0 := hW.1 0 _ rfl
     go_simp
    simp only [Act.put, List.getElem_toArray, List.getElem_cons_zero, List.getElem_cons_succ, List.setIfInBounds_toArray, List.set_cons_zero, List.set_cons_succ]
    refine wpAnyH_take (i := 2) (v := ?_) rfl (by kernel_rfl) (by kernel_rfl) (by kernel_rfl) (fun _ _ _ h => h) (Or.inl ⟨by rfl, fun W hW => ?_⟩) h0 ?_
    rotate_left
    ·clear hW
     go_simp
     try with_reducible rfl
    simp only [Act.put, List.getElem_toArray, List.getElem_cons_zero, List.getElem_cons_succ, List.setIfInBounds_toArray, List.set_cons_zero, List.set_cons_succ]
    refine wpAnyH_take (i := 3) (v := (.int .i64 (m : Int))) rfl (by kernel_rfl) (by kernel_rfl) (by kernel_rfl) (fun _ _ _ h => h) (Or.inl ⟨by rfl, fun W hW => ?_⟩) h0 ?_
    ·clear hW
     go_simp
     skip
    simp only [Act.put, List.getElem_toArray, List.getElem_cons_zero, List.getElem_cons_succ, List.setIfInBounds_toArray, List.set_cons_zero, List.set_cons_succ]
    refine wpAnyH_take (i := 4) (v := ?_) rfl (by kernel_rfl) (by kernel_rfl) (by kernel_rfl) (fun _ _ _ h => h) (Or.inl ⟨by rfl, fun W hW => ?_⟩) h0 ?_
    rotate_left
    ·clear hW
     go_simp
     try with_reducible rfl
    simp only [Act.put, List.getElem_toArray, List.getElem_cons_zero, List.getElem_cons_succ, List.setIfInBounds_toArray, List.set_cons_zero, List.set_cons_succ]
    refine wpAnyH_take (i := 5) (v := (.slice (some ⟨gv, 0, none⟩) (m + 1) cv)) rfl (by kernel_rfl) (by kernel_rfl) (by kernel_rfl) (fun _ _ _ h => h) (Or.inl ⟨by rfl, fun W hW => ?_⟩) h0 ?_
    ·have q0 := hW.1 0 _ rfl
     go_simp
    simp only [Act.put, List.getElem_toArray, List.getElem_cons_zero, List.getElem_cons_succ, List.setIfInBounds_toArray, List.set_cons_zero, List.set_cons_succ]
    refine wpAnyH_take (i := 6) (v := ?_) rfl (by kernel_rfl) (by kernel_rfl) (by kernel_rfl) (fun _ _ _ h => h) (Or.inl ⟨by rfl, fun W hW => ?_⟩) h0 ?_
    rotate_left
    ·clear hW
     go_simp
     try with_reducible rfl
    simp only [Act.put, List.getElem_toArray, List.getElem_cons_zero, List.getElem_cons_succ, List.setIfInBounds_toArray, List.set_cons_zero, List.set_cons_succ]
    refine wpAnyH_take (i := 7) (v := (.int .i64 (m : Int))) rfl (by kernel_rfl) (by kernel_rfl) (by kernel_rfl) (fun _ _ _ h => h) (Or.inl ⟨by rfl, fun W hW => ?_⟩) h0 ?_
    ·clear hW
     go_simp
     skip
    simp only [Act.put, List.getElem_toArray, List.getElem_cons_zero, List.getElem_cons_succ, List.setIfInBounds_toArray, List.set_cons_zero, List.set_cons_succ]
    refine wpAnyH_take (i := 8) (v := (.pointer (some ⟨gv, m * 2, none⟩))) rfl (by kernel_rfl) (by kernel_rfl) (by kernel_rfl) (fun _ _ _ h => h) (Or.inl ⟨by rfl, fun W hW => ?_⟩) h0 ?_
    ·clear hW
     go_simp
     (intro h; omega)
    simp only [Act.put, List.getElem_toArray, List.getElem_cons_zero, List.getElem_cons_succ, List.setIfInBounds_toArray, List.set_cons_zero, List.set_cons_succ]
    refine wpAnyH_take (i := 9) (v := (.pointer (some ⟨gv, m * 2, none⟩))) rfl (by kernel_rfl) (by kernel_rfl) (by kernel_rfl) (fun _ _ _ h => h) (Or.inl ⟨by rfl, fun W hW => ?_⟩) h0 ?_
    ·clear hW
     go_simp
     skip
    simp only [Act.put, List.getElem_toArray, List.getElem_cons_zero, List.getElem_cons_succ, List.setIfInBounds_toArray, List.set_cons_zero, List.set_cons_succ]
    refine wpAnyH_take (i := 11) (v := ?_) rfl (by kernel_rfl) (by kernel_rfl) (by kernel_rfl) (fun _ _ _ h => h) (Or.inl ⟨by rfl, fun W hW => ?_⟩) h0 ?_
    rotate_left
    ·clear hW
     go_simp
     try with_reducible rfl
    simp only [Act.put, List.getElem_toArray, List.getElem_cons_zero, List.getElem_cons_succ, List.setIfInBounds_toArray, List.set_cons_zero, List.set_cons_succ]
    have cp0 : w3.cell? ⟨gv, m * 2, none⟩ = some p := HCP.out
    refine wpAnyH_ready (rs := [10, 12]) (by kernel_rfl) (by simp) (AllReadyH.cons rfl (fun K hK => ?_) (AllReadyH.cons rfl (fun K hK => ?_) AllReadyH.nil))
    ·go_simp
     refine hK.out _ _ h0 (fun h0' => ?_)
     clear hK K h0'
     refine wpAnyH_ready (rs := [12]) (by kernel_rfl) (by simp) (AllReadyH.cons rfl (fun K hK => ?_) AllReadyH.nil)
     go_simp
     go_wp2_with (go_at_call 33; refine (CA.out _).mono ?_; rintro e wq ⟨rfl, hbq⟩)
     have sq : BAt wq (w.heap.size + 1) [.slice (some ⟨gv, 0, none⟩) (m + 1) cv] := BAt.below (W := w3.drew) h0 hbq
     have cpq := (hbq.cell (p := ⟨gv, m * 2, none⟩) hgv).trans cp0
     have bq3 : Below w3.heap.size w3 wq := (Below.refl w3.heap.size w3).drew.trans hbq
     refine hK.out _ _ sq (fun h1 => ?_)
     clear hK K h1 hbq
     refine wpAnyH_ready (rs := [13]) (by kernel_rfl) (by simp) (AllReadyH.cons rfl (fun K hK => ?_) AllReadyH.nil)
     go_simp
     have sa : BAt (wq.alloc (.cells #[.string AV] 9)) (w.heap.size + 1) [.slice (some ⟨gv, 0, none⟩) (m + 1) cv] := sq.alloc _
     have bWA : Below w3.heap.size w3 (wq.alloc (.cells #[.string AV] 9)) := bq3.alloc bq3.size _
     have cpa := (bWA.cell (p := ⟨gv, m * 2, none⟩) hgv).trans cp0
     have HBW : Hid (w1.heap.size ≤ (wq.alloc (.cells #[.string AV] 9)).heap.size) := Nat.le_trans G3.size bWA.size
     refine hK.out _ _ sa (fun h1 => ?_)
     clear hK K h1
     refine wpAnyH_ready (rs := [14]) (by kernel_rfl) (by simp) (AllReadyH.cons rfl (fun K hK => ?_) AllReadyH.nil)
     rw [if_pos (by rfl)]
     refine wp_append_at (wq.alloc (.cells #[.string AV] 9)) (.tmp 72) (.tmp 75) 30 rfl w1.heap.size 9 (.string ⟨#[]⟩) 1 16 Tryd.underlying30 Tryd.infoStr rfl (by decide) p (lastG L).ag.length (scells (lastG L).ag) rfl (own_below OP.out bWA) ⟨wq.heap.size, 0, none⟩ 1 1 [.string AV] rfl rfl (cell_one_new wq (.string AV) 9) (str_one AV) (by unfold maxLen; omega) (by omega) HBW.out ?_
     intro p' w9 o9 g9 hat9
     rw [← scells_snoc] at o9
     obtain ⟨po, pn, pk, hpo⟩ : ∃ po pn pk, p' = Value.slice po pn pk := by
      obtain ⟨po, pk, h⟩ := (StrRow.of_own o9).slice
      exact ⟨po, _, pk, h⟩
     subst hpo
     obtain ⟨r1, r2, r3, fz9, c9, a9⟩ := rob_agent (AV := AV) hB3 HLM.out H1.out H2.out HP.out HQ.out A3.out G3 bWA o9 g9 hat9
     refine hK.out _ _ a9 (fun h5 => ?_)
     clear hK K
     refine wpAnyH_take (i := 15) (v := (.pointer (some ⟨gv, m * 2, none⟩))) rfl (by kernel_rfl) (by kernel_rfl) (by kernel_rfl) (fun _ _ _ h => h) (Or.inl ⟨by rfl, fun W hW => ?_⟩) h5 ?_
     ·clear hW
      go_simp
      (intro h; omega)
     simp only [Act.put, List.getElem_toArray, List.getElem_cons_zero, List.getElem_cons_succ, List.setIfInBounds_toArray, List.set_cons_zero, List.set_cons_succ]
     refine wpAnyH_take (i := 16) (v := (.pointer (some ⟨gv, m * 2, none⟩))) rfl (by kernel_rfl) (by kernel_rfl) (by kernel_rfl) (fun _ _ _ h => h) (Or.inl ⟨by rfl, fun W hW => ?_⟩) h5 ?_
     ·clear hW
      go_simp
      skip
     simp only [Act.put, List.getElem_toArray, List.getElem_cons_zero, List.getElem_cons_succ, List.setIfInBounds_toArray, List.set_cons_zero, List.set_cons_succ]
     refine wpAnyH_ready (rs := [17]) (by kernel_rfl) (by simp) (AllReadyH.cons rfl (fun K hK => ?_) AllReadyH.nil)
     go_simp
     refine hK.out _ _ r2 (fun h6 => ?_)
     clear hK K
     refine wpAnyH_done (by kernel_rfl) ?_ _
     have R1 : Hid (RobOwn (w9.setCell ⟨gv, m * 2, none⟩ (.slice po pn pk)) w1.heap.size (w9.setCell ⟨gv, m * 2, none⟩ (.slice po pn pk)).heap.size (.slice (some ⟨gv, 0, none⟩) (setAg L AV).length cv) (setAg L AV)) := by rw [show (setAg L AV).length = m + 1 by unfold setAg; rw [List.length_set]; exact HLM.out]; exact r1
     have R2 : Hid (BAt (w9.setCell ⟨gv, m * 2, none⟩ (.slice po pn pk)) (w.heap.size + 1) [.slice (some ⟨gv, 0, none⟩) (setAg L AV).length cv]) := by rw [show (setAg L AV).length = m + 1 by unfold setAg; rw [List.length_set]; exact HLM.out]; exact r2
     clear r1 r2 o9 g9 hat9 c9 fz9 a9 h5 h6 OP H1 H2 A3 G3 bWA CA
     go_wp2_with fail
     go_roundw
     case rel => exact ⟨k + 1, setAg L AV, _, _, by omega, by go_num, R1, R2, HF1, HW1, r3⟩
     case measure => simp [intOf] <;> omega
    go_simp
    go_wp2_with (go_at_call 33; refine (CA.out _).mono ?_; rintro e wq ⟨rfl, hbq⟩)
    have sq : BAt wq (w.heap.size + 1) [.slice (some ⟨gv, 0, none⟩) (m + 1) cv] := BAt.below (W := w3.drew) h0 hbq
    have cpq := (hbq.cell (p := ⟨gv, m * 2, none⟩) hgv).trans cp0
    have bq3 : Below w3.heap.size w3 wq := (Below.refl w3.heap.size w3).drew.trans hbq
    refine hK.out _ _ sq (fun h1 => ?_)
    clear hK K h1 hbq
    refine wpAnyH_ready (rs := [10, 13]) (by kernel_rfl) (by simp) (AllReadyH.cons rfl (fun K hK => ?_) (AllReadyH.cons rfl (fun K hK => ?_) AllReadyH.nil))
    ·go_simp
     refine hK.out _ _ sq (fun h2 => ?_)
     clear hK K h2
     refine wpAnyH_ready (rs := [13]) (by kernel_rfl) (by simp) (AllReadyH.cons rfl (fun K hK => ?_) AllReadyH.nil)
     go_simp
     have sa : BAt (wq.alloc (.cells #[.string AV] 9)) (w.heap.size + 1) [.slice (some ⟨gv, 0, none⟩) (m + 1) cv] := sq.alloc _
     have bWA : Below w3.heap.size w3 (wq.alloc (.cells #[.string AV] 9)) := bq3.alloc bq3.size _
     have cpa := (bWA.cell (p := ⟨gv, m * 2, none⟩) hgv).trans cp0
     have HBW : Hid (w1.heap.size ≤ (wq.alloc (.cells #[.string AV] 9)).heap.size) := Nat.le_trans G3.size bWA.size
     refine hK.out _ _ sa (fun h1 => ?_)
     clear hK K h1
     refine wpAnyH_ready (rs := [14]) (by kernel_rfl) (by simp) (AllReadyH.cons rfl (fun K hK => ?_) AllReadyH.nil)
     rw [if_pos (by rfl)]
     refine wp_append_at (wq.alloc (.cells #[.string AV] 9)) (.tmp 72) (.tmp 75) 30 rfl w1.heap.size 9 (.string ⟨#[]⟩) 1 16 Tryd.underlying30 Tryd.infoStr rfl (by decide) p (lastG L).ag.length (scells (lastG L).ag) rfl (own_below OP.out bWA) ⟨wq.heap.size, 0, none⟩ 1 1 [.string AV] rfl rfl (cell_one_new wq (.string AV) 9) (str_one AV) (by unfold maxLen; omega) (by omega) HBW.out ?_
     intro p' w9 o9 g9 hat9
     rw [← scells_snoc] at o9
     obtain ⟨po, pn, pk, hpo⟩ : ∃ po pn pk, p' = Value.slice po pn pk := by
      obtain ⟨po, pk, h⟩ := (StrRow.of_own o9).slice
      exact ⟨po, _, pk, h⟩
     subst hpo
     obtain ⟨r1, r2, r3, fz9, c9, a9⟩ := rob_agent (AV := AV) hB3 HLM.out H1.out H2.out HP.out HQ.out A3.out G3 bWA o9 g9 hat9
     refine hK.out _ _ a9 (fun h5 => ?_)
     clear hK K
     refine wpAnyH_take (i := 15) (v := (.pointer (some ⟨gv, m * 2, none⟩))) rfl (by kernel_rfl) (by kernel_rfl) (by kernel_rfl) (fun _ _ _ h => h) (Or.inl ⟨by rfl, fun W hW => ?_⟩) h5 ?_
     ·clear hW
      go_simp
      (intro h; omega)
     simp only [Act.put, List.getElem_toArray, List.getElem_cons_zero, List.getElem_cons_succ, List.setIfInBounds_toArray, List.set_cons_zero, List.set_cons_succ]
     refine wpAnyH_take (i := 16) (v := (.pointer (some ⟨gv, m * 2, none⟩))) rfl (by kernel_rfl) (by kernel_rfl) (by kernel_rfl) (fun _ _ _ h => h) (Or.inl ⟨by rfl, fun W hW => ?_⟩) h5 ?_
     ·clear hW
      go_simp
      skip
     simp only [Act.put, List.getElem_toArray, List.getElem_cons_zero, List.getElem_cons_succ, List.setIfInBounds_toArray, List.set_cons_zero, List.set_cons_succ]
     refine wpAnyH_ready (rs := [17]) (by kernel_rfl) (by simp) (AllReadyH.cons rfl (fun K hK => ?_) AllReadyH.nil)
     go_simp
     refine hK.out _ _ r2 (fun h6 => ?_)
     clear hK K
     refine wpAnyH_done (by kernel_rfl) ?_ _
     have R1 : Hid (RobOwn (w9.setCell ⟨gv, m * 2, none⟩ (.slice po pn pk)) w1.heap.size (w9.setCell ⟨gv, m * 2, none⟩ (.slice po pn pk)).heap.size (.slice (some ⟨gv, 0, none⟩) (setAg L AV).length cv) (setAg L AV)) := by rw [show (setAg L AV).length = m + 1 by unfold setAg; rw [List.length_set]; exact HLM.out]; exact r1
     have R2 : Hid (BAt (w9.setCell ⟨gv, m * 2, none⟩ (.slice po pn pk)) (w.heap.size + 1) [.slice (some ⟨gv, 0, none⟩) (setAg L AV).length cv]) := by rw [show (setAg L AV).length = m + 1 by unfold setAg; rw [List.length_set]; exact HLM.out]; exact r2
     clear r1 r2 o9 g9 hat9 c9 fz9 a9 h5 h6 OP H1 H2 A3 G3 bWA CA
     go_wp2_with fail
     go_roundw
     case rel => exact ⟨k + 1, setAg L AV, _, _, by omega, by go_num, R1, R2, HF1, HW1, r3⟩
     case measure => simp [intOf] <;> omega
    go_simp
    have sa : BAt (wq.alloc (.cells #[.string AV] 9)) (w.heap.size + 1) [.slice (some ⟨gv, 0, none⟩) (m + 1) cv] := sq.alloc _
    have bWA : Below w3.heap.size w3 (wq.alloc (.cells #[.string AV] 9)) := bq3.alloc bq3.size _
    have cpa := (bWA.cell (p := ⟨gv, m * 2, none⟩) hgv).trans cp0
    have HBW : Hid (w1.heap.size ≤ (wq.alloc (.cells #[.string AV] 9)).heap.size) := Nat.le_trans G3.size bWA.size
    refine hK.out _ _ sa (fun h1 => ?_)
    clear hK K h1
    refine wpAnyH_ready (rs := [10]) (by kernel_rfl) (by simp) (AllReadyH.cons rfl (fun K hK => ?_) AllReadyH.nil)
    go_simp
    refine hK.out _ _ sa (fun h2 => ?_)
    clear hK K h2
    refine wpAnyH_ready (rs := [14]) (by kernel_rfl) (by simp) (AllReadyH.cons rfl (fun K hK => ?_) AllReadyH.nil)
    rw [if_pos (by rfl)]
    refine wp_append_at (wq.alloc (.cells #[.string AV] 9)) (.tmp 72) (.tmp 75) 30 rfl w1.heap.size 9 (.string ⟨#[]⟩) 1 16 Tryd.underlying30 Tryd.infoStr rfl (by decide) p (lastG L).ag.length (scells (lastG L).ag) rfl (own_below OP.out bWA) ⟨wq.heap.size, 0, none⟩ 1 1 [.string AV] rfl rfl (cell_one_new wq (.string AV) 9) (str_one AV) (by unfold maxLen; omega) (by omega) HBW.out ?_
    intro p' w9 o9 g9 hat9
    rw [← scells_snoc] at o9
    obtain ⟨po, pn, pk, hpo⟩ : ∃ po pn pk, p' = Value.slice po pn pk := by
     obtain ⟨po, pk, h⟩ := (StrRow.of_own o9).slice
     exact ⟨po, _, pk, h⟩
    subst hpo
    obtain ⟨r1, r2, r3, fz9, c9, a9⟩ := rob_agent (AV := AV) hB3 HLM.out H1.out H2.out HP.out HQ.out A3.out G3 bWA o9 g9 hat9
    refine hK.out _ _ a9 (fun h5 => ?_)
    clear hK K
    refine wpAnyH_take (i := 15) (v := (.pointer (some ⟨gv, m * 2, none⟩))) rfl (by kernel_rfl) (by kernel_rfl) (by kernel_rfl) (fun _ _ _ h => h) (Or.inl ⟨by rfl, fun W hW => ?_⟩) h5 ?_
    ·clear hW
     go_simp
     (intro h; omega)
    simp only [Act.put, List.getElem_toArray, List.getElem_cons_zero, List.getElem_cons_succ, List.setIfInBounds_toArray, List.set_cons_zero, List.set_cons_succ]
    refine wpAnyH_take (i := 16) (v := (.pointer (some ⟨gv, m * 2, none⟩))) rfl (by kernel_rfl) (by kernel_rfl) (by kernel_rfl) (fun _ _ _ h => h) (Or.inl ⟨by rfl, fun W hW => ?_⟩) h5 ?_
    ·clear hW
     go_simp
     skip
    simp only [Act.put, List.getElem_toArray, List.getElem_cons_zero, List.getElem_cons_succ, List.setIfInBounds_toArray, List.set_cons_zero, List.set_cons_succ]
    refine wpAnyH_ready (rs := [17]) (by kernel_rfl) (by simp) (AllReadyH.cons rfl (fun K hK => ?_) AllReadyH.nil)
    go_simp
    refine hK.out _ _ r2 (fun h6 => ?_)
    clear hK K
    refine wpAnyH_done (by kernel_rfl) ?_ _
    have R1 : Hid (RobOwn (w9.setCell ⟨gv, m * 2, none⟩ (.slice po pn pk)) w1.heap.size (w9.setCell ⟨gv, m * 2, none⟩ (.slice po pn pk)).heap.size (.slice (some ⟨gv, 0, none⟩) (setAg L AV).length cv) (setAg L AV)) := by rw [show (setAg L AV).length = m + 1 by unfold setAg; rw [List.length_set]; exact HLM.out]; exact r1
    have R2 : Hid (BAt (w9.setCell ⟨gv, m * 2, none⟩ (.slice po pn pk)) (w.heap.size + 1) [.slice (some ⟨gv, 0, none⟩) (setAg L AV).length cv]) := by rw [show (setAg L AV).length = m + 1 by unfold setAg; rw [List.length_set]; exact HLM.out]; exact r2
    clear r1 r2 o9 g9 hat9 c9 fz9 a9 h5 h6 OP H1 H2 A3 G3 bWA CA
    go_wp2_with fail
    go_roundw
    case rel => exact ⟨k + 1, setAg L AV, _, _, by omega, by go_num, R1, R2, HF1, HW1, r3⟩
    case measure => simp [intOf] <;> omega
   have hkey : ((keyV x).toList == [117, 115, 101, 114, 45, 97, 103, 101, 110, 116]) = false := txt_ne (a := keyV x) hU
   have hnk : acc.length ≤ 20001 := by have := hWk.1; omega
   have hln : (lastG acc).ln.length ≤ 20001 := by have := (lastG_few hWk).2; omega
   clear CA hWk
   obtain ⟨n, hn⟩ : ∃ n, acc.length = n := ⟨_, rfl⟩
   have HNN : Hid (acc.length = n) := hn
   by_cases hAD : ∃ b : Bool, keyL x.data.toList = if b = true then keyA else keyD
   ·obtain ⟨b, hb⟩ := hAD
    have HS : Hid (stepV acc x = if acc.length = 0 ∨ (valV x).size = 0 then acc else setLn acc ⟨b, ⟨(plL 2 (valV x).data.toList).toArray⟩⟩) := stepV_ln hh b hb
    have hkb : ((keyV x).toList == [97, 108, 108, 111, 119]) = b := by
     cases b with
     | true => exact txt_eq (a := keyV x) hb
     | false => exact txt_ne (a := keyV x) (by show keyL x.data.toList ≠ _; rw [hb]; decide)
    have hkd : b = false → ((keyV x).toList == [100, 105, 115, 97, 108, 108, 111, 119]) = true := fun e => txt_eq (a := keyV x) (by show keyL x.data.toList = _; rw [hb, e]; rfl)
    have HKD : Hid (b = false → ((keyV x).toList == [100, 105, 115, 97, 108, 108, 111, 119]) = true) := hkd
    rw [hn] at HBB2 HRO2 hnk
    clear hn hkd hb hU hh
    generalize keyV x = KV at *
    generalize (⟨(plL 2 (valV x).data.toList).toArray⟩ : ByteArray) = PV at *
    generalize valV x = VV at *
    have hni : (n : Int) ≤ 20001 := by omega
    have c0 := HBB2.out.1 0 _ rfl
    have f0 := HBB2.out.2.1
    go_upto_if 39 with fail
    refine wp_cond_false rfl ?_
    apply wp_seq_k
    intro _ _
    go_cut [79] (fun v wx => v = .bool true ∧ wx = w2)
    case first =>
     cases b with
     | true =>
      clear HKD
      go_wp2_with fail
      go_meet
      case rel => exact ⟨rfl, rfl⟩
     | false =>
      have hkd := HKD.out rfl
      clear HKD
      go_wp2_with fail
      go_meet
      case rel => exact ⟨rfl, rfl⟩
    obtain ⟨rfl, hwc⟩ := hcut
    subst hwc
    clear HKD
    by_cases h0 : n = 0
    ·rw [HS.out, if_pos (.inl (HNN.out.trans h0))] at HF1 HW1
     subst h0
     have HRO3 : Hid (RobOwn wc w1.heap.size wc.heap.size (.slice ao acc.length c) acc) := by rw [HNN.out]; exact HRO2
     have HBB3 : Hid (BAt wc (w.heap.size + 1) [.slice ao acc.length c]) := by rw [HNN.out]; exact HBB2
     clear HRO2 HBB2 HS
     go_wp2_with fail
     go_roundw
     case rel => exact ⟨k + 1, acc, ao, c, by omega, by go_num, HRO3, HBB3, HF1, HW1, G2⟩
     case measure => simp [intOf] <;> omega
    obtain ⟨m, hm⟩ : ∃ m, n = m + 1 := ⟨n - 1, by omega⟩
    subst hm
    have hm0 : 0 < (m : Int) + 1 := by omega
    by_cases hv0 : VV.size = 0
    ·rw [HS.out, if_pos (.inr hv0)] at HF1 HW1
     have he := empty_yes hv0
     have HRO3 : Hid (RobOwn wc w1.heap.size wc.heap.size (.slice ao acc.length c) acc) := by rw [HNN.out]; exact HRO2
     have HBB3 : Hid (BAt wc (w.heap.size + 1) [.slice ao acc.length c]) := by rw [HNN.out]; exact HBB2
     clear HRO2 HBB2 HS hv0 h0
     go_wp2_with fail
     go_roundw
     case rel => exact ⟨k + 1, acc, ao, c, by omega, by go_num, HRO3, HBB3, HF1, HW1, G2⟩
     case measure => simp [intOf] <;> omega
    rw [HS.out, if_neg (by rintro (h | h); rw [HNN.out] at h; omega; exact hv0 h)] at HF1 HW1
    have he := empty_no (show 0 < VV.size by omega)
    obtain ⟨gv, cq', vs, p, q, hv, h1, h2, hp, hq, cp, cq, op, oq⟩ := HRO2.out.last HNN.out
    simp only [Value.slice.injEq] at hv
    obtain ⟨rfl, hnmm, rfl⟩ := hv
    clear hnmm hv0 HS h0
    go_upto_region 20 with fail
    generalize wc = w3 at *
    generalize c = cv at *
    have H1 : Hid (w3.ownsRow w1.heap.size 33 2 (.slice (some ⟨gv, 0, none⟩) (m + 1) cv) (m + 1) vs) := h1
    have H2 : Hid (Inner w3 w1.heap.size w3.heap.size (.slice (some ⟨gv, 0, none⟩) (m + 1) cv) vs acc (m + 1)) := h2
    have HP : Hid (vs[m * 2]? = some p) := hp
    have HQ : Hid (vs[m * 2 + 1]? = some q) := hq
    have OQ : Hid (w3.ownsRow w1.heap.size 35 2 q (lastG acc).ln.length (lcells (lastG acc).ln)) := oq
    have HCQ : Hid (w3.cell? ⟨gv, m * 2 + 1, none⟩ = some q) := cq
    have A3 : Hid (BAt w3 (w.heap.size + 1) [.slice (some ⟨gv, 0, none⟩) (m + 1) cv]) := HBB2
    have G3 := G2
    have hgv := (h1.lt gv rfl).2
    have hmk : (m : Int) ≤ 20001 := by omega
    have hwm : IntKind.i64.wrap (m : Int) = (m : Int) := by rw [IntKind.wrap_i64]; omega
    clear h1 h2 hp hq op oq cp cq HBB2 HRO2 G2 c0 f0
    refine wp_region_held_drew (S := fun W => BAt W (w.heap.size + 1) [.slice (some ⟨gv, 0, none⟩) (m + 1) cv]) (by kernel_rfl) A3.out (fun h0 => ?_)
    refine wpAnyH_take (i := 0) (v := ?_) rfl (by kernel_rfl) (by kernel_rfl) (by kernel_rfl) (fun _ _ _ h => h) (Or.inl ⟨by rfl, fun W hW => ?_⟩) h0 ?_
    rotate_left
    ·clear hW
     go_simp
     try with_reducible rfl
    simp only [Act.put, List.getElem_toArray, List.getElem_cons_zero, List.setIfInBounds_toArray, List.set_cons_zero, List.set_cons_succ]
    refine wpAnyH_take (i := 1) (v := (.slice (some ⟨gv, 0, none⟩) (m + 1) cv)) rfl (by kernel_rfl) (by kernel_rfl) (by kernel_rfl) (fun _ _ _ h => h) (Or.inl ⟨by rfl, fun W hW => ?_⟩) h0 ?_
    ·have q0 := hW.1 0 _ rfl
     go_simp
    simp only [Act.put, List.getElem_toArray, List.getElem_cons_zero, List.getElem_cons_succ, List.setIfInBounds_toArray, List.set_cons_zero, List.set_cons_succ]
    refine wpAnyH_take (i := 2) (v := ?_) rfl (by kernel_rfl) (by kernel_rfl) (by kernel_rfl) (fun _ _ _ h => h) (Or.inl ⟨by rfl, fun W hW => ?_⟩) h0 ?_
    rotate_left
    ·clear hW
     go_simp
     try with_reducible rfl
    simp only [Act.put, List.getElem_toArray, List.getElem_cons_zero, List.getElem_cons_succ, List.setIfInBounds_toArray, List.set_cons_zero, List.set_cons_succ]
    refine wpAnyH_take (i := 3) (v := (.int .i64 (m : Int))) rfl (by kernel_rfl) (by kernel_rfl) (by kernel_rfl) (fun _ _ _ h => h) (Or.inl ⟨by rfl, fun W hW => ?_⟩) h0 ?_
    ·clear hW
     go_simp
     skip
    simp only [Act.put, List.getElem_toArray, List.getElem_cons_zero, List.getElem_cons_succ, List.setIfInBounds_toArray, List.set_cons_zero, List.set_cons_succ]
    refine wpAnyH_take (i := 4) (v := ?_) rfl (by kernel_rfl) (by kernel_rfl) (by kernel_rfl) (fun _ _ _ h => h) (Or.inl ⟨by rfl, fun W hW => ?_⟩) h0 ?_
    rotate_left
    ·clear hW
     go_simp
     try with_reducible rfl
    simp only [Act.put, List.getElem_toArray, List.getElem_cons_zero, List.getElem_cons_succ, List.setIfInBounds_toArray, List.set_cons_zero, List.set_cons_succ]
    refine wpAnyH_take (i := 5) (v := (.slice (some ⟨gv, 0, none⟩) (m + 1) cv)) rfl (by kernel_rfl) (by kernel_rfl) (by kernel_rfl) (fun _ _ _ h => h) (Or.inl ⟨by rfl, fun W hW => ?_⟩) h0 ?_
    ·have q0 := hW.1 0 _ rfl
     go_simp
    simp only [Act.put, List.getElem_toArray, List.getElem_cons_zero, List.getElem_cons_succ, List.setIfInBounds_toArray, List.set_cons_zero, List.set_cons_succ]
    refine wpAnyH_take (i := 6) (v := ?_) rfl (by kernel_rfl) (by kernel_rfl) (by kernel_rfl) (fun _ _ _ h => h) (Or.inl ⟨by rfl, fun W hW => ?_⟩) h0 ?_
    rotate_left
    ·clear hW
     go_simp
     try with_reducible rfl
    simp only [Act.put, List.getElem_toArray, List.getElem_cons_zero, List.getElem_cons_succ, List.setIfInBounds_toArray, List.set_cons_zero, List.set_cons_succ]
    refine wpAnyH_take (i := 7) (v := (.int .i64 (m : Int))) rfl (by kernel_rfl) (by kernel_rfl) (by kernel_rfl) (fun _ _ _ h => h) (Or.inl ⟨by rfl, fun W hW => ?_⟩) h0 ?_
    ·clear hW
     go_simp
     skip
    simp only [Act.put, List.getElem_toArray, List.getElem_cons_zero, List.getElem_cons_succ, List.setIfInBounds_toArray, List.set_cons_zero, List.set_cons_succ]
    refine wpAnyH_take (i := 8) (v := (.pointer (some ⟨gv, m * 2, none⟩))) rfl (by kernel_rfl) (by kernel_rfl) (by kernel_rfl) (fun _ _ _ h => h) (Or.inl ⟨by rfl, fun W hW => ?_⟩) h0 ?_
    ·clear hW
     go_simp
     (intro h; omega)
    simp only [Act.put, List.getElem_toArray, List.getElem_cons_zero, List.getElem_cons_succ, List.setIfInBounds_toArray, List.set_cons_zero, List.set_cons_succ]
    refine wpAnyH_take (i := 9) (v := (.pointer (some ⟨gv, m * 2 + 1, none⟩))) rfl (by kernel_rfl) (by kernel_rfl) (by kernel_rfl) (fun _ _ _ h => h) (Or.inl ⟨by rfl, fun W hW => ?_⟩) h0 ?_
    ·clear hW
     go_simp
     skip
    simp only [Act.put, List.getElem_toArray, List.getElem_cons_zero, List.getElem_cons_succ, List.setIfInBounds_toArray, List.set_cons_zero, List.set_cons_succ]
    refine wpAnyH_take (i := 11) (v := ?_) rfl (by kernel_rfl) (by kernel_rfl) (by kernel_rfl) (fun _ _ _ h => h) (Or.inl ⟨by rfl, fun W hW => ?_⟩) h0 ?_
    rotate_left
    ·clear hW
     go_simp
     try with_reducible rfl
    simp only [Act.put, List.getElem_toArray, List.getElem_cons_zero, List.getElem_cons_succ, List.setIfInBounds_toArray, List.set_cons_zero, List.set_cons_succ]
    refine wpAnyH_take (i := 12) (v := (.bool b)) rfl (by kernel_rfl) (by kernel_rfl) (by kernel_rfl) (fun _ _ _ h => h) (Or.inl ⟨by rfl, fun W hW => ?_⟩) h0 ?_
    ·clear hW
     go_simp
     skip
    simp only [Act.put, List.getElem_toArray, List.getElem_cons_zero, List.getElem_cons_succ, List.setIfInBounds_toArray, List.set_cons_zero, List.set_cons_succ]
    refine wpAnyH_take (i := 13) (v := ?_) rfl (by kernel_rfl) (by kernel_rfl) (by kernel_rfl) (fun _ _ _ h => h) (Or.inl ⟨by rfl, fun W hW => ?_⟩) h0 ?_
    rotate_left
    ·clear hW
     go_simp
     try with_reducible rfl
    simp only [Act.put, List.getElem_toArray, List.getElem_cons_zero, List.getElem_cons_succ, List.setIfInBounds_toArray, List.set_cons_zero, List.set_cons_succ]
    have cq0 : w3.cell? ⟨gv, m * 2 + 1, none⟩ = some q := HCQ.out
    refine wpAnyH_ready (rs := [10, 14]) (by kernel_rfl) (by simp) (AllReadyH.cons rfl (fun K hK => ?_) (AllReadyH.cons rfl (fun K hK => ?_) AllReadyH.nil))
    ·go_simp
     refine hK.out _ _ h0 (fun h0' => ?_)
     clear hK K h0'
     refine wpAnyH_ready (rs := [14]) (by kernel_rfl) (by simp) (AllReadyH.cons rfl (fun K hK => ?_) AllReadyH.nil)
     go_simp
     go_wp2_with (go_at_call 16; refine (CP.out _).mono ?_; rintro e wq ⟨rfl, hbq⟩)
     have sq : BAt wq (w.heap.size + 1) [.slice (some ⟨gv, 0, none⟩) (m + 1) cv] := BAt.below (W := w3.drew) h0 hbq
     have cqq := (hbq.cell (p := ⟨gv, m * 2 + 1, none⟩) hgv).trans cq0
     have bq3 : Below w3.heap.size w3 wq := (Below.refl w3.heap.size w3).drew.trans hbq
     refine hK.out _ _ sq (fun h1 => ?_)
     clear hK K h1 hbq
     refine wpAnyH_take (i := 15) (v := .agg #[.bool b, .string PV]) rfl (by kernel_rfl) (by kernel_rfl) (by kernel_rfl) (fun _ _ _ h => h) (Or.inl ⟨by rfl, fun W hW => ?_⟩) sq ?_
     ·clear hW
      go_simp
     simp only [Act.put, List.getElem_toArray, List.getElem_cons_zero, List.getElem_cons_succ, List.setIfInBounds_toArray, List.set_cons_zero, List.set_cons_succ]
     refine wpAnyH_ready (rs := [16]) (by kernel_rfl) (by simp) (AllReadyH.cons rfl (fun K hK => ?_) AllReadyH.nil)
     go_simp
     have sa : BAt (wq.alloc (.cells #[.bool b, .string PV] 35)) (w.heap.size + 1) [.slice (some ⟨gv, 0, none⟩) (m + 1) cv] := sq.alloc _
     have bWA : Below w3.heap.size w3 (wq.alloc (.cells #[.bool b, .string PV] 35)) := bq3.alloc bq3.size _
     have cqa := (bWA.cell (p := ⟨gv, m * 2 + 1, none⟩) hgv).trans cq0
     have HBW : Hid (w1.heap.size ≤ (wq.alloc (.cells #[.bool b, .string PV] 35)).heap.size) := Nat.le_trans G3.size bWA.size
     refine hK.out _ _ sa (fun h1 => ?_)
     clear hK K h1
     refine wpAnyH_ready (rs := [17]) (by kernel_rfl) (by simp) (AllReadyH.cons rfl (fun K hK => ?_) AllReadyH.nil)
     rw [if_pos (by rfl)]
     refine wp_append_at (wq.alloc (.cells #[.bool b, .string PV] 35)) (.tmp 98) (.tmp 104) 31 rfl w1.heap.size 35 (.agg #[.bool false, .string ⟨#[]⟩]) 2 24 Tryd.underlying31 Tryd.infoL2 rfl (by decide) q (lastG acc).ln.length (lcells (lastG acc).ln) rfl (own_below OQ.out bWA) ⟨wq.heap.size, 0, none⟩ 1 1 [.bool b, .string PV] rfl rfl (fun jj u hj => by
      rw [Addr.add_lit, Nat.zero_add]
      exact (BAt.new wq #[.bool b, .string PV] 35).1 jj u hj) (by intro u hu; simp at hu; rcases hu with rfl | rfl <;> rfl) (by unfold maxLen; omega) (by omega) HBW.out ?_
     intro q' w9 o9 g9 hat9
     have o9' : w9.ownsRow w1.heap.size 35 2 q' ((lastG acc).ln.length + 1) (lcells ((lastG acc).ln ++ [⟨b, PV⟩])) := by rw [lcells_append]; exact o9
     obtain ⟨po, pn, pk, hpo⟩ : ∃ po pn pk, q' = Value.slice po pn pk := by
      rcases o9.2 with ⟨h, _⟩ | ⟨g9', cap9, cur9, h, _⟩
      ·exact ⟨_, _, _, h⟩
      exact ⟨_, _, _, h⟩
     subst hpo
     obtain ⟨r1, r2, r3, fz9, c9, a9⟩ := rob_line (X := ⟨b, PV⟩) hB3 HNN.out H1.out H2.out HP.out HQ.out A3.out G3 bWA o9' g9 hat9
     refine hK.out _ _ a9 (fun h5 => ?_)
     clear hK K
     refine wpAnyH_take (i := 18) (v := (.pointer (some ⟨gv, m * 2, none⟩))) rfl (by kernel_rfl) (by kernel_rfl) (by kernel_rfl) (fun _ _ _ h => h) (Or.inl ⟨by rfl, fun W hW => ?_⟩) h5 ?_
     ·clear hW
      go_simp
      (intro h; omega)
     simp only [Act.put, List.getElem_toArray, List.getElem_cons_zero, List.getElem_cons_succ, List.setIfInBounds_toArray, List.set_cons_zero, List.set_cons_succ]
     refine wpAnyH_take (i := 19) (v := (.pointer (some ⟨gv, m * 2 + 1, none⟩))) rfl (by kernel_rfl) (by kernel_rfl) (by kernel_rfl) (fun _ _ _ h => h) (Or.inl ⟨by rfl, fun W hW => ?_⟩) h5 ?_
     ·clear hW
      go_simp
      skip
     simp only [Act.put, List.getElem_toArray, List.getElem_cons_zero, List.getElem_cons_succ, List.setIfInBounds_toArray, List.set_cons_zero, List.set_cons_succ]
     refine wpAnyH_ready (rs := [20]) (by kernel_rfl) (by simp) (AllReadyH.cons rfl (fun K hK => ?_) AllReadyH.nil)
     go_simp
     refine hK.out _ _ r2 (fun h6 => ?_)
     clear hK K
     refine wpAnyH_done (by kernel_rfl) ?_ _
     have R1 : Hid (RobOwn (w9.setCell ⟨gv, m * 2 + 1, none⟩ (.slice po pn pk)) w1.heap.size (w9.setCell ⟨gv, m * 2 + 1, none⟩ (.slice po pn pk)).heap.size (.slice (some ⟨gv, 0, none⟩) (setLn acc ⟨b, PV⟩).length cv) (setLn acc ⟨b, PV⟩)) := by rw [show (setLn acc ⟨b, PV⟩).length = m + 1 by unfold setLn; rw [List.length_set]; exact HNN.out]; exact r1
     have R2 : Hid (BAt (w9.setCell ⟨gv, m * 2 + 1, none⟩ (.slice po pn pk)) (w.heap.size + 1) [.slice (some ⟨gv, 0, none⟩) (setLn acc ⟨b, PV⟩).length cv]) := by rw [show (setLn acc ⟨b, PV⟩).length = m + 1 by unfold setLn; rw [List.length_set]; exact HNN.out]; exact r2
     clear r1 r2 o9 o9' g9 hat9 c9 fz9 a9 h5 h6 OQ H1 H2 A3 G3 bWA CP
     go_wp2_with fail
     go_roundw
     case rel => exact ⟨k + 1, setLn acc ⟨b, PV⟩, _, _, by omega, by go_num, R1, R2, HF1, HW1, r3⟩
     case measure => simp [intOf] <;> omega
    go_simp
    go_wp2_with (go_at_call 16; refine (CP.out _).mono ?_; rintro e wq ⟨rfl, hbq⟩)
    have sq : BAt wq (w.heap.size + 1) [.slice (some ⟨gv, 0, none⟩) (m + 1) cv] := BAt.below (W := w3.drew) h0 hbq
    have cqq := (hbq.cell (p := ⟨gv, m * 2 + 1, none⟩) hgv).trans cq0
    have bq3 : Below w3.heap.size w3 wq := (Below.refl w3.heap.size w3).drew.trans hbq
    refine hK.out _ _ sq (fun h1 => ?_)
    clear hK K h1 hbq
    refine wpAnyH_take (i := 15) (v := .agg #[.bool b, .string PV]) rfl (by kernel_rfl) (by kernel_rfl) (by kernel_rfl) (fun _ _ _ h => h) (Or.inl ⟨by rfl, fun W hW => ?_⟩) sq ?_
    ·clear hW
     go_simp
    simp only [Act.put, List.getElem_toArray, List.getElem_cons_zero, List.getElem_cons_succ, List.setIfInBounds_toArray, List.set_cons_zero, List.set_cons_succ]
    refine wpAnyH_ready (rs := [10, 16]) (by kernel_rfl) (by simp) (AllReadyH.cons rfl (fun K hK => ?_) (AllReadyH.cons rfl (fun K hK => ?_) AllReadyH.nil))
    ·go_simp
     refine hK.out _ _ sq (fun h2 => ?_)
     clear hK K h2
     refine wpAnyH_ready (rs := [16]) (by kernel_rfl) (by simp) (AllReadyH.cons rfl (fun K hK => ?_) AllReadyH.nil)
     go_simp
     have sa : BAt (wq.alloc (.cells #[.bool b, .string PV] 35)) (w.heap.size + 1) [.slice (some ⟨gv, 0, none⟩) (m + 1) cv] := sq.alloc _
     have bWA : Below w3.heap.size w3 (wq.alloc (.cells #[.bool b, .string PV] 35)) := bq3.alloc bq3.size _
     have cqa := (bWA.cell (p := ⟨gv, m * 2 + 1, none⟩) hgv).trans cq0
     have HBW : Hid (w1.heap.size ≤ (wq.alloc (.cells #[.bool b, .string PV] 35)).heap.size) := Nat.le_trans G3.size bWA.size
     refine hK.out _ _ sa (fun h1 => ?_)
     clear hK K h1
     refine wpAnyH_ready (rs := [17]) (by kernel_rfl) (by simp) (AllReadyH.cons rfl (fun K hK => ?_) AllReadyH.nil)
     rw [if_pos (by rfl)]
     refine wp_append_at (wq.alloc (.cells #[.bool b, .string PV] 35)) (.tmp 98) (.tmp 104) 31 rfl w1.heap.size 35 (.agg #[.bool false, .string ⟨#[]⟩]) 2 24 Tryd.underlying31 Tryd.infoL2 rfl (by decide) q (lastG acc).ln.length (lcells (lastG acc).ln) rfl (own_below OQ.out bWA) ⟨wq.heap.size, 0, none⟩ 1 1 [.bool b, .string PV] rfl rfl (fun jj u hj => by
      rw [Addr.add_lit, Nat.zero_add]
      exact (BAt.new wq #[.bool b, .string PV] 35).1 jj u hj) (by intro u hu; simp at hu; rcases hu with rfl | rfl <;> rfl) (by unfold maxLen; omega) (by omega) HBW.out ?_
     intro q' w9 o9 g9 hat9
     have o9' : w9.ownsRow w1.heap.size 35 2 q' ((lastG acc).ln.length + 1) (lcells ((lastG acc).ln ++ [⟨b, PV⟩])) := by rw [lcells_append]; exact o9
     obtain ⟨po, pn, pk, hpo⟩ : ∃ po pn pk, q' = Value.slice po pn pk := by
      rcases o9.2 with ⟨h, _⟩ | ⟨g9', cap9, cur9, h, _⟩
      ·exact ⟨_, _, _, h⟩
      exact ⟨_, _, _, h⟩
     subst hpo
     obtain ⟨r1, r2, r3, fz9, c9, a9⟩ := rob_line (X := ⟨b, PV⟩) hB3 HNN.out H1.out H2.out HP.out HQ.out A3.out G3 bWA o9' g9 hat9
     refine hK.out _ _ a9 (fun h5 => ?_)
     clear hK K
     refine wpAnyH_take (i := 18) (v := (.pointer (some ⟨gv, m * 2, none⟩))) rfl (by kernel_rfl) (by kernel_rfl) (by kernel_rfl) (fun _ _ _ h => h) (Or.inl ⟨by rfl, fun W hW => ?_⟩) h5 ?_
     ·clear hW
      go_simp
      (intro h; omega)
     simp only [Act.put, List.getElem_toArray, List.getElem_cons_zero, List.getElem_cons_succ, List.setIfInBounds_toArray, List.set_cons_zero, List.set_cons_succ]
     refine wpAnyH_take (i := 19) (v := (.pointer (some ⟨gv, m * 2 + 1, none⟩))) rfl (by kernel_rfl) (by kernel_rfl) (by kernel_rfl) (fun _ _ _ h => h) (Or.inl ⟨by rfl, fun W hW => ?_⟩) h5 ?_
     ·clear hW
      go_simp
      skip
     simp only [Act.put, List.getElem_toArray, List.getElem_cons_zero, List.getElem_cons_succ, List.setIfInBounds_toArray, List.set_cons_zero, List.set_cons_succ]
     refine wpAnyH_ready (rs := [20]) (by kernel_rfl) (by simp) (AllReadyH.cons rfl (fun K hK => ?_) AllReadyH.nil)
     go_simp
     refine hK.out _ _ r2 (fun h6 => ?_)
     clear hK K
     refine wpAnyH_done (by kernel_rfl) ?_ _
     have R1 : Hid (RobOwn (w9.setCell ⟨gv, m * 2 + 1, none⟩ (.slice po pn pk)) w1.heap.size (w9.setCell ⟨gv, m * 2 + 1, none⟩ (.slice po pn pk)).heap.size (.slice (some ⟨gv, 0, none⟩) (setLn acc ⟨b, PV⟩).length cv) (setLn acc ⟨b, PV⟩)) := by rw [show (setLn acc ⟨b, PV⟩).length = m + 1 by unfold setLn; rw [List.length_set]; exact HNN.out]; exact r1
     have R2 : Hid (BAt (w9.setCell ⟨gv, m * 2 + 1, none⟩ (.slice po pn pk)) (w.heap.size + 1) [.slice (some ⟨gv, 0, none⟩) (setLn acc ⟨b, PV⟩).length cv]) := by rw [show (setLn acc ⟨b, PV⟩).length = m + 1 by unfold setLn; rw [List.length_set]; exact HNN.out]; exact r2
     clear r1 r2 o9 o9' g9 hat9 c9 fz9 a9 h5 h6 OQ H1 H2 A3 G3 bWA CP
     go_wp2_with fail
     go_roundw
     case rel => exact ⟨k + 1, setLn acc ⟨b, PV⟩, _, _, by omega, by go_num, R1, R2, HF1, HW1, r3⟩
     case measure => simp [intOf] <;> omega
    go_simp
    have sa : BAt (wq.alloc (.cells #[.bool b, .string PV] 35)) (w.heap.size + 1) [.slice (some ⟨gv, 0, none⟩) (m + 1) cv] := sq.alloc _
    have bWA : Below w3.heap.size w3 (wq.alloc (.cells #[.bool b, .string PV] 35)) := bq3.alloc bq3.size _
    have cqa := (bWA.cell (p := ⟨gv, m * 2 + 1, none⟩) hgv).trans cq0
    have HBW : Hid (w1.heap.size ≤ (wq.alloc (.cells #[.bool b, .string PV] 35)).heap.size) := Nat.le_trans G3.size bWA.size
    refine hK.out _ _ sa (fun h1 => ?_)
    clear hK K h1
    refine wpAnyH_ready (rs := [10]) (by kernel_rfl) (by simp) (AllReadyH.cons rfl (fun K hK => ?_) AllReadyH.nil)
    go_simp
    refine hK.out _ _ sa (fun h2 => ?_)
    clear hK K h2
    refine wpAnyH_ready (rs := [17]) (by kernel_rfl) (by simp) (AllReadyH.cons rfl (fun K hK => ?_) AllReadyH.nil)
    rw [if_pos (by rfl)]
    refine wp_append_at (wq.alloc (.cells #[.bool b, .string PV] 35)) (.tmp 98) (.tmp 104) 31 rfl w1.heap.size 35 (.agg #[.bool false, .string ⟨#[]⟩]) 2 24 Tryd.underlying31 Tryd.infoL2 rfl (by decide) q (lastG acc).ln.length (lcells (lastG acc).ln) rfl (own_below OQ.out bWA) ⟨wq.heap.size, 0, none⟩ 1 1 [.bool b, .string PV] rfl rfl (fun jj u hj => by
     rw [Addr.add_lit, Nat.zero_add]
     exact (BAt.new wq #[.bool b, .string PV] 35).1 jj u hj) (by intro u hu; simp at hu; rcases hu with rfl | rfl <;> rfl) (by unfold maxLen; omega) (by omega) HBW.out ?_
    intro q' w9 o9 g9 hat9
    have o9' : w9.ownsRow w1.heap.size 35 2 q' ((lastG acc).ln.length + 1) (lcells ((lastG acc).ln ++ [⟨b, PV⟩])) := by rw [lcells_append]; exact o9
    obtain ⟨po, pn, pk, hpo⟩ : ∃ po pn pk, q' = Value.slice po pn pk := by
     rcases o9.2 with ⟨h, _⟩ | ⟨g9', cap9, cur9, h, _⟩
     ·exact ⟨_, _, _, h⟩
     exact ⟨_, _, _, h⟩
    subst hpo
    obtain ⟨r1, r2, r3, fz9, c9, a9⟩ := rob_line (X := ⟨b, PV⟩) hB3 HNN.out H1.out H2.out HP.out HQ.out A3.out G3 bWA o9' g9 hat9
    refine hK.out _ _ a9 (fun h5 => ?_)
    clear hK K
    refine wpAnyH_take (i := 18) (v := (.pointer (some ⟨gv, m * 2, none⟩))) rfl (by kernel_rfl) (by kernel_rfl) (by kernel_rfl) (fun _ _ _ h => h) (Or.inl ⟨by rfl, fun W hW => ?_⟩) h5 ?_
    ·clear hW
     go_simp
     (intro h; omega)
    simp only [Act.put, List.getElem_toArray, List.getElem_cons_zero, List.getElem_cons_succ, List.setIfInBounds_toArray, List.set_cons_zero, List.set_cons_succ]
    refine wpAnyH_take (i := 19) (v := (.pointer (some ⟨gv, m * 2 + 1, none⟩))) rfl (by kernel_rfl) (by kernel_rfl) (by kernel_rfl) (fun _ _ _ h => h) (Or.inl ⟨by rfl, fun W hW => ?_⟩) h5 ?_
    ·clear hW
     go_simp
     skip
    simp only [Act.put, List.getElem_toArray, List.getElem_cons_zero, List.getElem_cons_succ, List.setIfInBounds_toArray, List.set_cons_zero, List.set_cons_succ]
    refine wpAnyH_ready (rs := [20]) (by kernel_rfl) (by simp) (AllReadyH.cons rfl (fun K hK => ?_) AllReadyH.nil)
    go_simp
    refine hK.out _ _ r2 (fun h6 => ?_)
    clear hK K
    refine wpAnyH_done (by kernel_rfl) ?_ _
    have R1 : Hid (RobOwn (w9.setCell ⟨gv, m * 2 + 1, none⟩ (.slice po pn pk)) w1.heap.size (w9.setCell ⟨gv, m * 2 + 1, none⟩ (.slice po pn pk)).heap.size (.slice (some ⟨gv, 0, none⟩) (setLn acc ⟨b, PV⟩).length cv) (setLn acc ⟨b, PV⟩)) := by rw [show (setLn acc ⟨b, PV⟩).length = m + 1 by unfold setLn; rw [List.length_set]; exact HNN.out]; exact r1
    have R2 : Hid (BAt (w9.setCell ⟨gv, m * 2 + 1, none⟩ (.slice po pn pk)) (w.heap.size + 1) [.slice (some ⟨gv, 0, none⟩) (setLn acc ⟨b, PV⟩).length cv]) := by rw [show (setLn acc ⟨b, PV⟩).length = m + 1 by unfold setLn; rw [List.length_set]; exact HNN.out]; exact r2
    clear r1 r2 o9 o9' g9 hat9 c9 fz9 a9 h5 h6 OQ H1 H2 A3 G3 bWA CP
    go_wp2_with fail
    go_roundw
    case rel => exact ⟨k + 1, setLn acc ⟨b, PV⟩, _, _, by omega, by go_num, R1, R2, HF1, HW1, r3⟩
    case measure => simp [intOf] <;> omega
   have hA : keyL x.data.toList ≠ keyA := fun e => hAD ⟨true, e⟩
   have hD : keyL x.data.toList ≠ keyD := fun e => hAD ⟨false, e⟩
   have hka : ((keyV x).toList == [97, 108, 108, 111, 119]) = false := txt_ne (a := keyV x) hA
   have hkd : ((keyV x).toList == [100, 105, 115, 97, 108, 108, 111, 119]) = false := txt_ne (a := keyV x) hD
   rw [stepV_other hU hA hD] at HF1 HW1
   have c0 := HBB2.out.1 0 _ rfl
   clear hU hA hD hh hAD hn HNN CP
   generalize keyV x = KV at *
   generalize valV x = VV at *
   go_wp2_with fail
   go_roundw
   case rel => exact ⟨k + 1, acc, ao, c, by omega, by go_num, HRO2, HBB2, HF1, HW1, G2⟩
   case measure => simp [intOf] <;> omega
 have hki : ¬ (k : Int) < fs.length := by omega
 have HE : Hid (acc = R) := by
  have := HF.out
  rwa [List.drop_of_length_le (by omega)] at this
 have HRR : Hid (RobOwn wr w1.heap.size wr.heap.size (.slice ao acc.length c) R) := by
  have h9 : ∀ X, acc = X → RobOwn wr w1.heap.size wr.heap.size (.slice ao acc.length c) X := fun X e => by subst e; exact HRO.out
  exact h9 R HE.out
 have c0 := HBB.out.1 0 _ rfl
 have A2 : BAt wr w.heap.size [.slice none 0 0] := HB2.out.same hgr.size (hgr.block _ HB2.out.2.2 (by simp))
 have q0 := A2.1 0 _ rfl
 have f0 := A2.2.1
 clear HF HW HRO
 go_wp2_with fail
 refine bodyPost_ret (rob_res1 rfl _ _ w.heap.size (.slice ao acc.length c) rfl (A2.set 0 (by simp) _)) rfl ⟨_, rfl, ?_, ?_⟩
 ·have h9 := HRR.out.same (w' := wr.setCell ⟨w.heap.size, 0, none⟩ (.slice ao acc.length c)) fun b hb1 hb2 => Below.heap_setCell _ _ _ _ (show b ≠ w.heap.size by omega)
  exact (h9.wide (by simp)).down bw1.size
 exact (bw1.trans (⟨hgr.os, hgr.tape, hgr.output, hgr.size, fun b hb => hgr.block b (by have := bw1.size; omega) (fun e => by injection e with e; omega)⟩ : Below w.heap.size w1 wr)).setCell (Nat.le_refl _) _
end Go.Proofs.YtjdnemjcjodboaaDoor
