/- RobLineI2, CutWay, RepOne, CutOne. -/
import Derived.Test.YtjdnemjcjodboaaDoorRp12
import Derived.Lib.IndexMore
import Derived.Lib.Replace
import Derived.Lib.IndexBytes
set_option maxHeartbeats 8000000
set_option maxRecDepth 100000
namespace Go.Proofs.YtjdnemjcjodboaaDoor
open Go.RowKit
set_option linter.unusedVariables false
theorem implWithLineL (acc : List PT) (v : Value) (KV VV PV : ByteArray) (b : Bool) (base g : Nat) (w : World) (hgw : g < w.heap.size) (hoff : OffG w v acc.length g) (hk : (KV.toList == [117, 115, 101, 114, 45, 97, 103, 101, 110, 116]) = false) (hkb : (KV.toList == [97, 108, 108, 111, 119]) = b) (hkd : b = false → (KV.toList == [100, 105, 115, 97, 108, 108, 111, 119]) = true)
  (hn : acc.length ≤ 1048576) (hln : (lastG acc).ln.length ≤ 1048576) (hb : base ≤ w.heap.size)
  (CP : Hid (∀ W, Below w.heap.size w W → Calls Tryd.prog 10 #[.string VV] W fun e w' => e = .returned (.string PV) ∧ Below W.heap.size W w')) (h : RobOwn w base w.heap.size v acc) :
  Calls Tryd.prog 19 #[v, .string KV, .string VV] w fun e w' => ∃ v', e = .returned v' ∧ RobOwn w' base w'.heap.size v' (if acc.length = 0 ∨ VV.size = 0 then acc else setLn acc ⟨b, PV⟩) ∧ Below base w w' ∧ OffG w' v' (if acc.length = 0 ∨ VV.size = 0 then acc else setLn acc ⟨b, PV⟩).length g ∧ w'.heap[g]? = w.heap[g]? := by
 obtain ⟨ao, c, hv⟩ := h.row.slice
 obtain ⟨n, hnn⟩ : ∃ n, acc.length = n := ⟨_, rfl⟩
 have HNN : Hid (acc.length = n) := hnn
 rw [hnn] at hv hn hoff ⊢
 subst hv
 clear hnn
 have HOFF : Hid (OffG w (.slice ao n c) n g) := hoff
 clear hoff
 have HRO : Hid (RobOwn w base w.heap.size (.slice ao n c) acc) := h
 have HKD : Hid (b = false → (KV.toList == [100, 105, 115, 97, 108, 108, 111, 119]) = true) := hkd
 clear h hkd
 have hni : (n : Int) ≤ 1048576 := by omega
 by_cases h0 : n = 0
 ·subst h0
  rw [if_pos (.inl rfl)]
  go_enter Tryd.func19, Tryd.ntmps19
  go_upto_block 2 with fail
  go_cut [0] (fun v0 wx => v0 = .slice ao 0 c ∧ wx = w)
  case first =>
   cases b with
   | true =>
    go_wp2_with fail
    go_meet
    case rel => exact ⟨rfl, rfl⟩
   | false =>
    have hkd := HKD.out rfl
    go_wp2_with fail
    go_meet
    case rel => exact ⟨rfl, rfl⟩
  obtain ⟨rfl, hcw⟩ := hcut
  subst hcw
  clear HKD
  go_wp2_with fail
  go_ret
  exact ⟨.slice ao 0 c, rfl, HRO.out, Below.refl _ _, by rw [HNN.out]; exact HOFF.out, rfl⟩
 obtain ⟨m, hm⟩ : ∃ m, n = m + 1 := ⟨n - 1, by omega⟩
 subst hm
 obtain ⟨gv, cy, vs, p, q, hv, h1, h2, hp, hq, cp, cq, op, oq⟩ := HRO.out.last HNN.out
 simp only [Value.slice.injEq] at hv
 obtain ⟨rfl, hnm2, rfl⟩ := hv
 clear hnm2 h0
 obtain ⟨qx, qk, hqq⟩ := (LineRow.of_own' oq).slice
 obtain ⟨px, pk, hpp⟩ := (StrRow.of_own op).slice
 subst hqq hpp
 have hmi : (m : Int) ≤ 1048576 := by omega
 have hwm : IntKind.i64.wrap (m : Int) = (m : Int) := by rw [IntKind.wrap_i64]; omega
 obtain ⟨P1, P2, P3⟩ := h2.2.1 _ _ (by omega) hp
 obtain ⟨Q1, Q2, _⟩ := h2.2.1 _ _ (by omega) hq
 have apq : apt (.slice px (lastG acc).ag.length pk) (.slice qx (lastG acc).ln.length qk) := P3 _ _ (by omega) hq (by omega)
 have hlast : acc.getD m pt0 = lastG acc := by unfold lastG; rw [HNN.out, Nat.add_sub_cancel]
 have HXG : Hid (∀ x ∈ vs, x.ownBlock ≠ some g) := HOFF.out.2 base vs h1
 have HPX : Hid ((Value.slice px (lastG acc).ag.length pk).ownBlock ≠ some g) := HXG.out _ (List.mem_of_getElem? hp)
 have HQX : Hid ((Value.slice qx (lastG acc).ln.length qk).ownBlock ≠ some g) := HXG.out _ (List.mem_of_getElem? hq)
 have HGV : Hid (gv ≠ g) := fun e => HOFF.out.1 (by rw [e]; rfl)
 have HLS : Hid ((setLn acc ⟨b, PV⟩).length = m + 1) := by show _ = _; unfold setLn; rw [List.length_set]; exact HNN.out
 by_cases hv0 : VV.size = 0
 ·rw [if_pos (.inr hv0)]
  have CW : Hid (CB 46 #[.agg #[.slice px (lastG acc).ag.length pk, .slice qx (lastG acc).ln.length qk], .string KV, .string VV] w (.agg #[.slice px (lastG acc).ag.length pk, .slice qx (lastG acc).ln.length qk])) := implWithNone px qx _ pk _ qk KV VV w hk hv0
  have HFIN : Hid (∀ w6 : World, Below w.heap.size w w6 → RobOwn ((w6.setCell ⟨gv, m * 2, none⟩ (.slice px (lastG acc).ag.length pk)).setCell ⟨gv, m * 2 + 1, none⟩ (.slice qx (lastG acc).ln.length qk)) base ((w6.setCell ⟨gv, m * 2, none⟩ (.slice px (lastG acc).ag.length pk)).setCell ⟨gv, m * 2 + 1, none⟩ (.slice qx (lastG acc).ln.length qk)).heap.size (.slice (some ⟨gv, 0, none⟩) (m + 1) c) acc ∧ w6.cell? ⟨gv, m * 2, none⟩ = some (.slice px (lastG acc).ag.length pk) ∧ w6.cell? ⟨gv, m * 2 + 1, none⟩ = some (.slice qx (lastG acc).ln.length qk) ∧ (∀ j, w6.frozen? ⟨gv, j, none⟩ = false) ∧ base ≤ gv ∧ ((w6.setCell ⟨gv, m * 2, none⟩ (.slice px (lastG acc).ag.length pk)).setCell ⟨gv, m * 2 + 1, none⟩ (.slice qx (lastG acc).ln.length qk)).ownsRow base 33 2 (.slice (some ⟨gv, 0, none⟩) (m + 1) c) (m + 1) ((vs.set (m * 2) (.slice px (lastG acc).ag.length pk)).set (m * 2 + 1) (.slice qx (lastG acc).ln.length qk))) := fun w6 b6 => by
   refine rob_put2 (p' := .slice px (lastG acc).ag.length pk) (q' := .slice qx (lastG acc).ln.length qk) HNN.out h1 h2 hp hq (fun b hb1 hb2 n1 n2 => b6.block b hb2) b6.size ?_ ?_ (.inl rfl) (.inl rfl) apq rfl (fun j hj hne => rfl)
   ·rw [hlast]; exact own_below op b6
   rw [hlast]; exact own_below oq b6
  clear h1 h2 hp hq op oq P1 P2 P3 Q1 Q2 apq hlast HRO hv0
  generalize (lastG acc).ln.length = ql at *
  generalize (lastG acc).ag.length = pl at *
  go_enter Tryd.func19, Tryd.ntmps19
  go_upto_block 2 with fail
  go_cut [0] (fun v0 wx => v0 = .slice (some ⟨gv, 0, none⟩) (m + 1) c ∧ wx = w)
  case first =>
   cases b with
   | true =>
    go_wp2_with fail
    go_meet
    case rel => exact ⟨rfl, rfl⟩
   | false =>
    have hkd := HKD.out rfl
    go_wp2_with fail
    go_meet
    case rel => exact ⟨rfl, rfl⟩
  obtain ⟨rfl, hcw⟩ := hcut
  subst hcw
  clear HKD
  go_wp2_with fail
  refine CW.out.mono ?_
  rintro e w6 ⟨rfl, b6⟩
  obtain ⟨R1, c1, c2, f6, hgb, S7⟩ := HFIN.out w6 b6
  have HG7 : Hid (((w6.setCell ⟨gv, m * 2, none⟩ (.slice px pl pk)).setCell ⟨gv, m * 2 + 1, none⟩ (.slice qx ql qk)).heap[g]? = wc.heap[g]?) := by
   show _ = _
   rw [Below.heap_setCell _ _ _ _ (show g ≠ gv from fun e => HGV.out e.symm), Below.heap_setCell _ _ _ _ (show g ≠ gv from fun e => HGV.out e.symm)]
   exact b6.block g hgw
  have HOF7 : Hid (OffG ((w6.setCell ⟨gv, m * 2, none⟩ (.slice px pl pk)).setCell ⟨gv, m * 2 + 1, none⟩ (.slice qx ql qk)) (.slice (some ⟨gv, 0, none⟩) (m + 1) c) (m + 1) g) := OffG.of S7 HOFF.out.1 fun x hx => by
   rcases mem_set2 hx with h | h | h
   ·exact HXG.out x h
   ·rw [h]; exact HPX.out
   rw [h]; exact HQX.out
  clear S7
  have HR1 : Hid (RobOwn ((w6.setCell ⟨gv, m * 2, none⟩ (.slice px pl pk)).setCell ⟨gv, m * 2 + 1, none⟩ (.slice qx ql qk)) base ((w6.setCell ⟨gv, m * 2, none⟩ (.slice px pl pk)).setCell ⟨gv, m * 2 + 1, none⟩ (.slice qx ql qk)).heap.size (.slice (some ⟨gv, 0, none⟩) (m + 1) c) acc) := R1
  have B7 := ((b6.mono hb).setCell (p := ⟨gv, m * 2, none⟩) hgb (.slice px pl pk)).setCell (p := ⟨gv, m * 2 + 1, none⟩) hgb (.slice qx ql qk)
  clear R1 CW HFIN b6
  go_wp2_with fail
  go_ret
  exact ⟨.slice (some ⟨gv, 0, none⟩) (m + 1) c, rfl, HR1.out, B7, by rw [HNN.out]; exact HOF7.out, HG7.out⟩
 rw [if_neg (by rintro (h | h); omega; exact hv0 h)]
 have CW : Hid (Calls Tryd.prog 46 #[.agg #[.slice px (lastG acc).ag.length pk, .slice qx (lastG acc).ln.length qk], .string KV, .string VV] w fun e w' => ∃ q', e = .returned (.agg #[.slice px (lastG acc).ag.length pk, q']) ∧ w'.ownsRow base 35 2 q' ((lastG acc).ln.length + 1) (lcells ((lastG acc).ln ++ [⟨b, PV⟩])) ∧ w.grownBy w' (Value.slice qx (lastG acc).ln.length qk).ownBlock ∧ (q'.ownBlock = (Value.slice qx (lastG acc).ln.length qk).ownBlock ∨ ∀ b, q'.ownBlock = some b → w.heap.size ≤ b)) := implWithLn (lastG acc).ln _ px _ pk KV VV PV b base w hk hkb (by omega) hln hb CP oq
 have HFIN : Hid (∀ (q' : Value) (w6 : World), w6.ownsRow base 35 2 q' ((lastG acc).ln.length + 1) (lcells ((lastG acc).ln ++ [⟨b, PV⟩])) → w.grownBy w6 (Value.slice qx (lastG acc).ln.length qk).ownBlock → (q'.ownBlock = (Value.slice qx (lastG acc).ln.length qk).ownBlock ∨ ∀ b, q'.ownBlock = some b → w.heap.size ≤ b) → RobOwn ((w6.setCell ⟨gv, m * 2, none⟩ (.slice px (lastG acc).ag.length pk)).setCell ⟨gv, m * 2 + 1, none⟩ q') base ((w6.setCell ⟨gv, m * 2, none⟩ (.slice px (lastG acc).ag.length pk)).setCell ⟨gv, m * 2 + 1, none⟩ q').heap.size (.slice (some ⟨gv, 0, none⟩) (m + 1) c) (setLn acc ⟨b, PV⟩) ∧ w6.cell? ⟨gv, m * 2, none⟩ = some (.slice px (lastG acc).ag.length pk) ∧ w6.cell? ⟨gv, m * 2 + 1, none⟩ = some (.slice qx (lastG acc).ln.length qk) ∧ (∀ j, w6.frozen? ⟨gv, j, none⟩ = false) ∧ base ≤ gv ∧ ((w6.setCell ⟨gv, m * 2, none⟩ (.slice px (lastG acc).ag.length pk)).setCell ⟨gv, m * 2 + 1, none⟩ q').ownsRow base 33 2 (.slice (some ⟨gv, 0, none⟩) (m + 1) c) (m + 1) ((vs.set (m * 2) (.slice px (lastG acc).ag.length pk)).set (m * 2 + 1) q')) := fun q' w6 o6 g6 hat => by
  have hat2 : (setLn acc ⟨b, PV⟩).getD m pt0 = ⟨(lastG acc).ag, (lastG acc).ln ++ [⟨b, PV⟩]⟩ := by
   unfold setLn
   rw [HNN.out, Nat.add_sub_cancel, getD_set_p (by rw [HNN.out]; omega), if_pos rfl]
  refine rob_put2 (p' := .slice px (lastG acc).ag.length pk) (q' := q') HNN.out h1 h2 hp hq (fun b hb1 hb2 n1 n2 => g6.block b hb2 n2) g6.size ?_ ?_ (.inl rfl) hat ?_ (by unfold setLn; rw [List.length_set]) (fun j hj hne => ?_)
  ·rw [hat2]; exact own_at op fun b e => g6.block b (op.lt b e).2 fun e2 => apq b e e2.symm
  ·rw [hat2]; show World.ownsRow _ _ _ _ _ ((lastG acc).ln ++ [(⟨b, PV⟩ : LV)]).length _; rw [List.length_append]; exact o6
  ·intro b e1 e2
   rcases hat with h | h
   ·rw [h] at e2; exact apq b e1 e2
   have := h b e2; have := P2 b e1; omega
  unfold setLn
  rw [HNN.out, Nat.add_sub_cancel, getD_set_p (by rw [HNN.out]; omega), if_neg hne]
 have HPG : Hid (∀ b, (Value.slice qx (lastG acc).ln.length qk).ownBlock = some b → base ≤ b) := fun b e => (oq.lt b e).1
 clear h1 h2 hp hq op oq P1 P2 P3 Q1 Q2 apq hlast HRO hv0
 have HLL : Hid (∀ (q' : Value) (w6 : World), w6.ownsRow base 35 2 q' ((lastG acc).ln.length + 1) (lcells ((lastG acc).ln ++ [⟨b, PV⟩])) → ∃ po pn pk, q' = Value.slice po pn pk) := fun q' w6 o => by
  rcases o.2 with ⟨h, _⟩ | ⟨g9', cap9, cur9, h, _⟩
  ·exact ⟨_, _, _, h⟩
  exact ⟨_, _, _, h⟩
 generalize (lastG acc).ag.length = pl at *
 generalize hql : (lastG acc).ln.length = ql at *
 clear hql
 go_enter Tryd.func19, Tryd.ntmps19
 go_upto_block 2 with fail
 go_cut [0] (fun v0 wx => v0 = .slice (some ⟨gv, 0, none⟩) (m + 1) c ∧ wx = w)
 case first =>
  cases b with
  | true =>
   go_wp2_with fail
   go_meet
   case rel => exact ⟨rfl, rfl⟩
  | false =>
   have hkd := HKD.out rfl
   go_wp2_with fail
   go_meet
   case rel => exact ⟨rfl, rfl⟩
 obtain ⟨rfl, hcw⟩ := hcut
 subst hcw
 clear HKD
 go_wp2_with fail
 refine CW.out.mono ?_
 rintro e w6 ⟨q', rfl, o6, g6, hat6⟩
 obtain ⟨R1, c1, c2, f6, hgb, S7⟩ := HFIN.out q' w6 o6 g6 hat6
 have HG7 : Hid (((w6.setCell ⟨gv, m * 2, none⟩ (.slice px pl pk)).setCell ⟨gv, m * 2 + 1, none⟩ q').heap[g]? = wc.heap[g]?) := by
  show _ = _
  rw [Below.heap_setCell _ _ _ _ (show g ≠ gv from fun e => HGV.out e.symm), Below.heap_setCell _ _ _ _ (show g ≠ gv from fun e => HGV.out e.symm)]
  exact g6.block g hgw fun e => HQX.out e.symm
 have HOF7 : Hid (OffG ((w6.setCell ⟨gv, m * 2, none⟩ (.slice px pl pk)).setCell ⟨gv, m * 2 + 1, none⟩ q') (.slice (some ⟨gv, 0, none⟩) (m + 1) c) (m + 1) g) := OffG.of S7 HOFF.out.1 fun x hx => by
  rcases mem_set2 hx with h | h | h
  ·exact HXG.out x h
  ·rw [h]; exact HPX.out
  rw [h]
  rcases hat6 with k | k
  ·rw [k]; exact HQX.out
  intro e; have := k g e; omega
 clear S7
 have HR1 : Hid (RobOwn ((w6.setCell ⟨gv, m * 2, none⟩ (.slice px pl pk)).setCell ⟨gv, m * 2 + 1, none⟩ q') base ((w6.setCell ⟨gv, m * 2, none⟩ (.slice px pl pk)).setCell ⟨gv, m * 2 + 1, none⟩ q').heap.size (.slice (some ⟨gv, 0, none⟩) (m + 1) c) (setLn acc ⟨b, PV⟩)) := R1
 have B6 := (Below.refl base wc).grown g6 hb fun b e => HPG.out b e
 have B7 := (B6.setCell (p := ⟨gv, m * 2, none⟩) hgb (.slice px pl pk)).setCell (p := ⟨gv, m * 2 + 1, none⟩) hgb q'
 obtain ⟨po, pn, pk2, hpo⟩ := HLL.out q' w6 o6
 subst hpo
 clear R1 o6 g6 hat6 B6 CW HFIN HLL
 go_wp2_with fail
 go_ret
 exact ⟨.slice (some ⟨gv, 0, none⟩) (m + 1) c, rfl, HR1.out, B7, by rw [HLS.out]; exact HOF7.out, HG7.out⟩
theorem implWithLineO (v : Value) (KV VV : ByteArray) (w : World) (hk : (KV.toList == [117, 115, 101, 114, 45, 97, 103, 101, 110, 116]) = false) (hka : (KV.toList == [97, 108, 108, 111, 119]) = false) (hkd : (KV.toList == [100, 105, 115, 97, 108, 108, 111, 119]) = false) :
  Calls Tryd.prog 19 #[v, .string KV, .string VV] w fun e w' => e = .returned v ∧ w = w' := by
 go_enter Tryd.func19, Tryd.ntmps19
 go_wp2_with fail
 go_ret
 exact ⟨rfl, rfl⟩
end Go.Proofs.YtjdnemjcjodboaaDoor
namespace Go.Proofs.YtjdnemjcjodboaaDoor
open Go.RowKit
def upB (c : UInt8) (l : List UInt8) : List UInt8 := l.takeWhile fun x => x != c
def behB (c : UInt8) (l : List UInt8) : List UInt8 := (l.dropWhile fun x => x != c).drop 1
theorem index_while (c : UInt8) : ∀ l : List UInt8, Lib.index l [c] = if l.contains c then ((upB c l).length : Int) else -1
 | [] => rfl
 | b :: l => by
  have ih := index_while c l
  unfold upB at ih ⊢
  unfold Lib.index
  by_cases h : b = c
  ·subst h
   simp
  have h1 : ([c].isPrefixOf (b :: l)) = false := by
   simp [List.isPrefixOf, Ne.symm h]
  have h2 : (b :: l).contains c = l.contains c := by
   simp [Ne.symm h]
  have h3 : (b != c) = true := bne_iff_ne.2 h
  rw [h1, h2, ih, List.takeWhile_cons, h3]
  cases hc : l.contains c
  ·simp
  have h4 : (((List.takeWhile (fun x => x != c) l).length : Int) == -1) = false := beq_eq_false_iff_ne.2 (by omega)
  simp [h4]
theorem up_beh (c : UInt8) (l : List UInt8) : (l.contains c = true → l = upB c l ++ c :: behB c l) ∧ (l.contains c = false → upB c l = l ∧ behB c l = []) ∧ c ∉ upB c l := by
 unfold upB behB
 induction l with
 | nil => simp
 | cons b l ih =>
  by_cases h : b = c
  ·subst h; simp
  have h3 : (b != c) = true := bne_iff_ne.2 h
  have h2 : (b :: l).contains c = l.contains c := by simp [Ne.symm h]
  rw [h2, List.takeWhile_cons, List.dropWhile_cons, h3]
  refine ⟨fun hc => ?_, fun hc => ?_, ?_⟩
  ·have := ih.1 hc
   simp only [if_true, List.cons_append, List.cons.injEq, true_and]
   exact this
  ·have := ih.2.1 hc
   simp only [if_true, this.1, this.2, and_self]
  simp only [if_true, List.mem_cons, not_or]
  exact ⟨Ne.symm h, ih.2.2⟩
end Go.Proofs.YtjdnemjcjodboaaDoor
namespace Go.Proofs.YtjdnemjcjodboaaDoor
open Go.RowKit
set_option linter.unusedVariables false
theorem countFrom_one (c : UInt8) : ∀ (n : Nat) (l : List UInt8), l.length < n → Lib.countFrom [c] n l = l.count c
 | 0, l, h => by omega
 | n + 1, l, h => by
  have hu := up_beh c l
  rw [Lib.countFrom, index_while]
  cases hc : l.contains c with
  | false =>
   have : l.count c = 0 := List.count_eq_zero.2 (fun hm => by rw [List.contains_iff_mem.2 hm] at hc; cases hc)
   rw [this]; rfl
  | true =>
   have e := hu.1 hc
   have h0 : (((upB c l).length : Int) == -1) = false := beq_eq_false_iff_ne.2 (by omega)
   simp only [if_true, h0]
   have e1 : ((upB c l).length : Int).toNat + [c].length = (upB c l ++ [c]).length := by simp
   have e2 : l.drop ((upB c l).length + 1) = behB c l := by
    conv => lhs; arg 2; rw [e]
    rw [show (upB c l).length + 1 = (upB c l ++ [c]).length by simp, show upB c l ++ c :: behB c l = (upB c l ++ [c]) ++ behB c l by simp, List.drop_left']
    rfl
   have hl : (behB c l).length < n := by
    have := congrArg List.length e
    rw [List.length_append, List.length_cons] at this
    omega
   have e3 : ((upB c l).length : Int).toNat + [c].length = (upB c l).length + 1 := by simp
   rw [e3, e2, countFrom_one c n _ hl]
   conv => rhs; rw [e]
   rw [List.count_append, List.count_cons_self, List.count_eq_zero.2 hu.2.2]
   simp only [Bool.false_eq_true, if_false]
   omega
theorem map_no {a b : UInt8} {l : List UInt8} (h : a ∉ l) : (l.map fun x => if x = a then b else x) = l := by
 conv => rhs; rw [← List.map_id l]
 refine List.map_congr_left fun x hx => ?_
 by_cases e : x = a
 ·exact absurd (e ▸ hx) h
 rw [if_neg e]
 rfl
theorem replaceK_one (a b : UInt8) : ∀ (k : Nat) (l : List UInt8), l.count a ≤ k → Lib.replaceK [a] [b] k l = l.map fun x => if x = a then b else x
 | 0, l, h => by
  rw [Lib.replaceK, map_no (fun hm => by have := List.count_pos_iff.2 hm; omega)]
 | k + 1, l, h => by
  have hu := up_beh a l
  cases hc : l.contains a with
  | false =>
   rw [Lib.replaceK, index_while, hc, map_no (fun hm => by rw [List.contains_iff_mem.2 hm] at hc; cases hc)]
   rfl
  | true =>
   have e := hu.1 hc
   have hi : Lib.index l [a] = ((upB a l).length : Int) := by rw [index_while, hc]; rfl
   rw [Lib.replaceK_hit [a] [b] k l _ hi]
   have e2 : l.drop ((upB a l).length + [a].length) = behB a l := by
    conv => lhs; arg 2; rw [e]
    rw [show (upB a l).length + [a].length = (upB a l ++ [a]).length by simp, show upB a l ++ a :: behB a l = (upB a l ++ [a]) ++ behB a l by simp, List.drop_left']
    rfl
   have e3 : l.take (upB a l).length = upB a l := by
    conv => lhs; arg 2; rw [e]
    rw [List.take_left']
    rfl
   have hk : (behB a l).count a ≤ k := by
    have := congrArg (List.count a) e
    rw [List.count_append, List.count_cons_self] at this
    omega
   rw [e2, e3, replaceK_one a b k _ hk]
   conv => rhs; rw [e]
   rw [List.map_append, List.map_cons, if_pos rfl, map_no hu.2.2]
   simp
theorem replace_one {a b : UInt8} (h : a ≠ b) (l : List UInt8) : Lib.replaceAll l [a] [b] = l.map fun x => if x = a then b else x := by
 unfold Lib.replaceAll Lib.replace Lib.replaceNum Lib.count
 have h1 : (([a] : List UInt8) == [b]) = false := by simp [h]
 rw [h1, if_neg (by decide), if_pos (.inl (by decide)), countFrom_one a _ l (by omega), replaceK_one a b _ l (Nat.le_refl _)]
end Go.Proofs.YtjdnemjcjodboaaDoor
namespace Go.Proofs.YtjdnemjcjodboaaDoor
open Go.RowKit
theorem liteCut (c : UInt8) (s : ByteArray) (w : World) (hs : s.size ≤ 16777216) :
  Calls Tryd.prog 72 #[.string s, .string ⟨#[c]⟩] w fun e w' => e = .returned (.tuple #[.string ⟨(upB c s.data.toList).toArray⟩, .string ⟨(behB c s.data.toList).toArray⟩, .bool (s.data.toList.contains c)]) ∧ Below w.heap.size w w' := by
 have hi : Lib.indexByte s.data.toList c = if s.data.toList.contains c then ((upB c s.data.toList).length : Int) else -1 := by rw [← Lib.index_one, index_while]
 have CI : Hid (∀ W, CS 88 #[.string s, .string ⟨#[c]⟩] W (.int .i64 (Lib.indexByte s.data.toList c))) := fun W => (Tryd.stringslite_Index_one s c W).mono fun e w' h => ⟨h.1, h.2.symm⟩
 obtain ⟨h1, h2, _⟩ := up_beh c s.data.toList
 have hsl : s.data.toList.length = s.size := by simp
 cases hc : s.data.toList.contains c with
 | false =>
  obtain ⟨e1, e2⟩ := h2 hc
  rw [hi, hc] at CI
  rw [e1, e2, mk_data]
  clear hi h1 h2 e1 e2 hc hsl
  go_enter Tryd.func72, Tryd.ntmps72
  go_wp2_with fail
  refine (CI.out _).mono ?_
  rintro e w' ⟨rfl, rfl⟩
  go_wp2
  go_ret3
  exact ⟨rfl, Below.refl _ _⟩
 | true =>
  have e := h1 hc
  rw [hi, hc] at CI
  obtain ⟨k, hk⟩ : ∃ k, (upB c s.data.toList).length = k := ⟨_, rfl⟩
  have hlt : k + 1 ≤ s.size := by
   have := congrArg List.length e
   rw [List.length_append, List.length_cons, hk] at this
   omega
  have H1 : Hid (s.extract 0 k = ⟨(upB c s.data.toList).toArray⟩) := by
   show _ = _
   have : s.data.toList.take k = upB c s.data.toList := by
    conv => lhs; arg 2; rw [e]
    rw [← hk, List.take_left']
    rfl
   rw [← this, ← take_data, mk_data]
  have H2 : Hid (s.extract (k + 1) s.size = ⟨(behB c s.data.toList).toArray⟩) := by
   show _ = _
   have : s.data.toList.drop (k + 1) = behB c s.data.toList := by
    conv => lhs; arg 2; rw [e]
    have h3 : k + 1 = (upB c s.data.toList ++ [c]).length := by simp [hk]
    rw [h3, show upB c s.data.toList ++ c :: behB c s.data.toList = (upB c s.data.toList ++ [c]) ++ behB c s.data.toList by simp, List.drop_left']
    rfl
   rw [← this, ← drop_data, mk_data]
  rw [if_pos rfl, hk] at CI
  clear hi h1 h2 e hk hc hsl
  go_enter Tryd.func72, Tryd.ntmps72
  go_wp2_with fail
  refine (CI.out _).mono ?_
  rintro e w' ⟨rfl, rfl⟩
  go_wp2
  go_region
  all_goals (try go_wp2)
  all_goals go_ret3
  all_goals exact ⟨by rw [← H1.out, ← H2.out]; rfl, (Below.refl _ _).drew⟩
theorem implCutFree (c : UInt8) (s : ByteArray) (w : World) (hs : s.size ≤ 16777216) :
  Calls Tryd.prog 43 #[.string s, .string ⟨#[c]⟩] w fun e w' => e = .returned (.tuple #[.string ⟨(upB c s.data.toList).toArray⟩, .string ⟨(behB c s.data.toList).toArray⟩, .bool (s.data.toList.contains c)]) ∧ Below w.heap.size w w' := by
 have CC : Hid (∀ W, CB 72 #[.string s, .string ⟨#[c]⟩] W (.tuple #[.string ⟨(upB c s.data.toList).toArray⟩, .string ⟨(behB c s.data.toList).toArray⟩, .bool (s.data.toList.contains c)])) := fun W => liteCut c s W hs
 generalize (⟨(upB c s.data.toList).toArray⟩ : ByteArray) = A at CC ⊢
 generalize (⟨(behB c s.data.toList).toArray⟩ : ByteArray) = B at CC ⊢
 generalize s.data.toList.contains c = t at CC ⊢
 go_enter Tryd.func43, Tryd.ntmps43
 go_wp2_with fail
 refine (CC.out _).mono ?_
 rintro e w1 ⟨rfl, b1⟩
 go_wp2
 go_ret3
 exact ⟨rfl, b1⟩
end Go.Proofs.YtjdnemjcjodboaaDoor
