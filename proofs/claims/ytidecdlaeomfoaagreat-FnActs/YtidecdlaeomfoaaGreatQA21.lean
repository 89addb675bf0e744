/- ActGet, ActTo, ActAll, HostKinds, UrlKinds. -/
import Derived.Test.YtidecdlaeomfoaaGreatQA20
import Derived.RangeFuncBox
set_option maxHeartbeats 4000000
set_option maxRecDepth 100000
namespace Go.Proofs.YtidecdlaeomfoaaGreat
open Go.RowKit
set_option linter.unusedVariables false
set_option linter.unusedSimpArgs false
theorem getV_eq (o : Option (Nat × Nat)) : getV o = .tuple #[.int .i64 ((numO o : Nat) : Int), .int .i64 ((posO o : Nat) : Int), .bool o.isSome] := by
 cases o with
 | none => rfl
 | some r => obtain ⟨n, q⟩ := r; rfl
theorem textV_eq (l : List UInt8) (o : Option (Nat × Nat)) : textV l o = .tuple #[.string (txtO l o), .int .i64 ((endO o : Nat) : Int), .bool o.isSome] := by
 cases o with
 | none => rfl
 | some r => obtain ⟨n, q⟩ := r; rfl
theorem txtO_le {l : List UInt8} (o : Option (Nat × Nat)) : (txtO l o).size ≤ l.length := by
 cases o with
 | none => exact Nat.zero_le _
 | some r =>
  obtain ⟨q, n⟩ := r
  show (partL l q n).length ≤ _
  unfold partL
  rw [List.length_take, List.length_drop]
  omega
theorem act_result2 {fn : Func} {q r : Tmp} (h : fn.results = #[.cell q 25, .tmp r]) (tmps : Array Value) (W : World) (B : Nat) (a b c d z : Value)
  (hp : tmps[q]?.getD undef = .pointer (some ⟨B, 0, none⟩)) (hz : tmps[r]?.getD undef = z) (ha : BAt W B [a, b, c, d]) : (results fn tmps).run Tryz.prog W = .ok (.tuple #[.agg #[a, b, c, d], z]) W := by
 have c0 := ha.1 0 _ rfl
 have c1 := ha.1 1 _ rfl
 have c2 := ha.1 2 _ rfl
 have c3 := ha.1 3 _ rfl
 simp [results, h, hp, hz, asAddr, go_sem, c0, c1, c2, c3, Addr.add_lit]
def actV : Option AV → Value
 | none => .tuple #[.agg #[.int .i64 0, .string ⟨#[]⟩, .string ⟨#[]⟩, .int .i64 0], .bool false]
 | some x => .tuple #[.agg #[.int .i64 x.k, .string x.t, .string x.b, .int .i64 x.n], .bool true]
theorem implGetAct (v : Value) (l : List UInt8) (w : World) (hin : BRow w v l) (hn : l.length ≤ 1048576) :
  Calls Tryz.prog 9 #[v] w fun e w' => e = .returned (actV (getAct l)) ∧ Below w.heap.size w w' := by
 obtain ⟨O, hO⟩ : ∃ O, O = w.alloc (.cells #[.int .i64 0, .string ⟨#[]⟩, .string ⟨#[]⟩, .int .i64 0] 25) := ⟨_, rfl⟩
 have HOs : Hid (w.heap.size < O.heap.size) := by show _ < _; rw [hO]; simp
 have bO : Below w.heap.size w O := by rw [hO]; exact (Below.refl _ _).alloc (Nat.le_refl _) _
 have AO : BAt O w.heap.size [.int .i64 0, .string ⟨#[]⟩, .string ⟨#[]⟩, .int .i64 0] := by rw [hO]; exact BAt.new w #[.int .i64 0, .string ⟨#[]⟩, .string ⟨#[]⟩, .int .i64 0] _
 have hI := hin.below bO
 have hn2 : l.length ≤ 1099511627776 := by omega
 have G1 := implGetNum 0 v l O hI hn2
 have G2 := implGetNum ((posO (g1 l) : Nat) : Int) v l O hI hn2
 have G3 := implGetText ((posO (g2 l) : Nat) : Int) v l O hI hn2
 have G4 := implGetText ((endO (g3 l) : Nat) : Int) v l O hI hn2
 rw [show getL l 0 = g1 l from rfl, getV_eq] at G1
 rw [show getL l ((posO (g1 l) : Nat) : Int) = g2 l from rfl, getV_eq] at G2
 rw [show pieceL l ((posO (g2 l) : Nat) : Int) = g3 l from rfl, textV_eq] at G3
 rw [show pieceL l ((endO (g3 l) : Nat) : Int) = g4 l from rfl, textV_eq] at G4
 have hz3 := txtO_le (l := l) (g3 l)
 have hz4 := txtO_le (l := l) (g4 l)
 have HX : Hid (readA l = ⟨((numO (g1 l) : Nat) : Int), txtO l (g3 l), txtO l (g4 l), ((numO (g2 l) : Nat) : Int)⟩) := rfl
 have HI : Hid (BRow O v l) := hI
 obtain ⟨ao, cp, hv⟩ := hI.slice
 subst hv
 clear hin hI
 obtain ⟨V, hV⟩ : ∃ V, V = actV (getAct l) := ⟨_, rfl⟩
 have HV : Hid (V = actV (if actB (readA l) = true ∧ rwA (readA l) = l then some (readA l) else none)) := hV
 rw [← hV]
 clear hV
 rw [HX.out] at HV
 generalize ((numO (g1 l) : Nat) : Int) = k at *
 generalize ((numO (g2 l) : Nat) : Int) = n at *
 generalize txtO l (g3 l) = t at *
 generalize txtO l (g4 l) = b at *
 generalize ((posO (g1 l) : Nat) : Int) = p1 at *
 generalize ((posO (g2 l) : Nat) : Int) = p2 at *
 generalize ((endO (g3 l) : Nat) : Int) = p3 at *
 generalize ((endO (g4 l) : Nat) : Int) = p4 at *
 generalize (g1 l).isSome = i1 at *
 generalize (g2 l).isSome = i2 at *
 generalize (g3 l).isSome = i3 at *
 generalize (g4 l).isSome = i4 at *
 clear HX
 have CA : Hid (∀ W, CB 8 #[.agg #[.int .i64 k, .string t, .string b, .int .i64 n]] W (.bool (actB ⟨k, t, b, n⟩))) := fun W => implActOk ⟨k, t, b, n⟩ W
 have CP : Hid (∀ W, Calls Tryz.prog 6 #[.agg #[.int .i64 k, .string t, .string b, .int .i64 n]] W fun e w' => ∃ v', e = .returned v' ∧ w'.ownsRow W.heap.size 5 1 v' (actL ⟨k, t, b, n⟩).length (bcells (actL ⟨k, t, b, n⟩)) ∧ Below W.heap.size W w') := fun W => implPutAct ⟨k, t, b, n⟩ W (by dsimp only; omega) (by dsimp only; omega)
 have HAL : Hid (actL ⟨k, t, b, n⟩ = if actB ⟨k, t, b, n⟩ then rwA ⟨k, t, b, n⟩ else []) := rfl
 generalize actL ⟨k, t, b, n⟩ = A at *
 have H1 := hidB G1
 have H2 := hidB G2
 have H3 := hidB G3
 have H4 := hidB G4
 clear G1 G2 G3 G4
 obtain ⟨P, hP⟩ : ∃ P, P = actB ⟨k, t, b, n⟩ := ⟨_, rfl⟩
 rw [← hP] at CA HAL HV
 clear hP
 go_enter Tryz.func9, Tryz.ntmps9
 go_upto_region 1 with fail
 rw [← hO]
 clear hO
 go_wp2_with fail
 refine H1.out.mono ?_
 rintro e w1 ⟨rfl, rfl⟩
 go_wp2_with fail
 refine H2.out.mono ?_
 rintro e w1 ⟨rfl, rfl⟩
 go_wp2_with fail
 refine H3.out.mono ?_
 rintro e w1 ⟨rfl, rfl⟩
 go_wp2_with fail
 refine H4.out.mono ?_
 rintro e w1 ⟨rfl, rfl⟩
 clear H1 H2 H3 H4
 go_upto_region 6 with fail
 obtain ⟨U, hU⟩ : ∃ U, U = O.alloc (.cells #[.int .i64 k, .string t, .string b, .int .i64 n] 25) := ⟨_, rfl⟩
 have bU : Below O.heap.size O U := by rw [hU]; exact (Below.refl _ _).alloc (Nat.le_refl _) _
 have AU : BAt U O.heap.size [.int .i64 k, .string t, .string b, .int .i64 n] := by rw [hU]; exact BAt.new O #[.int .i64 k, .string t, .string b, .int .i64 n] _
 have AO2 := AO.below bU
 have BU := bO.trans (bU.mono bO.size)
 have HI2 : Hid (BRow U (.slice ao l.length cp) l) := HI.out.below bU
 rw [← hU]
 clear hU HI AO bU bO
 have zO := HOs.out
 clear HOs
 generalize O.heap.size = D at *
 have d0 := AU.1 0 _ rfl
 have d1 := AU.1 1 _ rfl
 have d2 := AU.1 2 _ rfl
 have d3 := AU.1 3 _ rfl
 cases P with
 | false =>
  have HE : Hid (V = actV none) := by rw [HV.out]; rfl
  clear HV HAL CP
  go_wp2_with fail
  refine (CA.out _).mono ?_
  rintro e wa ⟨rfl, ba⟩
  have AR := AO2.below ba
  have BR := BU.trans (ba.mono BU.size)
  clear ba d0 d1 d2 d3 CA AO2 AU BU HI2
  have r0 := AR.1 0 _ rfl
  have r1 := AR.1 1 _ rfl
  have r2 := AR.1 2 _ rfl
  have r3 := AR.1 3 _ rfl
  have rf := AR.2.1
  go_wp2_with fail
  refine bodyPost_ret (act_result2 rfl _ _ w.heap.size (.int .i64 0) (.string ⟨#[]⟩) (.string ⟨#[]⟩) (.int .i64 0) _ rfl rfl ((((AR.set 0 (by simp) _).set 1 (by simp) _).set 2 (by simp) _).set 3 (by simp) _)) rfl ⟨?_, (((BR.setCell (by simp) _).setCell (by simp) _).setCell (by simp) _).setCell (by simp) _⟩
  rw [HE.out]
  rfl
 | true =>
  have HA : Hid (A = rwA ⟨k, t, b, n⟩) := by rw [HAL.out]; rfl
  obtain ⟨Q, hQ⟩ : ∃ Q : Bool, Q = decide (A = l) := ⟨_, rfl⟩
  have HE : Hid (V = actV (if Q then some ⟨k, t, b, n⟩ else none)) := by
   show _ = _
   rw [HV.out, hQ, HA.out]
   by_cases h : rwA ⟨k, t, b, n⟩ = l
   ·rw [if_pos ⟨rfl, h⟩, decide_eq_true h]; rfl
   rw [if_neg (fun e => h e.2), decide_eq_false h]; rfl
  have HQ : Hid (decide (A = l) = Q) := hQ.symm
  clear HV HAL HA hQ
  go_wp2_with fail
  refine (CA.out _).mono ?_
  rintro e wa ⟨rfl, ba⟩
  have AR1 := AO2.below ba
  have AD1 := AU.below ba
  have BR1 := BU.trans (ba.mono BU.size)
  have HI3 : Hid (BRow wa (.slice ao l.length cp) l) := HI2.out.below ba
  clear ba d0 d1 d2 d3 CA AO2 AU BU HI2
  have d0 := AD1.1 0 _ rfl
  have d1 := AD1.1 1 _ rfl
  have d2 := AD1.1 2 _ rfl
  have d3 := AD1.1 3 _ rfl
  go_wp2_with fail
  refine (CP.out _).mono ?_
  rintro e wb ⟨vb, rfl, ob, bb⟩
  have AR := AR1.below bb
  have AD := AD1.below bb
  have BR := BR1.trans (bb.mono BR1.size)
  have CE := hidB (implBEqual vb (.slice ao l.length cp) A l wb (BRow.of_own ob) (HI3.out.below bb))
  rw [HQ.out] at CE
  obtain ⟨bo, bc, hvb⟩ := (BRow.of_own ob).slice
  subst hvb
  clear bb ob d0 d1 d2 d3 CP AR1 AD1 BR1 HI3 HQ
  go_wp2_with fail
  refine CE.out.mono ?_
  rintro e w1 ⟨rfl, rfl⟩
  clear CE
  cases Q with
  | false =>
   have r0 := AR.1 0 _ rfl
   have r1 := AR.1 1 _ rfl
   have r2 := AR.1 2 _ rfl
   have r3 := AR.1 3 _ rfl
   have rf := AR.2.1
   go_wp2_with fail
   refine bodyPost_ret (act_result2 rfl _ _ w.heap.size (.int .i64 0) (.string ⟨#[]⟩) (.string ⟨#[]⟩) (.int .i64 0) _ rfl rfl ((((AR.set 0 (by simp) _).set 1 (by simp) _).set 2 (by simp) _).set 3 (by simp) _)) rfl ⟨?_, (((BR.setCell (by simp) _).setCell (by simp) _).setCell (by simp) _).setCell (by simp) _⟩
   rw [HE.out]
   rfl
  | true =>
   have r0 := AR.1 0 _ rfl
   have r1 := AR.1 1 _ rfl
   have r2 := AR.1 2 _ rfl
   have r3 := AR.1 3 _ rfl
   have rf := AR.2.1
   have d0 := AD.1 0 _ rfl
   have d1 := AD.1 1 _ rfl
   have d2 := AD.1 2 _ rfl
   have d3 := AD.1 3 _ rfl
   go_wp2_with fail
   refine bodyPost_ret (act_result2 rfl _ _ w.heap.size (.int .i64 k) (.string t) (.string b) (.int .i64 n) _ rfl rfl ((((AR.set 0 (by simp) _).set 1 (by simp) _).set 2 (by simp) _).set 3 (by simp) _)) rfl ⟨?_, (((BR.setCell (by simp) _).setCell (by simp) _).setCell (by simp) _).setCell (by simp) _⟩
   rw [HE.out]
   rfl
end Go.Proofs.YtidecdlaeomfoaaGreat
namespace Go.Proofs.YtidecdlaeomfoaaGreat
open Go.RowKit
set_option linter.unusedVariables false
theorem act_result1 {fn : Func} {q : Tmp} (h : fn.results = #[.cell q 25]) (tmps : Array Value) (W : World) (B : Nat) (a b c d : Value)
  (hp : tmps[q]?.getD undef = .pointer (some ⟨B, 0, none⟩)) (ha : BAt W B [a, b, c, d]) : (results fn tmps).run Tryz.prog W = .ok (.agg #[a, b, c, d]) W := by
 have c0 := ha.1 0 _ rfl
 have c1 := ha.1 1 _ rfl
 have c2 := ha.1 2 _ rfl
 have c3 := ha.1 3 _ rfl
 simp [results, h, hp, asAddr, go_sem, c0, c1, c2, c3, Addr.add_lit]
theorem Tryz.infoAct : (Tryz.prog.info? 25).map (fun i => (i.zero, i.size, i.bytes)) = some (some (.agg #[.int .i64 0, .string ⟨#[]⟩, .string ⟨#[]⟩, .int .i64 0]), 4, 48) := by kernel_rfl
end Go.Proofs.YtidecdlaeomfoaaGreat
namespace Go.Proofs.YtidecdlaeomfoaaGreat
open Go.RowKit
set_option linter.unusedVariables false
set_option linter.unusedSimpArgs false
theorem wpList_append_act {P : Program} (wr : World) {ops : Array Oper} {rest : List Oper} {o : Oper} {a : Act} {Q : Exit → Act → World → Prop}
  (hg : o.guard = none) (s x : Operand) (t : TypeId) (hop : o.op = .call { callee := .builtin .append, args := #[s, x], argTypes := #[t, t] })
  (B : Nat) (e : TypeId) (z : Value) (bytes : Nat) (ht : P.underlying t = some (.slice e)) (hinfo : (P.info? e).map (fun i => (i.zero, i.size, i.bytes)) = some (some z, 4, bytes)) (hz : z.cells.size = 4)
  (v : Value) (n : Nat) (l : List AV) (hs : a.eval s = v) (hown : wr.ownsRow B e 4 v n (acells l))
  (k m : Int) (p q : ByteArray) (N : Nat) (hN : wr.heap.size = N) (hx : a.eval x = .slice (some ⟨N, 0, none⟩) 1 1)
  (hroom : (n + 1) * bytes ≤ 140737488355328) (hroom' : n + 1 ≤ maxLen) (hB : B ≤ wr.heap.size)
  (hK : ∀ v' w1, w1.ownsRow B e 4 v' (n + 1) (acells (l ++ [⟨k, p, q, m⟩])) → wr.grownBy w1 v.ownBlock → wpList P ops Q rest (a.put o.dst v') w1) :
  wpList P ops Q (o :: rest) a (wr.alloc (.cells #[.int .i64 k, .string p, .string q, .int .i64 m] e)) := by
 subst hN
 obtain ⟨i0, hi, hz0, hz1, hz2⟩ := info_parts hinfo
 refine wpList_append_own_at (wr.alloc (.cells #[.int .i64 k, .string p, .string q, .int .i64 m] e)) hg s x t hop B e i0 z 4 bytes ht hi hz0 hz1 hz2 hz (by decide) v n (acells l) hs (hown.alloc _) ⟨wr.heap.size, 0, none⟩ 1 1 [.int .i64 k, .string p, .string q, .int .i64 m] hx (by simp) ?_ ?_ hroom' hroom (by simp; omega) ?_
 ·intro j u hj
  rw [Addr.add_lit, Nat.zero_add]
  rw [World.cell?_alloc_at _ _ _ _ rfl]
  simpa using hj
 ·intro u hu
  simp at hu
  rcases hu with rfl | rfl | rfl | rfl <;> rfl
 intro v' w1 h1 h2 _ h4
 refine hK v' w1 (by rw [acells_append]; exact h1) ⟨h2.os, h2.tape, h2.output, ?_, fun k hk hne => (h2.block k (by simp; omega) hne).trans (Below.heap_alloc wr _ k hk)⟩
 have := h2.size
 simp at this
 omega
def ActsR (w : World) (r : List AV × Nat) (e : Ending) (w' : World) : Prop := ∃ v, e = .returned (.tuple #[v, .int .i64 (r.2 : Int)]) ∧ w'.ownsRow w.heap.size 25 4 v r.1.length (acells r.1) ∧ Below w.heap.size w w'
theorem ActsR.same {w : World} {r r' : List AV × Nat} {e : Ending} {w' : World} (h : ActsR w r e w') (hr : r = r') : ActsR w r' e w' := hr ▸ h
theorem step_no {l : List UInt8} {p : Nat} (h : unfL l p = none) : stepA l p = none := by unfold stepA; rw [h]
theorem step_bad {l : List UInt8} {p q n : Nat} (h : unfL l p = some (q, n)) (h2 : getAct (partL l q n) = none) : stepA l p = none := by unfold stepA; rw [h]; dsimp only; rw [h2]
theorem step_yes {l : List UInt8} {p q n : Nat} {a : AV} (h : unfL l p = some (q, n)) (h2 : getAct (partL l q n) = some a) : stepA l p = some (a, q + n + 4) := by unfold stepA; rw [h]; dsimp only; rw [h2]
theorem implReadActs (v : Value) (l : List UInt8) (w : World) (hin : BRow w v l) (hn : l.length ≤ 1048576) :
  Calls Tryz.prog 12 #[v] w fun e w' => ActsR w (rdA l) e w' := by
 have HI : Hid (BRow w v l) := hin
 obtain ⟨ao, cp, hv⟩ := hin.slice
 subst hv
 clear hin
 have HS : Hid (readF (l.length + 1) l 0 [] = rdA l) := rfl
 generalize rdA l = R at *
 have CU : Hid (∀ (p : Nat) W, BRow W (.slice ao l.length cp) l → Calls Tryz.prog 26 #[.slice ao l.length cp, .int .i64 (p : Int)] W fun e w' => ∃ v', e = .returned (.tuple #[v', .int .i64 (unfP p (unfL l p)), .bool (unfL l p).isSome]) ∧ w'.ownsRow W.heap.size 5 1 v' (unfB l (unfL l p)).length (bcells (unfB l (unfL l p))) ∧ Below W.heap.size W w') := fun p W h => implUnframe (p : Int) _ l W h (by omega)
 have CG : Hid (∀ v' (m : List UInt8) W, BRow W v' m → m.length ≤ 1048576 → CB 9 #[v'] W (actV (getAct m))) := fun v' m W h1 h2 => implGetAct v' m W h1 h2
 go_enter Tryz.func12, Tryz.ntmps12
 go_wp2_with fail
 go_loopw [4, 5] (fun lv i wr => ∃ (p : Nat) (acc : List AV), p ≤ l.length ∧ i = .int .i64 (p : Int) ∧ 5 * acc.length ≤ p ∧ (∃ o c, lv = .slice o acc.length c) ∧ Hid (wr.ownsRow w.heap.size 25 4 lv acc.length (acells acc)) ∧ Hid (readF (l.length + 1) l p acc = R) ∧ Below w.heap.size w wr) (fun _ i _ => l.length - (intOf i).toNat)
 case atStart => exact ⟨0, [], Nat.zero_le _, rfl, Nat.le_refl _, ⟨_, _, rfl⟩, World.ownsRow_lit w #[] 0 (Nat.le_refl _) (by decide) rfl, HS.out, (Below.refl _ _).alloc (Nat.le_refl _) _⟩
 obtain ⟨p, acc, hp, rfl, hacc, ⟨o, c, rfl⟩, HO, HR, hbel⟩ := hrel
 have C1 := CU.out p wr (HI.out.below hbel)
 cases hu : unfL l p with
 | none =>
  have HST : Hid (stepA l p = none) := step_no hu
  rw [hu] at C1
  have H1 := hidB C1
  clear C1 hu
  go_wp2_with fail
  refine H1.out.mono ?_
  rintro e w1 ⟨v1, rfl, o1, b1⟩
  have H2 := hidB (CG.out v1 _ w1 (BRow.of_own o1) (by simp [unfB]))
  rw [show getAct (unfB l none) = none from rfl, show actV none = .tuple #[.agg #[.int .i64 0, .string ⟨#[]⟩, .string ⟨#[]⟩, .int .i64 0], .bool false] from rfl] at H2
  obtain ⟨vo, vc, hv1⟩ := (BRow.of_own o1).slice
  subst hv1
  replace HO := hidB (own_below HO.out b1)
  replace hbel := hbel.trans (b1.mono hbel.size)
  clear b1 o1 H1
  go_wp2_with fail
  refine H2.out.mono ?_
  rintro e w2 ⟨rfl, b2⟩
  replace HO := hidB (own_below HO.out b2)
  replace hbel := hbel.trans (b2.mono hbel.size)
  clear b2 H2
  have HF : Hid ((acc, p) = R) := by
   show _ = _
   rw [← HR.out, readF_stop HST.out]
  clear HR CU CG
  go_wp2_with fail
  go_ret2
  first | exact ActsR.same ⟨_, rfl, HO.out, hbel⟩ HF.out | exact ActsR.same ⟨_, rfl, own_below HO.out ((Below.refl _ _).alloc (Nat.le_refl _) _), hbel.alloc hbel.size _⟩ HF.out
 | some r =>
  obtain ⟨q, n⟩ := r
  obtain ⟨_, hpq, hql⟩ := unfL_le hu
  have HML : Hid ((partL l q n).length = n) := partL_len (by omega)
  rw [hu] at C1
  rw [show unfB l (some (q, n)) = partL l q n from rfl, show unfP (p : Int) (some (q, n)) = ((q + n + 4 : Nat) : Int) from rfl, show (some (q, n)).isSome = true from rfl] at C1
  have H1 := hidB C1
  clear C1
  cases hgt : getAct (partL l q n) with
  | none =>
   have HST : Hid (stepA l p = none) := step_bad hu hgt
   clear hu
   go_wp2_with fail
   refine H1.out.mono ?_
   rintro e w1 ⟨v1, rfl, o1, b1⟩
   have H2 := hidB (CG.out v1 _ w1 (BRow.of_own o1) (by rw [HML.out]; omega))
   rw [hgt, show actV none = .tuple #[.agg #[.int .i64 0, .string ⟨#[]⟩, .string ⟨#[]⟩, .int .i64 0], .bool false] from rfl] at H2
   obtain ⟨vo, vc, hv1⟩ := (BRow.of_own o1).slice
   rw [HML.out] at hv1
   subst hv1
   replace HO := hidB (own_below HO.out b1)
   replace hbel := hbel.trans (b1.mono hbel.size)
   clear b1 o1 H1 hgt
   go_wp2_with fail
   refine H2.out.mono ?_
   rintro e w2 ⟨rfl, b2⟩
   replace HO := hidB (own_below HO.out b2)
   replace hbel := hbel.trans (b2.mono hbel.size)
   clear b2 H2
   have HF : Hid ((acc, p) = R) := by
    show _ = _
    rw [← HR.out, readF_stop HST.out]
   clear HR CU CG
   go_wp2_with fail
   go_ret2
   first | exact ActsR.same ⟨_, rfl, HO.out, hbel⟩ HF.out | exact ActsR.same ⟨_, rfl, own_below HO.out ((Below.refl _ _).alloc (Nat.le_refl _) _), hbel.alloc hbel.size _⟩ HF.out
  | some x =>
   have hst := step_yes hu hgt
   have hle := stepA_le hst
   have HN : Hid (readF (l.length + 1) l (q + n + 4) (acc ++ [x]) = R) := by
    show _ = _
    rw [← HR.out, readF_next hst]
   obtain ⟨P, hP⟩ : ∃ P, q + n + 4 = P := ⟨_, rfl⟩
   rw [hP] at hle HN H1
   obtain ⟨hle1, hle2⟩ := hle
   clear hst hu hP
   go_wp2_with fail
   refine H1.out.mono ?_
   rintro e w1 ⟨v1, rfl, o1, b1⟩
   have H2 := hidB (CG.out v1 _ w1 (BRow.of_own o1) (by rw [HML.out]; omega))
   rw [hgt, show actV (some x) = .tuple #[.agg #[.int .i64 x.k, .string x.t, .string x.b, .int .i64 x.n], .bool true] from rfl] at H2
   obtain ⟨vo, vc, hv1⟩ := (BRow.of_own o1).slice
   rw [HML.out] at hv1
   subst hv1
   replace HO := hidB (own_below HO.out b1)
   replace hbel := hbel.trans (b1.mono hbel.size)
   clear b1 o1 H1 hgt HR
   obtain ⟨k, t, b, m⟩ := x
   dsimp only at H2
   go_wp2_with fail
   refine H2.out.mono ?_
   rintro e w2 ⟨rfl, b2⟩
   replace HO := hidB (own_below HO.out b2)
   replace hbel := hbel.trans (b2.mono hbel.size)
   clear b2 H2
   go_wp2_with (at_builtin; refine wpList_append_act _ rfl _ _ 31 rfl w.heap.size 25 (.agg #[.int .i64 0, .string ⟨#[]⟩, .string ⟨#[]⟩, .int .i64 0]) 48 Tryz.underlying31 Tryz.infoAct rfl (.slice o acc.length c) acc.length acc rfl (HO.out.alloc _) k m t b (w2.heap.size + 1) (by simp) rfl (by omega) (by unfold maxLen; omega) (by have := hbel.size; simp; omega) ?_)
   intro v3 w3 o3 g3
   have B3 : Below w.heap.size w w3 := (hbel.alloc hbel.size _).grown g3 (by have := hbel.size; simp; omega) (fun j hj => (HO.out.lt j hj).1)
   have hl3 : (acc ++ [(⟨k, t, b, m⟩ : AV)]).length = acc.length + 1 := by simp
   rw [← hl3] at o3
   obtain ⟨co, cc, hv3⟩ := (ActRow.of_own o3).slice
   subst hv3
   have HO3 := hidB o3
   clear o3 g3 HO hbel
   go_wp2_with fail
   go_roundw
   case rel => exact ⟨P, _, hle2, rfl, by rw [hl3]; omega, ⟨_, _, rfl⟩, HO3, HN, B3⟩
   case measure => simp [intOf]; omega
def ASz (l : List AV) : Prop := l.length ≤ 1048576 ∧ ∀ i, i < l.length → (l.getD i av0).t.size ≤ 1048576 ∧ (l.getD i av0).b.size ≤ 1048576
theorem actsL_take (l : List AV) (k : Nat) (h : k < l.length) : actsL (l.take (k + 1)) = actsL (l.take k) ++ (if actB (l.getD k av0) then frameL (rwA (l.getD k av0)) else []) := by
 rw [List.take_succ_eq_append_getElem h, actsL_snoc, List.getD_eq_getElem?_getD, List.getElem?_eq_getElem h]
 rfl
theorem implPutActs (l : List AV) (v : Value) (w : World) (hn : ASz l) (h : ActRow w v l) :
  Calls Tryz.prog 11 #[v] w fun e w' => ∃ v', e = .returned v' ∧ w'.ownsRow w.heap.size 5 1 v' (actsL l).length (bcells (actsL l)) ∧ Below w.heap.size w w' := by
 obtain ⟨hll, hsz⟩ := hn
 have HSZ : Hid (∀ i, i < l.length → (l.getD i av0).t.size ≤ 1048576 ∧ (l.getD i av0).b.size ≤ 1048576) := hsz
 clear hsz
 obtain ⟨Z, hZ⟩ : ∃ Z, Z = actsL l := ⟨_, rfl⟩
 have HZ : Hid (Z = actsL l) := hZ
 rw [← hZ]
 clear hZ
 rcases h with ⟨rfl, ao, cap, rfl⟩ | ⟨h0, g, off, cap, rfl, hg, hc⟩
 ·have HE : Hid (Z = []) := by show _ = _; rw [HZ.out]; rfl
  clear HZ HSZ hll
  go_enter Tryz.func11, Tryz.ntmps11
  go_wp2
  refine wp_loop_rounds 1 ?_
  rw [rounds_succ]
  go_wp2
  go_ret
  rw [HE.out]
  exact ⟨_, rfl, World.ownsRow_lit w #[] 0 (Nat.le_refl _) (by decide) rfl, (Below.refl _ _).alloc (Nat.le_refl _) _⟩
 have HC : Hid (∀ i, i < l.length → ActAt w g (off + i * 4) (l.getD i av0)) := hc
 clear hc
 go_enter Tryz.func11, Tryz.ntmps11
 go_wp2_with fail
 go_loopw [3, 9] (fun q i wr => ∃ (k : Nat) (Q : List UInt8), k ≤ l.length ∧ i = .int .i64 (k : Int) ∧ Q.length ≤ 4040 * k ∧ (∃ o c, q = .slice o Q.length c) ∧ Hid (wr.ownsRow w.heap.size 5 1 q Q.length (bcells Q)) ∧ Hid (Q = actsL (l.take k)) ∧ Below w.heap.size w wr) (fun _ i _ => l.length - (intOf i).toNat)
 case atStart => exact ⟨0, [], Nat.zero_le _, rfl, Nat.zero_le _, ⟨_, _, rfl⟩, World.ownsRow_lit w #[] 0 (Nat.le_refl _) (by decide) rfl, rfl, (Below.refl _ _).alloc (Nat.le_refl _) _⟩
 obtain ⟨k, Q, hk, rfl, hQ, ⟨o, c, rfl⟩, HO, HT, hbel⟩ := hrel
 by_cases hlt : k < l.length
 ·have hki : (k : Int) < l.length := by omega
  obtain ⟨c0, c1, c2, c3⟩ := (HC.out k hlt).below hbel hg
  have hs2 := HSZ.out k hlt
  have htk := actsL_take l k hlt
  have CA : Hid (∀ W, CB 8 #[.agg #[.int .i64 (l.getD k av0).k, .string (l.getD k av0).t, .string (l.getD k av0).b, .int .i64 (l.getD k av0).n]] W (.bool (actB (l.getD k av0)))) := fun W => implActOk _ W
  have CP : Hid (∀ W, Calls Tryz.prog 6 #[.agg #[.int .i64 (l.getD k av0).k, .string (l.getD k av0).t, .string (l.getD k av0).b, .int .i64 (l.getD k av0).n]] W fun e w' => ∃ v', e = .returned v' ∧ w'.ownsRow W.heap.size 5 1 v' (actL (l.getD k av0)).length (bcells (actL (l.getD k av0))) ∧ Below W.heap.size W w') := fun W => implPutAct _ W hs2.1 hs2.2
  have hal : actL (l.getD k av0) = if actB (l.getD k av0) then rwA (l.getD k av0) else [] := rfl
  have hlen := actL_len (l.getD k av0)
  obtain ⟨P, hP⟩ : ∃ P, actB (l.getD k av0) = P := ⟨_, rfl⟩
  rw [hP] at CA hal htk
  clear hs2
  generalize actL (l.getD k av0) = A at *
  generalize rwA (l.getD k av0) = RL at *
  clear hP
  generalize (l.getD k av0).k = x0 at *
  generalize (l.getD k av0).t = x1 at *
  generalize (l.getD k av0).b = x2 at *
  generalize (l.getD k av0).n = x3 at *
  cases P with
  | false =>
   have HT2 : Hid (Q = actsL (l.take (k + 1))) := by show _ = _; rw [htk, HT.out]; simp
   clear htk hal HT CP hlen
   go_wp2_with fail
   refine (CA.out _).mono ?_
   rintro e wa ⟨rfl, ba⟩
   have BA := (hbel.alloc hbel.size (.cells #[.int .i64 x0, .string x1, .string x2, .int .i64 x3] 25)).trans (ba.mono (by have := hbel.size; simp; omega))
   have HOA := hidB (own_below (HO.out.alloc _) ba)
   have AB := (BAt.new wr #[.int .i64 x0, .string x1, .string x2, .int .i64 x3] 25).below ba
   have a0 := AB.1 0 _ rfl
   have a1 := AB.1 1 _ rfl
   have a2 := AB.1 2 _ rfl
   have a3 := AB.1 3 _ rfl
   clear HO hbel ba CA c0 c1 c2 c3 AB
   go_wp2_with fail
   go_roundw
   case rel => exact ⟨k + 1, Q, by omega, by go_num, by omega, ⟨_, _, rfl⟩, HOA, HT2, BA⟩
   case measure => simp [intOf]; omega
  | true =>
   have HAL : Hid (A = RL) := hal
   have HT2 : Hid (Q ++ frameL A = actsL (l.take (k + 1))) := by show _ = _; rw [htk, HT.out, HAL.out]; rfl
   have hfl := frameL_len A
   have CF : Hid (∀ v' W, BRow W v' A → Calls Tryz.prog 25 #[v'] W fun e w' => ∃ v, e = .returned v ∧ w'.ownsRow W.heap.size 5 1 v (frameL A).length (bcells (frameL A)) ∧ Below W.heap.size W w') := fun v' W h => implFrame v' A W h (by omega)
   clear htk hal HT HAL
   generalize frameL A = F at *
   go_wp2_with fail
   refine (CA.out _).mono ?_
   rintro e wa ⟨rfl, ba⟩
   have BA := (hbel.alloc hbel.size (.cells #[.int .i64 x0, .string x1, .string x2, .int .i64 x3] 25)).trans (ba.mono (by have := hbel.size; simp; omega))
   have HOA := hidB (own_below (HO.out.alloc _) ba)
   have AB := (BAt.new wr #[.int .i64 x0, .string x1, .string x2, .int .i64 x3] 25).below ba
   have a0 := AB.1 0 _ rfl
   have a1 := AB.1 1 _ rfl
   have a2 := AB.1 2 _ rfl
   have a3 := AB.1 3 _ rfl
   clear HO hbel ba CA c0 c1 c2 c3 AB
   go_wp2_with fail
   refine (CP.out _).mono ?_
   rintro e wb ⟨vb, rfl, ob, bb⟩
   have BB := BA.trans (bb.mono BA.size)
   have HOB := hidB (own_below HOA.out bb)
   have HRB := hidB (BRow.of_own ob)
   obtain ⟨bo, bc, hvb⟩ := (BRow.of_own ob).slice
   subst hvb
   clear HOA BA bb ob CP
   go_wp2_with fail
   refine (CF.out _ _ HRB.out).mono ?_
   rintro e wc ⟨vc, rfl, oc, bcc⟩
   have BC := BB.trans (bcc.mono BB.size)
   have HOC := hidB (own_below HOB.out bcc)
   have HRC := hidB (BRow.of_own oc)
   obtain ⟨fo, fc, hvc⟩ := (BRow.of_own oc).slice
   subst hvc
   clear HOB BB bcc oc CF HRB
   go_wp2_with (at_builtin; refine wpList_append_brow rfl _ _ 22 rfl w.heap.size 5 Tryz.underlying22 Tryz.infoByte (.slice o Q.length c) Q.length Q rfl HOC.out _ F rfl HRC.out (by omega) BC.size ?_)
   intro v3 w3 o3 g3 _
   have B3 : Below w.heap.size w w3 := BC.grown g3 BC.size (fun j hj => (HOC.out.lt j hj).1)
   rw [← List.length_append] at o3
   obtain ⟨co, cc, hv3⟩ := (BRow.of_own o3).slice
   subst hv3
   have HO3 := hidB o3
   have hq3 : (Q ++ F).length ≤ 4040 * (k + 1) := by rw [List.length_append]; omega
   clear o3 g3 HOC BC HRC
   go_wp2_with fail
   go_roundw
   case rel => exact ⟨k + 1, _, by omega, by go_num, hq3, ⟨_, _, rfl⟩, HO3, HT2, B3⟩
   case measure => simp [intOf]; omega
 have hki : ¬ (k : Int) < l.length := by omega
 have HE : Hid (Q = Z) := by show _ = _; rw [HT.out, HZ.out, List.take_of_length_le (by omega)]
 have HO2 : Hid (wr.ownsRow w.heap.size 5 1 (.slice o Q.length c) Z.length (bcells Z)) := by
  have := HO.out
  rw [← HE.out]
  exact this
 clear HO HT
 go_wp2_with fail
 go_ret
 exact ⟨_, rfl, HO2.out, hbel⟩
end Go.Proofs.YtidecdlaeomfoaaGreat
namespace Go.Proofs.YtidecdlaeomfoaaGreat
open Go.RowKit
def HostCells (w W : World) (k : Int) (s : ByteArray) (n : Int) (x0 x1 x2 x3 x4 x5 x6 x7 : Int) : Prop :=
 W.cell? ⟨w.heap.size, 0, none⟩ = some (.int .i64 k) ∧ W.cell? ⟨w.heap.size, 1, none⟩ = some (.string s) ∧ W.cell? ⟨w.heap.size, 2, none⟩ = some (.int .i64 n) ∧
 W.cell? ⟨w.heap.size, 3, none⟩ = some (.int .i64 x0) ∧ W.cell? ⟨w.heap.size, 4, none⟩ = some (.int .i64 x1) ∧ W.cell? ⟨w.heap.size, 5, none⟩ = some (.int .i64 x2) ∧ W.cell? ⟨w.heap.size, 6, none⟩ = some (.int .i64 x3) ∧
 W.cell? ⟨w.heap.size, 7, none⟩ = some (.int .i64 x4) ∧ W.cell? ⟨w.heap.size, 8, none⟩ = some (.int .i64 x5) ∧ W.cell? ⟨w.heap.size, 9, none⟩ = some (.int .i64 x6) ∧ W.cell? ⟨w.heap.size, 10, none⟩ = some (.int .i64 x7)
theorem host_cells (w W : World) (k : Int) (s : ByteArray) (n : Int) (x0 x1 x2 x3 x4 x5 x6 x7 : Int) (t : TypeId) (hb : Below (w.alloc (.cells #[.int .i64 k, .string s, .int .i64 n, .int .i64 x0, .int .i64 x1, .int .i64 x2, .int .i64 x3, .int .i64 x4, .int .i64 x5, .int .i64 x6, .int .i64 x7] t)).heap.size (w.alloc (.cells #[.int .i64 k, .string s, .int .i64 n, .int .i64 x0, .int .i64 x1, .int .i64 x2, .int .i64 x3, .int .i64 x4, .int .i64 x5, .int .i64 x6, .int .i64 x7] t)) W) :
  HostCells w W k s n x0 x1 x2 x3 x4 x5 x6 x7 := by
 have key : ∀ j v, (#[.int .i64 k, .string s, .int .i64 n, .int .i64 x0, .int .i64 x1, .int .i64 x2, .int .i64 x3, .int .i64 x4, .int .i64 x5, .int .i64 x6, .int .i64 x7] : Array Value)[j]? = some v → W.cell? ⟨w.heap.size, j, none⟩ = some v := fun j v h => cell_later hb (by rw [World.cell?_alloc_at _ _ _ _ rfl]; simpa using h)
 exact ⟨key 0 _ rfl, key 1 _ rfl, key 2 _ rfl, key 3 _ rfl, key 4 _ rfl, key 5 _ rfl, key 6 _ rfl, key 7 _ rfl, key 8 _ rfl, key 9 _ rfl, key 10 _ rfl⟩
theorem host_frozen (w W : World) (cs : Array Value) (t : TypeId) (hb : Below (w.alloc (.cells cs t)).heap.size (w.alloc (.cells cs t)) W) : ∀ j, W.frozen? ⟨w.heap.size, j, none⟩ = false :=
 fun j => frozen_of_row W _ j _ t ((hb.block _ (by simp)).trans (heap_alloc_new w _))
def RowIs (W : World) (B : Nat) (vs : List Value) : Prop := ∀ j v, vs[j]? = some v → W.cell? ⟨B, j, none⟩ = some v
theorem RowIs.set {W : World} {B : Nat} {vs : List Value} (h : RowIs W B vs) (j : Nat) (hj : j < vs.length) (x : Value) : RowIs (W.setCell ⟨B, j, none⟩ x) B (vs.set j x) := by
 intro i v hv
 by_cases e : j = i
 ·subst e
  rw [World.cell?_setCell_same' _ _ _ (by rw [h j _ (List.getElem?_eq_getElem hj)]; rfl)]
  rw [List.getElem?_set_self hj] at hv
  exact hv
 rw [World.cell?_setCell_other _ _ _ _ (fun h => e (by injection h)), h i v]
 rwa [List.getElem?_set_ne e] at hv
theorem RowIs.other {W : World} {B : Nat} {vs : List Value} (h : RowIs W B vs) {C : Nat} (hne : B ≠ C) (j : Nat) (x : Value) : RowIs (W.setCell ⟨C, j, none⟩ x) B vs := by
 intro i v hv
 rw [World.cell?_setCell_other _ _ _ _ (fun h => hne (by injection h with h1 _; exact h1.symm))]
 exact h i v hv
def hRow (k : Int) (s : ByteArray) (n : Int) (x0 x1 x2 x3 x4 x5 x6 x7 : Int) : List Value := [.int .i64 k, .string s, .int .i64 n, .int .i64 x0, .int .i64 x1, .int .i64 x2, .int .i64 x3, .int .i64 x4, .int .i64 x5, .int .i64 x6, .int .i64 x7]
theorem host_store {W : World} {B : Nat} {k' n' : Int} {s' : ByteArray} {y0 y1 y2 y3 y4 y5 y6 y7 : Int} (h : RowIs W B (hRow k' s' n' y0 y1 y2 y3 y4 y5 y6 y7)) (k n : Int) (s : ByteArray) (x0 x1 x2 x3 x4 x5 x6 x7 : Int) : RowIs (((((((((((W.setCell ⟨B, 0, none⟩ (.int .i64 k)).setCell ⟨B, 1, none⟩ (.string s)).setCell ⟨B, 2, none⟩ (.int .i64 n)).setCell ⟨B, 3, none⟩ (.int .i64 x0)).setCell ⟨B, 4, none⟩ (.int .i64 x1)).setCell ⟨B, 5, none⟩ (.int .i64 x2)).setCell ⟨B, 6, none⟩ (.int .i64 x3)).setCell ⟨B, 7, none⟩ (.int .i64 x4)).setCell ⟨B, 8, none⟩ (.int .i64 x5)).setCell ⟨B, 9, none⟩ (.int .i64 x6)).setCell ⟨B, 10, none⟩ (.int .i64 x7)) B (hRow k s n x0 x1 x2 x3 x4 x5 x6 x7) :=
 ((((((((((h.set 0 (by simp [hRow]) (.int .i64 k)).set 1 (by simp [hRow]) (.string s)).set 2 (by simp [hRow]) (.int .i64 n)).set 3 (by simp [hRow]) (.int .i64 x0)).set 4 (by simp [hRow]) (.int .i64 x1)).set 5 (by simp [hRow]) (.int .i64 x2)).set 6 (by simp [hRow]) (.int .i64 x3)).set 7 (by simp [hRow]) (.int .i64 x4)).set 8 (by simp [hRow]) (.int .i64 x5)).set 9 (by simp [hRow]) (.int .i64 x6)).set 10 (by simp [hRow]) (.int .i64 x7)
theorem below_hstore {m : Nat} {w W : World} (h : Below m w W) {B : Nat} (hB : m ≤ B) (k n : Int) (s : ByteArray) (x0 x1 x2 x3 x4 x5 x6 x7 : Int) : Below m w (((((((((((W.setCell ⟨B, 0, none⟩ (.int .i64 k)).setCell ⟨B, 1, none⟩ (.string s)).setCell ⟨B, 2, none⟩ (.int .i64 n)).setCell ⟨B, 3, none⟩ (.int .i64 x0)).setCell ⟨B, 4, none⟩ (.int .i64 x1)).setCell ⟨B, 5, none⟩ (.int .i64 x2)).setCell ⟨B, 6, none⟩ (.int .i64 x3)).setCell ⟨B, 7, none⟩ (.int .i64 x4)).setCell ⟨B, 8, none⟩ (.int .i64 x5)).setCell ⟨B, 9, none⟩ (.int .i64 x6)).setCell ⟨B, 10, none⟩ (.int .i64 x7)) := by
 have st : ∀ (U : World) (j : Nat) (x : Value), Below m w U → Below m w (U.setCell ⟨B, j, none⟩ x) := fun U j x hU => hU.setCell (p := ⟨B, j, none⟩) hB _
 exact st _ _ _ (st _ _ _ (st _ _ _ (st _ _ _ (st _ _ _ (st _ _ _ (st _ _ _ (st _ _ _ (st _ _ _ (st _ _ _ (st _ _ _ h))))))))))
theorem host_result2 {fn : Func} {p q : Tmp} (h : fn.results = #[.cell p 67, .tmp q]) (tmps : Array Value) (W : World) (B : Nat) (v : Value) (k n : Int) (s : ByteArray) (x0 x1 x2 x3 x4 x5 x6 x7 : Int)
  (hp : tmps[p]?.getD undef = .pointer (some ⟨B, 0, none⟩)) (hq : tmps[q]?.getD undef = v) (ha : RowIs W B (hRow k s n x0 x1 x2 x3 x4 x5 x6 x7)) :
  (results fn tmps).run Tryz.prog W = .ok (.tuple #[.agg #[.int .i64 k, .string s, .int .i64 n, .int .i64 x0, .int .i64 x1, .int .i64 x2, .int .i64 x3, .int .i64 x4, .int .i64 x5, .int .i64 x6, .int .i64 x7], v]) W := by
 have c0 := ha 0 _ rfl
 have c1 := ha 1 _ rfl
 have c2 := ha 2 _ rfl
 have c3 := ha 3 _ rfl
 have c4 := ha 4 _ rfl
 have c5 := ha 5 _ rfl
 have c6 := ha 6 _ rfl
 have c7 := ha 7 _ rfl
 have c8 := ha 8 _ rfl
 have c9 := ha 9 _ rfl
 have c10 := ha 10 _ rfl
 simp [results, h, hp, hq, asAddr, go_sem, c0, c1, c2, c3, c4, c5, c6, c7, c8, c9, c10, Addr.add_lit]
def UAt (W : World) (B : Nat) (vs : List Value) : Prop := RowIs W B vs ∧ (∀ j, W.frozen? ⟨B, j, none⟩ = false) ∧ B < W.heap.size
theorem UAt.new (w : World) (vs : Array Value) (t : TypeId) : UAt (w.alloc (.cells vs t)) w.heap.size vs.toList := by
 refine ⟨fun j v h => ?_, fun j => frozen_of_row _ _ j _ t (heap_alloc_new w _), by simp⟩
 rw [World.cell?_alloc_at _ _ _ _ rfl]
 simpa using h
theorem UAt.below {W W' : World} {B : Nat} {vs : List Value} (h : UAt W B vs) (hb : Below W.heap.size W W') : UAt W' B vs := by
 have hs := hb.block B h.2.2
 refine ⟨fun j v hv => cell_later hb (h.1 j v hv), fun j => ?_, Nat.lt_of_lt_of_le h.2.2 hb.size⟩
 have hf := h.2.1 j
 unfold World.frozen? at hf ⊢
 rw [hs]
 exact hf
theorem frozen_set (W : World) (B C j i : Nat) (v : Value) (h : W.frozen? ⟨B, i, none⟩ = false) : (W.setCell ⟨C, j, none⟩ v).frozen? ⟨B, i, none⟩ = false := by
 simpa [go_sem] using h
theorem UAt.set {W : World} {B : Nat} {vs : List Value} (h : UAt W B vs) (j : Nat) (hj : j < vs.length) (v : Value) : UAt (W.setCell ⟨B, j, none⟩ v) B (vs.set j v) :=
 ⟨h.1.set j hj v, fun i => frozen_set W B B j i v (h.2.1 i), Nat.lt_of_lt_of_le h.2.2 (KeepsWalks.setCell W _ v).size⟩
theorem UAt.other {W : World} {B C : Nat} {vs : List Value} (h : UAt W B vs) (hne : B ≠ C) (j : Nat) (v : Value) : UAt (W.setCell ⟨C, j, none⟩ v) B vs :=
 ⟨h.1.other hne j v, fun i => frozen_set W B C j i v (h.2.1 i), Nat.lt_of_lt_of_le h.2.2 (KeepsWalks.setCell W _ v).size⟩
def setRow (W : World) (C : Nat) : Nat → List Value → World
 | _, [] => W
 | j, v :: vs => setRow (W.setCell ⟨C, j, none⟩ v) C (j + 1) vs
theorem UAt.row : ∀ {vs : List Value} {W : World} {C : Nat} {pre old : List Value}, UAt W C (pre ++ old) → old.length = vs.length → UAt (setRow W C pre.length vs) C (pre ++ vs)
 | [], W, C, pre, old, h, hl => by
  have : old = [] := List.eq_nil_of_length_eq_zero hl
  subst this
  exact h
 | v :: vs, W, C, pre, [], h, hl => by simp at hl
 | v :: vs, W, C, pre, o :: old, h, hl => by
  have h1 := h.set pre.length (by simp) v
  rw [List.set_append_right _ _ (Nat.le_refl _), Nat.sub_self, List.set_cons_zero] at h1
  have h2 : UAt (W.setCell ⟨C, pre.length, none⟩ v) C ((pre ++ [v]) ++ old) := by rw [List.append_assoc]; exact h1
  have h3 := UAt.row (vs := vs) h2 (by simpa using hl)
  rw [List.length_append, List.length_singleton, List.append_assoc] at h3
  exact h3
def uRow (s k : Int) (nm : ByteArray) (n : Int) (x0 x1 x2 x3 x4 x5 x6 x7 : Int) (p : Int) (a : ByteArray) (q : Bool) (r : ByteArray) : List Value := [.int .i64 s, .int .i64 k, .string nm, .int .i64 n, .int .i64 x0, .int .i64 x1, .int .i64 x2, .int .i64 x3, .int .i64 x4, .int .i64 x5, .int .i64 x6, .int .i64 x7, .int .i64 p, .string a, .bool q, .string r]
def uRow0 : List Value := uRow 0 0 ⟨#[]⟩ 0 0 0 0 0 0 0 0 0 0 ⟨#[]⟩ false ⟨#[]⟩
end Go.Proofs.YtidecdlaeomfoaaGreat
