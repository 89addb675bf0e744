/- Contracts of spec.GetAct and impl.GetAct. -/
import Derived.Test.YtfigkoapebdlfaaRows
import Derived.Test.YtfigkoapebdlfaaActPutB
import Derived.Test.YtfigkoapebdlfaaUnfBoth
namespace Go.Proofs.Ytfigkoapebdlfaa
open Go.RowKit
set_option linter.unusedVariables false
set_option linter.unusedSimpArgs false

theorem getV_eq (o : Option (Nat × Nat)) : getV o = .tuple #[.int .i64 ((numO o : Nat) : Int), .int .i64 ((posO o : Nat) : Int), .bool o.isSome] := by
  cases o with
  | none => rfl
  | some r => obtain ⟨n, q⟩ := r; rfl
theorem textV_eq (l : List UInt8) (o : Option (Nat × Nat)) : textV l o = .tuple #[.string (txtO l o), .int .i64 ((endO o : Nat) : Int), .bool o.isSome] := by
  cases o with
  | none => rfl
  | some r => obtain ⟨n, q⟩ := r; rfl
theorem txtO_le {l : List UInt8} (o : Option (Nat × Nat)) : (txtO l o).size ≤ l.length := by
  cases o with
  | none => exact Nat.zero_le _
  | some r =>
    obtain ⟨q, n⟩ := r
    show (partL l q n).length ≤ _
    unfold partL
    rw [List.length_take, List.length_drop]
    omega
theorem act_result2 {fn : Func} {q r : Tmp} (h : fn.results = #[.cell q 26, .tmp r]) (tmps : Array Value) (W : World) (B : Nat) (a b c d z : Value)
    (hp : tmps[q]?.getD undef = .pointer (some ⟨B, 0, none⟩)) (hz : tmps[r]?.getD undef = z) (ha : BAt W B [a, b, c, d]) : (results fn tmps).run Try.prog W = .ok (.tuple #[.agg #[a, b, c, d], z]) W := by
  have c0 := ha.1 0 _ rfl
  have c1 := ha.1 1 _ rfl
  have c2 := ha.1 2 _ rfl
  have c3 := ha.1 3 _ rfl
  simp [results, h, hp, hz, asAddr, go_sem, c0, c1, c2, c3, Addr.add_lit]
/-- What GetAct answers, as two results. -/
def actV : Option AV → Value
  | none => .tuple #[.agg #[.int .i64 0, .string ⟨#[]⟩, .string ⟨#[]⟩, .int .i64 0], .bool false]
  | some x => .tuple #[.agg #[.int .i64 x.k, .string x.t, .string x.b, .int .i64 x.n], .bool true]

set_option maxRecDepth 100000 in
set_option maxHeartbeats 4000000 in
theorem implGetAct (v : Value) (l : List UInt8) (w : World) (hin : BRow w v l) (hn : l.length ≤ 1048576) :
    Calls Try.prog 19 #[v] w fun e w' => e = .returned (actV (getAct l)) ∧ Below w.heap.size w w' := by
  obtain ⟨O, hO⟩ : ∃ O, O = w.alloc (.cells #[.int .i64 0, .string ⟨#[]⟩, .string ⟨#[]⟩, .int .i64 0] 26) := ⟨_, rfl⟩
  have HOs : Hid (w.heap.size < O.heap.size) := by show _ < _; rw [hO]; simp
  have bO : Below w.heap.size w O := by rw [hO]; exact (Below.refl _ _).alloc (Nat.le_refl _) _
  have AO : BAt O w.heap.size [.int .i64 0, .string ⟨#[]⟩, .string ⟨#[]⟩, .int .i64 0] := by rw [hO]; exact BAt.new w #[.int .i64 0, .string ⟨#[]⟩, .string ⟨#[]⟩, .int .i64 0] _
  have hI := hin.below bO
  have hn2 : l.length ≤ 1099511627776 := by omega
  have G1 := implGetNum 0 v l O hI hn2
  have G2 := implGetNum ((posO (g1 l) : Nat) : Int) v l O hI hn2
  have G3 := implGetText ((posO (g2 l) : Nat) : Int) v l O hI hn2
  have G4 := implGetText ((endO (g3 l) : Nat) : Int) v l O hI hn2
  rw [show getL l 0 = g1 l from rfl, getV_eq] at G1
  rw [show getL l ((posO (g1 l) : Nat) : Int) = g2 l from rfl, getV_eq] at G2
  rw [show pieceL l ((posO (g2 l) : Nat) : Int) = g3 l from rfl, textV_eq] at G3
  rw [show pieceL l ((endO (g3 l) : Nat) : Int) = g4 l from rfl, textV_eq] at G4
  have hz3 := txtO_le (l := l) (g3 l)
  have hz4 := txtO_le (l := l) (g4 l)
  have HX : Hid (readA l = ⟨((numO (g1 l) : Nat) : Int), txtO l (g3 l), txtO l (g4 l), ((numO (g2 l) : Nat) : Int)⟩) := rfl
  have HI : Hid (BRow O v l) := hI
  obtain ⟨ao, cp, hv⟩ := hI.slice
  subst hv
  clear hin hI
  obtain ⟨V, hV⟩ : ∃ V, V = actV (getAct l) := ⟨_, rfl⟩
  have HV : Hid (V = actV (if actB (readA l) = true ∧ rawL (readA l) = l then some (readA l) else none)) := hV
  rw [← hV]
  clear hV
  rw [HX.out] at HV
  generalize ((numO (g1 l) : Nat) : Int) = k at *
  generalize ((numO (g2 l) : Nat) : Int) = n at *
  generalize txtO l (g3 l) = t at *
  generalize txtO l (g4 l) = b at *
  generalize ((posO (g1 l) : Nat) : Int) = p1 at *
  generalize ((posO (g2 l) : Nat) : Int) = p2 at *
  generalize ((endO (g3 l) : Nat) : Int) = p3 at *
  generalize ((endO (g4 l) : Nat) : Int) = p4 at *
  generalize (g1 l).isSome = i1 at *
  generalize (g2 l).isSome = i2 at *
  generalize (g3 l).isSome = i3 at *
  generalize (g4 l).isSome = i4 at *
  clear HX
  have CA : Hid (∀ W, Calls Try.prog 11 #[.agg #[.int .i64 k, .string t, .string b, .int .i64 n]] W fun e w' => e = .returned (.bool (actB ⟨k, t, b, n⟩)) ∧ Below W.heap.size W w') := fun W => implActOk ⟨k, t, b, n⟩ W
  have CP : Hid (∀ W, Calls Try.prog 13 #[.agg #[.int .i64 k, .string t, .string b, .int .i64 n]] W fun e w' => ∃ v', e = .returned v' ∧ w'.ownsRow W.heap.size 5 1 v' (actL ⟨k, t, b, n⟩).length (bcells (actL ⟨k, t, b, n⟩)) ∧ Below W.heap.size W w') := fun W => implPutAct ⟨k, t, b, n⟩ W (by dsimp only; omega) (by dsimp only; omega)
  have HAL : Hid (actL ⟨k, t, b, n⟩ = if actB ⟨k, t, b, n⟩ then rawL ⟨k, t, b, n⟩ else []) := rfl
  generalize actL ⟨k, t, b, n⟩ = A at *
  have H1 := hidB G1
  have H2 := hidB G2
  have H3 := hidB G3
  have H4 := hidB G4
  clear G1 G2 G3 G4
  obtain ⟨P, hP⟩ : ∃ P, P = actB ⟨k, t, b, n⟩ := ⟨_, rfl⟩
  rw [← hP] at CA HAL HV
  clear hP
  go_enter Try.func19, Try.ntmps19
  go_upto_region 1 with fail
  rw [← hO]
  clear hO
  go_wp2_with fail
  refine H1.out.mono ?_
  rintro e w1 ⟨rfl, rfl⟩
  go_wp2_with fail
  refine H2.out.mono ?_
  rintro e w1 ⟨rfl, rfl⟩
  go_wp2_with fail
  refine H3.out.mono ?_
  rintro e w1 ⟨rfl, rfl⟩
  go_wp2_with fail
  refine H4.out.mono ?_
  rintro e w1 ⟨rfl, rfl⟩
  clear H1 H2 H3 H4
  go_upto_region 6 with fail
  obtain ⟨U, hU⟩ : ∃ U, U = O.alloc (.cells #[.int .i64 k, .string t, .string b, .int .i64 n] 26) := ⟨_, rfl⟩
  have bU : Below O.heap.size O U := by rw [hU]; exact (Below.refl _ _).alloc (Nat.le_refl _) _
  have AU : BAt U O.heap.size [.int .i64 k, .string t, .string b, .int .i64 n] := by rw [hU]; exact BAt.new O #[.int .i64 k, .string t, .string b, .int .i64 n] _
  have AO2 := AO.below bU
  have BU := bO.trans (bU.mono bO.size)
  have HI2 : Hid (BRow U (.slice ao l.length cp) l) := HI.out.below bU
  rw [← hU]
  clear hU HI AO bU bO
  have zO := HOs.out
  clear HOs
  generalize O.heap.size = D at *
  have d0 := AU.1 0 _ rfl
  have d1 := AU.1 1 _ rfl
  have d2 := AU.1 2 _ rfl
  have d3 := AU.1 3 _ rfl
  cases P with
  | false =>
    have HE : Hid (V = actV none) := by rw [HV.out]; rfl
    clear HV HAL CP
    go_wp2_with fail
    refine (CA.out _).mono ?_
    rintro e wa ⟨rfl, ba⟩
    have AR := AO2.below ba
    have BR := BU.trans (ba.mono BU.size)
    clear ba d0 d1 d2 d3 CA AO2 AU BU HI2
    have r0 := AR.1 0 _ rfl
    have r1 := AR.1 1 _ rfl
    have r2 := AR.1 2 _ rfl
    have r3 := AR.1 3 _ rfl
    have rf := AR.2.1
    go_wp2_with fail
    refine bodyPost_ret (act_result2 rfl _ _ w.heap.size (.int .i64 0) (.string ⟨#[]⟩) (.string ⟨#[]⟩) (.int .i64 0) _ rfl rfl ((((AR.set 0 (by simp) _).set 1 (by simp) _).set 2 (by simp) _).set 3 (by simp) _)) rfl ⟨?_, (((BR.setCell (by simp) _).setCell (by simp) _).setCell (by simp) _).setCell (by simp) _⟩
    rw [HE.out]
    rfl
  | true =>
    have HA : Hid (A = rawL ⟨k, t, b, n⟩) := by rw [HAL.out]; rfl
    obtain ⟨Q, hQ⟩ : ∃ Q : Bool, Q = decide (A = l) := ⟨_, rfl⟩
    have HE : Hid (V = actV (if Q then some ⟨k, t, b, n⟩ else none)) := by
      show _ = _
      rw [HV.out, hQ, HA.out]
      by_cases h : rawL ⟨k, t, b, n⟩ = l
      · rw [if_pos ⟨rfl, h⟩, decide_eq_true h]; rfl
      · rw [if_neg (fun e => h e.2), decide_eq_false h]; rfl
    have HQ : Hid (decide (A = l) = Q) := hQ.symm
    clear HV HAL HA hQ
    go_wp2_with fail
    refine (CA.out _).mono ?_
    rintro e wa ⟨rfl, ba⟩
    have AR1 := AO2.below ba
    have AD1 := AU.below ba
    have BR1 := BU.trans (ba.mono BU.size)
    have HI3 : Hid (BRow wa (.slice ao l.length cp) l) := HI2.out.below ba
    clear ba d0 d1 d2 d3 CA AO2 AU BU HI2
    have d0 := AD1.1 0 _ rfl
    have d1 := AD1.1 1 _ rfl
    have d2 := AD1.1 2 _ rfl
    have d3 := AD1.1 3 _ rfl
    go_wp2_with fail
    refine (CP.out _).mono ?_
    rintro e wb ⟨vb, rfl, ob, bb⟩
    have AR := AR1.below bb
    have AD := AD1.below bb
    have BR := BR1.trans (bb.mono BR1.size)
    have CE := hidB (implBEqual vb (.slice ao l.length cp) A l wb (BRow.of_own ob) (HI3.out.below bb))
    rw [HQ.out] at CE
    obtain ⟨bo, bc, hvb⟩ := (BRow.of_own ob).slice
    subst hvb
    clear bb ob d0 d1 d2 d3 CP AR1 AD1 BR1 HI3 HQ
    go_wp2_with fail
    refine CE.out.mono ?_
    rintro e w1 ⟨rfl, rfl⟩
    clear CE
    cases Q with
    | false =>
      have r0 := AR.1 0 _ rfl
      have r1 := AR.1 1 _ rfl
      have r2 := AR.1 2 _ rfl
      have r3 := AR.1 3 _ rfl
      have rf := AR.2.1
      go_wp2_with fail
      refine bodyPost_ret (act_result2 rfl _ _ w.heap.size (.int .i64 0) (.string ⟨#[]⟩) (.string ⟨#[]⟩) (.int .i64 0) _ rfl rfl ((((AR.set 0 (by simp) _).set 1 (by simp) _).set 2 (by simp) _).set 3 (by simp) _)) rfl ⟨?_, (((BR.setCell (by simp) _).setCell (by simp) _).setCell (by simp) _).setCell (by simp) _⟩
      rw [HE.out]
      rfl
    | true =>
      have r0 := AR.1 0 _ rfl
      have r1 := AR.1 1 _ rfl
      have r2 := AR.1 2 _ rfl
      have r3 := AR.1 3 _ rfl
      have rf := AR.2.1
      have d0 := AD.1 0 _ rfl
      have d1 := AD.1 1 _ rfl
      have d2 := AD.1 2 _ rfl
      have d3 := AD.1 3 _ rfl
      go_wp2_with fail
      refine bodyPost_ret (act_result2 rfl _ _ w.heap.size (.int .i64 k) (.string t) (.string b) (.int .i64 n) _ rfl rfl ((((AR.set 0 (by simp) _).set 1 (by simp) _).set 2 (by simp) _).set 3 (by simp) _)) rfl ⟨?_, (((BR.setCell (by simp) _).setCell (by simp) _).setCell (by simp) _).setCell (by simp) _⟩
      rw [HE.out]
      rfl
set_option maxRecDepth 100000 in
set_option maxHeartbeats 4000000 in
theorem specGetAct (v : Value) (l : List UInt8) (w : World) (hin : BRow w v l) (hn : l.length ≤ 1048576) :
    Calls Try.prog 17 #[v] w fun e w' => e = .returned (actV (getAct l)) ∧ Below w.heap.size w w' := by
  obtain ⟨O, hO⟩ : ∃ O, O = w.alloc (.cells #[.int .i64 0, .string ⟨#[]⟩, .string ⟨#[]⟩, .int .i64 0] 26) := ⟨_, rfl⟩
  have HOs : Hid (w.heap.size < O.heap.size) := by show _ < _; rw [hO]; simp
  have bO : Below w.heap.size w O := by rw [hO]; exact (Below.refl _ _).alloc (Nat.le_refl _) _
  have AO : BAt O w.heap.size [.int .i64 0, .string ⟨#[]⟩, .string ⟨#[]⟩, .int .i64 0] := by rw [hO]; exact BAt.new w #[.int .i64 0, .string ⟨#[]⟩, .string ⟨#[]⟩, .int .i64 0] _
  have hI := hin.below bO
  have hn2 : l.length ≤ 1099511627776 := by omega
  have G1 := specGetNum 0 v l O hI hn2
  have G2 := specGetNum ((posO (g1 l) : Nat) : Int) v l O hI hn2
  have G3 := specGetText ((posO (g2 l) : Nat) : Int) v l O hI hn2
  have G4 := specGetText ((endO (g3 l) : Nat) : Int) v l O hI hn2
  rw [show getL l 0 = g1 l from rfl, getV_eq] at G1
  rw [show getL l ((posO (g1 l) : Nat) : Int) = g2 l from rfl, getV_eq] at G2
  rw [show pieceL l ((posO (g2 l) : Nat) : Int) = g3 l from rfl, textV_eq] at G3
  rw [show pieceL l ((endO (g3 l) : Nat) : Int) = g4 l from rfl, textV_eq] at G4
  have hz3 := txtO_le (l := l) (g3 l)
  have hz4 := txtO_le (l := l) (g4 l)
  have HX : Hid (readA l = ⟨((numO (g1 l) : Nat) : Int), txtO l (g3 l), txtO l (g4 l), ((numO (g2 l) : Nat) : Int)⟩) := rfl
  have HI : Hid (BRow O v l) := hI
  obtain ⟨ao, cp, hv⟩ := hI.slice
  subst hv
  clear hin hI
  obtain ⟨V, hV⟩ : ∃ V, V = actV (getAct l) := ⟨_, rfl⟩
  have hV2 : V = actV (if ((g1 l).isSome && (g2 l).isSome && (g3 l).isSome && (g4 l).isSome && decide (endO (g4 l) = l.length) && actB (readA l)) then some (readA l) else none) := by rw [hV, spec_get]; rfl
  have he : decide (endO (g4 l) = l.length) = !(((endO (g4 l) : Nat) : Int) != (l.length : Int)) := by
    rw [Bool.eq_iff_iff]
    simp
    omega
  rw [he, HX.out] at hV2
  rw [← hV]
  clear hV he
  generalize ((numO (g1 l) : Nat) : Int) = k at *
  generalize ((numO (g2 l) : Nat) : Int) = n at *
  generalize txtO l (g3 l) = t at *
  generalize txtO l (g4 l) = b at *
  generalize ((posO (g1 l) : Nat) : Int) = p1 at *
  generalize ((posO (g2 l) : Nat) : Int) = p2 at *
  generalize ((endO (g3 l) : Nat) : Int) = p3 at *
  generalize ((endO (g4 l) : Nat) : Int) = p4 at *
  generalize (g1 l).isSome = i1 at *
  generalize (g2 l).isSome = i2 at *
  generalize (g3 l).isSome = i3 at *
  generalize (g4 l).isSome = i4 at *
  clear HX
  have CA : Hid (∀ W, Calls Try.prog 9 #[.agg #[.int .i64 k, .string t, .string b, .int .i64 n]] W fun e w' => e = .returned (.bool (actB ⟨k, t, b, n⟩)) ∧ Below W.heap.size W w') := fun W => specActOk ⟨k, t, b, n⟩ W
  have H1 := hidB G1
  have H2 := hidB G2
  have H3 := hidB G3
  have H4 := hidB G4
  clear G1 G2 G3 G4
  obtain ⟨P, hP⟩ : ∃ P, P = actB ⟨k, t, b, n⟩ := ⟨_, rfl⟩
  rw [← hP] at CA hV2
  clear hP
  obtain ⟨E, hE⟩ : ∃ E : Bool, (p4 != (l.length : Int)) = E := ⟨_, rfl⟩
  rw [hE] at hV2
  have HV := hidB hV2
  have HEq := hidB hE
  clear hV2 hE
  go_enter Try.func17, Try.ntmps17
  go_upto_region 1 with fail
  rw [← hO]
  clear hO
  go_wp2_with fail
  refine H1.out.mono ?_
  rintro e w1 ⟨rfl, rfl⟩
  go_wp2_with fail
  refine H2.out.mono ?_
  rintro e w1 ⟨rfl, rfl⟩
  go_wp2_with fail
  refine H3.out.mono ?_
  rintro e w1 ⟨rfl, rfl⟩
  go_wp2_with fail
  refine H4.out.mono ?_
  rintro e w1 ⟨rfl, rfl⟩
  clear H1 H2 H3 H4
  go_upto_region 6 with fail
  obtain ⟨U, hU⟩ : ∃ U, U = O.alloc (.cells #[.int .i64 k, .string t, .string b, .int .i64 n] 26) := ⟨_, rfl⟩
  have bU : Below O.heap.size O U := by rw [hU]; exact (Below.refl _ _).alloc (Nat.le_refl _) _
  have AU : BAt U O.heap.size [.int .i64 k, .string t, .string b, .int .i64 n] := by rw [hU]; exact BAt.new O #[.int .i64 k, .string t, .string b, .int .i64 n] _
  have AO2 := AO.below bU
  have BU := bO.trans (bU.mono bO.size)
  have HI2 : Hid (BRow U (.slice ao l.length cp) l) := HI.out.below bU
  rw [← hU]
  clear hU HI AO bU bO
  have zO := HOs.out
  clear HOs
  generalize O.heap.size = D at *
  have d0 := AU.1 0 _ rfl
  have d1 := AU.1 1 _ rfl
  have d2 := AU.1 2 _ rfl
  have d3 := AU.1 3 _ rfl
  have hE := HEq.out
  cases i1 with
  | false =>
    have HE : Hid (V = actV none) := HV.out
    have AR := AO2
    have BR := BU
    clear HV CA AU HI2 AO2 BU d0 d1 d2 d3
    have r0 := AR.1 0 _ rfl
    have r1 := AR.1 1 _ rfl
    have r2 := AR.1 2 _ rfl
    have r3 := AR.1 3 _ rfl
    have rf := AR.2.1
    go_wp2_with fail
    refine bodyPost_ret (act_result2 rfl _ _ w.heap.size (.int .i64 0) (.string ⟨#[]⟩) (.string ⟨#[]⟩) (.int .i64 0) _ rfl rfl ((((AR.set 0 (by simp) _).set 1 (by simp) _).set 2 (by simp) _).set 3 (by simp) _)) rfl ⟨?_, (((BR.setCell (by simp) _).setCell (by simp) _).setCell (by simp) _).setCell (by simp) _⟩
    rw [HE.out]
    rfl
  | true =>
  cases i2 with
  | false =>
    have HE : Hid (V = actV none) := HV.out
    have AR := AO2
    have BR := BU
    clear HV CA AU HI2 AO2 BU d0 d1 d2 d3
    have r0 := AR.1 0 _ rfl
    have r1 := AR.1 1 _ rfl
    have r2 := AR.1 2 _ rfl
    have r3 := AR.1 3 _ rfl
    have rf := AR.2.1
    go_wp2_with fail
    refine bodyPost_ret (act_result2 rfl _ _ w.heap.size (.int .i64 0) (.string ⟨#[]⟩) (.string ⟨#[]⟩) (.int .i64 0) _ rfl rfl ((((AR.set 0 (by simp) _).set 1 (by simp) _).set 2 (by simp) _).set 3 (by simp) _)) rfl ⟨?_, (((BR.setCell (by simp) _).setCell (by simp) _).setCell (by simp) _).setCell (by simp) _⟩
    rw [HE.out]
    rfl
  | true =>
  cases i3 with
  | false =>
    have HE : Hid (V = actV none) := HV.out
    have AR := AO2
    have BR := BU
    clear HV CA AU HI2 AO2 BU d0 d1 d2 d3
    have r0 := AR.1 0 _ rfl
    have r1 := AR.1 1 _ rfl
    have r2 := AR.1 2 _ rfl
    have r3 := AR.1 3 _ rfl
    have rf := AR.2.1
    go_wp2_with fail
    refine bodyPost_ret (act_result2 rfl _ _ w.heap.size (.int .i64 0) (.string ⟨#[]⟩) (.string ⟨#[]⟩) (.int .i64 0) _ rfl rfl ((((AR.set 0 (by simp) _).set 1 (by simp) _).set 2 (by simp) _).set 3 (by simp) _)) rfl ⟨?_, (((BR.setCell (by simp) _).setCell (by simp) _).setCell (by simp) _).setCell (by simp) _⟩
    rw [HE.out]
    rfl
  | true =>
  cases i4 with
  | false =>
    have HE : Hid (V = actV none) := HV.out
    have AR := AO2
    have BR := BU
    clear HV CA AU HI2 AO2 BU d0 d1 d2 d3
    have r0 := AR.1 0 _ rfl
    have r1 := AR.1 1 _ rfl
    have r2 := AR.1 2 _ rfl
    have r3 := AR.1 3 _ rfl
    have rf := AR.2.1
    go_wp2_with fail
    refine bodyPost_ret (act_result2 rfl _ _ w.heap.size (.int .i64 0) (.string ⟨#[]⟩) (.string ⟨#[]⟩) (.int .i64 0) _ rfl rfl ((((AR.set 0 (by simp) _).set 1 (by simp) _).set 2 (by simp) _).set 3 (by simp) _)) rfl ⟨?_, (((BR.setCell (by simp) _).setCell (by simp) _).setCell (by simp) _).setCell (by simp) _⟩
    rw [HE.out]
    rfl
  | true =>
  cases E with
  | true =>
    have HE : Hid (V = actV none) := HV.out
    have AR := AO2
    have BR := BU
    clear HV CA AU HI2 AO2 BU d0 d1 d2 d3
    have r0 := AR.1 0 _ rfl
    have r1 := AR.1 1 _ rfl
    have r2 := AR.1 2 _ rfl
    have r3 := AR.1 3 _ rfl
    have rf := AR.2.1
    go_wp2_with fail
    refine bodyPost_ret (act_result2 rfl _ _ w.heap.size (.int .i64 0) (.string ⟨#[]⟩) (.string ⟨#[]⟩) (.int .i64 0) _ rfl rfl ((((AR.set 0 (by simp) _).set 1 (by simp) _).set 2 (by simp) _).set 3 (by simp) _)) rfl ⟨?_, (((BR.setCell (by simp) _).setCell (by simp) _).setCell (by simp) _).setCell (by simp) _⟩
    rw [HE.out]
    rfl
  | false =>
  go_wp2_with fail
  refine (CA.out _).mono ?_
  rintro e wa ⟨rfl, ba⟩
  have AR := AO2.below ba
  have AD := AU.below ba
  have BR := BU.trans (ba.mono BU.size)
  have HE : Hid (V = actV (if P then some ⟨k, t, b, n⟩ else none)) := HV.out
  clear ba d0 d1 d2 d3 CA AO2 AU BU HI2 HV HEq hE
  cases P with
  | false =>
    have r0 := AR.1 0 _ rfl
    have r1 := AR.1 1 _ rfl
    have r2 := AR.1 2 _ rfl
    have r3 := AR.1 3 _ rfl
    have rf := AR.2.1
    go_wp2_with fail
    refine bodyPost_ret (act_result2 rfl _ _ w.heap.size (.int .i64 0) (.string ⟨#[]⟩) (.string ⟨#[]⟩) (.int .i64 0) _ rfl rfl ((((AR.set 0 (by simp) _).set 1 (by simp) _).set 2 (by simp) _).set 3 (by simp) _)) rfl ⟨?_, (((BR.setCell (by simp) _).setCell (by simp) _).setCell (by simp) _).setCell (by simp) _⟩
    rw [HE.out]
    rfl
  | true =>
    have r0 := AR.1 0 _ rfl
    have r1 := AR.1 1 _ rfl
    have r2 := AR.1 2 _ rfl
    have r3 := AR.1 3 _ rfl
    have rf := AR.2.1
    have d0 := AD.1 0 _ rfl
    have d1 := AD.1 1 _ rfl
    have d2 := AD.1 2 _ rfl
    have d3 := AD.1 3 _ rfl
    go_wp2_with fail
    refine bodyPost_ret (act_result2 rfl _ _ w.heap.size (.int .i64 k) (.string t) (.string b) (.int .i64 n) _ rfl rfl ((((AR.set 0 (by simp) _).set 1 (by simp) _).set 2 (by simp) _).set 3 (by simp) _)) rfl ⟨?_, (((BR.setCell (by simp) _).setCell (by simp) _).setCell (by simp) _).setCell (by simp) _⟩
    rw [HE.out]
    rfl
end Go.Proofs.Ytfigkoapebdlfaa
