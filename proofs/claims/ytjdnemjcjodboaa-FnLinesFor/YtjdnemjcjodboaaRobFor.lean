/- Lines for a name, plainly; 'append' of a row of lines; the specification's l11For and LinesFor. -/
import Derived.Test.YtjdnemjcjodboaaRows
import Derived.Test.YtjdnemjcjodboaaRobOwn
import Derived.Test.YtjdnemjcjodboaaRobLen
import Derived.Test.YtjdnemjcjodboaaHasSpec
import Derived.Test.YtjdnemjcjodboaaAgSpec
import Derived.Test.YtjdnemjcjodboaaBlockAt
import Derived.Test.YtjdnemjcjodboaaStrTo
import Derived.Laws.OwnMore
import Derived.Maps.AppendAt
import Derived.Handy
import Derived.Deep.DeepCutAuto
import Derived.Deep.RegionWith
namespace Go.Proofs.Ytjdnemjcjodboaa
open Go.RowKit
set_option linter.unusedVariables false

def forL (ps : List PT) (n : ByteArray) : List LV := ps.flatMap fun p => if hasS p.ag n = true then p.ln else []
def hasP (ps : List PT) (n : ByteArray) : Bool := ps.any fun p => hasS p.ag n
def agV (a : ByteArray) : ByteArray := ⟨(agL a.data.toList).toArray⟩
def starV : ByteArray := ⟨#[42]⟩
def lfL (ps : List PT) (a : ByteArray) : List LV := if hasP ps (agV a) = true then forL ps (agV a) else forL ps starV
theorem forL_next {ps : List PT} {k : Nat} (h : k < ps.length) (n : ByteArray) : forL (ps.take (k + 1)) n = forL (ps.take k) n ++ (if hasS (ps.getD k pt0).ag n = true then (ps.getD k pt0).ln else []) := by
  unfold forL
  rw [List.take_succ_eq_append_getElem h, List.flatMap_append, List.getD_eq_getElem?_getD, List.getElem?_eq_getElem h]
  simp
theorem hasP_next {ps : List PT} {k : Nat} (h : k < ps.length) (n : ByteArray) : hasP (ps.take (k + 1)) n = (hasP (ps.take k) n || hasS (ps.getD k pt0).ag n) := by
  unfold hasP
  rw [List.take_succ_eq_append_getElem h, List.any_append, List.getD_eq_getElem?_getD, List.getElem?_eq_getElem h]
  simp
theorem forL_len (ps : List PT) (n : ByteArray) : ∀ k, k ≤ ps.length → (forL (ps.take k) n).length ≤ psum (fun i => sumT (ps.getD i pt0)) k
  | 0, _ => by simp [forL, psum]
  | k + 1, hk => by
    have h1 := forL_len ps n k (by omega)
    rw [forL_next (by omega), List.length_append]
    show _ ≤ psum _ k + sumT (ps.getD k pt0)
    have e2 : sumT (ps.getD k pt0) = sumS (ps.getD k pt0).ag + sumL (ps.getD k pt0).ln := rfl
    have e3 : (ps.getD k pt0).ln.length ≤ sumL (ps.getD k pt0).ln := Nat.le_add_right _ _
    split
    · omega
    · rw [List.length_nil]; omega
theorem forL_most {ps : List PT} (hN : sumP ps ≤ 1048576) (n : ByteArray) (k : Nat) (hk : k ≤ ps.length) : (forL (ps.take k) n).length ≤ 1048576 := by
  have h1 := forL_len ps n k hk
  have h2 := psum_le (fun i => sumT (ps.getD i pt0)) hk
  unfold sumP at hN
  omega
theorem agV_size (a : ByteArray) : (agV a).size ≤ a.size + 1 := by
  unfold agV agL
  have hs : (⟨(if a.data.toList.head? = some 42 then [42] else lowerL (a.data.toList.takeWhile agB)).toArray⟩ : ByteArray).size = (if a.data.toList.head? = some 42 then [42] else lowerL (a.data.toList.takeWhile agB)).length := List.size_toArray
  rw [hs]
  split
  · simp
  · unfold lowerL
    rw [List.length_map]
    have h1 := (List.takeWhile_prefix agB (l := a.data.toList)).length_le
    have h2 : a.data.toList.length = a.size := by simp
    omega
theorem run_append_none0 {P : Program} (w : World) (base : Nat) (t ty e : TypeId) (i : TypeInfo) (size : Nat) (ht : P.underlying t = some (.slice e)) (hi : P.info? e = some i)
    (v : Value) (n c : Nat) (xs : List Value) (hown : w.ownsRow base e size v n xs) :
    (Builtin.append_ #[t, t] ty #[v, .slice none 0 c]).run P w = .ok v w := by
  rcases hown.2 with ⟨rfl, rfl⟩ | ⟨g, cap, cur, rfl, _, _, hnc, _⟩
  · simp [Builtin.append_, run_underlying ht, sizeOf, typeInfo, hi, Builtin.lenOf, Builtin.firstCells]
  · simp [Builtin.append_, run_underlying ht, sizeOf, typeInfo, hi, Builtin.lenOf, Builtin.firstCells, hnc, storeCells]
/-- 'append(out, lines...)': a row of lines, wherever it lies, behind lines that the call owns. -/
theorem wpList_append_lines {P : Program} {w : World} {ops : Array Oper} {rest : List Oper} {o : Oper} {a : Act} {Q : Exit → Act → World → Prop}
    (hgd : o.guard = none) (s x : Operand) (t : TypeId) (hop : o.op = .call { callee := .builtin .append, args := #[s, x], argTypes := #[t, t] })
    (B : Nat) (e : TypeId) (z : Value) (bytes : Nat) (ht : P.underlying t = some (.slice e)) (hinfo : (P.info? e).map (fun i => (i.zero, i.size, i.bytes)) = some (some z, 2, bytes)) (hz : z.cells.size = 2)
    (v : Value) (m : List LV) (hs : a.eval s = v) (hown : w.ownsRow B e 2 v m.length (lcells m)) (q : Value) (l : List LV) (hx : a.eval x = q) (hq : LineRow w q l)
    (hroom : (m.length + l.length) * bytes ≤ 140737488355328) (hroom' : m.length + l.length ≤ maxLen) (hB : B ≤ w.heap.size)
    (hK : ∀ v' w1, w1.ownsRow B e 2 v' (m ++ l).length (lcells (m ++ l)) → w.grownBy w1 v.ownBlock → (v'.ownBlock = v.ownBlock ∨ v'.ownBlock = some w.heap.size) → wpList P ops Q rest (a.put o.dst v') w1) :
    wpList P ops Q (o :: rest) a w := by
  obtain ⟨i0, hi, hz0, hz1, hz2⟩ := info_parts hinfo
  have main : ∀ ad c, q = .slice (some ad) l.length c → (∀ j u, (lcells l)[j]? = some u → w.cell? (ad.add j) = some u) → wpList P ops Q (o :: rest) a w := fun ad c hqe hc => by
    refine wpList_append_own_at w hgd s x t hop B e i0 z 2 bytes ht hi hz0 hz1 hz2 hz (by decide) v m.length (lcells m) hs hown ad l.length c (lcells l) (hx.trans hqe) (lcells_length l) hc (lcells_one' l) hroom' hroom hB ?_
    intro v' w1 g1 g2 _ g4
    refine hK v' w1 ?_ g2 g4
    rw [List.length_append, lcells_append]
    exact g1
  rcases hq with ⟨rfl, ao, cap, hqe⟩ | ⟨h0, g, off, cap, hqe, hg, hc⟩
  · cases ao with
    | none =>
      refine wpList_plain hgd fun K hKK => ?_
      have hrun := run_append_none0 (P := P) w B t o.type e i0 2 ht hi v m.length cap (lcells m) hown
      unfold Oper.wp
      have hx2 : a.eval x = .slice none 0 cap := hx.trans hqe
      simp [execOp, hop, resolve, invoke, builtin, hs, hx2, hrun, Result.andThen]
      exact hKK _ _ (hK v w (by rw [List.append_nil]; exact hown) ⟨rfl, rfl, rfl, Nat.le_refl _, fun _ _ _ => rfl⟩ (.inl rfl))
    | some ad => exact main ad cap hqe fun j u hj => by simp [lcells] at hj
  · refine main _ _ hqe fun j u hj => ?_
    have hjl : j < l.length * 2 := by
      have := (List.getElem?_eq_some_iff.1 hj).1
      rwa [lcells_length] at this
    rw [Addr.add_lit]
    obtain ⟨e1, e2⟩ := lcells_at l (j / 2) (by omega)
    obtain ⟨f1, f2⟩ := hc (j / 2) (by omega)
    by_cases hm : j % 2 = 0
    · rw [show j / 2 * 2 = j by omega] at e1 f1
      rw [hj] at e1
      injection e1 with e1
      rw [f1, e1]
    · rw [show j / 2 * 2 + 1 = j by omega] at e2
      rw [show off + j / 2 * 2 + 1 = off + j by omega] at f2
      rw [hj] at e2
      injection e2 with e2
      rw [f2, e2]
theorem Try.infoLn : (Try.prog.info? 58).map (fun i => (i.zero, i.size, i.bytes)) = some (some (.agg #[.bool false, .string ⟨#[]⟩]), 2, 24) := by kernel_rfl
set_option maxHeartbeats 4000000 in
theorem specFor (l : List PT) (v : Value) (n : ByteArray) (w : World) (hN : sumP l ≤ 1048576) (h : PartRow w v l) :
    Calls Try.prog 34 #[.agg #[v], .string n] w fun e w' => ∃ v', e = .returned (.tuple #[v', .bool (hasP l n)]) ∧ w'.ownsRow w.heap.size 58 2 v' (forL l n).length (lcells (forL l n)) ∧ Below w.heap.size w w' := by
  have HN : Hid (sumP l ≤ 1048576) := hN
  have hll : l.length ≤ 1048576 := by unfold sumP at hN; omega
  clear hN
  obtain ⟨O, hO⟩ : ∃ O, O = (w.alloc (.cells #[v] 26)).alloc (.cells #[] 58) := ⟨_, rfl⟩
  have hbO : Below w.heap.size w O := by rw [hO]; exact ((Below.refl _ _).alloc (Nat.le_refl _) _).alloc (by simp) _
  have AO : BAt O w.heap.size [v] := by rw [hO]; exact (BAt.new w #[v] _).alloc _
  have OO : O.ownsRow w.heap.size 58 2 (.slice (some ⟨w.heap.size + 1, 0, none⟩) 0 0) 0 [] := by
    have := World.ownsRow_made (e := 58) (size := 2) (base := w.heap.size) (w.alloc (.cells #[v] 26)) #[] 0 (by simp) (by decide) rfl
    rw [World.size_alloc, ← hO] at this
    exact this
  obtain ⟨ao, cap, hv⟩ := h.slice
  subst hv
  have HROW : Hid (PartRow w (.slice ao l.length cap) l) := h
  clear h
  go_enter Try.func34, Try.ntmps34
  go_upto_region 2 with fail
  rw [← hO]
  clear hO
  go_wp2_with fail
  go_loopw [6, 7, 8] (fun o b i wr => ∃ k : Nat, k ≤ l.length ∧ i = .int .i64 k ∧ b = .bool (hasP (l.take k) n) ∧ Hid (wr.ownsRow w.heap.size 58 2 o (forL (l.take k) n).length (lcells (forL (l.take k) n))) ∧ Hid (∀ bb, o.ownBlock = some bb → w.heap.size < bb) ∧ Hid (BAt wr w.heap.size [.slice ao l.length cap]) ∧ Below w.heap.size w wr) (fun _ _ i _ => l.length - (intOf i).toNat)
  case atStart => exact ⟨0, Nat.zero_le _, rfl, rfl, OO, (fun bb e => by injection e with e; have e2 : w.heap.size + 1 = bb := e; omega), AO, hbO⟩
  case round =>
    obtain ⟨k, hk, rfl, rfl, HO, HAP, HA, hbel⟩ := hrel
    clear OO AO hbO
    have c0 := HA.out.1 0 _ rfl
    by_cases hlt : k < l.length
    · have hki : (k : Int) < l.length := by omega
      obtain ⟨g, off, p, q, cc, hv, hg, c1, c2, c3, c4⟩ : ∃ g off p q cc, Value.slice ao l.length cap = .slice (some ⟨g, off, none⟩) l.length cc ∧ g < w.heap.size ∧ w.cell? ⟨g, off + k * 2, none⟩ = some p ∧ StrRow w p (l.getD k pt0).ag ∧ w.cell? ⟨g, off + k * 2 + 1, none⟩ = some q ∧ LineRow w q (l.getD k pt0).ln := by
        rcases HROW.out with ⟨h, _⟩ | ⟨_, g, off, cc, h1, h2, h3⟩
        · rw [h] at hlt; simp at hlt
        · obtain ⟨p, q, q1, q2, q3, q4⟩ := h3 k hlt
          exact ⟨g, off, p, q, _, h1, h2, q1, q2, q3, q4⟩
      cases hv
      have c1w := (hbel.cell (p := ⟨g, off + k * 2, none⟩) hg).trans c1
      have c3w := (hbel.cell (p := ⟨g, off + k * 2 + 1, none⟩) hg).trans c3
      obtain ⟨_, ha1, hl1⟩ := part_lens HN.out hlt
      have CH : Hid (Calls Try.prog 53 #[p, .string n] wr fun e w' => e = .returned (.bool (hasS (l.getD k pt0).ag n)) ∧ wr = w') := specHas _ p n wr (by omega) (c2.below hbel)
      have HLR : Hid (LineRow wr q (l.getD k pt0).ln) := c4.below hbel
      have HF1 : Hid (forL (l.take (k + 1)) n = forL (l.take k) n ++ (if hasS (l.getD k pt0).ag n = true then (l.getD k pt0).ln else [])) := forL_next hlt n
      have HH1 : Hid (hasP (l.take (k + 1)) n = (hasP (l.take k) n || hasS (l.getD k pt0).ag n)) := hasP_next hlt n
      have hfl := forL_most HN.out n k hk
      obtain ⟨qa, qc, hqq⟩ := c4.slice
      obtain ⟨pa, pc, hpp⟩ := c2.slice
      subst hqq hpp
      clear c1 c2 c3 c4
      generalize l.getD k pt0 = x at *
      generalize hxn : x.ln.length = xn at *
      generalize hFF : forL (l.take k) n = FF at *
      clear hFF
      cases hh : hasS x.ag n with
      | false =>
        rw [hh] at HF1 HH1 CH
        rw [if_neg (by decide), List.append_nil] at HF1
        rw [Bool.or_false] at HH1
        have HO2 : Hid (wr.ownsRow w.heap.size 58 2 u6 (forL (l.take (k + 1)) n).length (lcells (forL (l.take (k + 1)) n))) := by rw [HF1.out]; exact HO
        clear hh
        go_wp2_with fail
        refine CH.out.mono ?_
        rintro e w' ⟨rfl, rfl⟩
        go_wp2_with fail
        go_roundw
        case rel => exact ⟨k + 1, by omega, by go_num, by rw [HH1.out], HO2, HAP, HA, hbel⟩
        case measure => simp [intOf] <;> omega
      | true =>
        rw [hh] at HF1 HH1 CH
        rw [if_pos rfl] at HF1
        rw [Bool.or_true] at HH1
        clear hh
        go_wp2_with fail
        refine CH.out.mono ?_
        rintro e w' ⟨rfl, rfl⟩
        go_wp2_with (at_builtin; refine wpList_append_lines rfl _ _ 29 rfl w.heap.size 58 (.agg #[.bool false, .string ⟨#[]⟩]) 24 Try.underlying29 Try.infoLn rfl u6 FF rfl HO.out (.slice qa xn qc) x.ln rfl HLR.out (by omega) (by unfold maxLen; omega) hbel.size ?_)
        intro v' w1 ho1 hg1 hat
        have hwr := HA.out.2.2
        have HA1 : Hid (BAt w1 w.heap.size [.slice (some ⟨g, off, none⟩) l.length cap]) := HA.out.same hg1.size (hg1.block _ hwr fun e => by have := HAP.out _ e.symm; omega)
        have HAP1 : Hid (∀ bb, v'.ownBlock = some bb → w.heap.size < bb) := fun bb e => by
          rcases hat with h | h
          · exact HAP.out bb (by rw [← h]; exact e)
          · rw [h] at e; injection e with e; omega
        have HO1 : Hid (w1.ownsRow w.heap.size 58 2 v' (forL (l.take (k + 1)) n).length (lcells (forL (l.take (k + 1)) n))) := by
          show World.ownsRow _ _ _ _ _ _ _
          rw [HF1.out, List.length_append, hxn]
          exact ho1
        have B1 := hbel.grown hg1 hbel.size (fun bb e => by have := HAP.out bb e; omega)
        clear ho1 hg1 hat HO HAP HA hbel c0 c1w c3w HLR CH
        go_wp2_with fail
        go_roundw
        case rel => exact ⟨k + 1, by omega, by go_num, by rw [HH1.out], HO1, HAP1, HA1, B1⟩
        case measure => simp [intOf] <;> omega
    · have hki : ¬ (k : Int) < l.length := by omega
      have HE : Hid (l.take k = l) := List.take_of_length_le (by omega)
      have HO1 : Hid (wr.ownsRow w.heap.size 58 2 u6 (forL l n).length (lcells (forL l n))) := by have := HO.out; rwa [HE.out] at this
      have HB1 : Hid (hasP (l.take k) n = hasP l n) := by show _ = _; rw [HE.out]
      clear HO
      go_wp2_with fail
      go_ret2
      exact ⟨_, by rw [HB1.out]; rfl, HO1.out, hbel⟩
set_option maxHeartbeats 2000000 in
theorem specLinesFor (l : List PT) (v : Value) (a : ByteArray) (w : World) (hN : sumP l ≤ 1048576) (ha : a.size ≤ 1048576) (h : PartRow w v l) :
    Calls Try.prog 15 #[.agg #[v], .string a] w fun e w' => ∃ v', e = .returned v' ∧ w'.ownsRow w.heap.size 58 2 v' (lfL l a).length (lcells (lfL l a)) ∧ Below w.heap.size w w' := by
  obtain ⟨O, hO⟩ : ∃ O, O = w.alloc (.cells #[v] 26) := ⟨_, rfl⟩
  have bO : Below w.heap.size w O := by rw [hO]; exact (Below.refl _ _).alloc (Nat.le_refl _) _
  have AO : BAt O w.heap.size [v] := by rw [hO]; exact BAt.new w #[v] _
  have CA : Hid (∀ W, Calls Try.prog 13 #[.string a] W fun e w' => e = .returned (.string (agV a)) ∧ Below W.heap.size W w') := fun W => specAgentOf a W ha
  have CF : Hid (∀ n W, Below w.heap.size w W → Calls Try.prog 34 #[.agg #[v], .string n] W fun e w' => ∃ v', e = .returned (.tuple #[v', .bool (hasP l n)]) ∧ w'.ownsRow W.heap.size 58 2 v' (forL l n).length (lcells (forL l n)) ∧ Below W.heap.size W w') := fun n W hW => specFor l v n W hN (h.below hW)
  have HL : Hid (lfL l a = if hasP l (agV a) = true then forL l (agV a) else forL l starV) := rfl
  obtain ⟨ao, cap, hv⟩ := h.slice
  subst hv
  clear h hN
  generalize agV a = n at *
  generalize lfL l a = R at *
  have hz0 := AO.2.2
  go_enter Try.func15, Try.ntmps15
  go_upto_region 1 with fail
  rw [← hO]
  clear hO
  have c0 := AO.1 0 _ rfl
  go_region_with (first
    | (go_at_call 13; refine (CA.out _).mono ?_; rintro e wa ⟨rfl, ba⟩; have ca := (ba.cell (p := ⟨w.heap.size, 0, none⟩) hz0).trans c0)
    | (go_at_call 34; refine (CF.out _ _ (bO.drew.trans (ba.mono bO.size))).mono ?_; rintro e wb ⟨vb, rfl, ob, bb⟩))
  all_goals
    have B1 := ba.trans (bb.mono ba.size)
    have B2 := bO.drew.trans (B1.mono bO.size)
    have c1 := (B1.cell (p := ⟨w.heap.size, 0, none⟩) hz0).trans c0
    obtain ⟨xo, xc, rfl⟩ := (LineRow.of_own' ob).slice
    cases hh : hasP l n with
    | true =>
      have HR : Hid (wb.ownsRow w.heap.size 58 2 (.slice xo (forL l n).length xc) R.length (lcells R)) := by
        show World.ownsRow _ _ _ _ _ _ _
        rw [HL.out, if_pos hh]
        exact own_wide0 ob (by have := bO.size; have := ba.size; simp at this; omega)
      clear ob bb ba
      go_wp2_with fail
      go_ret
      exact ⟨_, rfl, HR.out, B2⟩
    | false =>
      have HR : Hid (R = forL l starV) := by
        show _ = _
        rw [HL.out, if_neg (by rw [hh]; decide)]
      clear ob bb ba
      go_wp2_with fail
      refine (CF.out starV _ B2).mono ?_
      rintro e wd ⟨vd, rfl, od, bd⟩
      have B3 := B2.trans (bd.mono B2.size)
      have OD : Hid (wd.ownsRow w.heap.size 58 2 vd R.length (lcells R)) := by
        show World.ownsRow _ _ _ _ _ _ _
        rw [HR.out]
        exact own_wide0 od B2.size
      clear od bd B2
      go_wp2_with fail
      go_ret
      exact ⟨_, rfl, OD.out, B3⟩
end Go.Proofs.Ytjdnemjcjodboaa
