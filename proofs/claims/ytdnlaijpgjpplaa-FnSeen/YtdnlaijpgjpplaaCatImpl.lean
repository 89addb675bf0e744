/- The contracts of slices.Grow of nothing, and of slices.Concat, at rows of marks and at marks. -/
import Derived.Test.YtdnlaijpgjpplaaRows
import Derived.Test.YtdnlaijpgjpplaaRunOwn
import Derived.Test.YtdnlaijpgjpplaaShelf
import Derived.Deep.DeepCutAuto
import Derived.Handy
import Derived.Laws.OwnMore
import Derived.Maps.AppendAt
import Derived.Shelf.Spec.SlicesGrow
namespace Go.Proofs.Ytdnlaijpgjpplaa
open Go.RowKit
set_option linter.unusedVariables false

/-- A row of n elements of z cells each, wherever it lies. -/
def CRow (w : World) (q : Value) (n z : Nat) (vs : List Value) : Prop := (vs.length = n * z ∧ ∀ u ∈ vs, u.oneCell' = true) ∧ ((n = 0 ∧ ∃ ao cap, q = .slice ao 0 cap) ∨ ∃ g off c, q = .slice (some ⟨g, off, none⟩) n c ∧ g < w.heap.size ∧ ∀ j u, vs[j]? = some u → w.cell? ⟨g, off + j, none⟩ = some u)
theorem CRow.below {w w' : World} {q : Value} {n z : Nat} {vs : List Value} (h : CRow w q n z vs) (hb : Below w.heap.size w w') : CRow w' q n z vs := by
  refine ⟨h.1, ?_⟩
  rcases h.2 with h | ⟨g, off, c, h1, h2, h3⟩
  · exact .inl h
  · exact .inr ⟨g, off, c, h1, Nat.lt_of_lt_of_le h2 hb.size, fun j u hj => (hb.cell (p := ⟨g, off + j, none⟩) h2).trans (h3 j u hj)⟩
theorem CRow.slice {w : World} {q : Value} {n z : Nat} {vs : List Value} (h : CRow w q n z vs) : ∃ ao cap, q = .slice ao n cap := by
  rcases h.2 with ⟨rfl, ao, cap, rfl⟩ | ⟨g, off, c, h1, _⟩
  · exact ⟨_, _, rfl⟩
  · exact ⟨_, _, h1⟩
theorem EntRow.crow {w : World} {q : Value} {l : List EV} (h : EntRow w q l) : CRow w q l.length 2 (ecells l) := by
  refine ⟨⟨ecells_length l, ecells_one' l⟩, ?_⟩
  rcases h with ⟨rfl, ao, cap, rfl⟩ | ⟨h0, g, off, cap, h1, h2, h3⟩
  · exact .inl ⟨rfl, _, _, rfl⟩
  · refine .inr ⟨_, _, _, h1, h2, fun j u hj => ?_⟩
    have hjl : j < l.length * 2 := by
      have := (List.getElem?_eq_some_iff.1 hj).1
      rwa [ecells_length] at this
    obtain ⟨e1, e2⟩ := ecells_at l (j / 2) (by omega)
    obtain ⟨f1, f2⟩ := h3 (j / 2) (by omega)
    by_cases hm : j % 2 = 0
    · rw [show j / 2 * 2 = j by omega] at e1 f1
      rw [f1, ← e1, hj]
    · rw [show j / 2 * 2 + 1 = j by omega] at e2
      rw [show off + j / 2 * 2 + 1 = off + j by omega] at f2
      rw [f2, ← e2, hj]
theorem run_append_noneC {P : Program} (w : World) (base : Nat) (t ty e : TypeId) (i : TypeInfo) (size : Nat) (ht : P.underlying t = some (.slice e)) (hi : P.info? e = some i)
    (v : Value) (n c : Nat) (xs : List Value) (hown : w.ownsRow base e size v n xs) :
    (Builtin.append_ #[t, t] ty #[v, .slice none 0 c]).run P w = .ok v w := by
  rcases hown.2 with ⟨rfl, rfl⟩ | ⟨g, cap, cur, rfl, _, _, hnc, _⟩
  · simp [Builtin.append_, run_underlying ht, sizeOf, typeInfo, hi, Builtin.lenOf, Builtin.firstCells]
  · simp [Builtin.append_, run_underlying ht, sizeOf, typeInfo, hi, Builtin.lenOf, Builtin.firstCells, hnc, storeCells]
/-- 'append(out, more...)': a row, wherever it lies, behind a row that the call owns. -/
theorem wpList_append_crow {P : Program} {w : World} {ops : Array Oper} {rest : List Oper} {o : Oper} {a : Act} {Q : Exit → Act → World → Prop}
    (hgd : o.guard = none) (s x : Operand) (t : TypeId) (hop : o.op = .call { callee := .builtin .append, args := #[s, x], argTypes := #[t, t] })
    (B : Nat) (e : TypeId) (z : Value) (size bytes : Nat) (ht : P.underlying t = some (.slice e)) (hinfo : (P.info? e).map (fun i => (i.zero, i.size, i.bytes)) = some (some z, size, bytes)) (hz : z.cells.size = size) (hsz : 0 < size)
    (v : Value) (n : Nat) (xs : List Value) (hs : a.eval s = v) (hown : w.ownsRow B e size v n xs) (q : Value) (m : Nat) (vs : List Value) (hx : a.eval x = q) (hq : CRow w q m size vs)
    (hroom : (n + m) * bytes ≤ 140737488355328) (hroom' : n + m ≤ maxLen) (hB : B ≤ w.heap.size)
    (hK : ∀ v' w1, w1.ownsRow B e size v' (n + m) (xs ++ vs) → w.grownBy w1 v.ownBlock → (v'.ownBlock = v.ownBlock ∨ v'.ownBlock = some w.heap.size) → wpList P ops Q rest (a.put o.dst v') w1) :
    wpList P ops Q (o :: rest) a w := by
  obtain ⟨i0, hi, hz0, hz1, hz2⟩ := info_parts hinfo
  have main : ∀ ad c, q = .slice (some ad) m c → (∀ j u, vs[j]? = some u → w.cell? (ad.add j) = some u) → wpList P ops Q (o :: rest) a w := fun ad c hqe hc => by
    refine wpList_append_own_at w hgd s x t hop B e i0 z size bytes ht hi hz0 hz1 hz2 hz hsz v n xs hs hown ad m c vs (hx.trans hqe) hq.1.1 hc hq.1.2 hroom' hroom hB ?_
    intro v' w1 g1 g2 _ g4
    exact hK v' w1 g1 g2 g4
  rcases hq.2 with ⟨h0, ao, cap, hqe⟩ | ⟨g, off, c, hqe, hg, hc⟩
  · subst h0
    have hv0 : vs = [] := List.eq_nil_of_length_eq_zero (by rw [hq.1.1, Nat.zero_mul])
    subst hv0
    cases ao with
    | none =>
      refine wpList_plain hgd fun K hKK => ?_
      have hrun := run_append_noneC (P := P) w B t o.type e i0 size ht hi v n cap xs hown
      unfold Oper.wp
      have hx2 : a.eval x = .slice none 0 cap := hx.trans hqe
      simp [execOp, hop, resolve, invoke, builtin, hs, hx2, hrun, Result.andThen]
      exact hKK _ _ (hK v w (by rw [List.append_nil]; exact hown) ⟨rfl, rfl, rfl, Nat.le_refl _, fun _ _ _ => rfl⟩ (.inl rfl))
    | some ad => exact main ad cap hqe fun j u hj => by simp at hj
  · exact main _ c hqe fun j u hj => by rw [Addr.add_lit]; exact hc j u hj
theorem grown_row {w : World} {base cap z : Nat} {e : TypeId} {cs : Array Value} (hb : base ≤ w.heap.size) (hc : cap ≤ maxLen) (hs : cs.size = cap * z) : (w.alloc (.cells cs e)).ownsRow base e z (.slice (some ⟨w.heap.size, 0, none⟩) 0 cap) 0 [] :=
  ⟨by simp, .inr ⟨w.heap.size, cap, cs, rfl, hb, heap_alloc_new w _, Nat.zero_le _, hc, hs, by simp⟩⟩
/-- A row of rows of z cells an element. -/
def RRow (w : World) (v : Value) (z : Nat) (rs : List (Nat × List Value)) : Prop :=
  (rs = [] ∧ ∃ ao cap, v = .slice ao 0 cap) ∨ (0 < rs.length ∧ ∃ g off cap, v = .slice (some ⟨g, off, none⟩) rs.length (rs.length + cap) ∧ g < w.heap.size ∧ ∀ i, i < rs.length → ∃ x, w.cell? ⟨g, off + i, none⟩ = some x ∧ CRow w x (rs.getD i (0, [])).1 z (rs.getD i (0, [])).2)
def totN (rs : List (Nat × List Value)) : Nat := psum (fun i => (rs.getD i (0, [])).1) rs.length
def totV (rs : List (Nat × List Value)) : List Value := (rs.map (·.2)).flatten
theorem totV_snoc (rs : List (Nat × List Value)) (k : Nat) (h : k < rs.length) : totV (rs.take (k + 1)) = totV (rs.take k) ++ (rs.getD k (0, [])).2 := by
  unfold totV
  rw [List.take_succ_eq_append_getElem h, List.map_append, List.flatten_append, List.getD_eq_getElem?_getD, List.getElem?_eq_getElem h]
  simp
theorem Try.infoMk : (Try.prog.info? 35).map (fun i => (i.zero, i.size, i.bytes)) = some (some (.agg #[.string ⟨#[]⟩, .int .i64 0]), 2, 24) := by kernel_rfl
theorem Try.infoRw : (Try.prog.info? 24).map (fun i => (i.zero, i.size, i.bytes)) = some (some (.slice none 0 0), 1, 24) := by kernel_rfl
set_option maxHeartbeats 4000000 in
theorem implGrowM (n : Nat) (W : World) (hn : n ≤ 1048576) :
    Calls Try.prog 49 #[.slice none 0 0, .int .i64 n] W fun e w' => ∃ v', e = .returned v' ∧ w'.ownsRow W.heap.size 35 2 v' 0 [] ∧ Below W.heap.size W w' := by
  obtain ⟨i0, hi, hz0, hz1, hz2⟩ := info_parts Try.infoMk
  by_cases h0 : n = 0
  · subst h0
    refine (Any8.slices_Grow_room Try.laysNm84 none 0 0 0 W (by omega) (by omega) (by omega) (by omega)).mono ?_
    rintro e w' ⟨rfl, rfl⟩
    exact ⟨_, rfl, World.ownsRow_nil _ _ _ _, Below.refl _ _⟩
  · refine (Any8.slices_Grow_grow Try.laysNm84 i0 (Value.agg #[.string ⟨#[]⟩, .int .i64 0]) hi hz0 (by rw [hz1]; decide) none 0 0 n [] W (by omega) (by omega) (by rw [hz2]; omega) (by omega) (by simp) (fun _ => rfl) (fun a h => by cases h)).mono ?_
    rintro e w' ⟨rfl, rfl⟩
    refine ⟨_, rfl, ?_, ?_⟩
    · obtain ⟨G, hG⟩ : ∃ G, grownCap W (0 + n) 0 (Try.laysNm84_ren.t 25) = G := ⟨_, rfl⟩
      have hge : 0 + n ≤ G := by rw [← hG]; exact grownCap_ge _ _ _ _
      have hle : G ≤ maxLen := by rw [← hG]; exact grownCap_le_maxLen _ _ _ _ (by unfold maxLen; omega)
      have hz : (Value.agg #[.string ⟨#[]⟩, .int .i64 0]).cells.size = 2 := rfl
      rw [hG]
      refine grown_row (w := W.drew) (Nat.le_refl _) hle ?_
      simp only [Array.size_append, size_zeroCells, hz]
      simp
      omega
    · exact (Below.refl _ _).drew.alloc (Nat.le_refl _) _
set_option maxRecDepth 100000 in
set_option maxHeartbeats 4000000 in
theorem implConcatM (rs : List (Nat × List Value)) (v : Value) (w : World) (hr : rs.length ≤ 1048576) (ht : totN rs ≤ 1048576) (h : RRow w v 2 rs) :
    Calls Try.prog 40 #[v] w fun e w' => ∃ v', e = .returned v' ∧ w'.ownsRow w.heap.size 35 2 v' (totN rs) (totV rs) ∧ Below w.heap.size w w' := by
  rcases h with ⟨rfl, ao, cap, rfl⟩ | ⟨h0, g, off, cap, rfl, hg, hc⟩
  · have CG := hidM (implGrowM 0 w (by omega))
    go_enter Try.func40, Try.ntmps40
    go_wp2
    refine wp_loop_rounds 1 ?_
    rw [rounds_succ]
    go_wp2_with fail
    refine CG.out.mono ?_
    rintro e w1 ⟨v1, rfl, o1, b1⟩
    have O1 := hidM o1
    clear o1 CG
    go_wp2
    refine wp_loop_rounds 1 ?_
    rw [rounds_succ]
    go_wp2
    go_ret
    exact ⟨_, rfl, O1.out, b1⟩
  · have HC : Hid (∀ i, i < rs.length → ∃ x, w.cell? ⟨g, off + i, none⟩ = some x ∧ CRow w x (rs.getD i (0, [])).1 2 (rs.getD i (0, [])).2) := hc
    clear hc
    obtain ⟨F, hF⟩ : ∃ F : Nat → Nat, F = fun i => (rs.getD i (0, [])).1 := ⟨_, rfl⟩
    have HF := hidM hF
    have HT : Hid (totN rs = psum F rs.length) := hidM (by rw [hF]; rfl)
    have HP : Hid (∀ k, k ≤ rs.length → psum F k ≤ 1048576) := fun k hk => by have := psum_le F hk; have := HT.out; omega
    clear hF
    go_enter Try.func40, Try.ntmps40
    go_wp2
    go_loopw [3, 11] (fun s i wr => ∃ (k t : Nat), k ≤ rs.length ∧ i = .int .i64 k ∧ s = .int .i64 t ∧ t ≤ 1048576 ∧ Hid (t = psum F k) ∧ w = wr) (fun _ i _ => rs.length - (intOf i).toNat)
    case atStart => exact ⟨0, 0, Nat.zero_le _, rfl, rfl, by omega, rfl, rfl⟩
    case round =>
      obtain ⟨k, t, hk, rfl, rfl, htb, HTk, rfl⟩ := hrel
      by_cases hlt : k < rs.length
      · have hki : (k : Int) < rs.length := by omega
        obtain ⟨x, d1, d2⟩ := HC.out k hlt
        obtain ⟨xa, xc, hxx⟩ := d2.slice
        have HFk : Hid (F k = (rs.getD k (0, [])).1) := by show _ = _; rw [HF.out]
        have hPk := HP.out (k + 1) (by omega)
        have HT2 : Hid (t + (rs.getD k (0, [])).1 = psum F (k + 1)) := hidM (by have := HTk.out; have := HFk.out; show _ = psum F k + F k; omega)
        have hb2 : t + (rs.getD k (0, [])).1 ≤ 1048576 := by have := HT2.out; omega
        clear d2
        generalize (rs.getD k (0, [])).1 = XN at *
        subst hxx
        have hn0 : ¬ ((t : Int) + (XN : Int)) < 0 := by omega
        go_wp2_with fail
        go_roundw
        case rel => exact ⟨k + 1, t + XN, by omega, by go_num, by go_num, hb2, HT2, by first | rfl | trivial⟩
        case measure => simp [intOf]; omega
      · have hki : ¬ (k : Int) < rs.length := by omega
        have CG := hidM (implGrowM t w htb)
        clear HTk
        go_wp2_with fail
        refine CG.out.mono ?_
        rintro e w1 ⟨v1, rfl, o1, b1⟩
        have O1 := hidM o1
        clear o1 CG
        go_wp2
        go_loopw [6, 27] (fun s i wr => ∃ (k t : Nat), k ≤ rs.length ∧ i = .int .i64 k ∧ t ≤ 1048576 ∧ Hid (t = psum F k) ∧ Hid (wr.ownsRow w.heap.size 35 2 s t (totV (rs.take k))) ∧ Below w.heap.size w wr) (fun _ i _ => rs.length - (intOf i).toNat)
        case atStart => exact ⟨0, 0, Nat.zero_le _, rfl, by omega, rfl, (by show World.ownsRow _ _ _ _ _ _ _; simpa [totV] using O1.out), b1⟩
        case round =>
          clear O1 b1
          obtain ⟨k, t, hk, rfl, htb2, HTk, HO, hbel⟩ := hrel
          by_cases hlt : k < rs.length
          · have hki : (k : Int) < rs.length := by omega
            obtain ⟨x, d1, d2⟩ := HC.out k hlt
            have d1w := (hbel.cell (p := ⟨g, off + k, none⟩) hg).trans d1
            have D2 := hidM (d2.below hbel)
            have HFk : Hid (F k = (rs.getD k (0, [])).1) := by show _ = _; rw [HF.out]
            have hPk := HP.out (k + 1) (by omega)
            have HT2 : Hid (t + (rs.getD k (0, [])).1 = psum F (k + 1)) := hidM (by have := HTk.out; have := HFk.out; show _ = psum F k + F k; omega)
            have hb2 : t + (rs.getD k (0, [])).1 ≤ 1048576 := by have := HT2.out; omega
            have HV := hidM (totV_snoc rs k hlt)
            obtain ⟨xa, xc, hxx⟩ := d2.slice
            clear d1 d2 HTk
            generalize (rs.getD k (0, [])).1 = XN at *
            generalize (rs.getD k (0, [])).2 = XV at *
            subst hxx
            go_wp2_with (at_builtin; refine wpList_append_crow rfl _ _ 24 rfl w.heap.size 35 (Value.agg #[.string ⟨#[]⟩, .int .i64 0]) 2 24 Try.underlying24 Try.infoMk rfl (by decide) _ t _ rfl HO.out _ XN XV rfl D2.out (by omega) (by unfold maxLen; omega) hbel.size ?_)
            intro v2 w2 o2 g2 _
            have B2 : Below w.heap.size w w2 := hbel.grown g2 hbel.size (fun b hb => (HO.out.lt b hb).1)
            have O2 : Hid (w2.ownsRow w.heap.size 35 2 v2 (t + XN) (totV (rs.take (k + 1)))) := hidM (by rw [HV.out]; exact o2)
            clear o2 g2 HO hbel D2 d1w
            go_wp2_with fail
            go_roundw
            case rel => exact ⟨k + 1, t + XN, by omega, by go_num, hb2, HT2, O2, B2⟩
            case measure => simp [intOf]; omega
          · have hki : ¬ (k : Int) < rs.length := by omega
            have HOO : Hid (wr.ownsRow w.heap.size 35 2 u6 (totN rs) (totV rs)) := hidM (by
              have := HO.out
              rwa [HTk.out, show k = rs.length by omega, ← HT.out, List.take_length] at this)
            go_wp2_with fail
            go_ret
            exact ⟨_, rfl, HOO.out, hbel⟩
set_option maxHeartbeats 4000000 in
theorem implGrowR (n : Nat) (W : World) (hn : n ≤ 1048576) :
    Calls Try.prog 47 #[.slice none 0 0, .int .i64 n] W fun e w' => ∃ v', e = .returned v' ∧ w'.ownsRow W.heap.size 24 1 v' 0 [] ∧ Below W.heap.size W w' := by
  obtain ⟨i0, hi, hz0, hz1, hz2⟩ := info_parts Try.infoRw
  by_cases h0 : n = 0
  · subst h0
    refine (Any8.slices_Grow_room Try.laysNm84b none 0 0 0 W (by omega) (by omega) (by omega) (by omega)).mono ?_
    rintro e w' ⟨rfl, rfl⟩
    exact ⟨_, rfl, World.ownsRow_nil _ _ _ _, Below.refl _ _⟩
  · refine (Any8.slices_Grow_grow Try.laysNm84b i0 (Value.slice none 0 0) hi hz0 (by rw [hz1]; decide) none 0 0 n [] W (by omega) (by omega) (by rw [hz2]; omega) (by omega) (by simp) (fun _ => rfl) (fun a h => by cases h)).mono ?_
    rintro e w' ⟨rfl, rfl⟩
    refine ⟨_, rfl, ?_, ?_⟩
    · obtain ⟨G, hG⟩ : ∃ G, grownCap W (0 + n) 0 (Try.laysNm84b_ren.t 25) = G := ⟨_, rfl⟩
      have hge : 0 + n ≤ G := by rw [← hG]; exact grownCap_ge _ _ _ _
      have hle : G ≤ maxLen := by rw [← hG]; exact grownCap_le_maxLen _ _ _ _ (by unfold maxLen; omega)
      have hz : (Value.slice none 0 0).cells.size = 1 := rfl
      rw [hG]
      refine grown_row (w := W.drew) (Nat.le_refl _) hle ?_
      simp only [Array.size_append, size_zeroCells, hz]
      simp
      omega
    · exact (Below.refl _ _).drew.alloc (Nat.le_refl _) _
set_option maxRecDepth 100000 in
set_option maxHeartbeats 4000000 in
theorem implConcatR (rs : List (Nat × List Value)) (v : Value) (w : World) (hr : rs.length ≤ 1048576) (ht : totN rs ≤ 1048576) (h : RRow w v 1 rs) :
    Calls Try.prog 36 #[v] w fun e w' => ∃ v', e = .returned v' ∧ w'.ownsRow w.heap.size 24 1 v' (totN rs) (totV rs) ∧ Below w.heap.size w w' := by
  rcases h with ⟨rfl, ao, cap, rfl⟩ | ⟨h0, g, off, cap, rfl, hg, hc⟩
  · have CG := hidM (implGrowR 0 w (by omega))
    go_enter Try.func36, Try.ntmps36
    go_wp2
    refine wp_loop_rounds 1 ?_
    rw [rounds_succ]
    go_wp2_with fail
    refine CG.out.mono ?_
    rintro e w1 ⟨v1, rfl, o1, b1⟩
    have O1 := hidM o1
    clear o1 CG
    go_wp2
    refine wp_loop_rounds 1 ?_
    rw [rounds_succ]
    go_wp2
    go_ret
    exact ⟨_, rfl, O1.out, b1⟩
  · have HC : Hid (∀ i, i < rs.length → ∃ x, w.cell? ⟨g, off + i, none⟩ = some x ∧ CRow w x (rs.getD i (0, [])).1 1 (rs.getD i (0, [])).2) := hc
    clear hc
    obtain ⟨F, hF⟩ : ∃ F : Nat → Nat, F = fun i => (rs.getD i (0, [])).1 := ⟨_, rfl⟩
    have HF := hidM hF
    have HT : Hid (totN rs = psum F rs.length) := hidM (by rw [hF]; rfl)
    have HP : Hid (∀ k, k ≤ rs.length → psum F k ≤ 1048576) := fun k hk => by have := psum_le F hk; have := HT.out; omega
    clear hF
    go_enter Try.func36, Try.ntmps36
    go_wp2
    go_loopw [3, 11] (fun s i wr => ∃ (k t : Nat), k ≤ rs.length ∧ i = .int .i64 k ∧ s = .int .i64 t ∧ t ≤ 1048576 ∧ Hid (t = psum F k) ∧ w = wr) (fun _ i _ => rs.length - (intOf i).toNat)
    case atStart => exact ⟨0, 0, Nat.zero_le _, rfl, rfl, by omega, rfl, rfl⟩
    case round =>
      obtain ⟨k, t, hk, rfl, rfl, htb, HTk, rfl⟩ := hrel
      by_cases hlt : k < rs.length
      · have hki : (k : Int) < rs.length := by omega
        obtain ⟨x, d1, d2⟩ := HC.out k hlt
        obtain ⟨xa, xc, hxx⟩ := d2.slice
        have HFk : Hid (F k = (rs.getD k (0, [])).1) := by show _ = _; rw [HF.out]
        have hPk := HP.out (k + 1) (by omega)
        have HT2 : Hid (t + (rs.getD k (0, [])).1 = psum F (k + 1)) := hidM (by have := HTk.out; have := HFk.out; show _ = psum F k + F k; omega)
        have hb2 : t + (rs.getD k (0, [])).1 ≤ 1048576 := by have := HT2.out; omega
        clear d2
        generalize (rs.getD k (0, [])).1 = XN at *
        subst hxx
        have hn0 : ¬ ((t : Int) + (XN : Int)) < 0 := by omega
        go_wp2_with fail
        go_roundw
        case rel => exact ⟨k + 1, t + XN, by omega, by go_num, by go_num, hb2, HT2, by first | rfl | trivial⟩
        case measure => simp [intOf]; omega
      · have hki : ¬ (k : Int) < rs.length := by omega
        have CG := hidM (implGrowR t w htb)
        clear HTk
        go_wp2_with fail
        refine CG.out.mono ?_
        rintro e w1 ⟨v1, rfl, o1, b1⟩
        have O1 := hidM o1
        clear o1 CG
        go_wp2
        go_loopw [6, 27] (fun s i wr => ∃ (k t : Nat), k ≤ rs.length ∧ i = .int .i64 k ∧ t ≤ 1048576 ∧ Hid (t = psum F k) ∧ Hid (wr.ownsRow w.heap.size 24 1 s t (totV (rs.take k))) ∧ Below w.heap.size w wr) (fun _ i _ => rs.length - (intOf i).toNat)
        case atStart => exact ⟨0, 0, Nat.zero_le _, rfl, by omega, rfl, (by show World.ownsRow _ _ _ _ _ _ _; simpa [totV] using O1.out), b1⟩
        case round =>
          clear O1 b1
          obtain ⟨k, t, hk, rfl, htb2, HTk, HO, hbel⟩ := hrel
          by_cases hlt : k < rs.length
          · have hki : (k : Int) < rs.length := by omega
            obtain ⟨x, d1, d2⟩ := HC.out k hlt
            have d1w := (hbel.cell (p := ⟨g, off + k, none⟩) hg).trans d1
            have D2 := hidM (d2.below hbel)
            have HFk : Hid (F k = (rs.getD k (0, [])).1) := by show _ = _; rw [HF.out]
            have hPk := HP.out (k + 1) (by omega)
            have HT2 : Hid (t + (rs.getD k (0, [])).1 = psum F (k + 1)) := hidM (by have := HTk.out; have := HFk.out; show _ = psum F k + F k; omega)
            have hb2 : t + (rs.getD k (0, [])).1 ≤ 1048576 := by have := HT2.out; omega
            have HV := hidM (totV_snoc rs k hlt)
            obtain ⟨xa, xc, hxx⟩ := d2.slice
            clear d1 d2 HTk
            generalize (rs.getD k (0, [])).1 = XN at *
            generalize (rs.getD k (0, [])).2 = XV at *
            subst hxx
            go_wp2_with (at_builtin; refine wpList_append_crow rfl _ _ 25 rfl w.heap.size 24 (Value.slice none 0 0) 1 24 Try.underlying25 Try.infoRw rfl (by decide) _ t _ rfl HO.out _ XN XV rfl D2.out (by omega) (by unfold maxLen; omega) hbel.size ?_)
            intro v2 w2 o2 g2 _
            have B2 : Below w.heap.size w w2 := hbel.grown g2 hbel.size (fun b hb => (HO.out.lt b hb).1)
            have O2 : Hid (w2.ownsRow w.heap.size 24 1 v2 (t + XN) (totV (rs.take (k + 1)))) := hidM (by rw [HV.out]; exact o2)
            clear o2 g2 HO hbel D2 d1w
            go_wp2_with fail
            go_roundw
            case rel => exact ⟨k + 1, t + XN, by omega, by go_num, hb2, HT2, O2, B2⟩
            case measure => simp [intOf]; omega
          · have hki : ¬ (k : Int) < rs.length := by omega
            have HOO : Hid (wr.ownsRow w.heap.size 24 1 u6 (totN rs) (totV rs)) := hidM (by
              have := HO.out
              rwa [HTk.out, show k = rs.length by omega, ← HT.out, List.take_length] at this)
            go_wp2_with fail
            go_ret
            exact ⟨_, rfl, HOO.out, hbel⟩
end Go.Proofs.Ytdnlaijpgjpplaa
