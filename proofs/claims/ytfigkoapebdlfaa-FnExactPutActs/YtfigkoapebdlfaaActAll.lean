/- Contracts of spec.ReadActs, impl.ReadActs, spec.PutActs, impl.PutActs. -/
import Derived.Test.YtfigkoapebdlfaaRows
import Derived.Test.YtfigkoapebdlfaaActGet
import Derived.Test.YtfigkoapebdlfaaActTo
import Derived.Maps.AppendAt
namespace Go.Proofs.Ytfigkoapebdlfaa
open Go.RowKit
set_option linter.unusedVariables false
set_option linter.unusedSimpArgs false

/-- 'append' of one act, which lies in a new block of its own, to acts that the call owns. -/
theorem wpList_append_act {P : Program} (wr : World) {ops : Array Oper} {rest : List Oper} {o : Oper} {a : Act} {Q : Exit → Act → World → Prop}
    (hg : o.guard = none) (s x : Operand) (t : TypeId) (hop : o.op = .call { callee := .builtin .append, args := #[s, x], argTypes := #[t, t] })
    (B : Nat) (e : TypeId) (z : Value) (bytes : Nat) (ht : P.underlying t = some (.slice e)) (hinfo : (P.info? e).map (fun i => (i.zero, i.size, i.bytes)) = some (some z, 4, bytes)) (hz : z.cells.size = 4)
    (v : Value) (n : Nat) (l : List AV) (hs : a.eval s = v) (hown : wr.ownsRow B e 4 v n (acells l))
    (k m : Int) (p q : ByteArray) (N : Nat) (hN : wr.heap.size = N) (hx : a.eval x = .slice (some ⟨N, 0, none⟩) 1 1)
    (hroom : (n + 1) * bytes ≤ 140737488355328) (hroom' : n + 1 ≤ maxLen) (hB : B ≤ wr.heap.size)
    (hK : ∀ v' w1, w1.ownsRow B e 4 v' (n + 1) (acells (l ++ [⟨k, p, q, m⟩])) → wr.grownBy w1 v.ownBlock → wpList P ops Q rest (a.put o.dst v') w1) :
    wpList P ops Q (o :: rest) a (wr.alloc (.cells #[.int .i64 k, .string p, .string q, .int .i64 m] e)) := by
  subst hN
  obtain ⟨i0, hi, hz0, hz1, hz2⟩ := info_parts hinfo
  refine wpList_append_own_at (wr.alloc (.cells #[.int .i64 k, .string p, .string q, .int .i64 m] e)) hg s x t hop B e i0 z 4 bytes ht hi hz0 hz1 hz2 hz (by decide) v n (acells l) hs (hown.alloc _) ⟨wr.heap.size, 0, none⟩ 1 1 [.int .i64 k, .string p, .string q, .int .i64 m] hx (by simp) ?_ ?_ hroom' hroom (by simp; omega) ?_
  · intro j u hj
    rw [Addr.add_lit, Nat.zero_add]
    rw [World.cell?_alloc_at _ _ _ _ rfl]
    simpa using hj
  · intro u hu
    simp at hu
    rcases hu with rfl | rfl | rfl | rfl <;> rfl
  · intro v' w1 h1 h2 _ h4
    refine hK v' w1 (by rw [acells_append]; exact h1) ⟨h2.os, h2.tape, h2.output, ?_, fun k hk hne => (h2.block k (by simp; omega) hne).trans (Below.heap_alloc wr _ k hk)⟩
    have := h2.size
    simp at this
    omega

/-- Acts and a place, as two results. -/
def ActsR (w : World) (r : List AV × Nat) (e : Ending) (w' : World) : Prop := ∃ v, e = .returned (.tuple #[v, .int .i64 (r.2 : Int)]) ∧ w'.ownsRow w.heap.size 26 4 v r.1.length (acells r.1) ∧ Below w.heap.size w w'
theorem ActsR.same {w : World} {r r' : List AV × Nat} {e : Ending} {w' : World} (h : ActsR w r e w') (hr : r = r') : ActsR w r' e w' := hr ▸ h
theorem step_no {l : List UInt8} {p : Nat} (h : unfL l p = none) : stepA l p = none := by unfold stepA; rw [h]
theorem step_bad {l : List UInt8} {p q n : Nat} (h : unfL l p = some (q, n)) (h2 : getAct (partL l q n) = none) : stepA l p = none := by unfold stepA; rw [h]; dsimp only; rw [h2]
theorem step_yes {l : List UInt8} {p q n : Nat} {a : AV} (h : unfL l p = some (q, n)) (h2 : getAct (partL l q n) = some a) : stepA l p = some (a, q + n + 4) := by unfold stepA; rw [h]; dsimp only; rw [h2]

set_option maxRecDepth 100000 in
set_option maxHeartbeats 4000000 in
theorem implReadActs (v : Value) (l : List UInt8) (w : World) (hin : BRow w v l) (hn : l.length ≤ 1048576) :
    Calls Try.prog 28 #[v] w fun e w' => ActsR w (readL l) e w' := by
  have HI : Hid (BRow w v l) := hin
  obtain ⟨ao, cp, hv⟩ := hin.slice
  subst hv
  clear hin
  have HS : Hid (readF (l.length + 1) l 0 [] = readL l) := rfl
  generalize readL l = R at *
  have CU : Hid (∀ (p : Nat) W, BRow W (.slice ao l.length cp) l → Calls Try.prog 45 #[.slice ao l.length cp, .int .i64 (p : Int)] W fun e w' => ∃ v', e = .returned (.tuple #[v', .int .i64 (unfP p (unfL l p)), .bool (unfL l p).isSome]) ∧ w'.ownsRow W.heap.size 5 1 v' (unfB l (unfL l p)).length (bcells (unfB l (unfL l p))) ∧ Below W.heap.size W w') := fun p W h => implUnframe (p : Int) _ l W h (by omega)
  have CG : Hid (∀ v' (m : List UInt8) W, BRow W v' m → m.length ≤ 1048576 → Calls Try.prog 19 #[v'] W fun e w' => e = .returned (actV (getAct m)) ∧ Below W.heap.size W w') := fun v' m W h1 h2 => implGetAct v' m W h1 h2
  go_enter Try.func28, Try.ntmps28
  go_wp2_with fail
  go_loopw [4, 5] (fun lv i wr => ∃ (p : Nat) (acc : List AV), p ≤ l.length ∧ i = .int .i64 (p : Int) ∧ 5 * acc.length ≤ p ∧ (∃ o c, lv = .slice o acc.length c) ∧ Hid (wr.ownsRow w.heap.size 26 4 lv acc.length (acells acc)) ∧ Hid (readF (l.length + 1) l p acc = R) ∧ Below w.heap.size w wr) (fun _ i _ => l.length - (intOf i).toNat)
  case atStart => exact ⟨0, [], Nat.zero_le _, rfl, Nat.le_refl _, ⟨_, _, rfl⟩, World.ownsRow_lit w #[] 0 (Nat.le_refl _) (by decide) rfl, HS.out, (Below.refl _ _).alloc (Nat.le_refl _) _⟩
  case round =>
    obtain ⟨p, acc, hp, rfl, hacc, ⟨o, c, rfl⟩, HO, HR, hbel⟩ := hrel
    have C1 := CU.out p wr (HI.out.below hbel)
    cases hu : unfL l p with
    | none =>
      have HST : Hid (stepA l p = none) := step_no hu
      rw [hu] at C1
      have H1 := hidB C1
      clear C1 hu
      go_wp2_with fail
      refine H1.out.mono ?_
      rintro e w1 ⟨v1, rfl, o1, b1⟩
      have H2 := hidB (CG.out v1 _ w1 (BRow.of_own o1) (by simp [unfB]))
      rw [show getAct (unfB l none) = none from rfl, show actV none = .tuple #[.agg #[.int .i64 0, .string ⟨#[]⟩, .string ⟨#[]⟩, .int .i64 0], .bool false] from rfl] at H2
      obtain ⟨vo, vc, hv1⟩ := (BRow.of_own o1).slice
      subst hv1
      replace HO := hidB (own_below HO.out b1)
      replace hbel := hbel.trans (b1.mono hbel.size)
      clear b1 o1 H1
      go_wp2_with fail
      refine H2.out.mono ?_
      rintro e w2 ⟨rfl, b2⟩
      replace HO := hidB (own_below HO.out b2)
      replace hbel := hbel.trans (b2.mono hbel.size)
      clear b2 H2
      have HF : Hid ((acc, p) = R) := by
        show _ = _
        rw [← HR.out, readF_stop HST.out]
      clear HR CU CG
      go_wp2_with fail
      go_ret2
      first | exact ActsR.same ⟨_, rfl, HO.out, hbel⟩ HF.out | exact ActsR.same ⟨_, rfl, own_below HO.out ((Below.refl _ _).alloc (Nat.le_refl _) _), hbel.alloc hbel.size _⟩ HF.out
    | some r =>
      obtain ⟨q, n⟩ := r
      obtain ⟨_, hpq, hql⟩ := unfL_le hu
      have HML : Hid ((partL l q n).length = n) := partL_len (by omega)
      rw [hu] at C1
      rw [show unfB l (some (q, n)) = partL l q n from rfl, show unfP (p : Int) (some (q, n)) = ((q + n + 4 : Nat) : Int) from rfl, show (some (q, n)).isSome = true from rfl] at C1
      have H1 := hidB C1
      clear C1
      cases hgt : getAct (partL l q n) with
      | none =>
        have HST : Hid (stepA l p = none) := step_bad hu hgt
        clear hu
        go_wp2_with fail
        refine H1.out.mono ?_
        rintro e w1 ⟨v1, rfl, o1, b1⟩
        have H2 := hidB (CG.out v1 _ w1 (BRow.of_own o1) (by rw [HML.out]; omega))
        rw [hgt, show actV none = .tuple #[.agg #[.int .i64 0, .string ⟨#[]⟩, .string ⟨#[]⟩, .int .i64 0], .bool false] from rfl] at H2
        obtain ⟨vo, vc, hv1⟩ := (BRow.of_own o1).slice
        rw [HML.out] at hv1
        subst hv1
        replace HO := hidB (own_below HO.out b1)
        replace hbel := hbel.trans (b1.mono hbel.size)
        clear b1 o1 H1 hgt
        go_wp2_with fail
        refine H2.out.mono ?_
        rintro e w2 ⟨rfl, b2⟩
        replace HO := hidB (own_below HO.out b2)
        replace hbel := hbel.trans (b2.mono hbel.size)
        clear b2 H2
        have HF : Hid ((acc, p) = R) := by
          show _ = _
          rw [← HR.out, readF_stop HST.out]
        clear HR CU CG
        go_wp2_with fail
        go_ret2
        first | exact ActsR.same ⟨_, rfl, HO.out, hbel⟩ HF.out | exact ActsR.same ⟨_, rfl, own_below HO.out ((Below.refl _ _).alloc (Nat.le_refl _) _), hbel.alloc hbel.size _⟩ HF.out
      | some x =>
        have hst := step_yes hu hgt
        have hle := stepA_le hst
        have HN : Hid (readF (l.length + 1) l (q + n + 4) (acc ++ [x]) = R) := by
          show _ = _
          rw [← HR.out, readF_next hst]
        obtain ⟨P, hP⟩ : ∃ P, q + n + 4 = P := ⟨_, rfl⟩
        rw [hP] at hle HN H1
        obtain ⟨hle1, hle2⟩ := hle
        clear hst hu hP
        go_wp2_with fail
        refine H1.out.mono ?_
        rintro e w1 ⟨v1, rfl, o1, b1⟩
        have H2 := hidB (CG.out v1 _ w1 (BRow.of_own o1) (by rw [HML.out]; omega))
        rw [hgt, show actV (some x) = .tuple #[.agg #[.int .i64 x.k, .string x.t, .string x.b, .int .i64 x.n], .bool true] from rfl] at H2
        obtain ⟨vo, vc, hv1⟩ := (BRow.of_own o1).slice
        rw [HML.out] at hv1
        subst hv1
        replace HO := hidB (own_below HO.out b1)
        replace hbel := hbel.trans (b1.mono hbel.size)
        clear b1 o1 H1 hgt HR
        obtain ⟨k, t, b, m⟩ := x
        dsimp only at H2
        go_wp2_with fail
        refine H2.out.mono ?_
        rintro e w2 ⟨rfl, b2⟩
        replace HO := hidB (own_below HO.out b2)
        replace hbel := hbel.trans (b2.mono hbel.size)
        clear b2 H2
        go_wp2_with (at_builtin; refine wpList_append_act _ rfl _ _ 41 rfl w.heap.size 26 (.agg #[.int .i64 0, .string ⟨#[]⟩, .string ⟨#[]⟩, .int .i64 0]) 48 Try.underlying41 Try.infoAct rfl (.slice o acc.length c) acc.length acc rfl (HO.out.alloc _) k m t b (w2.heap.size + 1) (by simp) rfl (by omega) (by unfold maxLen; omega) (by have := hbel.size; simp; omega) ?_)
        intro v3 w3 o3 g3
        have B3 : Below w.heap.size w w3 := (hbel.alloc hbel.size _).grown g3 (by have := hbel.size; simp; omega) (fun j hj => (HO.out.lt j hj).1)
        have hl3 : (acc ++ [(⟨k, t, b, m⟩ : AV)]).length = acc.length + 1 := by simp
        rw [← hl3] at o3
        obtain ⟨co, cc, hv3⟩ := (ActRow.of_own o3).slice
        subst hv3
        have HO3 := hidB o3
        clear o3 g3 HO hbel
        go_wp2_with fail
        go_roundw
        case rel => exact ⟨P, _, hle2, rfl, by rw [hl3]; omega, ⟨_, _, rfl⟩, HO3, HN, B3⟩
        case measure => simp [intOf]; omega
set_option maxRecDepth 100000 in
set_option maxHeartbeats 4000000 in
theorem specReadActs (v : Value) (l : List UInt8) (w : World) (hin : BRow w v l) (hn : l.length ≤ 1048576) :
    Calls Try.prog 27 #[v] w fun e w' => ActsR w (readL l) e w' := by
  have HI : Hid (BRow w v l) := hin
  obtain ⟨ao, cp, hv⟩ := hin.slice
  subst hv
  clear hin
  have HS : Hid (readF (l.length + 1) l 0 [] = readL l) := rfl
  generalize readL l = R at *
  have CU : Hid (∀ (p : Nat) W, BRow W (.slice ao l.length cp) l → Calls Try.prog 44 #[.slice ao l.length cp, .int .i64 (p : Int)] W fun e w' => ∃ v', e = .returned (.tuple #[v', .int .i64 (unfP p (unfL l p)), .bool (unfL l p).isSome]) ∧ w'.ownsRow W.heap.size 5 1 v' (unfB l (unfL l p)).length (bcells (unfB l (unfL l p))) ∧ Below W.heap.size W w') := fun p W h => specUnframe (p : Int) _ l W h (by omega)
  have CG : Hid (∀ v' (m : List UInt8) W, BRow W v' m → m.length ≤ 1048576 → Calls Try.prog 17 #[v'] W fun e w' => e = .returned (actV (getAct m)) ∧ Below W.heap.size W w') := fun v' m W h1 h2 => specGetAct v' m W h1 h2
  go_enter Try.func27, Try.ntmps27
  go_wp2_with fail
  go_loopw [4, 5] (fun lv i wr => ∃ (p : Nat) (acc : List AV), p ≤ l.length ∧ i = .int .i64 (p : Int) ∧ 5 * acc.length ≤ p ∧ (∃ o c, lv = .slice o acc.length c) ∧ Hid (wr.ownsRow w.heap.size 26 4 lv acc.length (acells acc)) ∧ Hid (readF (l.length + 1) l p acc = R) ∧ Below w.heap.size w wr) (fun _ i _ => l.length - (intOf i).toNat)
  case atStart => exact ⟨0, [], Nat.zero_le _, rfl, Nat.le_refl _, ⟨_, _, rfl⟩, World.ownsRow_lit w #[] 0 (Nat.le_refl _) (by decide) rfl, HS.out, (Below.refl _ _).alloc (Nat.le_refl _) _⟩
  case round =>
    obtain ⟨p, acc, hp, rfl, hacc, ⟨o, c, rfl⟩, HO, HR, hbel⟩ := hrel
    have C1 := CU.out p wr (HI.out.below hbel)
    cases hu : unfL l p with
    | none =>
      have HST : Hid (stepA l p = none) := step_no hu
      rw [hu] at C1
      have H1 := hidB C1
      clear C1 hu
      go_wp2_with fail
      refine H1.out.mono ?_
      rintro e w1 ⟨v1, rfl, o1, b1⟩
      obtain ⟨vo, vc, hv1⟩ := (BRow.of_own o1).slice
      subst hv1
      replace HO := hidB (own_below HO.out b1)
      replace hbel := hbel.trans (b1.mono hbel.size)
      clear b1 o1 H1
      have HF : Hid ((acc, p) = R) := by
        show _ = _
        rw [← HR.out, readF_stop HST.out]
      clear HR CU CG
      go_wp2_with fail
      go_ret2
      first | exact ActsR.same ⟨_, rfl, HO.out, hbel⟩ HF.out | exact ActsR.same ⟨_, rfl, own_below HO.out ((Below.refl _ _).alloc (Nat.le_refl _) _), hbel.alloc hbel.size _⟩ HF.out
    | some r =>
      obtain ⟨q, n⟩ := r
      obtain ⟨_, hpq, hql⟩ := unfL_le hu
      have HML : Hid ((partL l q n).length = n) := partL_len (by omega)
      rw [hu] at C1
      rw [show unfB l (some (q, n)) = partL l q n from rfl, show unfP (p : Int) (some (q, n)) = ((q + n + 4 : Nat) : Int) from rfl, show (some (q, n)).isSome = true from rfl] at C1
      have H1 := hidB C1
      clear C1
      cases hgt : getAct (partL l q n) with
      | none =>
        have HST : Hid (stepA l p = none) := step_bad hu hgt
        clear hu
        go_wp2_with fail
        refine H1.out.mono ?_
        rintro e w1 ⟨v1, rfl, o1, b1⟩
        have H2 := hidB (CG.out v1 _ w1 (BRow.of_own o1) (by rw [HML.out]; omega))
        rw [hgt, show actV none = .tuple #[.agg #[.int .i64 0, .string ⟨#[]⟩, .string ⟨#[]⟩, .int .i64 0], .bool false] from rfl] at H2
        obtain ⟨vo, vc, hv1⟩ := (BRow.of_own o1).slice
        rw [HML.out] at hv1
        subst hv1
        replace HO := hidB (own_below HO.out b1)
        replace hbel := hbel.trans (b1.mono hbel.size)
        clear b1 o1 H1 hgt
        go_wp2_with fail
        refine H2.out.mono ?_
        rintro e w2 ⟨rfl, b2⟩
        replace HO := hidB (own_below HO.out b2)
        replace hbel := hbel.trans (b2.mono hbel.size)
        clear b2 H2
        have HF : Hid ((acc, p) = R) := by
          show _ = _
          rw [← HR.out, readF_stop HST.out]
        clear HR CU CG
        go_wp2_with fail
        go_ret2
        first | exact ActsR.same ⟨_, rfl, HO.out, hbel⟩ HF.out | exact ActsR.same ⟨_, rfl, own_below HO.out ((Below.refl _ _).alloc (Nat.le_refl _) _), hbel.alloc hbel.size _⟩ HF.out
      | some x =>
        have hst := step_yes hu hgt
        have hle := stepA_le hst
        have HN : Hid (readF (l.length + 1) l (q + n + 4) (acc ++ [x]) = R) := by
          show _ = _
          rw [← HR.out, readF_next hst]
        obtain ⟨P, hP⟩ : ∃ P, q + n + 4 = P := ⟨_, rfl⟩
        rw [hP] at hle HN H1
        obtain ⟨hle1, hle2⟩ := hle
        clear hst hu hP
        go_wp2_with fail
        refine H1.out.mono ?_
        rintro e w1 ⟨v1, rfl, o1, b1⟩
        have H2 := hidB (CG.out v1 _ w1 (BRow.of_own o1) (by rw [HML.out]; omega))
        rw [hgt, show actV (some x) = .tuple #[.agg #[.int .i64 x.k, .string x.t, .string x.b, .int .i64 x.n], .bool true] from rfl] at H2
        obtain ⟨vo, vc, hv1⟩ := (BRow.of_own o1).slice
        rw [HML.out] at hv1
        subst hv1
        replace HO := hidB (own_below HO.out b1)
        replace hbel := hbel.trans (b1.mono hbel.size)
        clear b1 o1 H1 hgt HR
        obtain ⟨k, t, b, m⟩ := x
        dsimp only at H2
        go_wp2_with fail
        refine H2.out.mono ?_
        rintro e w2 ⟨rfl, b2⟩
        replace HO := hidB (own_below HO.out b2)
        replace hbel := hbel.trans (b2.mono hbel.size)
        clear b2 H2
        go_wp2_with (at_builtin; refine wpList_append_act _ rfl _ _ 41 rfl w.heap.size 26 (.agg #[.int .i64 0, .string ⟨#[]⟩, .string ⟨#[]⟩, .int .i64 0]) 48 Try.underlying41 Try.infoAct rfl (.slice o acc.length c) acc.length acc rfl (HO.out.alloc _) k m t b (w2.heap.size + 1) (by simp) rfl (by omega) (by unfold maxLen; omega) (by have := hbel.size; simp; omega) ?_)
        intro v3 w3 o3 g3
        have B3 : Below w.heap.size w w3 := (hbel.alloc hbel.size _).grown g3 (by have := hbel.size; simp; omega) (fun j hj => (HO.out.lt j hj).1)
        have hl3 : (acc ++ [(⟨k, t, b, m⟩ : AV)]).length = acc.length + 1 := by simp
        rw [← hl3] at o3
        obtain ⟨co, cc, hv3⟩ := (ActRow.of_own o3).slice
        subst hv3
        have HO3 := hidB o3
        clear o3 g3 HO hbel
        go_wp2_with fail
        go_roundw
        case rel => exact ⟨P, _, hle2, rfl, by rw [hl3]; omega, ⟨_, _, rfl⟩, HO3, HN, B3⟩
        case measure => simp [intOf]; omega
/-- No more acts, and no longer texts, than are measured. -/
def ASz (l : List AV) : Prop := l.length ≤ 1048576 ∧ ∀ i, i < l.length → (l.getD i av0).t.size ≤ 1048576 ∧ (l.getD i av0).b.size ≤ 1048576
theorem actsL_take (l : List AV) (k : Nat) (h : k < l.length) : actsL (l.take (k + 1)) = actsL (l.take k) ++ (if actB (l.getD k av0) then frameL (rawL (l.getD k av0)) else []) := by
  rw [List.take_succ_eq_append_getElem h, actsL_snoc, List.getD_eq_getElem?_getD, List.getElem?_eq_getElem h]
  rfl

set_option maxRecDepth 100000 in
set_option maxHeartbeats 4000000 in
theorem specPutActs (l : List AV) (v : Value) (w : World) (hn : ASz l) (h : ActRow w v l) :
    Calls Try.prog 22 #[v] w fun e w' => ∃ v', e = .returned v' ∧ w'.ownsRow w.heap.size 5 1 v' (actsL l).length (bcells (actsL l)) ∧ Below w.heap.size w w' := by
  obtain ⟨hll, hsz⟩ := hn
  have HSZ : Hid (∀ i, i < l.length → (l.getD i av0).t.size ≤ 1048576 ∧ (l.getD i av0).b.size ≤ 1048576) := hsz
  clear hsz
  obtain ⟨Z, hZ⟩ : ∃ Z, Z = actsL l := ⟨_, rfl⟩
  have HZ : Hid (Z = actsL l) := hZ
  rw [← hZ]
  clear hZ
  rcases h with ⟨rfl, ao, cap, rfl⟩ | ⟨h0, g, off, cap, rfl, hg, hc⟩
  · have HE : Hid (Z = []) := by show _ = _; rw [HZ.out]; rfl
    clear HZ HSZ hll
    go_enter Try.func22, Try.ntmps22
    go_wp2
    refine wp_loop_rounds 1 ?_
    rw [rounds_succ]
    go_wp2
    go_ret
    rw [HE.out]
    exact ⟨_, rfl, World.ownsRow_lit w #[] 0 (Nat.le_refl _) (by decide) rfl, (Below.refl _ _).alloc (Nat.le_refl _) _⟩
  · have HC : Hid (∀ i, i < l.length → ActAt w g (off + i * 4) (l.getD i av0)) := hc
    clear hc
    go_enter Try.func22, Try.ntmps22
    go_wp2_with fail
    go_loopw [3, 4] (fun q i wr => ∃ (k : Nat) (Q : List UInt8), k ≤ l.length ∧ i = .int .i64 (k : Int) ∧ Q.length ≤ 4040 * k ∧ (∃ o c, q = .slice o Q.length c) ∧ Hid (wr.ownsRow w.heap.size 5 1 q Q.length (bcells Q)) ∧ Hid (Q = actsL (l.take k)) ∧ Below w.heap.size w wr) (fun _ i _ => l.length - (intOf i).toNat)
    case atStart => exact ⟨0, [], Nat.zero_le _, rfl, Nat.zero_le _, ⟨_, _, rfl⟩, World.ownsRow_lit w #[] 0 (Nat.le_refl _) (by decide) rfl, rfl, (Below.refl _ _).alloc (Nat.le_refl _) _⟩
    case round =>
      obtain ⟨k, Q, hk, rfl, hQ, ⟨o, c, rfl⟩, HO, HT, hbel⟩ := hrel
      by_cases hlt : k < l.length
      · have hki : (k : Int) < l.length := by omega
        obtain ⟨c0, c1, c2, c3⟩ := (HC.out k hlt).below hbel hg
        have hs2 := HSZ.out k hlt
        have htk := actsL_take l k hlt
        have CA : Hid (∀ W, Calls Try.prog 9 #[.agg #[.int .i64 (l.getD k av0).k, .string (l.getD k av0).t, .string (l.getD k av0).b, .int .i64 (l.getD k av0).n]] W fun e w' => e = .returned (.bool (actB (l.getD k av0))) ∧ Below W.heap.size W w') := fun W => specActOk _ W
        have CP : Hid (∀ W, Calls Try.prog 12 #[.agg #[.int .i64 (l.getD k av0).k, .string (l.getD k av0).t, .string (l.getD k av0).b, .int .i64 (l.getD k av0).n]] W fun e w' => ∃ v', e = .returned v' ∧ w'.ownsRow W.heap.size 5 1 v' (actL (l.getD k av0)).length (bcells (actL (l.getD k av0))) ∧ Below W.heap.size W w') := fun W => specPutAct _ W hs2.1 hs2.2
        have hal : actL (l.getD k av0) = if actB (l.getD k av0) then rawL (l.getD k av0) else [] := rfl
        have hlen := actL_len (l.getD k av0)
        obtain ⟨P, hP⟩ : ∃ P, actB (l.getD k av0) = P := ⟨_, rfl⟩
        rw [hP] at CA hal htk
        clear hs2
        generalize actL (l.getD k av0) = A at *
        generalize rawL (l.getD k av0) = RL at *
        clear hP
        generalize (l.getD k av0).k = x0 at *
        generalize (l.getD k av0).t = x1 at *
        generalize (l.getD k av0).b = x2 at *
        generalize (l.getD k av0).n = x3 at *
        cases P with
        | false =>
          have HT2 : Hid (Q = actsL (l.take (k + 1))) := by show _ = _; rw [htk, HT.out]; simp
          clear htk hal HT CP hlen
          go_wp2_with fail
          refine (CA.out _).mono ?_
          rintro e wa ⟨rfl, ba⟩
          have BA := hbel.trans (ba.mono hbel.size)
          have HOA := hidB (own_below HO.out ba)
          have hgr : g < wr.heap.size := by have := hbel.size; omega
          have a0 := (ba.cell (p := ⟨g, off + k * 4, none⟩) hgr).trans c0
          have a1 := (ba.cell (p := ⟨g, off + k * 4 + 1, none⟩) hgr).trans c1
          have a2 := (ba.cell (p := ⟨g, off + k * 4 + 2, none⟩) hgr).trans c2
          have a3 := (ba.cell (p := ⟨g, off + k * 4 + 3, none⟩) hgr).trans c3
          clear HO hbel ba CA c0 c1 c2 c3
          go_wp2_with fail
          go_roundw
          case rel => exact ⟨k + 1, Q, by omega, by go_num, by omega, ⟨_, _, rfl⟩, HOA, HT2, BA⟩
          case measure => simp [intOf]; omega
        | true =>
          have HAL : Hid (A = RL) := hal
          have HT2 : Hid (Q ++ frameL A = actsL (l.take (k + 1))) := by show _ = _; rw [htk, HT.out, HAL.out]; rfl
          have hfl := frameL_len A
          have CF : Hid (∀ v' W, BRow W v' A → Calls Try.prog 41 #[v'] W fun e w' => ∃ v, e = .returned v ∧ w'.ownsRow W.heap.size 5 1 v (frameL A).length (bcells (frameL A)) ∧ Below W.heap.size W w') := fun v' W h => specFrame v' A W h (by omega)
          clear htk hal HT HAL
          generalize frameL A = F at *
          go_wp2_with fail
          refine (CA.out _).mono ?_
          rintro e wa ⟨rfl, ba⟩
          have BA := hbel.trans (ba.mono hbel.size)
          have HOA := hidB (own_below HO.out ba)
          have hgr : g < wr.heap.size := by have := hbel.size; omega
          have a0 := (ba.cell (p := ⟨g, off + k * 4, none⟩) hgr).trans c0
          have a1 := (ba.cell (p := ⟨g, off + k * 4 + 1, none⟩) hgr).trans c1
          have a2 := (ba.cell (p := ⟨g, off + k * 4 + 2, none⟩) hgr).trans c2
          have a3 := (ba.cell (p := ⟨g, off + k * 4 + 3, none⟩) hgr).trans c3
          clear HO hbel ba CA c0 c1 c2 c3
          go_wp2_with fail
          refine (CP.out _).mono ?_
          rintro e wb ⟨vb, rfl, ob, bb⟩
          have BB := BA.trans (bb.mono BA.size)
          have HOB := hidB (own_below HOA.out bb)
          have HRB := hidB (BRow.of_own ob)
          obtain ⟨bo, bc, hvb⟩ := (BRow.of_own ob).slice
          subst hvb
          clear HOA BA bb ob CP
          go_wp2_with fail
          refine (CF.out _ _ HRB.out).mono ?_
          rintro e wc ⟨vc, rfl, oc, bcc⟩
          have BC := BB.trans (bcc.mono BB.size)
          have HOC := hidB (own_below HOB.out bcc)
          have HRC := hidB (BRow.of_own oc)
          obtain ⟨fo, fc, hvc⟩ := (BRow.of_own oc).slice
          subst hvc
          clear HOB BB bcc oc CF HRB
          go_wp2_with (at_builtin; refine wpList_append_brow rfl _ _ 29 rfl w.heap.size 5 Try.underlying29 Try.infoByte (.slice o Q.length c) Q.length Q rfl HOC.out _ F rfl HRC.out (by omega) BC.size ?_)
          intro v3 w3 o3 g3 _
          have B3 : Below w.heap.size w w3 := BC.grown g3 BC.size (fun j hj => (HOC.out.lt j hj).1)
          rw [← List.length_append] at o3
          obtain ⟨co, cc, hv3⟩ := (BRow.of_own o3).slice
          subst hv3
          have HO3 := hidB o3
          have hq3 : (Q ++ F).length ≤ 4040 * (k + 1) := by rw [List.length_append]; omega
          clear o3 g3 HOC BC HRC
          go_wp2_with fail
          go_roundw
          case rel => exact ⟨k + 1, _, by omega, by go_num, hq3, ⟨_, _, rfl⟩, HO3, HT2, B3⟩
          case measure => simp [intOf]; omega
      · have hki : ¬ (k : Int) < l.length := by omega
        have HE : Hid (Q = Z) := by show _ = _; rw [HT.out, HZ.out, List.take_of_length_le (by omega)]
        have HO2 : Hid (wr.ownsRow w.heap.size 5 1 (.slice o Q.length c) Z.length (bcells Z)) := by
          have := HO.out
          rw [← HE.out]
          exact this
        clear HO HT
        go_wp2_with fail
        go_ret
        exact ⟨_, rfl, HO2.out, hbel⟩
set_option maxRecDepth 100000 in
set_option maxHeartbeats 4000000 in
theorem implPutActs (l : List AV) (v : Value) (w : World) (hn : ASz l) (h : ActRow w v l) :
    Calls Try.prog 24 #[v] w fun e w' => ∃ v', e = .returned v' ∧ w'.ownsRow w.heap.size 5 1 v' (actsL l).length (bcells (actsL l)) ∧ Below w.heap.size w w' := by
  obtain ⟨hll, hsz⟩ := hn
  have HSZ : Hid (∀ i, i < l.length → (l.getD i av0).t.size ≤ 1048576 ∧ (l.getD i av0).b.size ≤ 1048576) := hsz
  clear hsz
  obtain ⟨Z, hZ⟩ : ∃ Z, Z = actsL l := ⟨_, rfl⟩
  have HZ : Hid (Z = actsL l) := hZ
  rw [← hZ]
  clear hZ
  rcases h with ⟨rfl, ao, cap, rfl⟩ | ⟨h0, g, off, cap, rfl, hg, hc⟩
  · have HE : Hid (Z = []) := by show _ = _; rw [HZ.out]; rfl
    clear HZ HSZ hll
    go_enter Try.func24, Try.ntmps24
    go_wp2
    refine wp_loop_rounds 1 ?_
    rw [rounds_succ]
    go_wp2
    go_ret
    rw [HE.out]
    exact ⟨_, rfl, World.ownsRow_lit w #[] 0 (Nat.le_refl _) (by decide) rfl, (Below.refl _ _).alloc (Nat.le_refl _) _⟩
  · have HC : Hid (∀ i, i < l.length → ActAt w g (off + i * 4) (l.getD i av0)) := hc
    clear hc
    go_enter Try.func24, Try.ntmps24
    go_wp2_with fail
    go_loopw [3, 9] (fun q i wr => ∃ (k : Nat) (Q : List UInt8), k ≤ l.length ∧ i = .int .i64 (k : Int) ∧ Q.length ≤ 4040 * k ∧ (∃ o c, q = .slice o Q.length c) ∧ Hid (wr.ownsRow w.heap.size 5 1 q Q.length (bcells Q)) ∧ Hid (Q = actsL (l.take k)) ∧ Below w.heap.size w wr) (fun _ i _ => l.length - (intOf i).toNat)
    case atStart => exact ⟨0, [], Nat.zero_le _, rfl, Nat.zero_le _, ⟨_, _, rfl⟩, World.ownsRow_lit w #[] 0 (Nat.le_refl _) (by decide) rfl, rfl, (Below.refl _ _).alloc (Nat.le_refl _) _⟩
    case round =>
      obtain ⟨k, Q, hk, rfl, hQ, ⟨o, c, rfl⟩, HO, HT, hbel⟩ := hrel
      by_cases hlt : k < l.length
      · have hki : (k : Int) < l.length := by omega
        obtain ⟨c0, c1, c2, c3⟩ := (HC.out k hlt).below hbel hg
        have hs2 := HSZ.out k hlt
        have htk := actsL_take l k hlt
        have CA : Hid (∀ W, Calls Try.prog 11 #[.agg #[.int .i64 (l.getD k av0).k, .string (l.getD k av0).t, .string (l.getD k av0).b, .int .i64 (l.getD k av0).n]] W fun e w' => e = .returned (.bool (actB (l.getD k av0))) ∧ Below W.heap.size W w') := fun W => implActOk _ W
        have CP : Hid (∀ W, Calls Try.prog 13 #[.agg #[.int .i64 (l.getD k av0).k, .string (l.getD k av0).t, .string (l.getD k av0).b, .int .i64 (l.getD k av0).n]] W fun e w' => ∃ v', e = .returned v' ∧ w'.ownsRow W.heap.size 5 1 v' (actL (l.getD k av0)).length (bcells (actL (l.getD k av0))) ∧ Below W.heap.size W w') := fun W => implPutAct _ W hs2.1 hs2.2
        have hal : actL (l.getD k av0) = if actB (l.getD k av0) then rawL (l.getD k av0) else [] := rfl
        have hlen := actL_len (l.getD k av0)
        obtain ⟨P, hP⟩ : ∃ P, actB (l.getD k av0) = P := ⟨_, rfl⟩
        rw [hP] at CA hal htk
        clear hs2
        generalize actL (l.getD k av0) = A at *
        generalize rawL (l.getD k av0) = RL at *
        clear hP
        generalize (l.getD k av0).k = x0 at *
        generalize (l.getD k av0).t = x1 at *
        generalize (l.getD k av0).b = x2 at *
        generalize (l.getD k av0).n = x3 at *
        cases P with
        | false =>
          have HT2 : Hid (Q = actsL (l.take (k + 1))) := by show _ = _; rw [htk, HT.out]; simp
          clear htk hal HT CP hlen
          go_wp2_with fail
          refine (CA.out _).mono ?_
          rintro e wa ⟨rfl, ba⟩
          have BA := (hbel.alloc hbel.size (.cells #[.int .i64 x0, .string x1, .string x2, .int .i64 x3] 26)).trans (ba.mono (by have := hbel.size; simp; omega))
          have HOA := hidB (own_below (HO.out.alloc _) ba)
          have AB := (BAt.new wr #[.int .i64 x0, .string x1, .string x2, .int .i64 x3] 26).below ba
          have a0 := AB.1 0 _ rfl
          have a1 := AB.1 1 _ rfl
          have a2 := AB.1 2 _ rfl
          have a3 := AB.1 3 _ rfl
          clear HO hbel ba CA c0 c1 c2 c3 AB
          go_wp2_with fail
          go_roundw
          case rel => exact ⟨k + 1, Q, by omega, by go_num, by omega, ⟨_, _, rfl⟩, HOA, HT2, BA⟩
          case measure => simp [intOf]; omega
        | true =>
          have HAL : Hid (A = RL) := hal
          have HT2 : Hid (Q ++ frameL A = actsL (l.take (k + 1))) := by show _ = _; rw [htk, HT.out, HAL.out]; rfl
          have hfl := frameL_len A
          have CF : Hid (∀ v' W, BRow W v' A → Calls Try.prog 42 #[v'] W fun e w' => ∃ v, e = .returned v ∧ w'.ownsRow W.heap.size 5 1 v (frameL A).length (bcells (frameL A)) ∧ Below W.heap.size W w') := fun v' W h => implFrame v' A W h (by omega)
          clear htk hal HT HAL
          generalize frameL A = F at *
          go_wp2_with fail
          refine (CA.out _).mono ?_
          rintro e wa ⟨rfl, ba⟩
          have BA := (hbel.alloc hbel.size (.cells #[.int .i64 x0, .string x1, .string x2, .int .i64 x3] 26)).trans (ba.mono (by have := hbel.size; simp; omega))
          have HOA := hidB (own_below (HO.out.alloc _) ba)
          have AB := (BAt.new wr #[.int .i64 x0, .string x1, .string x2, .int .i64 x3] 26).below ba
          have a0 := AB.1 0 _ rfl
          have a1 := AB.1 1 _ rfl
          have a2 := AB.1 2 _ rfl
          have a3 := AB.1 3 _ rfl
          clear HO hbel ba CA c0 c1 c2 c3 AB
          go_wp2_with fail
          refine (CP.out _).mono ?_
          rintro e wb ⟨vb, rfl, ob, bb⟩
          have BB := BA.trans (bb.mono BA.size)
          have HOB := hidB (own_below HOA.out bb)
          have HRB := hidB (BRow.of_own ob)
          obtain ⟨bo, bc, hvb⟩ := (BRow.of_own ob).slice
          subst hvb
          clear HOA BA bb ob CP
          go_wp2_with fail
          refine (CF.out _ _ HRB.out).mono ?_
          rintro e wc ⟨vc, rfl, oc, bcc⟩
          have BC := BB.trans (bcc.mono BB.size)
          have HOC := hidB (own_below HOB.out bcc)
          have HRC := hidB (BRow.of_own oc)
          obtain ⟨fo, fc, hvc⟩ := (BRow.of_own oc).slice
          subst hvc
          clear HOB BB bcc oc CF HRB
          go_wp2_with (at_builtin; refine wpList_append_brow rfl _ _ 29 rfl w.heap.size 5 Try.underlying29 Try.infoByte (.slice o Q.length c) Q.length Q rfl HOC.out _ F rfl HRC.out (by omega) BC.size ?_)
          intro v3 w3 o3 g3 _
          have B3 : Below w.heap.size w w3 := BC.grown g3 BC.size (fun j hj => (HOC.out.lt j hj).1)
          rw [← List.length_append] at o3
          obtain ⟨co, cc, hv3⟩ := (BRow.of_own o3).slice
          subst hv3
          have HO3 := hidB o3
          have hq3 : (Q ++ F).length ≤ 4040 * (k + 1) := by rw [List.length_append]; omega
          clear o3 g3 HOC BC HRC
          go_wp2_with fail
          go_roundw
          case rel => exact ⟨k + 1, _, by omega, by go_num, hq3, ⟨_, _, rfl⟩, HO3, HT2, B3⟩
          case measure => simp [intOf]; omega
      · have hki : ¬ (k : Int) < l.length := by omega
        have HE : Hid (Q = Z) := by show _ = _; rw [HT.out, HZ.out, List.take_of_length_le (by omega)]
        have HO2 : Hid (wr.ownsRow w.heap.size 5 1 (.slice o Q.length c) Z.length (bcells Z)) := by
          have := HO.out
          rw [← HE.out]
          exact this
        clear HO HT
        go_wp2_with fail
        go_ret
        exact ⟨_, rfl, HO2.out, hbel⟩
end Go.Proofs.Ytfigkoapebdlfaa
