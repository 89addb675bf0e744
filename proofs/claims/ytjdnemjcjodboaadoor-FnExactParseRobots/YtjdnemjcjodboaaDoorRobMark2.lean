/- The laws' marks on parts and robots that a call owns. -/
import Derived.Test.YtjdnemjcjodboaaDoorRows
import Derived.Test.YtjdnemjcjodboaaDoorRobMark
namespace Go.Proofs.YtjdnemjcjodboaaDoor
open Go.RowKit
set_option linter.unusedVariables false

def kP (k0 : Nat) (l : List PT) : Nat → Nat
  | 0 => k0
  | i + 1 => kP k0 l i + (l.getD i pt0).ag.length + 2 * (l.getD i pt0).ln.length
def mkP (k : Nat) (x : PT) : PT := ⟨marks k x.ag.length, mkL (k + x.ag.length) x.ln.length⟩
def markP (k0 : Nat) (l : List PT) : List PT := (List.range l.length).map fun i => mkP (kP k0 l i) (l.getD i pt0)
theorem markP_len (k0 : Nat) (l : List PT) : (markP k0 l).length = l.length := by simp [markP]
theorem markP_at (k0 : Nat) (l : List PT) {i : Nat} (h : i < l.length) : (markP k0 l).getD i pt0 = mkP (kP k0 l i) (l.getD i pt0) := by simp [markP, List.getD, h]
def mixP (k0 : Nat) (l : List PT) (k : Nat) : List PT := (List.range l.length).map fun i => if i < k then mkP (kP k0 l i) (l.getD i pt0) else l.getD i pt0
theorem mixP_len (k0 : Nat) (l : List PT) (k : Nat) : (mixP k0 l k).length = l.length := by simp [mixP]
theorem mixP_at (k0 : Nat) (l : List PT) (k : Nat) {i : Nat} (h : i < l.length) : (mixP k0 l k).getD i pt0 = if i < k then mkP (kP k0 l i) (l.getD i pt0) else l.getD i pt0 := by
  unfold mixP
  rw [List.getD_eq_getElem?_getD, List.getElem?_map, List.getElem?_range h]
  rfl
theorem mixP_zero (k0 : Nat) (l : List PT) : mixP k0 l 0 = l := by
  refine List.ext_getElem (by simp [mixP]) fun i h1 h2 => ?_
  simp [mixP, List.getD, h2]
theorem mixP_all (k0 : Nat) (l : List PT) : mixP k0 l l.length = markP k0 l := by
  unfold mixP markP
  refine List.map_congr_left fun i hi => ?_
  rw [if_pos (List.mem_range.1 hi)]
theorem kP_ge (k0 : Nat) (l : List PT) : ∀ i, k0 ≤ kP k0 l i
  | 0 => Nat.le_refl _
  | i + 1 => by have := kP_ge k0 l i; unfold kP; omega
theorem kP_mono (k0 : Nat) (l : List PT) {i : Nat} : ∀ {j}, i ≤ j → kP k0 l i ≤ kP k0 l j
  | 0, h => by rw [show i = 0 by omega]; exact Nat.le_refl _
  | j + 1, h => by
    by_cases hi : i = j + 1
    · rw [hi]; exact Nat.le_refl _
    · have := kP_mono k0 l (show i ≤ j by omega)
      show _ ≤ kP k0 l j + _ + _
      omega
theorem grown_at {w w' : World} {r : Option Nat} (h : w.grownBy w' r) {b : Nat} (hb : b < w.heap.size) (hne : some b ≠ r) : w'.heap[b]? = w.heap[b]? := h.block b hb hne
set_option maxHeartbeats 4000000 in
theorem markParts (l : List PT) (v : Value) (k0 base top : Nat) (w : World) (hk0 : 0 < k0) (hll : l.length ≤ 1048576) (hK : kP k0 l l.length ≤ 1000000000) (ht : top ≤ w.heap.size) (h : RobOwn w base top v l) :
    Calls Tryd.prog 35 #[v, .int .i64 (k0 : Int)] w fun e w' => e = .returned (.int .i64 ((kP k0 l l.length : Nat) : Int)) ∧ RobOwn w' base top v (markP k0 l) ∧ Only base top w w' := by
  have HK : Hid (∀ i, i ≤ l.length → kP k0 l i ≤ 1000000000) := fun i hi => Nat.le_trans (kP_mono k0 l hi) hK
  clear hK
  by_cases h0 : l.length = 0
  · obtain rfl : l = [] := List.eq_nil_of_length_eq_zero h0
    obtain ⟨ao, cap, rfl⟩ := h.row.slice
    have HO : Hid (RobOwn w base top (.slice ao 0 cap) (markP k0 [])) := h
    clear h
    go_enter Tryd.func35, Tryd.ntmps35
    go_wp2
    refine wp_loop_rounds 1 ?_
    rw [rounds_succ]
    go_wp2
    go_ret
    exact ⟨rfl, HO.out, Only.refl _ _ _⟩
  · obtain ⟨g, cap, rfl⟩ : ∃ g cap, v = .slice (some ⟨g, 0, none⟩) l.length cap := by
      obtain ⟨vs, h1, _⟩ := h
      rcases h1.2 with ⟨_, h2⟩ | ⟨g, cap, cur, rfl, _⟩
      · exact absurd h2 h0
      · exact ⟨g, cap, rfl⟩
    go_enter Tryd.func35, Tryd.ntmps35
    go_wp2
    go_loopw [1, 5] (fun a i wr => ∃ k : Nat, k ≤ l.length ∧ i = .int .i64 k ∧ a = .int .i64 ((kP k0 l k : Nat) : Int) ∧ Hid (RobOwn wr base top (.slice (some ⟨g, 0, none⟩) l.length cap) (mixP k0 l k)) ∧ Only base top w wr) (fun _ i _ => l.length - (intOf i).toNat)
    case atStart => exact ⟨0, Nat.zero_le _, rfl, rfl, (by rw [mixP_zero]; exact h), Only.refl _ _ _⟩
    case round =>
      obtain ⟨k, hk, rfl, rfl, HO, hon⟩ := hrel
      clear h
      by_cases hlt : k < l.length
      · have hki : (k : Int) < l.length := by omega
        have htr : top ≤ wr.heap.size := Nat.le_trans ht hon.size
        obtain ⟨vs, h1, h2⟩ := HO.out
        have hml := mixP_len k0 l k
        rw [hml] at h1 h2
        have hgk : (mixP k0 l k).getD k pt0 = l.getD k pt0 := by rw [mixP_at k0 l k hlt, if_neg (by omega)]
        obtain ⟨p, q, a1, a2, a3, a4⟩ := h2.1 k hlt
        obtain ⟨p1, p2, p3⟩ := h2.2.1 _ p (by omega) a1
        obtain ⟨q1, q2, q3⟩ := h2.2.1 _ q (by omega) a2
        have apq : apt p q := p3 _ q (by omega) a2 (by omega)
        have pge := h2.ge (by omega) a1
        have qge := h2.ge (by omega) a2
        rw [hgk] at a3 a4
        have c1 : wr.cell? ⟨g, k * 2, none⟩ = some p := by rw [h1.cellAt (k * 2) (by omega)]; exact a1
        have hks : kP k0 l (k + 1) = kP k0 l k + (l.getD k pt0).ag.length + 2 * (l.getD k pt0).ln.length := rfl
        have hK1 := HK.out (k + 1) (by omega)
        have hKg := kP_ge k0 l k
        have CM : Hid (Calls Tryd.prog 63 #[p, .int .i64 ((kP k0 l k : Nat) : Int)] wr fun e w' => e = .returned (.int .i64 ((kP k0 l k + (l.getD k pt0).ag.length : Nat) : Int)) ∧ w'.ownsRow base 9 1 p (l.getD k pt0).ag.length (scells (marks (kP k0 l k) (l.getD k pt0).ag.length)) ∧ wr.grownBy w' p.ownBlock) := markStringS (kP k0 l k) _ p base _ wr (by omega) (by omega) a3
        have CL : Hid (∀ W, W.ownsRow base 35 2 q (l.getD k pt0).ln.length (lcells (l.getD k pt0).ln) → Calls Tryd.prog 64 #[q, .int .i64 ((kP k0 l k + (l.getD k pt0).ag.length : Nat) : Int)] W fun e w' => e = .returned (.int .i64 ((kP k0 l k + (l.getD k pt0).ag.length + 2 * (l.getD k pt0).ln.length : Nat) : Int)) ∧ w'.ownsRow base 35 2 q (l.getD k pt0).ln.length (lcells (mkL (kP k0 l k + (l.getD k pt0).ag.length) (l.getD k pt0).ln.length)) ∧ W.grownBy w' q.ownBlock) := fun W hW => markLines (l.getD k pt0).ln q (kP k0 l k + (l.getD k pt0).ag.length) base W (by omega) (by omega) hW
        have HFIN : Hid (∀ w1 w2, wr.grownBy w1 p.ownBlock → w1.grownBy w2 q.ownBlock → w1.ownsRow base 9 1 p (l.getD k pt0).ag.length (scells (marks (kP k0 l k) (l.getD k pt0).ag.length)) → w2.ownsRow base 35 2 q (l.getD k pt0).ln.length (lcells (mkL (kP k0 l k + (l.getD k pt0).ag.length) (l.getD k pt0).ln.length)) → RobOwn w2 base top (.slice (some ⟨g, 0, none⟩) l.length cap) (mixP k0 l (k + 1)) ∧ Only base top w w2) := fun w1 w2 g1 g2 o1 o2 => by
          refine ⟨⟨vs, ?_, ?_⟩, (hon.trans (Only.of_grown g1 fun b e => ⟨pge b e, p2 b e⟩)).trans (Only.of_grown g2 fun b e => ⟨qge b e, q2 b e⟩)⟩
          · rw [mixP_len]
            refine own_at (own_at h1 fun b hb => g1.block b (h1.lt b hb).2 fun e => p1 b e.symm hb) fun b hb => g2.block b (Nat.lt_of_lt_of_le (h1.lt b hb).2 g1.size) fun e => q1 b e.symm hb
          · rw [mixP_len]
            have hat : (mixP k0 l (k + 1)).getD k pt0 = mkP (kP k0 l k) (l.getD k pt0) := by rw [mixP_at k0 l (k + 1) hlt, if_pos (by omega)]
            refine h2.at (p' := p) (q' := q) hlt a1 a2 (fun b hb hbt n1 n2 n3 => ?_) (fun _ _ _ => rfl) a1 a2 ?_ ?_ (.inl rfl) (.inl rfl) apq (fun j hj hne => ?_) (Nat.le_refl _)
            · exact (g2.block b (by have := g1.size; omega) n3).trans (g1.block b (by omega) n2)
            · rw [hat]
              show World.ownsRow _ _ _ _ _ (marks _ _).length (scells (marks _ _))
              rw [marks_length]
              exact own_at o1 fun b hb => g2.block b (o1.lt b hb).2 fun e => apq b hb e.symm
            · rw [hat]
              show World.ownsRow _ _ _ _ _ (mkL _ _).length (lcells (mkL _ _))
              rw [mkL_length]
              exact o2
            · rw [mixP_at k0 l (k + 1) hj, mixP_at k0 l k hj]
              by_cases hjk : j < k
              · rw [if_pos hjk, if_pos (by omega)]
              · rw [if_neg hjk, if_neg (by omega)]
        have HC2 : Hid (∀ w1, wr.grownBy w1 p.ownBlock → w1.cell? ⟨g, k * 2 + 1, none⟩ = some q ∧ w1.ownsRow base 35 2 q (l.getD k pt0).ln.length (lcells (l.getD k pt0).ln)) := fun w1 g1 => by
          have o1 := own_at h1 fun b hb => g1.block b (h1.lt b hb).2 fun e => p1 b e.symm hb
          exact ⟨by rw [o1.cellAt (k * 2 + 1) (by omega)]; exact a2, own_at a4 fun b hb => g1.block b (a4.lt b hb).2 fun e => apq b e.symm hb⟩
        obtain ⟨pa, pc, hpp⟩ := (StrRow.of_own a3).slice
        obtain ⟨qa, qc, hqq⟩ := (LineRow.of_own' a4).slice
        clear h1 h2 a1 a2 a3 a4 p1 p2 p3 q1 q2 q3 apq pge qge HO hon hgk hml
        generalize hAA : (l.getD k pt0).ag.length = AN at *
        generalize hLL : (l.getD k pt0).ln.length = LN at *
        have HKS : Hid (kP k0 l (k + 1) = kP k0 l k + AN + 2 * LN) := hks
        clear hks
        generalize hKK : kP k0 l k = KK at *
        clear hKK hAA hLL
        subst hpp hqq
        obtain ⟨y1, hy1⟩ : ∃ y : Int, ((KK + AN : Nat) : Int) = y := ⟨_, rfl⟩
        obtain ⟨y2, hy2⟩ : ∃ y : Int, ((KK + AN + 2 * LN : Nat) : Int) = y := ⟨_, rfl⟩
        rw [hy1] at CM CL
        rw [hy2] at CL
        have HY2 : Hid (((KK + AN + 2 * LN : Nat) : Int) = y2) := hy2
        clear hy1 hy2
        go_wp2_with fail
        refine CM.out.mono ?_
        rintro e w1 ⟨rfl, o1, g1⟩
        obtain ⟨c2, o2⟩ := HC2.out w1 g1
        have O1 : Hid (w1.ownsRow base 9 1 (.slice pa AN pc) AN (scells (marks KK AN))) := o1
        have O2 : Hid (w1.ownsRow base 35 2 (.slice qa LN qc) LN (lcells (l.getD k pt0).ln)) := o2
        clear o1 o2 CM HC2 c1
        go_wp2_with fail
        refine (CL.out _ O2.out).mono ?_
        rintro e w2 ⟨rfl, o3, g2⟩
        obtain ⟨R1, R2⟩ := HFIN.out w1 w2 g1 g2 O1.out o3
        have HR : Hid (RobOwn w2 base top (.slice (some ⟨g, 0, none⟩) l.length cap) (mixP k0 l (k + 1))) := R1
        have HY3 : Hid (Value.int .i64 y2 = .int .i64 ((kP k0 l (k + 1) : Nat) : Int)) := by show _ = _; rw [HKS.out, HY2.out]
        clear R1 o3 g1 g2 HFIN O1 O2 CL c2 HY2 HKS
        go_wp2_with fail
        go_roundw
        case rel => exact ⟨k + 1, by omega, by go_num, HY3.out, HR, R2⟩
        case measure => simp [intOf]; omega
      · have hki : ¬ (k : Int) < l.length := by omega
        have HE : Hid (k = l.length) := by show _ = _; omega
        have HO2 : Hid (RobOwn wr base top (.slice (some ⟨g, 0, none⟩) l.length cap) (markP k0 l)) := by
          have := HO.out
          rw [HE.out, mixP_all] at this
          exact this
        clear HO
        go_wp2_with fail
        go_ret
        exact ⟨by rw [HE.out]; rfl, HO2.out, hon⟩
set_option maxHeartbeats 2000000 in
theorem markRobots (l : List PT) (v : Value) (k0 base top : Nat) (w : World) (hk0 : 0 < k0) (hll : l.length ≤ 1048576) (hK : kP k0 l l.length ≤ 1000000000) (ht : top ≤ w.heap.size) (h : RobOwn w base top v l) :
    Calls Tryd.prog 14 #[.agg #[v], .int .i64 (k0 : Int)] w fun e w' => e = .returned (.int .i64 ((kP k0 l l.length : Nat) : Int)) ∧ RobOwn w' base top v (markP k0 l) ∧ Only base top w w' := by
  obtain ⟨O, hO⟩ : ∃ O, O = w.alloc (.cells #[v] 26) := ⟨_, rfl⟩
  have bO : Below w.heap.size w O := by rw [hO]; exact (Below.refl _ _).alloc (Nat.le_refl _) _
  have AO : BAt O w.heap.size [v] := by rw [hO]; exact BAt.new w #[v] _
  have CM : Hid (Calls Tryd.prog 35 #[v, .int .i64 (k0 : Int)] O fun e w' => e = .returned (.int .i64 ((kP k0 l l.length : Nat) : Int)) ∧ RobOwn w' base top v (markP k0 l) ∧ Only base top O w') := markParts l v k0 base top O hk0 hll hK (Nat.le_trans ht bO.size) (h.below ht bO)
  obtain ⟨ao, cap, hv⟩ := h.row.slice
  subst hv
  clear h
  clear hK
  generalize kP k0 l l.length = KE at *
  go_enter Tryd.func14, Tryd.ntmps14
  go_upto_region 1 with fail
  rw [← hO]
  clear hO
  have c0 := AO.1 0 _ rfl
  go_wp2_with fail
  refine CM.out.mono ?_
  rintro e w1 ⟨rfl, r1, o1⟩
  have HR := r1
  have HR1 : Hid (RobOwn w1 base top (.slice ao l.length cap) (markP k0 l)) := r1
  clear r1 HR CM
  go_wp2_with fail
  go_ret
  exact ⟨rfl, HR1.out, (Only.of_below bO).trans o1⟩
set_option maxHeartbeats 4000000 in
theorem heldParts (l : List PT) (v : Value) (k0 base top : Nat) (w : World) (hk0 : 0 < k0) (hll : l.length ≤ 1048576) (hK : kP k0 l l.length ≤ 1000000000) (h : RobOwn w base top v (markP k0 l)) :
    Calls Tryd.prog 36 #[v, .int .i64 (k0 : Int)] w fun e w' => e = .returned (.int .i64 ((kP k0 l l.length : Nat) : Int)) ∧ Below w.heap.size w w' := by
  have HK : Hid (∀ i, i ≤ l.length → kP k0 l i ≤ 1000000000) := fun i hi => Nat.le_trans (kP_mono k0 l hi) hK
  clear hK
  by_cases h0 : l.length = 0
  · obtain rfl : l = [] := List.eq_nil_of_length_eq_zero h0
    obtain ⟨ao, cap, rfl⟩ := h.row.slice
    clear h
    go_enter Tryd.func36, Tryd.ntmps36
    go_wp2
    refine wp_loop_rounds 1 ?_
    rw [rounds_succ]
    go_wp2
    go_ret
    exact ⟨rfl, Below.refl _ _⟩
  · obtain ⟨vs, h1, h2⟩ := h
    rw [markP_len] at h1 h2
    obtain ⟨g, cap, rfl⟩ : ∃ g cap, v = .slice (some ⟨g, 0, none⟩) l.length cap := by
      rcases h1.2 with ⟨_, h2⟩ | ⟨g, cap, cur, rfl, _⟩
      · exact absurd h2 h0
      · exact ⟨g, cap, rfl⟩
    have HA : Hid (∀ i, i < l.length → ∃ p q, w.cell? ⟨g, i * 2, none⟩ = some p ∧ w.cell? ⟨g, i * 2 + 1, none⟩ = some q ∧ w.ownsRow base 9 1 p (l.getD i pt0).ag.length (scells (marks (kP k0 l i) (l.getD i pt0).ag.length)) ∧ LineRow w q (mkL (kP k0 l i + (l.getD i pt0).ag.length) (l.getD i pt0).ln.length)) := fun i hi => by
      obtain ⟨p, q, a1, a2, a3, a4⟩ := h2.1 i hi
      rw [markP_at k0 l hi] at a3 a4
      refine ⟨p, q, by rw [h1.cellAt (i * 2) (by omega)]; exact a1, by rw [h1.cellAt (i * 2 + 1) (by omega)]; exact a2, ?_, LineRow.of_own' a4⟩
      have e : (mkP (kP k0 l i) (l.getD i pt0)).ag = marks (kP k0 l i) (l.getD i pt0).ag.length := rfl
      rw [e, marks_length] at a3
      exact a3
    have hg := (h1.lt g rfl).2
    clear h1 h2
    go_enter Tryd.func36, Tryd.ntmps36
    go_wp2
    go_loopw [1, 5] (fun a i wr => ∃ k : Nat, k ≤ l.length ∧ i = .int .i64 k ∧ a = .int .i64 ((kP k0 l k : Nat) : Int) ∧ Below w.heap.size w wr) (fun _ i _ => l.length - (intOf i).toNat)
    case atStart => exact ⟨0, Nat.zero_le _, rfl, rfl, Below.refl _ _⟩
    case round =>
      obtain ⟨k, hk, rfl, rfl, hbel⟩ := hrel
      by_cases hlt : k < l.length
      · have hki : (k : Int) < l.length := by omega
        obtain ⟨p, q, a1, a2, a3, a4⟩ := HA.out k hlt
        have c1 := (hbel.cell (p := ⟨g, k * 2, none⟩) hg).trans a1
        have hks : kP k0 l (k + 1) = kP k0 l k + (l.getD k pt0).ag.length + 2 * (l.getD k pt0).ln.length := rfl
        have hK1 := HK.out (k + 1) (by omega)
        have hKg := kP_ge k0 l k
        have CM : Hid (∀ W, Below w.heap.size w W → Calls Tryd.prog 65 #[p, .int .i64 ((kP k0 l k : Nat) : Int)] W fun e w' => e = .returned (.int .i64 ((kP k0 l k + (l.getD k pt0).ag.length : Nat) : Int)) ∧ Below W.heap.size W w') := fun W hW => heldStringS (kP k0 l k) _ p base W (by omega) (by omega) (own_below a3 hW)
        have CL : Hid (∀ W, Below w.heap.size w W → Calls Tryd.prog 66 #[q, .int .i64 ((kP k0 l k + (l.getD k pt0).ag.length : Nat) : Int)] W fun e w' => e = .returned (.int .i64 ((kP k0 l k + (l.getD k pt0).ag.length + 2 * (l.getD k pt0).ln.length : Nat) : Int)) ∧ Below W.heap.size W w') := fun W hW => heldLines (l.getD k pt0).ln.length q (kP k0 l k + (l.getD k pt0).ag.length) W (by omega) (by omega) (a4.below hW)
        obtain ⟨pa, pc, hpp⟩ := (StrRow.of_own a3).slice
        obtain ⟨qa, qc, hqq⟩ := a4.slice
        have HC2 : Hid (w.cell? ⟨g, k * 2 + 1, none⟩ = some q) := a2
        clear a1 a2 a3 a4
        generalize (l.getD k pt0).ag.length = AN at *
        generalize (l.getD k pt0).ln.length = LN at *
        have HKS : Hid (kP k0 l (k + 1) = kP k0 l k + AN + 2 * LN) := hks
        clear hks
        generalize kP k0 l k = KK at *
        subst hpp hqq
        obtain ⟨y1, hy1⟩ : ∃ y : Int, ((KK + AN : Nat) : Int) = y := ⟨_, rfl⟩
        obtain ⟨y2, hy2⟩ : ∃ y : Int, ((KK + AN + 2 * LN : Nat) : Int) = y := ⟨_, rfl⟩
        rw [hy1] at CM CL
        rw [hy2] at CL
        have hn1 : ¬ y1 < 0 := by omega
        have hn2 : ¬ y2 < 0 := by omega
        have HY3 : Hid (Value.int .i64 y2 = .int .i64 ((kP k0 l (k + 1) : Nat) : Int)) := by show _ = _; rw [HKS.out, hy2]
        clear hy1 hy2 HKS
        go_wp2_with fail
        refine (CM.out _ hbel).mono ?_
        rintro e w1 ⟨rfl, b1⟩
        have B1 := hbel.trans (b1.mono hbel.size)
        have c2 := (B1.cell (p := ⟨g, k * 2 + 1, none⟩) hg).trans HC2.out
        clear b1 hbel CM c1 HC2
        go_wp2_with fail
        refine (CL.out _ B1).mono ?_
        rintro e w2 ⟨rfl, b2⟩
        have B2 := B1.trans (b2.mono B1.size)
        clear b2 B1 CL c2
        go_wp2_with fail
        go_roundw
        case rel => exact ⟨k + 1, by omega, by go_num, HY3.out, B2⟩
        case measure => simp [intOf]; omega
      · have hki : ¬ (k : Int) < l.length := by omega
        have HE : Hid (k = l.length) := by show _ = _; omega
        go_wp2_with fail
        go_ret
        exact ⟨by rw [HE.out]; rfl, hbel⟩
set_option maxHeartbeats 2000000 in
theorem heldRobots (l : List PT) (v : Value) (k0 base top : Nat) (w : World) (hk0 : 0 < k0) (hll : l.length ≤ 1048576) (hK : kP k0 l l.length ≤ 1000000000) (ht : top ≤ w.heap.size) (h : RobOwn w base top v (markP k0 l)) :
    Calls Tryd.prog 15 #[.agg #[v], .int .i64 (k0 : Int)] w fun e w' => e = .returned (.int .i64 ((kP k0 l l.length : Nat) : Int)) ∧ Below w.heap.size w w' := by
  obtain ⟨O, hO⟩ : ∃ O, O = w.alloc (.cells #[v] 26) := ⟨_, rfl⟩
  have bO : Below w.heap.size w O := by rw [hO]; exact (Below.refl _ _).alloc (Nat.le_refl _) _
  have AO : BAt O w.heap.size [v] := by rw [hO]; exact BAt.new w #[v] _
  have CM : Hid (Calls Tryd.prog 36 #[v, .int .i64 (k0 : Int)] O fun e w' => e = .returned (.int .i64 ((kP k0 l l.length : Nat) : Int)) ∧ Below O.heap.size O w') := heldParts l v k0 base top O hk0 hll hK (h.below ht bO)
  obtain ⟨ao, cap, hv⟩ := h.row.slice
  subst hv
  clear h
  clear hK
  generalize kP k0 l l.length = KE at *
  go_enter Tryd.func15, Tryd.ntmps15
  go_upto_region 1 with fail
  rw [← hO]
  clear hO
  have c0 := AO.1 0 _ rfl
  have hn : ¬ (KE : Int) < 0 := by omega
  go_wp2_with fail
  refine CM.out.mono ?_
  rintro e w1 ⟨rfl, b1⟩
  have B1 := bO.trans (b1.mono bO.size)
  clear CM
  go_wp2_with fail
  go_ret
  exact ⟨rfl, B1⟩
end Go.Proofs.YtjdnemjcjodboaaDoor
