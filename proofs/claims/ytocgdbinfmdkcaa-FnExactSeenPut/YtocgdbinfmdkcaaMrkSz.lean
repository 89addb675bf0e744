/- Contracts of the laws' helpers that measure marks. -/
import Derived.Test.YtocgdbinfmdkcaaRows
import Derived.Test.YtocgdbinfmdkcaaEntRow
import Derived.Test.YtocgdbinfmdkcaaSumZ
import Derived.Test.YtocgdbinfmdkcaaBlockAt
import Derived.Handy
import Derived.Deep.DeepCutAuto
namespace Go.Proofs.Ytocgdbinfmdkcaa
open Go.RowKit
set_option linter.unusedVariables false

def sumEn (l : List EV) : Nat := l.length + psum (fun i => (l.getD i ev0).s.size) l.length
def EMx (l : List EV) : Prop := l.length ≤ maxLen ∧ ∀ i, i < l.length → (l.getD i ev0).s.size ≤ maxLen
set_option maxHeartbeats 2000000 in
theorem szMrk (x : EV) (left : Int) (w : World) (h0 : 0 ≤ left) (h1 : left ≤ 1048576) (hm : x.s.size ≤ maxLen) :
    Calls Try.prog 66 #[.agg #[.string x.s, .int .i64 x.k], .int .i64 left] w fun e w' => e = .returned (.int .i64 (leftZ left x.s.size)) ∧ Below w.heap.size w w' := by
  have hbO : Below w.heap.size w (w.alloc (.cells #[.string x.s, .int .i64 x.k] 88)) := (Below.refl _ _).alloc (Nat.le_refl _) _
  unfold maxLen at hm
  by_cases hn : left - (x.s.size : Int) < 0
  · have HZ : Hid (leftZ left x.s.size = -1) := leftZ_no (by omega)
    go_enter Try.func66, Try.ntmps66
    go_wp2_with fail
    go_ret
    exact ⟨by rw [HZ.out]; rfl, by first | exact hbO | exact Below.refl _ _⟩
  · have HZ : Hid (leftZ left x.s.size = left - x.s.size) := leftZ_yes (by omega)
    go_enter Try.func66, Try.ntmps66
    go_wp2_with fail
    go_ret
    exact ⟨by rw [HZ.out]; rfl, by first | exact hbO | exact Below.refl _ _⟩
set_option maxHeartbeats 2000000 in
theorem szMrks (l : List EV) (v : Value) (left : Int) (w : World) (h0 : 0 ≤ left) (h1 : left ≤ 1048576) (hm : EMx l) (h : EntRow w v l) :
    Calls Try.prog 43 #[v, .int .i64 left] w fun e w' => e = .returned (.int .i64 (leftZ left (sumEn l))) ∧ Below w.heap.size w w' := by
  obtain ⟨hml, hmx⟩ := hm
  unfold maxLen at hml
  have HMX : Hid (∀ i, i < l.length → (l.getD i ev0).s.size ≤ maxLen) := hmx
  clear hmx
  by_cases hneg : left - (l.length : Int) < 0
  · obtain ⟨ao, cap, rfl⟩ := h.slice
    clear h
    have HZ : Hid (leftZ left (sumEn l) = -1) := leftZ_no (by unfold sumEn; omega)
    go_enter Try.func43, Try.ntmps43
    go_wp2
    go_ret
    exact ⟨by rw [HZ.out]; rfl, Below.refl _ _⟩
  · rcases h with ⟨rfl, ao, cap, rfl⟩ | ⟨hp, g, off, cap, rfl, hg, hc⟩
    · have HZ : Hid (leftZ left (sumEn []) = left) := (leftZ_yes (by show ((0 : Nat) : Int) ≤ left; omega)).trans (by show left - ((0 : Nat) : Int) = left; omega)
      go_enter Try.func43, Try.ntmps43
      have hneg' : ¬ left < 0 := by omega
      go_wp2
      refine wp_loop_rounds 1 ?_
      rw [rounds_succ]
      go_wp2
      go_ret
      exact ⟨by rw [HZ.out]; rfl, Below.refl _ _⟩
    · have HC : Hid (∀ i, i < l.length → w.cell? ⟨g, off + i * 2, none⟩ = some (.string (l.getD i ev0).s) ∧ w.cell? ⟨g, off + i * 2 + 1, none⟩ = some (.int .i64 (l.getD i ev0).k)) := hc
      clear hc
      obtain ⟨F, hF⟩ : ∃ F : Nat → Nat, F = fun i => (l.getD i ev0).s.size := ⟨_, rfl⟩
      have HS : Hid (sumEn l = l.length + psum F l.length) := by show _ = _; rw [hF]; rfl
      have HF : Hid (F = fun i => (l.getD i ev0).s.size) := hF
      clear hF
      have hz : ∃ z : Int, left - l.length = z ∧ 0 ≤ z ∧ z ≤ left := ⟨_, rfl, by omega, by omega⟩
      obtain ⟨z0, hz0, hz1, hz2⟩ := hz
      have HZ0 : Hid (left - l.length = z0) := hz0
      clear hneg
      have hzn : ¬ z0 < 0 := by omega
      go_enter Try.func43, Try.ntmps43
      go_wp2
      clear hz0 hzn
      go_loopw [1, 5] (fun a i wr => ∃ (k : Nat) (z : Int), k ≤ l.length ∧ i = .int .i64 k ∧ a = .int .i64 z ∧ 0 ≤ z ∧ z ≤ left ∧ Hid (z = z0 - psum F k) ∧ Below w.heap.size w wr) (fun _ i _ => l.length - (intOf i).toNat)
      case atStart => exact ⟨0, z0, Nat.zero_le _, rfl, rfl, hz1, hz2, (by show z0 = z0 - ((0 : Nat) : Int); omega), Below.refl _ _⟩
      case round =>
        obtain ⟨k, z, hk, rfl, rfl, hy1, hy2, HX, hbel⟩ := hrel
        clear hz1 hz2
        by_cases hlt : k < l.length
        · have hki : (k : Int) < l.length := by omega
          obtain ⟨c1, c2⟩ := HC.out k hlt
          have c1w := (hbel.cell (p := ⟨g, off + k * 2, none⟩) hg).trans c1
          have c2w := (hbel.cell (p := ⟨g, off + k * 2 + 1, none⟩) hg).trans c2
          have hx := HMX.out k hlt
          have HFk : Hid (F k = (l.getD k ev0).s.size) := by show _ = _; rw [HF.out]
          have CR : Hid (∀ W, Calls Try.prog 66 #[.agg #[.string (l.getD k ev0).s, .int .i64 (l.getD k ev0).k], .int .i64 z] W fun e w' => e = .returned (.int .i64 (leftZ z (l.getD k ev0).s.size)) ∧ Below W.heap.size W w') := fun W => szMrk (l.getD k ev0) z W hy1 (by omega) hx
          clear c1 c2 hx
          generalize l.getD k ev0 = x at *
          have hlz := leftZ_le (n := x.s.size) hy1
          have HLY : Hid ((x.s.size : Int) ≤ z → leftZ z x.s.size = z - x.s.size) := leftZ_yes
          have HLN : Hid (z < (x.s.size : Int) → leftZ z x.s.size = -1) := leftZ_no
          generalize leftZ z x.s.size = z' at *
          obtain ⟨q1, q2, q3⟩ := hlz
          have HQ3 : Hid (0 ≤ z' → (x.s.size : Int) ≤ z) := q3
          clear q3
          go_wp2_with fail
          refine (CR.out _).mono ?_
          rintro e w1 ⟨rfl, b1⟩
          have B1 := hbel.trans (b1.mono hbel.size)
          clear CR b1 hbel c1w c2w
          by_cases hn : z' < 0
          · have HZ : Hid (leftZ left (sumEn l) = -1) := leftZ_no (by
              have e1 := HX.out; have e2 := HZ0.out; have e3 := HFk.out
              have e4 := psum_le F (show k + 1 ≤ l.length from hlt)
              have e5 : psum F (k + 1) = psum F k + F k := rfl
              have e6 : z < (x.s.size : Int) := by
                by_cases h : (x.s.size : Int) ≤ z
                · have := HLY.out h; omega
                · omega
              rw [HS.out]; omega)
            clear HX
            go_wp2_with fail
            go_ret
            exact ⟨by rw [HZ.out]; rfl, B1⟩
          · have HN : Hid (z' = z0 - psum F (k + 1)) := by
              show _ = _
              have e1 := HX.out; have e3 := HFk.out
              have e5 : psum F (k + 1) = psum F k + F k := rfl
              have e6 := HLY.out (HQ3.out (by omega))
              omega
            clear HX
            go_wp2_with fail
            go_roundw
            case rel => exact ⟨k + 1, _, by omega, by go_num, rfl, by omega, by omega, HN, B1⟩
            case measure => simp [intOf]; omega
        · have hki : ¬ (k : Int) < l.length := by omega
          have HZ : Hid (leftZ left (sumEn l) = z) := by
            have e1 := HX.out; have e2 := HZ0.out
            rw [show k = l.length by omega] at e1
            show _ = _
            rw [HS.out, leftZ_yes (by omega)]
            omega
          clear HX
          go_wp2_with fail
          go_ret
          exact ⟨by rw [HZ.out]; rfl, hbel⟩
/-- A row of rows of marks. -/
def RunRow (w : World) (v : Value) (ll : List (List EV)) : Prop :=
  (ll = [] ∧ ∃ ao cap, v = .slice ao 0 cap) ∨ (0 < ll.length ∧ ∃ g off cap, v = .slice (some ⟨g, off, none⟩) ll.length (ll.length + cap) ∧ g < w.heap.size ∧ ∀ i, i < ll.length → ∃ x, w.cell? ⟨g, off + i, none⟩ = some x ∧ EntRow w x (ll.getD i []))
theorem RunRow.same {w w' : World} {v : Value} {ll : List (List EV)} (h : RunRow w v ll) (hs : w.heap.size ≤ w'.heap.size) (hb : ∀ k, k < w.heap.size → w'.heap[k]? = w.heap[k]?) : RunRow w' v ll := by
  rcases h with h | ⟨h0, g, off, cap, h1, h2, h3⟩
  · exact .inl h
  · refine .inr ⟨h0, g, off, cap, h1, by omega, fun i hi => ?_⟩
    obtain ⟨x, a1, a2⟩ := h3 i hi
    exact ⟨x, (World.cell?_of_block (w := w) (a := ⟨g, off + i, none⟩) (hb g h2)).trans a1, a2.same hs hb⟩
theorem RunRow.below {w w' : World} {v : Value} {ll : List (List EV)} (h : RunRow w v ll) (hb : Below w.heap.size w w') : RunRow w' v ll := h.same hb.size hb.block
theorem RunRow.slice {w : World} {v : Value} {ll : List (List EV)} (h : RunRow w v ll) : ∃ ao cap, v = .slice ao ll.length cap := by
  rcases h with ⟨rfl, ao, cap, rfl⟩ | ⟨_, g, off, cap, h1, _⟩
  · exact ⟨ao, cap, rfl⟩
  · exact ⟨_, _, h1⟩
def RMx (ll : List (List EV)) : Prop := ll.length ≤ maxLen ∧ ∀ i, i < ll.length → EMx (ll.getD i [])
def sumR (ll : List (List EV)) : Nat := ll.length + psum (fun i => sumEn (ll.getD i [])) ll.length
set_option maxHeartbeats 2000000 in
theorem szRuns (l : List (List EV)) (v : Value) (left : Int) (w : World) (h0 : 0 ≤ left) (h1 : left ≤ 1048576) (hm : RMx l) (h : RunRow w v l) :
    Calls Try.prog 44 #[v, .int .i64 left] w fun e w' => e = .returned (.int .i64 (leftZ left (sumR l))) ∧ Below w.heap.size w w' := by
  obtain ⟨hml, hmx⟩ := hm
  unfold maxLen at hml
  have HMX : Hid (∀ i, i < l.length → EMx (l.getD i [])) := hmx
  clear hmx
  by_cases hneg : left - (l.length : Int) < 0
  · obtain ⟨ao, cap, rfl⟩ := h.slice
    clear h
    have HZ : Hid (leftZ left (sumR l) = -1) := leftZ_no (by unfold sumR; omega)
    go_enter Try.func44, Try.ntmps44
    go_wp2
    go_ret
    exact ⟨by rw [HZ.out]; rfl, Below.refl _ _⟩
  · rcases h with ⟨rfl, ao, cap, rfl⟩ | ⟨hp, g, off, cap, rfl, hg, hc⟩
    · have HZ : Hid (leftZ left (sumR []) = left) := (leftZ_yes (by show ((0 : Nat) : Int) ≤ left; omega)).trans (by show left - ((0 : Nat) : Int) = left; omega)
      go_enter Try.func44, Try.ntmps44
      have hneg' : ¬ left < 0 := by omega
      go_wp2
      refine wp_loop_rounds 1 ?_
      rw [rounds_succ]
      go_wp2
      go_ret
      exact ⟨by rw [HZ.out]; rfl, Below.refl _ _⟩
    · have HC : Hid (∀ i, i < l.length → ∃ x, w.cell? ⟨g, off + i, none⟩ = some x ∧ EntRow w x (l.getD i [])) := hc
      clear hc
      obtain ⟨F, hF⟩ : ∃ F : Nat → Nat, F = fun i => sumEn (l.getD i []) := ⟨_, rfl⟩
      have HS : Hid (sumR l = l.length + psum F l.length) := by show _ = _; rw [hF]; rfl
      have HF : Hid (F = fun i => sumEn (l.getD i [])) := hF
      clear hF
      have hz : ∃ z : Int, left - l.length = z ∧ 0 ≤ z ∧ z ≤ left := ⟨_, rfl, by omega, by omega⟩
      obtain ⟨z0, hz0, hz1, hz2⟩ := hz
      have HZ0 : Hid (left - l.length = z0) := hz0
      clear hneg
      have hzn : ¬ z0 < 0 := by omega
      go_enter Try.func44, Try.ntmps44
      go_wp2
      clear hz0 hzn
      go_loopw [1, 5] (fun a i wr => ∃ (k : Nat) (z : Int), k ≤ l.length ∧ i = .int .i64 k ∧ a = .int .i64 z ∧ 0 ≤ z ∧ z ≤ left ∧ Hid (z = z0 - psum F k) ∧ Below w.heap.size w wr) (fun _ i _ => l.length - (intOf i).toNat)
      case atStart => exact ⟨0, z0, Nat.zero_le _, rfl, rfl, hz1, hz2, (by show z0 = z0 - ((0 : Nat) : Int); omega), Below.refl _ _⟩
      case round =>
        obtain ⟨k, z, hk, rfl, rfl, hy1, hy2, HX, hbel⟩ := hrel
        clear hz1 hz2
        by_cases hlt : k < l.length
        · have hki : (k : Int) < l.length := by omega
          obtain ⟨x, c1, c2⟩ := HC.out k hlt
          have c1w := (hbel.cell (p := ⟨g, off + k, none⟩) hg).trans c1
          have HFk : Hid (F k = sumEn (l.getD k [])) := by show _ = _; rw [HF.out]
          have CR : Hid (∀ W, Below w.heap.size w W → Calls Try.prog 43 #[x, .int .i64 z] W fun e w' => e = .returned (.int .i64 (leftZ z (sumEn (l.getD k [])))) ∧ Below W.heap.size W w') := fun W hW => szMrks (l.getD k []) x z W hy1 (by omega) (HMX.out k hlt) (c2.below hW)
          obtain ⟨xa, xc, hxx⟩ := c2.slice
          clear c1 c2
          generalize (l.getD k []).length = XN at *
          generalize sumEn (l.getD k []) = XS at *
          subst hxx
          have hlz := leftZ_le (n := XS) hy1
          have HLY : Hid ((XS : Int) ≤ z → leftZ z XS = z - XS) := leftZ_yes
          have HLN : Hid (z < (XS : Int) → leftZ z XS = -1) := leftZ_no
          generalize leftZ z XS = z' at *
          obtain ⟨q1, q2, q3⟩ := hlz
          have HQ3 : Hid (0 ≤ z' → (XS : Int) ≤ z) := q3
          clear q3
          go_wp2_with fail
          refine (CR.out _ hbel).mono ?_
          rintro e w1 ⟨rfl, b1⟩
          have B1 := hbel.trans (b1.mono hbel.size)
          clear CR b1 hbel c1w
          by_cases hn : z' < 0
          · have HZ : Hid (leftZ left (sumR l) = -1) := leftZ_no (by
              have e1 := HX.out; have e2 := HZ0.out; have e3 := HFk.out
              have e4 := psum_le F (show k + 1 ≤ l.length from hlt)
              have e5 : psum F (k + 1) = psum F k + F k := rfl
              have e6 : z < (XS : Int) := by
                by_cases h : (XS : Int) ≤ z
                · have := HLY.out h; omega
                · omega
              rw [HS.out]; omega)
            clear HX
            go_wp2_with fail
            go_ret
            exact ⟨by rw [HZ.out]; rfl, B1⟩
          · have HN : Hid (z' = z0 - psum F (k + 1)) := by
              show _ = _
              have e1 := HX.out; have e3 := HFk.out
              have e5 : psum F (k + 1) = psum F k + F k := rfl
              have e6 := HLY.out (HQ3.out (by omega))
              omega
            clear HX
            go_wp2_with fail
            go_roundw
            case rel => exact ⟨k + 1, _, by omega, by go_num, rfl, by omega, by omega, HN, B1⟩
            case measure => simp [intOf]; omega
        · have hki : ¬ (k : Int) < l.length := by omega
          have HZ : Hid (leftZ left (sumR l) = z) := by
            have e1 := HX.out; have e2 := HZ0.out
            rw [show k = l.length by omega] at e1
            show _ = _
            rw [HS.out, leftZ_yes (by omega)]
            omega
          clear HX
          go_wp2_with fail
          go_ret
          exact ⟨by rw [HZ.out]; rfl, hbel⟩
set_option maxHeartbeats 2000000 in
theorem szSeen (m : List EV) (l : List (List EV)) (p q : Value) (left : Int) (w : World) (h0 : 0 ≤ left) (h1 : left ≤ 1048576) (hm1 : EMx m) (hm2 : RMx l) (hp : EntRow w p m) (hq : RunRow w q l) :
    Calls Try.prog 19 #[.agg #[p, q], .int .i64 left] w fun e w' => e = .returned (.int .i64 (leftZ left (sumEn m + sumR l))) ∧ Below w.heap.size w w' := by
  obtain ⟨O, hO⟩ : ∃ O, O = w.alloc (.cells #[p, q] 44) := ⟨_, rfl⟩
  have bO : Below w.heap.size w O := by rw [hO]; exact (Below.refl _ _).alloc (Nat.le_refl _) _
  have AO : BAt O w.heap.size [p, q] := by rw [hO]; exact BAt.new w #[p, q] _
  have CM := hidM (szMrks m p left O h0 h1 hm1 (hp.below bO))
  have hlz := leftZ_le (n := sumEn m) h0
  have CR : Hid (∀ W, Below w.heap.size w W → 0 ≤ leftZ left (sumEn m) → Calls Try.prog 44 #[q, .int .i64 (leftZ left (sumEn m))] W fun e w' => e = .returned (.int .i64 (leftZ (leftZ left (sumEn m)) (sumR l))) ∧ Below W.heap.size W w') := fun W hW h => szRuns l q _ W h (by omega) hm2 (hq.below hW)
  have HT : Hid (0 ≤ leftZ left (sumEn m) → leftZ (leftZ left (sumEn m)) (sumR l) = leftZ left (sumEn m + sumR l)) := fun h => leftZ_two h0 (hlz.2.2 h)
  have HN : Hid (leftZ left (sumEn m) < 0 → leftZ left (sumEn m + sumR l) = -1) := fun h => leftZ_no (by
    by_cases hh : (sumEn m : Int) ≤ left
    · have := leftZ_yes hh; omega
    · omega)
  obtain ⟨pa, pc, rfl⟩ := hp.slice
  obtain ⟨qa, qc, rfl⟩ := hq.slice
  have hl2 := hlz.1
  clear hp hq hlz
  generalize leftZ left (sumEn m) = z at *
  have hz2 := leftZ_le (left := z) (n := sumR l)
  generalize leftZ z (sumR l) = z2 at *
  go_enter Try.func19, Try.ntmps19
  go_upto_region 1 with fail
  rw [← hO]
  clear hO
  have c0 := AO.1 0 _ rfl
  go_wp2_with fail
  refine CM.out.mono ?_
  rintro e w1 ⟨rfl, b1⟩
  have B1 := bO.trans (b1.mono bO.size)
  have c1 := (AO.below b1).1 1 _ rfl
  clear CM
  by_cases hz : z < 0
  · have HE := hidM (HN.out hz)
    go_wp2_with fail
    go_ret
    exact ⟨by rw [HE.out]; rfl, B1⟩
  · have hz0 : 0 ≤ z := by omega
    obtain ⟨y1, y2, y3⟩ := hz2 hz0
    clear y3
    have HE := hidM (HT.out hz0)
    have CR2 := hidM (CR.out w1 B1 hz0)
    clear CR HT HN
    go_wp2_with fail
    refine CR2.out.mono ?_
    rintro e w2 ⟨rfl, b2⟩
    have B2 := B1.trans (b2.mono B1.size)
    by_cases hz3 : z2 < 0
    · obtain rfl : z2 = -1 := by omega
      go_wp2_with fail
      go_ret
      exact ⟨by rw [← HE.out]; rfl, B2⟩
    · go_wp2_with fail
      go_ret
      exact ⟨by rw [← HE.out]; rfl, B2⟩
end Go.Proofs.Ytocgdbinfmdkcaa
