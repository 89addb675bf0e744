/- The contracts of the code's SeenGet and SeenCount. -/
import Derived.Test.YtdnlaijpgjpplaaRows
import Derived.Test.YtdnlaijpgjpplaaSeenImpl
namespace Go.Proofs.Ytdnlaijpgjpplaa
open Go.RowKit
set_option linter.unusedVariables false
set_option linter.unusedSimpArgs false

/-- The state of the first mark with this key; 0 where there is none. -/
def getS (k : ByteArray) (l : List EV) : Int := match fd k.toList l with | none => 0 | some z => z.k

theorem baEq {a b : ByteArray} (h : a.toList = b.toList) : a = b := by
  rw [baL, baL] at h
  exact ByteArray.ext (by simpa using congrArg List.toArray h)

theorem fd_at {k : ByteArray} {l : List EV} {j : Nat} (hj : j < l.length) (h1 : ∀ i, i < j → (l.getD i ev0).s ≠ k) (h2 : (l.getD j ev0).s = k) : fd k.toList l = some (l.getD j ev0) := by
  have e : l = l.take j ++ (l.getD j ev0 :: l.drop (j + 1)) := by
    have : l.drop j = l.getD j ev0 :: l.drop (j + 1) := by
      rw [List.drop_eq_getElem_cons hj, List.getD_eq_getElem?_getD, List.getElem?_eq_getElem hj]
      rfl
    rw [← this, List.take_append_drop]
  have h3 : fd k.toList (l.take j) = none := fd_none.2 fun z hz hk => by
    obtain ⟨i, hi, rfl⟩ := List.getElem_of_mem hz
    rw [List.length_take] at hi
    have := h1 i (by omega)
    rw [List.getD_eq_getElem?_getD, List.getElem?_eq_getElem (by omega)] at this
    rw [List.getElem_take] at hk
    exact this (baEq hk)
  conv => lhs; rw [e]
  rw [fd_app, h3, fd_yes (by rw [h2])]
  rfl

theorem fd_miss {k : ByteArray} {l : List EV} (h : ∀ i, i < l.length → (l.getD i ev0).s ≠ k) : fd k.toList l = none := fd_none.2 fun z hz hk => by
  obtain ⟨i, hi, rfl⟩ := List.getElem_of_mem hz
  have := h i hi
  rw [List.getD_eq_getElem?_getD, List.getElem?_eq_getElem hi] at this
  exact this (baEq hk)

theorem fd_flat {k : List UInt8} {LL : List (List EV)} {j : Nat} (hj : j < LL.length) (h1 : ∀ i, i < j → fd k (LL.getD i []) = none) {z : EV} (h2 : fd k (LL.getD j []) = some z) : fd k LL.flatten = some z := by
  induction LL generalizing j with
  | nil => simp at hj
  | cons a LL ih =>
    rw [List.flatten_cons, fd_app]
    cases j with
    | zero => rw [show fd k a = some z from h2]; rfl
    | succ j =>
      rw [show fd k a = none from h1 0 (by omega)]
      exact ih (by simpa using hj) (fun i hi => h1 (i + 1) (by omega)) h2

theorem fd_flat_none {k : List UInt8} {LL : List (List EV)} (h1 : ∀ i, i < LL.length → fd k (LL.getD i []) = none) : fd k LL.flatten = none := by
  induction LL with
  | nil => rfl
  | cons a LL ih =>
    rw [List.flatten_cons, fd_app, show fd k a = none from h1 0 (by simp)]
    exact ih fun i hi => h1 (i + 1) (by simpa using hi)

set_option maxRecDepth 100000 in
set_option maxHeartbeats 4000000 in
theorem implSeenGet (key : ByteArray) (m : List EV) (ll : List (List EV)) (p q : Value) (w : World) (hn : ll.length ≤ 1000000) (hm : m.length ≤ 1048576) (hf : ∀ i, i < ll.length → (ll.getD i []).length ≤ 1048576) (hp : EntRow w p m) (hq : RunRow w q ll) :
    Calls Try.prog 11 #[.agg #[p, q], .string key] w fun e w' => e = .returned (.int .i64 (getS key (m ++ ll.flatten))) ∧ Below w.heap.size w w' := by
  obtain ⟨O, hO⟩ : ∃ O, O = w.alloc (.cells #[p, q] 27) := ⟨_, rfl⟩
  have bO : Below w.heap.size w O := by rw [hO]; exact (Below.refl _ _).alloc (Nat.le_refl _) _
  have A0 : BAt O w.heap.size [p, q] := by rw [hO]; exact BAt.new w #[p, q] _
  have CL := hidM (implLayersOf m ll p q O hn (hp.below bO) (hq.below bO))
  obtain ⟨pa, pc, rfl⟩ := hp.slice
  obtain ⟨qa, qc, rfl⟩ := hq.slice
  have c0 := A0.1 0 _ rfl
  have c1 := A0.1 1 _ rfl
  have HFlat : Hid ((m :: ll).flatten = m ++ ll.flatten) := rfl
  have HLen : Hid (∀ i, i < (m :: ll).length → ((m :: ll).getD i []).length ≤ 1048576) := fun i hi => by
    cases i with
    | zero => exact hm
    | succ i => exact hf i (by simpa using hi)
  have hLL : (m :: ll).length ≤ 1000001 := by simp; omega
  rw [← HFlat.out]
  clear hp hq A0 hf hm hn
  generalize m :: ll = LL at *
  clear HFlat
  go_enter Try.func11, Try.ntmps11
  go_upto_region 1 with fail
  rw [← hO]
  clear hO
  go_wp2_with fail
  refine CL.out.mono ?_
  rintro e w1 ⟨v1, rfl, r1, b1⟩
  have B1 := bO.trans (b1.mono bO.size)
  have R1 := hidM r1
  obtain ⟨ra, rc, hre⟩ := r1.slice
  subst hre
  obtain ⟨N, HN⟩ : ∃ N, Hid (N = LL.length) := ⟨_, rfl⟩
  rw [← HN.out] at R1 hLL ⊢
  clear r1 CL c0 c1 b1
  go_wp2_with fail
  go_loopw [6, 8, 12, 14, 15, 16, 17, 18] (fun _ _ i _ _ _ _ _ wr => ∃ k : Nat, k ≤ N ∧ i = .int .i64 k ∧ Hid (∀ i, i < k → fd key.toList (LL.getD i []) = none) ∧ Below w1.heap.size w1 wr) (fun _ _ i _ _ _ _ _ _ => N - (intOf i).toNat)
  case atStart => exact ⟨0, Nat.zero_le _, rfl, fun i hi => absurd hi (Nat.not_lt_zero _), Below.refl _ _⟩
  case round =>
    obtain ⟨k, hk, rfl, HK, hbel⟩ := hrel
    by_cases hlt : k < N
    · have hki : (k : Int) < (N : Int) := by omega
      rcases R1.out with ⟨h, _⟩ | ⟨h0, g, off, cap, hv, hg, hc⟩
      · exact absurd hlt (by have := HN.out; rw [h] at this; simp at this; omega)
      · injection hv with hv1 hv2 hv3
        obtain ⟨y, cy, ey⟩ := hc k (by have := HN.out; omega)
        have cyr := (hbel.cell (p := ⟨g, off + k, none⟩) hg).trans cy
        have hL := HLen.out k (by have := HN.out; omega)
        have HX := fun (z : EV) (h : fd key.toList (LL.getD k []) = some z) => fd_flat (k := key.toList) (LL := LL) (j := k) (by have := HN.out; omega) HK.out h
        have HX0 : Hid (fd key.toList (LL.getD k []) = none → ∀ i, i < k + 1 → fd key.toList (LL.getD i []) = none) := fun h i hi => by
          by_cases e : i = k
          · rw [e]; exact h
          · exact HK.out i (by omega)
        subst hv1
        generalize LL.getD k [] = L at *
        clear hc cy hv2 hv3 HK
        rcases ey with ⟨hL0, xo, xcap, rfl⟩ | ⟨hL1, g2, off2, cap2, rfl, hg2, hc2⟩
        · have HK2 := hidM (HX0.out (by rw [hL0]; rfl))
          clear HX HX0
          go_wp2_with fail
          refine wp_loop_rounds 1 ?_
          rw [rounds_succ]
          go_wp2_with fail
          go_roundw
          case rel => exact ⟨k + 1, by omega, by go_num, HK2, hbel⟩
          case measure => simp [intOf]; omega
        · obtain ⟨LN, HLN⟩ : ∃ LN, Hid (LN = L.length) := ⟨_, rfl⟩
          rw [← HLN.out] at hL hL1 cyr
          have HC2 := hidM hc2
          have HXX := hidM HX
          clear hc2 HX
          go_wp2_with fail
          go_loopw [8, 18] (fun _ j ws => ∃ jj : Nat, jj ≤ LN ∧ j = .int .i64 jj ∧ Hid (∀ i, i < jj → (L.getD i ev0).s ≠ key) ∧ Below w1.heap.size w1 ws) (fun _ j _ => LN - (intOf j).toNat)
          case atStart => exact ⟨0, Nat.zero_le _, rfl, fun i hi => absurd hi (Nat.not_lt_zero _), hbel⟩
          case round =>
            obtain ⟨jj, hj, rfl, HJ, hb2⟩ := hrel
            by_cases hjl : jj < LN
            · have hji : (jj : Int) < (LN : Int) := by omega
              obtain ⟨d1, d2⟩ := HC2.out jj (by have := HLN.out; omega)
              have e1 := (hb2.cell (p := ⟨g2, off2 + jj * 2, none⟩) hg2).trans d1
              have e2 := (hb2.cell (p := ⟨g2, off2 + jj * 2 + 1, none⟩) hg2).trans d2
              have HY := hidM (fun (h : (L.getD jj ev0).s = key) => HXX.out _ (fd_at (by have := HLN.out; omega) HJ.out h))
              have HJ2 : Hid ((L.getD jj ev0).s ≠ key → ∀ i, i < jj + 1 → (L.getD i ev0).s ≠ key) := fun h i hi => by
                by_cases e : i = jj
                · rw [e]; exact h
                · exact HJ.out i (by omega)
              clear d1 d2
              by_cases hq : (L.getD jj ev0).s = key
              · have HE : Hid (getS key LL.flatten = (L.getD jj ev0).k) := hidM (by unfold getS; rw [HY.out hq])
                rw [hq] at e1
                clear HY HJ2 hq
                generalize (L.getD jj ev0).k = zk at *
                have BF := (B1.trans (hb2.mono B1.size)).alloc (B1.trans (hb2.mono B1.size)).size (.cells #[.string key, .int .i64 zk] 35)
                go_wp2_with fail
                go_ret
                exact ⟨ret_int HE.out.symm, BF⟩
              · have HJ3 := hidM (HJ2.out hq)
                have BF := hb2.alloc hb2.size (.cells #[.string (L.getD jj ev0).s, .int .i64 (L.getD jj ev0).k] 35)
                clear HY HJ2
                generalize (L.getD jj ev0).k = zk at *
                generalize (L.getD jj ev0).s = zs at *
                have hqq : (zs.toList == key.toList) = false := beq_eq_false_iff_ne.2 fun e => hq (baEq e)
                go_wp2_with fail
                go_roundw
                case rel => exact ⟨jj + 1, by omega, by go_num, HJ3, BF⟩
                case measure => simp [intOf]; omega
            · have HK2 := hidM (HX0.out (fd_miss fun i hi => HJ.out i (by have := HLN.out; omega)))
              go_wp2_with fail
              go_roundw
              case rel => exact ⟨k + 1, by omega, by go_num, HK2, hb2⟩
              case measure => simp [intOf]; omega
    · have HE : Hid (getS key LL.flatten = 0) := hidM (by
        unfold getS
        rw [fd_flat_none fun i hi => HK.out i (by have := HN.out; omega)])
      go_wp2_with fail
      go_ret
      exact ⟨ret_int HE.out.symm, B1.trans (hbel.mono B1.size)⟩

/-- How many have this state. -/
def cntS (x : Int) (l : List EV) : Nat := (l.filter fun z => decide (z.k = x)).length

theorem cnt_take {x : Int} {l : List EV} {k : Nat} (h : k < l.length) : cntS x (l.take (k + 1)) = cntS x (l.take k) + (if (l.getD k ev0).k = x then 1 else 0) := by
  unfold cntS
  rw [List.take_succ_eq_append_getElem h, List.filter_append, List.length_append, List.getD_eq_getElem?_getD, List.getElem?_eq_getElem h]
  by_cases hx : l[k].k = x
  · simp [hx]
  · simp [hx]

theorem cnt_le (x : Int) (l : List EV) : cntS x l ≤ l.length := List.length_filter_le _ _

set_option maxRecDepth 100000 in
set_option maxHeartbeats 4000000 in
theorem implSeenCount (st : Int) (m : List EV) (ll : List (List EV)) (p q : Value) (w : World) (hn : ll.length ≤ 1000000) (ht : (m ++ ll.flatten).length ≤ 262144) (hz : RZ m ll) (hp : EntRow w p m) (hq : RunRow w q ll) :
    Calls Try.prog 15 #[.agg #[p, q], .int .i64 st] w fun e w' => e = .returned (.int .i64 (cntS st (canon (m ++ ll.flatten)) : Int)) ∧ Below w.heap.size w w' := by
  obtain ⟨O, hO⟩ : ∃ O, O = w.alloc (.cells #[p, q] 27) := ⟨_, rfl⟩
  have bO : Below w.heap.size w O := by rw [hO]; exact (Below.refl _ _).alloc (Nat.le_refl _) _
  have A0 : BAt O w.heap.size [p, q] := by rw [hO]; exact BAt.new w #[p, q] _
  have CL := hidM (implSeenAll m ll p q O hn ht hz (hp.below bO) (hq.below bO))
  obtain ⟨pa, pc, rfl⟩ := hp.slice
  obtain ⟨qa, qc, rfl⟩ := hq.slice
  have c0 := A0.1 0 _ rfl
  have c1 := A0.1 1 _ rfl
  have hLL : (canon (m ++ ll.flatten)).length ≤ 262144 := Nat.le_trans (canon_len _) ht
  clear hp hq A0 hz hn ht
  generalize canon (m ++ ll.flatten) = L at *
  go_enter Try.func15, Try.ntmps15
  go_upto_region 1 with fail
  rw [← hO]
  clear hO
  go_wp2_with fail
  refine CL.out.mono ?_
  rintro e w1 ⟨v1, rfl, o1, b1⟩
  have B1 := bO.trans (b1.mono bO.size)
  have R1 := hidM (EntRow.of_own' o1)
  obtain ⟨ra, rc, hre⟩ := (EntRow.of_own' o1).slice
  subst hre
  obtain ⟨N, HN⟩ : ∃ N, Hid (N = L.length) := ⟨_, rfl⟩
  rw [← HN.out] at R1 hLL ⊢
  clear o1 CL c0 c1 b1
  go_wp2_with fail
  go_loopw [5, 7, 11] (fun a _ i wr => ∃ k c : Nat, k ≤ N ∧ c ≤ k ∧ i = .int .i64 k ∧ a = .int .i64 (c : Int) ∧ Hid (c = cntS st (L.take k)) ∧ Below w1.heap.size w1 wr) (fun _ _ i _ => N - (intOf i).toNat)
  case atStart => exact ⟨0, 0, Nat.zero_le _, Nat.le_refl _, rfl, rfl, rfl, Below.refl _ _⟩
  case round =>
    obtain ⟨k, c, hk, hck, rfl, rfl, HC, hbel⟩ := hrel
    by_cases hlt : k < N
    · have hki : (k : Int) < (N : Int) := by omega
      rcases R1.out with ⟨h, _⟩ | ⟨h0, g, off, cap, hv, hg, hc⟩
      · exact absurd hlt (by have := HN.out; rw [h] at this; simp at this; omega)
      · injection hv with hv1 hv2 hv3
        obtain ⟨d1, d2⟩ := hc k (by have := HN.out; omega)
        have e1 := (hbel.cell (p := ⟨g, off + k * 2, none⟩) hg).trans d1
        have e2 := (hbel.cell (p := ⟨g, off + k * 2 + 1, none⟩) hg).trans d2
        have HT := hidM (cnt_take (x := st) (l := L) (k := k) (by have := HN.out; omega))
        have BF := hbel.alloc hbel.size (.cells #[.string (L.getD k ev0).s, .int .i64 (L.getD k ev0).k] 35)
        subst hv1
        clear hc d1 d2 hv2 hv3
        generalize (L.getD k ev0).k = zk at *
        generalize (L.getD k ev0).s = zs at *
        by_cases hq : zk = st
        · subst hq
          have HC2 : Hid (c + 1 = cntS zk (L.take (k + 1))) := hidM (by rw [HT.out, if_pos rfl, ← HC.out])
          clear HT HC
          go_wp2_with fail
          go_roundw
          case rel => exact ⟨k + 1, c + 1, by omega, by omega, by go_num, by go_num, HC2, BF⟩
          case measure => simp [intOf]; omega
        · have HC2 : Hid (c = cntS st (L.take (k + 1))) := hidM (by rw [HT.out, if_neg hq, ← HC.out]; rfl)
          clear HT HC
          go_wp2_with fail
          go_roundw
          case rel => exact ⟨k + 1, c, by omega, by omega, by go_num, rfl, HC2, BF⟩
          case measure => simp [intOf]; omega
    · have HE : Hid (c = cntS st L) := hidM (by rw [HC.out, List.take_of_length_le (by have := HN.out; omega)])
      go_wp2_with fail
      go_ret
      exact ⟨ret_int (by rw [HE.out]), B1.trans (hbel.mono B1.size)⟩
end Go.Proofs.Ytdnlaijpgjpplaa
