/- Contracts and plain laws: MrkTo, MrkTo2, MrkEq, MrkEq2, OpenSeen. -/
import Derived.Test.YtocgdbinfmdkcaaRows
import Derived.Test.YtocgdbinfmdkcaaEntRow
import Derived.Test.YtocgdbinfmdkcaaStrTo
import Derived.Test.YtocgdbinfmdkcaaBlockAt
import Derived.Handy
import Derived.Deep.DeepCutAuto
import Derived.Test.YtocgdbinfmdkcaaRunOwn
import Derived.Test.YtocgdbinfmdkcaaStrEq
import Derived.Test.YtocgdbinfmdkcaaMrkSz
import Derived.OpenShut
import Derived.Deep.Strs
import Derived.Deep.Slices
import Derived.Deep.SlicePairs
namespace Go.Proofs.Ytocgdbinfmdkcaa
open Go.RowKit
set_option linter.unusedVariables false

theorem mrk_result1 {fn : Func} {q : Tmp} (h : fn.results = #[.cell q 35]) (tmps : Array Value) (W : World) (B : Nat) (a b : Value)
    (hp : tmps[q]?.getD undef = .pointer (some ⟨B, 0, none⟩)) (ha : BAt W B [a, b]) : (results fn tmps).run Try.prog W = .ok (.agg #[a, b]) W := by
  have c0 := ha.1 0 _ rfl
  have c1 := ha.1 1 _ rfl
  simp [results, h, hp, asAddr, go_sem, c0, c1, Addr.add_lit]
set_option maxHeartbeats 2000000 in
theorem toMrk (x : EV) (w : World) :
    Calls Try.prog 67 #[.agg #[.string x.s, .int .i64 x.k]] w fun e w' => e = .returned (.agg #[.string x.s, .int .i64 x.k]) ∧ Below w.heap.size w w' := by
  obtain ⟨O, hO⟩ : ∃ O, O = ((w.alloc (.cells #[.string x.s, .int .i64 x.k] 88)).alloc (.cells #[.string ⟨#[]⟩, .int .i64 0] 35)).alloc (.cells #[.string ⟨#[]⟩, .int .i64 0] 35) := ⟨_, rfl⟩
  have hbO : Below w.heap.size w O := by rw [hO]; exact (((Below.refl _ _).alloc (Nat.le_refl _) _).alloc (by simp) _).alloc (by simp; omega) _
  have hzO : O.heap.size = w.heap.size + 3 := by rw [hO]; simp
  have A0 : BAt O w.heap.size [.string x.s, .int .i64 x.k] := by rw [hO]; exact ((BAt.new w #[.string x.s, .int .i64 x.k] _).alloc _).alloc _
  have A1 : BAt O (w.heap.size + 1) [.string ⟨#[]⟩, .int .i64 0] := by
    rw [hO]
    have := BAt.new (w.alloc (.cells #[.string x.s, .int .i64 x.k] 88)) #[.string ⟨#[]⟩, .int .i64 0] 35
    rw [World.size_alloc] at this
    exact this.alloc _
  have A2 : BAt O (w.heap.size + 1 + 1) [.string ⟨#[]⟩, .int .i64 0] := by
    rw [hO]
    have := BAt.new ((w.alloc (.cells #[.string x.s, .int .i64 x.k] 88)).alloc (.cells #[.string ⟨#[]⟩, .int .i64 0] 35)) #[.string ⟨#[]⟩, .int .i64 0] 35
    rw [World.size_alloc, World.size_alloc] at this
    exact this
  go_enter Try.func67, Try.ntmps67
  go_upto_region 2 with fail
  rw [← hO]
  clear hO
  have c0 := A0.1 0 _ rfl
  have c1 := A0.1 1 _ rfl
  have r0 := A1.1 0 _ rfl
  have r1 := A1.1 1 _ rfl
  have f1 := A1.2.1
  have o0 := A2.1 0 _ rfl
  have o1 := A2.1 1 _ rfl
  have f2 := A2.2.1
  go_wp2_with fail
  refine bodyPost_ret (mrk_result1 rfl _ _ (w.heap.size + 1) (.string x.s) (.int .i64 x.k) rfl ((((A1.other (by omega) 0 _).other (by omega) 1 _).set 0 (by simp) _).set 1 (by simp) _)) rfl ⟨rfl, ?_⟩
  exact (((hbO.setCell (by simp; omega) _).setCell (by simp; omega) _).setCell (by simp) _).setCell (by simp) _
theorem Try.infoMrk : (Try.prog.info? 35).map (fun i => (i.zero, i.size, i.bytes)) = some (some (.agg #[.string ⟨#[]⟩, .int .i64 0]), 2, 24) := by kernel_rfl
set_option maxHeartbeats 4000000 in
theorem toMrks (l : List EV) (v : Value) (w : World) (hn : l.length ≤ 1073741824) (h : EntRow w v l) :
    Calls Try.prog 46 #[v] w fun e w' => ∃ v', e = .returned v' ∧ w'.ownsRow w.heap.size 35 2 v' l.length (ecells l) ∧ Below w.heap.size w w' := by
  obtain ⟨i0, hi, hz0, hz1, hz2⟩ := info_parts Try.infoMrk
  rcases h with ⟨rfl, ao, cap, rfl⟩ | ⟨h0, b, off, cap, rfl, hb, hc⟩
  · clear hn
    go_enter Try.func46, Try.ntmps46
    go_wp2_with (at_make; refine wpList_make_full _ rfl _ _ 24 rfl w.heap.size 35 i0 (.agg #[.string ⟨#[]⟩, .int .i64 0]) 2 Try.underlying24 hi hz0 hz1 _ _ _ _ 0 rfl rfl (by omega) (by omega) (by rw [hz2]; omega) (by unfold maxLen; omega) (Nat.le_refl _) ?_)
    intro wm hmo hgm
    have Bm : Below w.heap.size w wm := (Below.refl _ _).grown hgm (Nat.le_refl _) (fun k hk => by cases hk)
    clear hgm
    go_wp2
    refine wp_loop_rounds 1 ?_
    rw [rounds_succ]
    go_wp2
    go_ret
    exact ⟨_, rfl, by simpa [madeCells, ecells] using hmo, Bm⟩
  · have HC : Hid (∀ i, i < l.length → w.cell? ⟨b, off + i * 2, none⟩ = some (.string (l.getD i ev0).s) ∧ w.cell? ⟨b, off + i * 2 + 1, none⟩ = some (.int .i64 (l.getD i ev0).k)) := hc
    clear hc
    go_enter Try.func46, Try.ntmps46
    go_wp2_with (at_make; refine wpList_make_full _ rfl _ _ 24 rfl w.heap.size 35 i0 (.agg #[.string ⟨#[]⟩, .int .i64 0]) 2 Try.underlying24 hi hz0 hz1 _ _ _ _ l.length rfl rfl (by omega) (by omega) (by rw [hz2]; omega) (by unfold maxLen; omega) (Nat.le_refl _) ?_)
    intro wm hmo hgm
    have Bm : Below w.heap.size w wm := (Below.refl _ _).grown hgm (Nat.le_refl _) (fun k hk => by cases hk)
    obtain ⟨xs0, hmo⟩ : ∃ xs0, wm.ownsRow w.heap.size 35 2 (.slice (some ⟨w.heap.size, 0, none⟩) l.length l.length) l.length xs0 := ⟨_, hmo⟩
    clear hgm
    go_wp2
    go_loopw [4] (fun i wr => ∃ (k : Nat) (xs : List Value), k ≤ l.length ∧ i = .int .i64 k ∧ wr.ownsRow w.heap.size 35 2 (.slice (some ⟨w.heap.size, 0, none⟩) l.length l.length) l.length xs ∧ Hid (xs.take (k * 2) = ecells (l.take k)) ∧ Below w.heap.size w wr) (fun i _ => l.length - (intOf i).toNat)
    case atStart => exact ⟨0, xs0, Nat.zero_le _, rfl, hmo, (by show _ = _; rw [Nat.zero_mul, List.take_zero, List.take_zero]; rfl), Bm⟩
    case round =>
      obtain ⟨k, xs, hk, rfl, hown, HI, hbel⟩ := hrel
      clear hmo Bm
      by_cases hlt : k < l.length
      · have hki : (k : Int) < l.length := by omega
        obtain ⟨c1, c2⟩ := HC.out k hlt
        have c1w := (hbel.cell (p := ⟨b, off + k * 2, none⟩) hb).trans c1
        have c2w := (hbel.cell (p := ⟨b, off + k * 2 + 1, none⟩) hb).trans c2
        have CR : Hid (∀ W, Calls Try.prog 67 #[.agg #[.string (l.getD k ev0).s, .int .i64 (l.getD k ev0).k]] W fun e w' => e = .returned (.agg #[.string (l.getD k ev0).s, .int .i64 (l.getD k ev0).k]) ∧ Below W.heap.size W w') := fun W => toMrk _ W
        have HT : Hid (ecells (l.take (k + 1)) = ecells (l.take k) ++ [.string (l.getD k ev0).s, .int .i64 (l.getD k ev0).k]) := by
          show _ = _
          rw [List.take_succ_eq_append_getElem hlt, ecells_append, List.getD_eq_getElem?_getD, List.getElem?_eq_getElem hlt]
          rfl
        clear c1 c2
        generalize (l.getD k ev0).k = al at *
        generalize (l.getD k ev0).s = pa at *
        go_wp2_with fail
        refine (CR.out _).mono ?_
        rintro e w1 ⟨rfl, b1⟩
        have own1 := own_below hown b1
        have B1 := hbel.trans (b1.mono hbel.size)
        have hfz0 := own1.frozenAt (k * 2)
        have hfz1 := own1.frozenAt (k * 2 + 1)
        have hl2 : xs.length = l.length * 2 := hown.1
        obtain ⟨u0, hu0⟩ : ∃ u, w1.cell? ⟨w.heap.size, k * 2, none⟩ = some u := by
          rw [own1.cellAt (k * 2) (by omega)]
          exact ⟨_, List.getElem?_eq_getElem (by omega)⟩
        obtain ⟨u1, hu1⟩ : ∃ u, w1.cell? ⟨w.heap.size, k * 2 + 1, none⟩ = some u := by
          rw [own1.cellAt (k * 2 + 1) (by omega)]
          exact ⟨_, List.getElem?_eq_getElem (by omega)⟩
        obtain ⟨S1, G1⟩ := own1.stored (k * 2) (.string pa)
        obtain ⟨S2, G2⟩ := S1.stored (k * 2 + 1) (.int .i64 al)
        have HI2 : Hid (((xs.set (k * 2) (.string pa)).set (k * 2 + 1) (.int .i64 al)).take ((k + 1) * 2) = ecells (l.take (k + 1))) := by
          show _ = _
          rw [HT.out, ← HI.out]
          refine List.ext_getElem? fun j => ?_
          by_cases hj : j < k * 2
          · rw [List.getElem?_take, if_pos (by omega), List.getElem?_set_ne (by omega), List.getElem?_set_ne (by omega), List.getElem?_append_left (by rw [List.length_take]; omega), List.getElem?_take, if_pos hj]
          · rw [List.getElem?_append_right (by rw [List.length_take]; omega), List.length_take, Nat.min_eq_left (by omega), List.getElem?_take]
            by_cases hj0 : j = k * 2
            · subst hj0
              rw [if_pos (by omega), List.getElem?_set_ne (by omega), List.getElem?_set_self (by omega), Nat.sub_self]
              rfl
            · by_cases hj1 : j = k * 2 + 1
              · subst hj1
                rw [if_pos (by omega), List.getElem?_set_self (by rw [List.length_set]; omega), show k * 2 + 1 - k * 2 = 1 by omega]
                rfl
              · rw [if_neg (by omega), List.getElem?_eq_none (by simp; omega)]
        have B2 := (B1.grown G1 B1.size (fun k hk => by cases hk; exact Nat.le_refl _)).grown G2 (by have := G1.size; have := B1.size; omega) (fun k hk => by cases hk; exact Nat.le_refl _)
        clear S1 G1 G2 own1 B1 b1 HI CR hown c1w c2w hl2 hbel HT
        go_wp2_with fail
        go_roundw
        case rel => exact ⟨k + 1, _, by omega, by go_num, S2, HI2, B2⟩
        case measure => simp [intOf]; omega
      · have hki : ¬ (k : Int) < l.length := by omega
        have RR : wr.ownsRow w.heap.size 35 2 (.slice (some ⟨w.heap.size, 0, none⟩) l.length l.length) l.length (ecells l) := by
          have e := HI.out
          rw [show k = l.length by omega, List.take_length, List.take_of_length_le (by have := hown.1; omega)] at e
          rw [← e]
          exact hown
        clear hown HI
        go_wp2_with fail
        go_ret
        exact ⟨_, rfl, RR, hbel⟩
end Go.Proofs.Ytocgdbinfmdkcaa

namespace Go.Proofs.Ytocgdbinfmdkcaa
open Go.RowKit
set_option linter.unusedVariables false

def RSm (l : List (List EV)) : Prop := ∀ i, i < l.length → (l.getD i []).length ≤ 1073741824
theorem Try.infoRow : (Try.prog.info? 24).map (fun i => (i.zero, i.size, i.bytes)) = some (some (.slice none 0 0), 1, 24) := by kernel_rfl
set_option maxHeartbeats 4000000 in
theorem toRuns (l : List (List EV)) (v : Value) (w : World) (hn : l.length ≤ 1073741824) (hz : RSm l) (h : RunRow w v l) :
    Calls Try.prog 47 #[v] w fun e w' => ∃ v', e = .returned v' ∧ RunOwn w' w.heap.size w'.heap.size v' l ∧ Below w.heap.size w w' := by
  obtain ⟨i0, hi, hz0, hz1, hz2⟩ := info_parts Try.infoRow
  have HZ : Hid (RSm l) := hz
  clear hz
  rcases h with ⟨rfl, ao, cap, rfl⟩ | ⟨h0, b, off, cap, rfl, hb, hc⟩
  · clear hn HZ
    go_enter Try.func47, Try.ntmps47
    go_wp2_with (at_make; refine wpList_make_full _ rfl _ _ 25 rfl w.heap.size 24 i0 (.slice none 0 0) 1 Try.underlying25 hi hz0 hz1 _ _ _ _ 0 rfl rfl (by omega) (by omega) (by rw [hz2]; omega) (by unfold maxLen; omega) (Nat.le_refl _) ?_)
    intro wm hmo hgm
    have Bm : Below w.heap.size w wm := (Below.refl _ _).grown hgm (Nat.le_refl _) (fun k hk => by cases hk)
    have HMO : Hid (RunOwn wm w.heap.size wm.heap.size (.slice (some ⟨w.heap.size, 0, none⟩) 0 0) []) := ⟨_, hmo, (fun i hi => absurd hi (Nat.not_lt_zero _)), (fun a x ha => absurd ha (Nat.not_lt_zero _)), fun b hb => (hmo.lt b hb).2⟩
    clear hgm hmo
    go_wp2
    refine wp_loop_rounds 1 ?_
    rw [rounds_succ]
    go_wp2
    go_ret
    exact ⟨_, rfl, HMO.out, Bm⟩
  · have HC : Hid (∀ i, i < l.length → ∃ x, w.cell? ⟨b, off + i, none⟩ = some x ∧ EntRow w x (l.getD i [])) := hc
    clear hc
    go_enter Try.func47, Try.ntmps47
    go_wp2_with (at_make; refine wpList_make_full _ rfl _ _ 25 rfl w.heap.size 24 i0 (.slice none 0 0) 1 Try.underlying25 hi hz0 hz1 _ _ _ _ l.length rfl rfl (by omega) (by omega) (by rw [hz2]; omega) (by unfold maxLen; omega) (Nat.le_refl _) ?_)
    intro wm hmo hgm
    have Bm : Below w.heap.size w wm := (Below.refl _ _).grown hgm (Nat.le_refl _) (fun k hk => by cases hk)
    obtain ⟨xs0, hmo⟩ : ∃ xs0, wm.ownsRow w.heap.size 24 1 (.slice (some ⟨w.heap.size, 0, none⟩) l.length l.length) l.length xs0 := ⟨_, hmo⟩
    clear hgm
    go_wp2
    go_loopw [4] (fun i wr => ∃ (k : Nat) (xs : List Value), k ≤ l.length ∧ i = .int .i64 k ∧ wr.ownsRow w.heap.size 24 1 (.slice (some ⟨w.heap.size, 0, none⟩) l.length l.length) l.length xs ∧ Hid (InR wr w.heap.size wr.heap.size (.slice (some ⟨w.heap.size, 0, none⟩) l.length l.length) xs l k) ∧ Below w.heap.size w wr) (fun i _ => l.length - (intOf i).toNat)
    case atStart => exact ⟨0, xs0, Nat.zero_le _, rfl, hmo, ⟨(fun i hi => absurd hi (Nat.not_lt_zero _)), (fun a x ha => absurd ha (Nat.not_lt_zero _)), fun b hb => (hmo.lt b hb).2⟩, Bm⟩
    case round =>
      obtain ⟨k, xs, hk, rfl, hown, HI, hbel⟩ := hrel
      clear hmo Bm
      by_cases hlt : k < l.length
      · have hki : (k : Int) < l.length := by omega
        obtain ⟨p, c1, c2⟩ := HC.out k hlt
        have c1w := (hbel.cell (p := ⟨b, off + k, none⟩) hb).trans c1
        have CR : Hid (Calls Try.prog 46 #[p] wr fun e w' => ∃ v', e = .returned v' ∧ w'.ownsRow wr.heap.size 35 2 v' (l.getD k []).length (ecells (l.getD k [])) ∧ Below wr.heap.size wr w') := toMrks (l.getD k []) p wr (HZ.out k hlt) (c2.below hbel)
        clear c1 c2
        go_wp2_with fail
        refine CR.out.mono ?_
        rintro e w1 ⟨p', rfl, op, b1⟩
        have hw0 : w.heap.size < wr.heap.size := (hown.lt w.heap.size rfl).2
        have own1 := own_below hown b1
        have B1 := hbel.trans (b1.mono hbel.size)
        have hfz0 := own1.frozenAt k
        have hl2 : xs.length = l.length * 1 := hown.1
        obtain ⟨u0, hu0⟩ : ∃ u, w1.cell? ⟨w.heap.size, k, none⟩ = some u := by
          rw [own1.cellAt k (by omega)]
          exact ⟨_, List.getElem?_eq_getElem (by omega)⟩
        obtain ⟨S1, G1⟩ := own1.stored k p'
        have hz2' : (w1.setCell ⟨w.heap.size, k, none⟩ p').heap.size = w1.heap.size := by simp
        have HI2 : Hid (InR (w1.setCell ⟨w.heap.size, k, none⟩ p') w.heap.size (w1.setCell ⟨w.heap.size, k, none⟩ p').heap.size (.slice (some ⟨w.heap.size, 0, none⟩) l.length l.length) (xs.set k p') l (k + 1)) := by
          refine HI.out.more (p := p') (fun bb h1 h2 h3 => ?_) (fun a ha => ?_) (fun _ _ => rfl) (.inl rfl) (by rw [hz2']; exact b1.size) ?_ (own_wide1 (own_put op hw0 _ _) (by omega)) (fun bb e => ?_) (fun bb e1 e2 => ?_)
          · have hne : bb ≠ w.heap.size := fun e => h3 (by rw [e]; rfl)
            rw [Below.heap_setCell _ _ _ _ hne]
            exact b1.block bb h2
          · rw [List.getElem?_set_ne (by omega)]
          · rw [List.getElem?_set_self (by omega)]
          · rw [hz2']; exact op.lt bb e
          · have h1 := (op.lt bb e1).1; injection e2 with e2; have h2 : w.heap.size = bb := e2; omega
        have B2 := B1.grown G1 B1.size (fun k hk => by cases hk; exact Nat.le_refl _)
        obtain ⟨ao', cap', rfl⟩ := (EntRow.of_own' op).slice
        clear G1 own1 B1 b1 op HI CR hown c1w hl2 hbel hz2'
        generalize (l.getD k []).length = n1 at *
        go_wp2_with fail
        go_roundw
        case rel => exact ⟨k + 1, _, by omega, by go_num, S1, HI2, B2⟩
        case measure => simp [intOf]; omega
      · have hki : ¬ (k : Int) < l.length := by omega
        have HRR : Hid (RunOwn wr w.heap.size wr.heap.size (.slice (some ⟨w.heap.size, 0, none⟩) l.length l.length) l) := ⟨xs, hown, by have := HI.out; rwa [show k = l.length by omega] at this⟩
        clear hown HI
        go_wp2_with fail
        go_ret
        exact ⟨_, rfl, HRR.out, hbel⟩
theorem seen_result1 {fn : Func} {q : Tmp} (h : fn.results = #[.cell q 27]) (tmps : Array Value) (W : World) (B : Nat) (a b : Value)
    (hp : tmps[q]?.getD undef = .pointer (some ⟨B, 0, none⟩)) (ha : BAt W B [a, b]) : (results fn tmps).run Try.prog W = .ok (.agg #[a, b]) W := by
  have c0 := ha.1 0 _ rfl
  have c1 := ha.1 1 _ rfl
  simp [results, h, hp, asAddr, go_sem, c0, c1, Addr.add_lit]
set_option maxHeartbeats 2000000 in
theorem toSeen (m : List EV) (l : List (List EV)) (p q : Value) (w : World) (hm : m.length ≤ 1073741824) (hn : l.length ≤ 1073741824) (hz : RSm l) (hp : EntRow w p m) (hq : RunRow w q l) :
    Calls Try.prog 21 #[.agg #[p, q]] w fun e w' => ∃ ao ac bo bc, e = .returned (.agg #[.slice ao m.length ac, .slice bo l.length bc]) ∧ SnOwn w' w.heap.size w'.heap.size (.slice ao m.length ac) (.slice bo l.length bc) m l ∧ Below w.heap.size w w' := by
  obtain ⟨O, hO⟩ : ∃ O, O = ((w.alloc (.cells #[p, q] 44)).alloc (.cells #[.slice none 0 0, .slice none 0 0] 27)).alloc (.cells #[.slice none 0 0, .slice none 0 0] 27) := ⟨_, rfl⟩
  have hbO : Below w.heap.size w O := by rw [hO]; exact (((Below.refl _ _).alloc (Nat.le_refl _) _).alloc (by simp) _).alloc (by simp; omega) _
  have hzO : O.heap.size = w.heap.size + 3 := by rw [hO]; simp
  have A0 : BAt O w.heap.size [p, q] := by rw [hO]; exact ((BAt.new w #[p, q] _).alloc _).alloc _
  have A1 : BAt O (w.heap.size + 1) [.slice none 0 0, .slice none 0 0] := by
    rw [hO]
    have := BAt.new (w.alloc (.cells #[p, q] 44)) #[.slice none 0 0, .slice none 0 0] 27
    rw [World.size_alloc] at this
    exact this.alloc _
  have A2 : BAt O (w.heap.size + 1 + 1) [.slice none 0 0, .slice none 0 0] := by
    rw [hO]
    have := BAt.new ((w.alloc (.cells #[p, q] 44)).alloc (.cells #[.slice none 0 0, .slice none 0 0] 27)) #[.slice none 0 0, .slice none 0 0] 27
    rw [World.size_alloc, World.size_alloc] at this
    exact this
  have CT : Hid (Calls Try.prog 46 #[p] O fun e w' => ∃ v', e = .returned v' ∧ w'.ownsRow O.heap.size 35 2 v' m.length (ecells m) ∧ Below O.heap.size O w') := toMrks m p O hm (hp.below hbO)
  have CR : Hid (∀ W, Below w.heap.size w W → Calls Try.prog 47 #[q] W fun e w' => ∃ v', e = .returned v' ∧ RunOwn w' W.heap.size w'.heap.size v' l ∧ Below W.heap.size W w') := fun W hW => toRuns l q W hn hz (hq.below hW)
  obtain ⟨va, vc, rfl⟩ := hp.slice
  obtain ⟨qa, qc, rfl⟩ := hq.slice
  clear hp hq hz
  go_enter Try.func21, Try.ntmps21
  go_upto_region 2 with fail
  rw [← hO]
  clear hO
  have c0 := A0.1 0 _ rfl
  go_wp2_with fail
  refine CT.out.mono ?_
  rintro e w1 ⟨v', rfl, hown, b1⟩
  obtain ⟨ao', cap', rfl⟩ := (EntRow.of_own' hown).slice
  have B1 := hbO.trans (b1.mono hbO.size)
  have D0 := A0.below b1
  have D1 := A1.below b1
  have D2 := A2.below b1
  have HO : Hid (w1.ownsRow O.heap.size 35 2 (.slice ao' m.length cap') m.length (ecells m)) := hown
  have hz1 := b1.size
  clear hown CT A0 A1 A2 b1 hbO c0
  have o0 := D2.1 0 _ rfl
  have f2 := D2.2.1 0
  obtain ⟨V, hV⟩ : ∃ V, V = w1.setCell ⟨w.heap.size + 1 + 1, 0, none⟩ (.slice ao' m.length cap') := ⟨_, rfl⟩
  have hVz : V.heap.size = w1.heap.size := by rw [hV]; simp
  have BV : Below w.heap.size w V := by rw [hV]; exact B1.setCell (by simp; omega) _
  have E0 : BAt V w.heap.size [.slice va m.length vc, .slice qa l.length qc] := by rw [hV]; exact D0.other (by omega) 0 _
  have E1 : BAt V (w.heap.size + 1) [.slice none 0 0, .slice none 0 0] := by rw [hV]; exact D1.other (by omega) 0 _
  have E2 : BAt V (w.heap.size + 1 + 1) [.slice ao' m.length cap', .slice none 0 0] := by rw [hV]; exact D2.set 0 (by simp) _
  have HOV : Hid (V.ownsRow O.heap.size 35 2 (.slice ao' m.length cap') m.length (ecells m)) := by rw [hV]; exact own_put HO.out (by omega) _ _
  have CR2 := hidM (CR.out V BV)
  clear CR HO D0 D1 D2 B1
  have c1 := E0.1 1 _ rfl
  go_upto_region 3 with fail
  rw [← hV]
  clear hV o0 f2
  go_wp2_with fail
  refine CR2.out.mono ?_
  rintro e w2 ⟨v2, rfl, hr2, b2⟩
  obtain ⟨bo', bcap', rfl⟩ := hr2.row.slice
  have B2 := BV.trans (b2.mono BV.size)
  have F1 := E1.below b2
  have F2 := E2.below b2
  have HR2 : Hid (RunOwn w2 V.heap.size w2.heap.size (.slice bo' l.length bcap') l) := hr2
  have HO2 := hidM (own_below HOV.out b2)
  have HB2 : Hid (∀ b, Value.ownBlock (.slice ao' m.length cap') = some b → b < V.heap.size) := fun b hb => (HOV.out.lt b hb).2
  have hz2 := b2.size
  clear hr2 CR2 E0 E1 E2 b2 BV HOV c1
  have r0 := F1.1 0 _ rfl
  have r1 := F1.1 1 _ rfl
  have g1 := F1.2.1
  have o0 := F2.1 0 _ rfl
  have o1 := F2.1 1 _ rfl
  have g2 := F2.2.1
  go_wp2_with fail
  refine bodyPost_ret (seen_result1 rfl _ _ (w.heap.size + 1) (.slice ao' m.length cap') (.slice bo' l.length bcap') rfl ((((F1.other (by omega) 1 _).set 0 (by simp) _).set 1 (by simp) _))) rfl ⟨_, _, _, _, rfl, ?_, ?_⟩
  · have S0 := SnOwn.mk (base := O.heap.size) (top := w2.heap.size) HO2.out HR2.out (by omega) (Nat.le_refl _) (fun b hb => by have := HB2.out b hb; omega) (fun b hb => .inl (HB2.out b hb))
    obtain ⟨vs, g1, g2⟩ := (S0.same (w' := ((w2.setCell ⟨w.heap.size + 1 + 1, 1, none⟩ (.slice bo' l.length bcap')).setCell ⟨w.heap.size + 1, 0, none⟩ (.slice ao' m.length cap')).setCell ⟨w.heap.size + 1, 1, none⟩ (.slice bo' l.length bcap')) (fun bb h1 h2 => by
      rw [Below.heap_setCell _ _ _ _ (by simp; omega), Below.heap_setCell _ _ _ _ (by simp; omega), Below.heap_setCell _ _ _ _ (by simp; omega)])).wide (base' := w.heap.size) (by omega)
    exact ⟨vs, g1, g2.same (by simp) fun _ _ _ _ => rfl⟩
  · exact (((B2.setCell (by simp; omega) _).setCell (by simp) _).setCell (by simp) _)
end Go.Proofs.Ytocgdbinfmdkcaa

namespace Go.Proofs.Ytocgdbinfmdkcaa
open Go.RowKit
set_option linter.unusedVariables false

set_option maxHeartbeats 2000000 in
theorem eqMrk (a : Int) (s : ByteArray) (w : World) :
    Calls Try.prog 68 #[.agg #[.string s, .int .i64 a], .agg #[.string s, .int .i64 a]] w fun e w' => e = .returned (.bool true) ∧ Below w.heap.size w w' := by
  have hbO : Below w.heap.size w ((w.alloc (.cells #[.string s, .int .i64 a] 35)).alloc (.cells #[.string s, .int .i64 a] 35)) := ((Below.refl _ _).alloc (Nat.le_refl _) _).alloc (by simp) _
  go_enter Try.func68, Try.ntmps68
  go_wp2_with fail
  go_ret
  exact ⟨rfl, by first | exact hbO | exact below_drewN hbO _ | exact hbO.drew | exact hbO.drew.drew⟩
set_option maxHeartbeats 4000000 in
theorem eqMrks (l : List EV) (va vb : Value) (w : World) (hl : l.length ≤ 1099511627776) (ha : EntRow w va l) (hb : EntRow w vb l) :
    Calls Try.prog 48 #[va, vb] w fun e w' => e = .returned (.bool true) ∧ Below w.heap.size w w' := by
  rcases ha with ⟨rfl, ao, cap, rfl⟩ | ⟨h0, g, off, cap, rfl, hg, hc⟩
  · obtain ⟨bo, cap', rfl⟩ := hb.slice
    clear hb hl
    go_enter Try.func48, Try.ntmps48
    go_wp2
    refine wp_loop_rounds 1 ?_
    rw [rounds_succ]
    go_wp2
    go_ret
    exact ⟨rfl, Below.refl _ _⟩
  · rcases hb with ⟨rfl, _⟩ | ⟨_, g', off', cap', rfl, hg', hc'⟩
    · exact absurd h0 (by simp)
    · have HC : Hid (∀ i, i < l.length → w.cell? ⟨g, off + i * 2, none⟩ = some (.string (l.getD i ev0).s) ∧ w.cell? ⟨g, off + i * 2 + 1, none⟩ = some (.int .i64 (l.getD i ev0).k)) := hc
      have HC' : Hid (∀ i, i < l.length → w.cell? ⟨g', off' + i * 2, none⟩ = some (.string (l.getD i ev0).s) ∧ w.cell? ⟨g', off' + i * 2 + 1, none⟩ = some (.int .i64 (l.getD i ev0).k)) := hc'
      clear hc hc'
      go_enter Try.func48, Try.ntmps48
      go_wp2
      go_loopw [5] (fun i wr => ∃ k : Nat, k ≤ l.length ∧ i = .int .i64 k ∧ Below w.heap.size w wr) (fun i _ => l.length - (intOf i).toNat)
      case atStart => exact ⟨0, Nat.zero_le _, rfl, Below.refl _ _⟩
      case round =>
        obtain ⟨k, hk, rfl, hbel⟩ := hrel
        by_cases hlt : k < l.length
        · have hki : (k : Int) < l.length := by omega
          obtain ⟨c1, c3⟩ := HC.out k hlt
          obtain ⟨d1, d3⟩ := HC'.out k hlt
          have c1w := (hbel.cell (p := ⟨g, off + k * 2, none⟩) hg).trans c1
          have c3w := (hbel.cell (p := ⟨g, off + k * 2 + 1, none⟩) hg).trans c3
          have d1w := (hbel.cell (p := ⟨g', off' + k * 2, none⟩) hg').trans d1
          have d3w := (hbel.cell (p := ⟨g', off' + k * 2 + 1, none⟩) hg').trans d3
          have CE : Hid (∀ W, Calls Try.prog 68 #[.agg #[.string (l.getD k ev0).s, .int .i64 (l.getD k ev0).k], .agg #[.string (l.getD k ev0).s, .int .i64 (l.getD k ev0).k]] W fun e w' => e = .returned (.bool true) ∧ Below W.heap.size W w') := fun W => eqMrk _ _ W
          clear c1 c3 d1 d3
          generalize (l.getD k ev0).k = al at *
          generalize (l.getD k ev0).s = pa at *
          go_wp2_with fail
          go_region_with (go_at_call 68; refine (CE.out _).mono ?_; rintro e wc ⟨rfl, hbc⟩)
          all_goals
            have B1 := hbel.drew.trans (hbc.mono hbel.size)
            clear hbc CE
            go_wp2_with fail
            refine ⟨⟨k + 1, by omega, by go_num, B1⟩, ?_⟩
            simp [intOf]
            omega
        · have hki : ¬ (k : Int) < l.length := by omega
          go_wp2_with fail
          go_ret
          exact ⟨rfl, hbel⟩
end Go.Proofs.Ytocgdbinfmdkcaa

namespace Go.Proofs.Ytocgdbinfmdkcaa
open Go.RowKit
set_option linter.unusedVariables false

set_option maxHeartbeats 4000000 in
theorem eqRuns (l : List (List EV)) (va vb : Value) (w : World) (hl : l.length ≤ 1099511627776) (hr : ∀ i, i < l.length → (l.getD i []).length ≤ 1099511627776) (ha : RunRow w va l) (hb : RunRow w vb l) :
    Calls Try.prog 49 #[va, vb] w fun e w' => e = .returned (.bool true) ∧ Below w.heap.size w w' := by
  rcases ha with ⟨rfl, ao, cap, rfl⟩ | ⟨h0, g, off, cap, rfl, hg, hc⟩
  · obtain ⟨bo, cap', rfl⟩ := hb.slice
    clear hb hl hr
    go_enter Try.func49, Try.ntmps49
    go_wp2
    refine wp_loop_rounds 1 ?_
    rw [rounds_succ]
    go_wp2
    go_ret
    exact ⟨rfl, Below.refl _ _⟩
  · rcases hb with ⟨rfl, _⟩ | ⟨_, g', off', cap', rfl, hg', hc'⟩
    · exact absurd h0 (by simp)
    · have HC : Hid (∀ i, i < l.length → ∃ x, w.cell? ⟨g, off + i, none⟩ = some x ∧ EntRow w x (l.getD i [])) := hc
      have HC' : Hid (∀ i, i < l.length → ∃ x, w.cell? ⟨g', off' + i, none⟩ = some x ∧ EntRow w x (l.getD i [])) := hc'
      have HR := hidM hr
      clear hc hc' hr
      go_enter Try.func49, Try.ntmps49
      go_wp2
      go_loopw [5] (fun i wr => ∃ k : Nat, k ≤ l.length ∧ i = .int .i64 k ∧ Below w.heap.size w wr) (fun i _ => l.length - (intOf i).toNat)
      case atStart => exact ⟨0, Nat.zero_le _, rfl, Below.refl _ _⟩
      case round =>
        obtain ⟨k, hk, rfl, hbel⟩ := hrel
        by_cases hlt : k < l.length
        · have hki : (k : Int) < l.length := by omega
          obtain ⟨x, c1, c3⟩ := HC.out k hlt
          obtain ⟨y, d1, d3⟩ := HC'.out k hlt
          have c1w := (hbel.cell (p := ⟨g, off + k, none⟩) hg).trans c1
          have d1w := (hbel.cell (p := ⟨g', off' + k, none⟩) hg').trans d1
          have CE : Hid (∀ W, Below w.heap.size w W → Calls Try.prog 48 #[x, y] W fun e w' => e = .returned (.bool true) ∧ Below W.heap.size W w') := fun W hW => eqMrks (l.getD k []) x y W (HR.out k hlt) (c3.below hW) (d3.below hW)
          obtain ⟨xa, xc, hx⟩ := c3.slice
          obtain ⟨ya, yc, hy⟩ := d3.slice
          clear c1 c3 d1 d3
          generalize (l.getD k []).length = XN at *
          subst hx hy
          go_wp2_with fail
          go_region_with (go_at_call 48; refine (CE.out _ hbel.drew).mono ?_; rintro e wc ⟨rfl, hbc⟩)
          all_goals
            have B1 := hbel.drew.trans (hbc.mono hbel.size)
            clear hbc CE
            go_wp2_with fail
            refine ⟨⟨k + 1, by omega, by go_num, B1⟩, ?_⟩
            simp [intOf]
            omega
        · have hki : ¬ (k : Int) < l.length := by omega
          go_wp2_with fail
          go_ret
          exact ⟨rfl, hbel⟩
set_option maxHeartbeats 4000000 in
theorem eqSeen (m : List EV) (l : List (List EV)) (p q p' q' : Value) (w : World) (hm : m.length ≤ 1099511627776) (hl : l.length ≤ 1099511627776) (hr : ∀ i, i < l.length → (l.getD i []).length ≤ 1099511627776) (ha : EntRow w p m) (hb : RunRow w q l) (ha' : EntRow w p' m) (hb' : RunRow w q' l) :
    Calls Try.prog 22 #[.agg #[p, q], .agg #[p', q']] w fun e w' => e = .returned (.bool true) ∧ Below w.heap.size w w' := by
  obtain ⟨O, hO⟩ : ∃ O, O = (w.alloc (.cells #[p, q] 27)).alloc (.cells #[p', q'] 27) := ⟨_, rfl⟩
  have bO : Below w.heap.size w O := by rw [hO]; exact ((Below.refl _ _).alloc (Nat.le_refl _) _).alloc (by simp) _
  have A0 : BAt O w.heap.size [p, q] := by rw [hO]; exact (BAt.new w #[p, q] _).alloc _
  have A1 : BAt O (w.heap.size + 1) [p', q'] := by
    rw [hO]
    have := BAt.new (w.alloc (.cells #[p, q] 27)) #[p', q'] 27
    rwa [World.size_alloc] at this
  have CE : Hid (∀ W, Below w.heap.size w W → Calls Try.prog 48 #[p, p'] W fun e w' => e = .returned (.bool true) ∧ Below W.heap.size W w') := fun W hW => eqMrks m p p' W hm (ha.below hW) (ha'.below hW)
  have CR : Hid (∀ W, Below w.heap.size w W → Calls Try.prog 49 #[q, q'] W fun e w' => e = .returned (.bool true) ∧ Below W.heap.size W w') := fun W hW => eqRuns l q q' W hl hr (hb.below hW) (hb'.below hW)
  obtain ⟨_, _, rfl⟩ := ha.slice
  obtain ⟨_, _, rfl⟩ := hb.slice
  obtain ⟨_, _, rfl⟩ := ha'.slice
  obtain ⟨_, _, rfl⟩ := hb'.slice
  clear ha hb ha' hb' hr hm hl
  go_enter Try.func22, Try.ntmps22
  go_upto_region 1 with fail
  rw [← hO]
  clear hO
  have c0 := A0.1 0 _ rfl
  have d0 := A1.1 0 _ rfl
  go_wp2_with fail
  refine (CE.out _ bO).mono ?_
  rintro e wc ⟨rfl, bc⟩
  have B1 := bO.trans (bc.mono bO.size)
  have c1 := (A0.below bc).1 1 _ rfl
  have d1 := (A1.below bc).1 1 _ rfl
  clear c0 d0 bc CE
  go_wp2_with fail
  refine (CR.out _ B1).mono ?_
  rintro e wd ⟨rfl, bd⟩
  have B2 := B1.trans (bd.mono B1.size)
  clear bd CR
  go_wp2_with fail
  go_ret
  exact ⟨rfl, B2⟩
end Go.Proofs.Ytocgdbinfmdkcaa

namespace Go.Proofs.Ytocgdbinfmdkcaa
open Go.RowKit Go.WideShapes Go.ChangeShapes
set_option maxRecDepth 100000

section
variable {H : Type} {enc : TypeId × Value → H} {W : World} {base : Nat} {sp : Nat → Bool} {held : Bool}
theorem open_mrks {m : Nat} {v : Value} {y : DataW H × List MemPlace} (h : DataW.trod enc Try.prog W base sp held m 41 [v] = some y) : ∃ l : List EV, EntRow W v l ∧ EMx l := by
  rcases Go.Deep.open_slice_pairs Try.underlying41 Try.underlying88 (by kernel_rfl) rfl rfl (by kernel_rfl) (by kernel_rfl) h with ⟨hcs, _⟩ | ⟨a, len, cap, m', n, V0, V1, D0, D1, P0, P1, hcs, hb, hl, hm, hmm, _, hc⟩
  · cases hcs
    exact ⟨[], .inl ⟨rfl, _, _, rfl⟩, by decide, fun i hi => absurd hi (Nat.not_lt_zero _)⟩
  · cases hcs
    have hle : len ≤ m' := by rw [hmm]; split <;> omega
    have key : ∀ i, i < len → ∃ r : EV, W.cell? (a.add (i * 2)) = some (.string r.s) ∧ W.cell? (a.add (i * 2 + 1)) = some (.int .i64 r.k) ∧ r.s.size ≤ maxLen := fun i hi => by
      obtain ⟨h1, h2, h3, h4⟩ := hc i (by omega)
      obtain ⟨b, g1, _, _⟩ := DataW.trod_int Try.underlying3 h4
      obtain ⟨s, g3, _, g5⟩ := DataW.trod_string Try.underlying9 h3
      have g2 : V1 i = .int .i64 b := by simpa using g1
      have g4 : V0 i = .string s := by simpa using g3
      exact ⟨⟨b, s⟩, by rw [h1, g4], by rw [h2, g2], g5⟩
    haveI : Inhabited EV := ⟨ev0⟩
    obtain ⟨R, hR⟩ := Go.Deep.choose_lt key
    refine ⟨(List.range len).map R, ?_, by simp; omega, fun i hi => ?_⟩
    · by_cases h0 : len = 0
      · subst h0
        exact .inl ⟨rfl, _, _, rfl⟩
      · have h00 := (hR 0 (by omega)).1
        have hab : a = ⟨a.block, a.off, none⟩ := spot_none (by rwa [Nat.zero_mul] at h00)
        have hadd : ∀ k, a.add k = ⟨a.block, a.off + k, none⟩ := fun k => by
          rw [show a = ⟨a.block, a.off, none⟩ from hab]; exact add_plain ..
        refine .inr ⟨by simp; omega, a.block, a.off, cap - len, ?_, ?_, fun i hi => ?_⟩
        · simp
          exact ⟨hab, by omega⟩
        · have := World.block_lt_of_cell? W _ h00
          exact this
        · rw [List.length_map, List.length_range] at hi
          rw [getD_map _ R len i hi]
          obtain ⟨h1, h3, _⟩ := hR i hi
          rw [hadd] at h1 h3
          exact ⟨h1, by rw [Nat.add_assoc]; exact h3⟩
    · rw [List.length_map, List.length_range] at hi
      rw [getD_map _ R len i hi]
      exact (hR i hi).2.2
theorem open_runs {m : Nat} {v : Value} {y : DataW H × List MemPlace} (h : DataW.trod enc Try.prog W base sp held m 42 [v] = some y) : ∃ l : List (List EV), RunRow W v l ∧ RMx l := by
  rcases Go.Deep.open_slice1 Try.underlying42 (by kernel_rfl) h with ⟨hcs, _⟩ | ⟨a, len, cap, m', n, V, D, Pl, hcs, hb, hl, hm, hmm, _, hc⟩
  · cases hcs
    exact ⟨[], .inl ⟨rfl, _, _, rfl⟩, by decide, fun i hi => absurd hi (Nat.not_lt_zero _)⟩
  · cases hcs
    have hle : len ≤ m' := by rw [hmm]; split <;> omega
    have key : ∀ i, i < len → ∃ r : List EV, W.cell? (a.add i) = some (V i) ∧ EntRow W (V i) r ∧ EMx r := fun i hi => by
      obtain ⟨h1, h2⟩ := hc i (by omega)
      obtain ⟨r, r1, r2⟩ := open_mrks h2
      exact ⟨r, h1, r1, r2⟩
    obtain ⟨R, hR⟩ := Go.Deep.choose_lt key
    refine ⟨(List.range len).map R, ?_, by simp; omega, fun i hi => ?_⟩
    · by_cases h0 : len = 0
      · subst h0
        exact .inl ⟨rfl, _, _, rfl⟩
      · have h00 := (hR 0 (by omega)).1
        have hab : a = ⟨a.block, a.off, none⟩ := spot_none h00
        have hadd : ∀ k, a.add k = ⟨a.block, a.off + k, none⟩ := fun k => by
          rw [show a = ⟨a.block, a.off, none⟩ from hab]; exact add_plain ..
        refine .inr ⟨by simp; omega, a.block, a.off, cap - len, ?_, ?_, fun i hi => ?_⟩
        · simp
          exact ⟨hab, by omega⟩
        · have := World.block_lt_of_cell? W _ h00
          exact this
        · rw [List.length_map, List.length_range] at hi
          rw [getD_map _ R len i hi]
          obtain ⟨h1, h3, _⟩ := hR i hi
          rw [hadd] at h1
          exact ⟨V i, h1, h3⟩
    · rw [List.length_map, List.length_range] at hi
      rw [getD_map _ R len i hi]
      exact (hR i hi).2.2
theorem open_seen {r0 : Reach} {b0 : Nat} {v : Value} {d : DataW H} {ps : List MemPlace} (hval : Value.okWide Try.prog W r0 b0 44 v) (hd : DataW.Trod enc Try.prog W base sp held 44 v d ps) :
    ∃ (p q : Value) (l : List EV) (r : List (List EV)), v = .agg #[p, q] ∧ (EntRow W p l ∧ RunRow W q r) ∧ (EMx l ∧ RMx r) := by
  obtain ⟨cs, rfl, hsz⟩ := okWide_struct Try.underlying44 hval
  obtain ⟨m, hm⟩ := hd
  have hc2 : cs.size = 2 := by
    rw [hsz]; kernel_rfl
  obtain ⟨L⟩ := cs
  match L, hc2, hm with
  | [v0, v1], _, hm =>
    obtain ⟨y0, y1, n, _, _, q0, q1⟩ := trod_struct2 Try.underlying44 hm
    obtain ⟨l, h1, h2⟩ := open_mrks (show DataW.trod enc Try.prog W base sp held n 41 [v0] = some y0 from q0)
    obtain ⟨r, h3, h4⟩ := open_runs (show DataW.trod enc Try.prog W base sp held n 42 [v1] = some y1 from q1)
    exact ⟨v0, v1, l, r, rfl, ⟨h1, h3⟩, h2, h4⟩
end
end Go.Proofs.Ytocgdbinfmdkcaa
