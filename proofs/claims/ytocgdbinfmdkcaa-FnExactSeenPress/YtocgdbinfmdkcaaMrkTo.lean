/- Contracts of the laws' helpers that copy marks. -/
import Derived.Test.YtocgdbinfmdkcaaRows
import Derived.Test.YtocgdbinfmdkcaaEntRow
import Derived.Test.YtocgdbinfmdkcaaStrTo
import Derived.Test.YtocgdbinfmdkcaaBlockAt
import Derived.Handy
import Derived.Deep.DeepCutAuto
namespace Go.Proofs.Ytocgdbinfmdkcaa
open Go.RowKit
set_option linter.unusedVariables false

theorem mrk_result1 {fn : Func} {q : Tmp} (h : fn.results = #[.cell q 35]) (tmps : Array Value) (W : World) (B : Nat) (a b : Value)
    (hp : tmps[q]?.getD undef = .pointer (some ⟨B, 0, none⟩)) (ha : BAt W B [a, b]) : (results fn tmps).run Try.prog W = .ok (.agg #[a, b]) W := by
  have c0 := ha.1 0 _ rfl
  have c1 := ha.1 1 _ rfl
  simp [results, h, hp, asAddr, go_sem, c0, c1, Addr.add_lit]
set_option maxHeartbeats 2000000 in
theorem toMrk (x : EV) (w : World) :
    Calls Try.prog 67 #[.agg #[.string x.s, .int .i64 x.k]] w fun e w' => e = .returned (.agg #[.string x.s, .int .i64 x.k]) ∧ Below w.heap.size w w' := by
  obtain ⟨O, hO⟩ : ∃ O, O = ((w.alloc (.cells #[.string x.s, .int .i64 x.k] 88)).alloc (.cells #[.string ⟨#[]⟩, .int .i64 0] 35)).alloc (.cells #[.string ⟨#[]⟩, .int .i64 0] 35) := ⟨_, rfl⟩
  have hbO : Below w.heap.size w O := by rw [hO]; exact (((Below.refl _ _).alloc (Nat.le_refl _) _).alloc (by simp) _).alloc (by simp; omega) _
  have hzO : O.heap.size = w.heap.size + 3 := by rw [hO]; simp
  have A0 : BAt O w.heap.size [.string x.s, .int .i64 x.k] := by rw [hO]; exact ((BAt.new w #[.string x.s, .int .i64 x.k] _).alloc _).alloc _
  have A1 : BAt O (w.heap.size + 1) [.string ⟨#[]⟩, .int .i64 0] := by
    rw [hO]
    have := BAt.new (w.alloc (.cells #[.string x.s, .int .i64 x.k] 88)) #[.string ⟨#[]⟩, .int .i64 0] 35
    rw [World.size_alloc] at this
    exact this.alloc _
  have A2 : BAt O (w.heap.size + 1 + 1) [.string ⟨#[]⟩, .int .i64 0] := by
    rw [hO]
    have := BAt.new ((w.alloc (.cells #[.string x.s, .int .i64 x.k] 88)).alloc (.cells #[.string ⟨#[]⟩, .int .i64 0] 35)) #[.string ⟨#[]⟩, .int .i64 0] 35
    rw [World.size_alloc, World.size_alloc] at this
    exact this
  go_enter Try.func67, Try.ntmps67
  go_upto_region 2 with fail
  rw [← hO]
  clear hO
  have c0 := A0.1 0 _ rfl
  have c1 := A0.1 1 _ rfl
  have r0 := A1.1 0 _ rfl
  have r1 := A1.1 1 _ rfl
  have f1 := A1.2.1
  have o0 := A2.1 0 _ rfl
  have o1 := A2.1 1 _ rfl
  have f2 := A2.2.1
  go_wp2_with fail
  refine bodyPost_ret (mrk_result1 rfl _ _ (w.heap.size + 1) (.string x.s) (.int .i64 x.k) rfl ((((A1.other (by omega) 0 _).other (by omega) 1 _).set 0 (by simp) _).set 1 (by simp) _)) rfl ⟨rfl, ?_⟩
  exact (((hbO.setCell (by simp; omega) _).setCell (by simp; omega) _).setCell (by simp) _).setCell (by simp) _
theorem Try.infoMrk : (Try.prog.info? 35).map (fun i => (i.zero, i.size, i.bytes)) = some (some (.agg #[.string ⟨#[]⟩, .int .i64 0]), 2, 24) := by kernel_rfl
set_option maxHeartbeats 4000000 in
theorem toMrks (l : List EV) (v : Value) (w : World) (hn : l.length ≤ 1073741824) (h : EntRow w v l) :
    Calls Try.prog 46 #[v] w fun e w' => ∃ v', e = .returned v' ∧ w'.ownsRow w.heap.size 35 2 v' l.length (ecells l) ∧ Below w.heap.size w w' := by
  obtain ⟨i0, hi, hz0, hz1, hz2⟩ := info_parts Try.infoMrk
  rcases h with ⟨rfl, ao, cap, rfl⟩ | ⟨h0, b, off, cap, rfl, hb, hc⟩
  · clear hn
    go_enter Try.func46, Try.ntmps46
    go_wp2_with (at_make; refine wpList_make_full _ rfl _ _ 24 rfl w.heap.size 35 i0 (.agg #[.string ⟨#[]⟩, .int .i64 0]) 2 Try.underlying24 hi hz0 hz1 _ _ _ _ 0 rfl rfl (by omega) (by omega) (by rw [hz2]; omega) (by unfold maxLen; omega) (Nat.le_refl _) ?_)
    intro wm hmo hgm
    have Bm : Below w.heap.size w wm := (Below.refl _ _).grown hgm (Nat.le_refl _) (fun k hk => by cases hk)
    clear hgm
    go_wp2
    refine wp_loop_rounds 1 ?_
    rw [rounds_succ]
    go_wp2
    go_ret
    exact ⟨_, rfl, by simpa [madeCells, ecells] using hmo, Bm⟩
  · have HC : Hid (∀ i, i < l.length → w.cell? ⟨b, off + i * 2, none⟩ = some (.string (l.getD i ev0).s) ∧ w.cell? ⟨b, off + i * 2 + 1, none⟩ = some (.int .i64 (l.getD i ev0).k)) := hc
    clear hc
    go_enter Try.func46, Try.ntmps46
    go_wp2_with (at_make; refine wpList_make_full _ rfl _ _ 24 rfl w.heap.size 35 i0 (.agg #[.string ⟨#[]⟩, .int .i64 0]) 2 Try.underlying24 hi hz0 hz1 _ _ _ _ l.length rfl rfl (by omega) (by omega) (by rw [hz2]; omega) (by unfold maxLen; omega) (Nat.le_refl _) ?_)
    intro wm hmo hgm
    have Bm : Below w.heap.size w wm := (Below.refl _ _).grown hgm (Nat.le_refl _) (fun k hk => by cases hk)
    obtain ⟨xs0, hmo⟩ : ∃ xs0, wm.ownsRow w.heap.size 35 2 (.slice (some ⟨w.heap.size, 0, none⟩) l.length l.length) l.length xs0 := ⟨_, hmo⟩
    clear hgm
    go_wp2
    go_loopw [4] (fun i wr => ∃ (k : Nat) (xs : List Value), k ≤ l.length ∧ i = .int .i64 k ∧ wr.ownsRow w.heap.size 35 2 (.slice (some ⟨w.heap.size, 0, none⟩) l.length l.length) l.length xs ∧ Hid (xs.take (k * 2) = ecells (l.take k)) ∧ Below w.heap.size w wr) (fun i _ => l.length - (intOf i).toNat)
    case atStart => exact ⟨0, xs0, Nat.zero_le _, rfl, hmo, (by show _ = _; rw [Nat.zero_mul, List.take_zero, List.take_zero]; rfl), Bm⟩
    case round =>
      obtain ⟨k, xs, hk, rfl, hown, HI, hbel⟩ := hrel
      clear hmo Bm
      by_cases hlt : k < l.length
      · have hki : (k : Int) < l.length := by omega
        obtain ⟨c1, c2⟩ := HC.out k hlt
        have c1w := (hbel.cell (p := ⟨b, off + k * 2, none⟩) hb).trans c1
        have c2w := (hbel.cell (p := ⟨b, off + k * 2 + 1, none⟩) hb).trans c2
        have CR : Hid (∀ W, Calls Try.prog 67 #[.agg #[.string (l.getD k ev0).s, .int .i64 (l.getD k ev0).k]] W fun e w' => e = .returned (.agg #[.string (l.getD k ev0).s, .int .i64 (l.getD k ev0).k]) ∧ Below W.heap.size W w') := fun W => toMrk _ W
        have HT : Hid (ecells (l.take (k + 1)) = ecells (l.take k) ++ [.string (l.getD k ev0).s, .int .i64 (l.getD k ev0).k]) := by
          show _ = _
          rw [List.take_succ_eq_append_getElem hlt, ecells_append, List.getD_eq_getElem?_getD, List.getElem?_eq_getElem hlt]
          rfl
        clear c1 c2
        generalize (l.getD k ev0).k = al at *
        generalize (l.getD k ev0).s = pa at *
        go_wp2_with fail
        refine (CR.out _).mono ?_
        rintro e w1 ⟨rfl, b1⟩
        have own1 := own_below hown b1
        have B1 := hbel.trans (b1.mono hbel.size)
        have hfz0 := own1.frozenAt (k * 2)
        have hfz1 := own1.frozenAt (k * 2 + 1)
        have hl2 : xs.length = l.length * 2 := hown.1
        obtain ⟨u0, hu0⟩ : ∃ u, w1.cell? ⟨w.heap.size, k * 2, none⟩ = some u := by
          rw [own1.cellAt (k * 2) (by omega)]
          exact ⟨_, List.getElem?_eq_getElem (by omega)⟩
        obtain ⟨u1, hu1⟩ : ∃ u, w1.cell? ⟨w.heap.size, k * 2 + 1, none⟩ = some u := by
          rw [own1.cellAt (k * 2 + 1) (by omega)]
          exact ⟨_, List.getElem?_eq_getElem (by omega)⟩
        obtain ⟨S1, G1⟩ := own1.stored (k * 2) (.string pa)
        obtain ⟨S2, G2⟩ := S1.stored (k * 2 + 1) (.int .i64 al)
        have HI2 : Hid (((xs.set (k * 2) (.string pa)).set (k * 2 + 1) (.int .i64 al)).take ((k + 1) * 2) = ecells (l.take (k + 1))) := by
          show _ = _
          rw [HT.out, ← HI.out]
          refine List.ext_getElem? fun j => ?_
          by_cases hj : j < k * 2
          · rw [List.getElem?_take, if_pos (by omega), List.getElem?_set_ne (by omega), List.getElem?_set_ne (by omega), List.getElem?_append_left (by rw [List.length_take]; omega), List.getElem?_take, if_pos hj]
          · rw [List.getElem?_append_right (by rw [List.length_take]; omega), List.length_take, Nat.min_eq_left (by omega), List.getElem?_take]
            by_cases hj0 : j = k * 2
            · subst hj0
              rw [if_pos (by omega), List.getElem?_set_ne (by omega), List.getElem?_set_self (by omega), Nat.sub_self]
              rfl
            · by_cases hj1 : j = k * 2 + 1
              · subst hj1
                rw [if_pos (by omega), List.getElem?_set_self (by rw [List.length_set]; omega), show k * 2 + 1 - k * 2 = 1 by omega]
                rfl
              · rw [if_neg (by omega), List.getElem?_eq_none (by simp; omega)]
        have B2 := (B1.grown G1 B1.size (fun k hk => by cases hk; exact Nat.le_refl _)).grown G2 (by have := G1.size; have := B1.size; omega) (fun k hk => by cases hk; exact Nat.le_refl _)
        clear S1 G1 G2 own1 B1 b1 HI CR hown c1w c2w hl2 hbel HT
        go_wp2_with fail
        go_roundw
        case rel => exact ⟨k + 1, _, by omega, by go_num, S2, HI2, B2⟩
        case measure => simp [intOf]; omega
      · have hki : ¬ (k : Int) < l.length := by omega
        have RR : wr.ownsRow w.heap.size 35 2 (.slice (some ⟨w.heap.size, 0, none⟩) l.length l.length) l.length (ecells l) := by
          have e := HI.out
          rw [show k = l.length by omega, List.take_length, List.take_of_length_le (by have := hown.1; omega)] at e
          rw [← e]
          exact hown
        clear hown HI
        go_wp2_with fail
        go_ret
        exact ⟨_, rfl, RR, hbel⟩
end Go.Proofs.Ytocgdbinfmdkcaa
