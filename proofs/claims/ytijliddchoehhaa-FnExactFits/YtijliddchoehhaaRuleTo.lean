/- Contracts of the laws' helpers that copy and compare: rows of texts, rules, rows of rules. -/
import Derived.Test.YtijliddchoehhaaRows
import Derived.Test.YtijliddchoehhaaRuleRow
import Derived.Test.YtijliddchoehhaaBlockAt
import Derived.Test.YtijliddchoehhaaRowMore
import Derived.Test.YtijliddchoehhaaPctWalk
import Derived.BigQuiet
import Derived.Deep.QuietTactic
import Derived.Deep.RegionWith
namespace Go.Proofs.Ytijliddchoehhaa
open Go.RowKit
set_option linter.unusedVariables false

theorem StrRow.grown {w w' : World} {v : Value} {l : List ByteArray} {B : Nat} (h : StrRow w v l) (hg : w.grownBy w' (some B)) (hne : v.ownBlock ≠ some B) : StrRow w' v l := by
  rcases h with h | ⟨h0, g, off, cap, rfl, h2, h3⟩
  · exact .inl h
  · have hgB : some g ≠ some B := fun e => hne e
    refine .inr ⟨h0, g, off, cap, rfl, Nat.lt_of_lt_of_le h2 hg.size, fun i hi => hg.cell (a := ⟨g, off + i, none⟩) (h3 i hi) hgB⟩
theorem own_high {w : World} {base : Nat} {e : TypeId} {size n : Nat} {v : Value} {xs : List Value} (h : w.ownsRow base e size v n xs) {B : Nat} (hB : B < base) : v.ownBlock ≠ some B := fun e => by
  have := (h.lt B e).1
  omega
theorem own_wide0 {w : World} {base base' : Nat} {e : TypeId} {size n : Nat} {v : Value} {xs : List Value} (h : w.ownsRow base e size v n xs) (hb : base' ≤ base) : w.ownsRow base' e size v n xs := by
  refine ⟨h.1, ?_⟩
  rcases h.2 with h | ⟨g, cap, cur, h1, h2, h3⟩
  · exact .inl h
  · exact .inr ⟨g, cap, cur, h1, Nat.le_trans hb h2, h3⟩
theorem to_setS (fs : List ByteArray) (k : Nat) (h : k < fs.length) (x : Value) (xs : List Value) : (scells (fs.take k) ++ x :: xs).set k (.string (fs.getD k ByteArray.empty)) = scells (fs.take (k + 1)) ++ xs := by
  have hl : (scells (fs.take k)).length = k := by simp [scells]; omega
  rw [List.set_append_right _ _ (by omega), hl, Nat.sub_self, List.set_cons_zero, btake_snoc fs k h, scells_snoc, List.append_assoc]
  rfl
set_option maxHeartbeats 2000000 in
theorem toStringS (l : List ByteArray) (v : Value) (w : World) (hn : l.length ≤ 1099511627776) (h : StrRow w v l) :
    Calls Try.prog 28 #[v] w fun e w' => ∃ v', e = .returned v' ∧ w'.ownsRow w.heap.size 9 1 v' l.length (scells l) ∧ Below w.heap.size w w' := by
  obtain ⟨i0, hi, hz0, hz1, hz2⟩ := info_parts Try.infoStr
  rcases h with ⟨rfl, ao, cap, rfl⟩ | ⟨h0, b, off, cap, rfl, hb, hc⟩
  · clear hn
    go_enter Try.func28, Try.ntmps28
    go_wp2_with (at_make; refine wpList_make_full _ rfl _ _ 30 rfl w.heap.size 9 i0 (.string ⟨#[]⟩) 1 Try.underlying30 hi hz0 hz1 _ _ _ _ 0 rfl rfl (by omega) (by omega) (by rw [hz2]; omega) (by unfold maxLen; omega) (Nat.le_refl _) ?_)
    intro wm hmo hgm
    have Bm : Below w.heap.size w wm := (Below.refl _ _).grown hgm (Nat.le_refl _) (fun k hk => by cases hk)
    clear hgm
    go_wp2
    refine wp_loop_rounds 1 ?_
    rw [rounds_succ]
    go_wp2
    go_ret
    exact ⟨_, rfl, by simpa [madeCells, scells] using hmo, Bm⟩
  · have HC : Hid (∀ i, i < l.length → w.cell? ⟨b, off + i, none⟩ = some (.string (l.getD i ByteArray.empty))) := hc
    clear hc
    go_enter Try.func28, Try.ntmps28
    go_wp2_with (at_make; refine wpList_make_full _ rfl _ _ 30 rfl w.heap.size 9 i0 (.string ⟨#[]⟩) 1 Try.underlying30 hi hz0 hz1 _ _ _ _ l.length rfl rfl (by omega) (by omega) (by rw [hz2]; omega) (by unfold maxLen; omega) (Nat.le_refl _) ?_)
    intro wm hmo hgm
    have Bm : Below w.heap.size w wm := (Below.refl _ _).grown hgm (Nat.le_refl _) (fun k hk => by cases hk)
    obtain ⟨xs0, hmo, hml⟩ : ∃ xs0, wm.ownsRow w.heap.size 9 1 (.slice (some ⟨w.heap.size, 0, none⟩) l.length l.length) l.length xs0 ∧ xs0.length = l.length := ⟨_, hmo, by have := hmo.1; omega⟩
    have HM : Hid (xs0.length = l.length) := hml
    clear hgm hml
    go_wp2
    go_loopw [4] (fun i wr => ∃ (k : Nat) (xs : List Value), k ≤ l.length ∧ i = .int .i64 k ∧ Hid (k + xs.length = l.length) ∧ wr.ownsRow w.heap.size 9 1 (.slice (some ⟨w.heap.size, 0, none⟩) l.length l.length) l.length (scells (l.take k) ++ xs) ∧ Below w.heap.size w wr) (fun i _ => l.length - (intOf i).toNat)
    case atStart => exact ⟨0, xs0, Nat.zero_le _, rfl, by show _ = _; rw [HM.out]; omega, by simpa [scells] using hmo, Bm⟩
    case round =>
      obtain ⟨k, xs, hk, rfl, HX, hown, hbel⟩ := hrel
      by_cases hlt : k < l.length
      · have ca : wr.cell? ⟨b, off + k, none⟩ = some (.string (l.getD k ByteArray.empty)) := (hbel.cell (p := ⟨b, off + k, none⟩) hb).trans (HC.out k hlt)
        have hfz := hown.frozenAt k
        obtain ⟨u, hcl⟩ := own_some hown k hlt
        have R := hown.stored k (.string (l.getD k ByteArray.empty))
        have hex : ∃ x ys, xs = x :: ys := by
          cases xs with
          | nil => have := HX.out; simp at this; omega
          | cons x ys => exact ⟨x, ys, rfl⟩
        obtain ⟨x, ys, hxs⟩ := hex
        have HY : Hid (k + 1 + ys.length = l.length) := by show _ = _; have := HX.out; rw [hxs] at this; simp at this; omega
        rw [hxs, to_setS l k hlt] at R
        obtain ⟨R1, R2⟩ := R
        have B1 := hbel.grown R2 hbel.size (fun k hk => by cases hk; exact Nat.le_refl _)
        clear hown R2 hbel hxs HX
        generalize l.getD k ByteArray.empty = r at *
        go_wp2
        go_roundw
        case rel => exact ⟨k + 1, ys, by omega, by go_num, HY, R1, B1⟩
        case measure => simp [intOf]; omega
      · have hxe : xs = [] := List.eq_nil_of_length_eq_zero (by have := HX.out; omega)
        have R : wr.ownsRow w.heap.size 9 1 (.slice (some ⟨w.heap.size, 0, none⟩) l.length l.length) l.length (scells l) := by
          rw [hxe, List.append_nil, List.take_of_length_le (by omega)] at hown
          exact hown
        clear hown hxe HX
        go_wp2
        go_ret
        exact ⟨_, rfl, R, hbel⟩
set_option maxHeartbeats 2000000 in
theorem toRule (r : RV) (p : Value) (w : World) (hn : r.ps.length ≤ 1099511627776) (h : StrRow w p r.ps) :
    Calls Try.prog 15 #[.agg #[p, .bool r.ex]] w fun e w' => ∃ p', e = .returned (.agg #[p', .bool r.ex]) ∧ w'.ownsRow w.heap.size 9 1 p' r.ps.length (scells r.ps) ∧ Below w.heap.size w w' := by
  obtain ⟨O, hO⟩ : ∃ O, O = ((w.alloc (.cells #[p, .bool r.ex] 32)).alloc (.cells #[.slice none 0 0, .bool false] 35)).alloc (.cells #[.slice none 0 0, .bool false] 35) := ⟨_, rfl⟩
  have hbO : Below w.heap.size w O := by rw [hO]; exact (((Below.refl _ _).alloc (Nat.le_refl _) _).alloc (by simp) _).alloc (by simp; omega) _
  have hzO : O.heap.size = w.heap.size + 3 := by rw [hO]; simp
  have A0 : BAt O w.heap.size [p, .bool r.ex] := by rw [hO]; exact ((BAt.new w #[p, .bool r.ex] _).alloc _).alloc _
  have A1 : BAt O (w.heap.size + 1) [.slice none 0 0, .bool false] := by
    rw [hO]
    have := BAt.new (w.alloc (.cells #[p, .bool r.ex] 32)) #[.slice none 0 0, .bool false] 35
    rw [World.size_alloc] at this
    exact this.alloc _
  have A2 : BAt O (w.heap.size + 1 + 1) [.slice none 0 0, .bool false] := by
    rw [hO]
    have := BAt.new ((w.alloc (.cells #[p, .bool r.ex] 32)).alloc (.cells #[.slice none 0 0, .bool false] 35)) #[.slice none 0 0, .bool false] 35
    rw [World.size_alloc, World.size_alloc] at this
    exact this
  have CT : Hid (Calls Try.prog 28 #[p] O fun e w' => ∃ v', e = .returned v' ∧ w'.ownsRow O.heap.size 9 1 v' r.ps.length (scells r.ps) ∧ Below O.heap.size O w') := toStringS r.ps p O hn (h.below hbO)
  clear h
  go_enter Try.func15, Try.ntmps15
  go_wp2_with fail
  rw [← hO]
  clear hO
  refine CT.out.mono ?_
  rintro e w1 ⟨p', rfl, hown, b1⟩
  obtain ⟨ao', cap', rfl⟩ := (StrRow.of_own hown).slice
  have B1 := hbO.trans (b1.mono hbO.size)
  have D0 := A0.below b1
  have D1 := A1.below b1
  have D2 := A2.below b1
  have HO : Hid (w1.ownsRow O.heap.size 9 1 (.slice ao' r.ps.length cap') r.ps.length (scells r.ps)) := hown
  clear hown CT A0 A1 A2 b1 hbO
  have c0 := D0.1 0 _ rfl
  have c1 := D0.1 1 _ rfl
  have r0 := D1.1 0 _ rfl
  have r1 := D1.1 1 _ rfl
  have f1 := D1.2.1
  have o0 := D2.1 0 _ rfl
  have o1 := D2.1 1 _ rfl
  have f2 := D2.2.1
  go_wp2_with fail
  refine bodyPost_ret (rule_result1 rfl _ _ (w.heap.size + 1) (.slice ao' r.ps.length cap') (.bool r.ex) rfl ((((D1.other (by omega) 0 _).other (by omega) 1 _).set 0 (by simp) _).set 1 (by simp) _)) rfl ⟨_, rfl, ?_, ?_⟩
  · exact own_wide0 (own_put (own_put (own_put (own_put HO.out (by omega) _ _) (by omega) _ _) (by omega) _ _) (by omega) _ _) (by omega)
  · exact (((B1.setCell (by simp; omega) _).setCell (by simp; omega) _).setCell (by simp) _).setCell (by simp) _
theorem Try.infoRule : (Try.prog.info? 35).map (fun i => (i.zero, i.size, i.bytes)) = some (some (.agg #[.slice none 0 0, .bool false]), 2, 32) := by kernel_rfl
theorem RuleRow.of_own {w : World} {base : Nat} {e : TypeId} {v : Value} {l : List RV} {vs : List Value} (h : w.ownsRow base e 2 v l.length vs)
    (hin : ∀ i, i < l.length → ∃ p, vs[i * 2]? = some p ∧ StrRow w p (l.getD i rv0).ps ∧ vs[i * 2 + 1]? = some (.bool (l.getD i rv0).ex)) : RuleRow w v l := by
  by_cases h0 : l.length = 0
  · have hl : l = [] := List.eq_nil_of_length_eq_zero h0
    rw [h0] at h
    rcases h.2 with ⟨rfl, _⟩ | ⟨g, cap, cur, rfl, _⟩
    · exact .inl ⟨hl, _, _, rfl⟩
    · exact .inl ⟨hl, _, _, rfl⟩
  · rcases h.2 with ⟨_, h1⟩ | ⟨g, cap, cur, rfl, _⟩
    · exact absurd h1 h0
    · refine .inr ⟨by omega, g, 0, cap - l.length, by rw [Nat.add_sub_cancel' (own_room h)], (h.lt g rfl).2, fun i hi => ?_⟩
      obtain ⟨p, h1, h2, h3⟩ := hin i hi
      refine ⟨p, ?_, h2, ?_⟩
      · rw [Nat.zero_add, h.cellAt (i * 2) (by omega)]; exact h1
      · rw [Nat.zero_add, h.cellAt (i * 2 + 1) (by omega)]; exact h3
set_option maxHeartbeats 4000000 in
theorem toRules (l : List RV) (v : Value) (w : World) (hn : l.length ≤ 1048576) (hz : ∀ r ∈ l, r.ps.length ≤ 2097152) (h : RuleRow w v l) :
    Calls Try.prog 8 #[v] w fun e w' => ∃ v', e = .returned v' ∧ RuleRow w' v' l ∧ Below w.heap.size w w' := by
  obtain ⟨i0, hi, hz0, hz1, hz2⟩ := info_parts Try.infoRule
  have HZ : Hid (∀ r ∈ l, r.ps.length ≤ 2097152) := hz
  clear hz
  rcases h with ⟨rfl, ao, cap, rfl⟩ | ⟨h0, b, off, cap, rfl, hb, hc⟩
  · clear hn HZ
    go_enter Try.func8, Try.ntmps8
    go_wp2_with (at_make; refine wpList_make_full _ rfl _ _ 25 rfl w.heap.size 35 i0 (.agg #[.slice none 0 0, .bool false]) 2 Try.underlying25 hi hz0 hz1 _ _ _ _ 0 rfl rfl (by omega) (by omega) (by rw [hz2]; omega) (by unfold maxLen; omega) (Nat.le_refl _) ?_)
    intro wm hmo hgm
    have Bm : Below w.heap.size w wm := (Below.refl _ _).grown hgm (Nat.le_refl _) (fun k hk => by cases hk)
    clear hgm
    go_wp2
    refine wp_loop_rounds 1 ?_
    rw [rounds_succ]
    go_wp2
    go_ret
    exact ⟨_, rfl, .inl ⟨rfl, _, _, rfl⟩, Bm⟩
  · have HC : Hid (∀ i, i < l.length → ∃ p, w.cell? ⟨b, off + i * 2, none⟩ = some p ∧ StrRow w p (l.getD i rv0).ps ∧ w.cell? ⟨b, off + i * 2 + 1, none⟩ = some (.bool (l.getD i rv0).ex)) := hc
    clear hc
    go_enter Try.func8, Try.ntmps8
    go_wp2_with (at_make; refine wpList_make_full _ rfl _ _ 25 rfl w.heap.size 35 i0 (.agg #[.slice none 0 0, .bool false]) 2 Try.underlying25 hi hz0 hz1 _ _ _ _ l.length rfl rfl (by omega) (by omega) (by rw [hz2]; omega) (by unfold maxLen; omega) (Nat.le_refl _) ?_)
    intro wm hmo hgm
    have Bm : Below w.heap.size w wm := (Below.refl _ _).grown hgm (Nat.le_refl _) (fun k hk => by cases hk)
    obtain ⟨xs0, hmo⟩ : ∃ xs0, wm.ownsRow w.heap.size 35 2 (.slice (some ⟨w.heap.size, 0, none⟩) l.length l.length) l.length xs0 := ⟨_, hmo⟩
    clear hgm
    go_wp2
    go_loopw [4] (fun i wr => ∃ (k : Nat) (xs : List Value), k ≤ l.length ∧ i = .int .i64 k ∧ wr.ownsRow w.heap.size 35 2 (.slice (some ⟨w.heap.size, 0, none⟩) l.length l.length) l.length xs ∧ Hid (∀ i, i < k → ∃ p, xs[i * 2]? = some p ∧ p.ownBlock ≠ some w.heap.size ∧ StrRow wr p (l.getD i rv0).ps ∧ xs[i * 2 + 1]? = some (.bool (l.getD i rv0).ex)) ∧ Below w.heap.size w wr) (fun i _ => l.length - (intOf i).toNat)
    case atStart => exact ⟨0, xs0, Nat.zero_le _, rfl, hmo, (fun i hi => absurd hi (Nat.not_lt_zero _)), Bm⟩
    case round =>
      obtain ⟨k, xs, hk, rfl, hown, HI, hbel⟩ := hrel
      clear hmo Bm
      by_cases hlt : k < l.length
      · have hki : (k : Int) < l.length := by omega
        obtain ⟨p, c1, c2, c3⟩ := HC.out k hlt
        have c1w := (hbel.cell (p := ⟨b, off + k * 2, none⟩) hb).trans c1
        have c3w := (hbel.cell (p := ⟨b, off + k * 2 + 1, none⟩) hb).trans c3
        have CR : Hid (Calls Try.prog 15 #[.agg #[p, .bool (l.getD k rv0).ex]] wr fun e w' => ∃ p', e = .returned (.agg #[p', .bool (l.getD k rv0).ex]) ∧ w'.ownsRow wr.heap.size 9 1 p' (l.getD k rv0).ps.length (scells (l.getD k rv0).ps) ∧ Below wr.heap.size wr w') := toRule (l.getD k rv0) p wr (by
          have := HZ.out (l.getD k rv0) (by
            rw [List.getD_eq_getElem?_getD, List.getElem?_eq_getElem hlt]
            exact List.getElem_mem _)
          omega) (c2.below hbel)
        have HK : Hid (∀ r, l.getD k rv0 = r → ∀ W p', StrRow W p' r.ps → StrRow W p' (l.getD k rv0).ps) := fun r e W p' h => by rw [e]; exact h
        clear c1 c2 c3
        obtain ⟨r, hr⟩ : ∃ r, l.getD k rv0 = r := ⟨_, rfl⟩
        rw [hr] at CR c3w
        have HR : Hid (l.getD k rv0 = r) := hr
        clear hr
        go_wp2_with fail
        refine CR.out.mono ?_
        rintro e w1 ⟨p', rfl, ho1, b1⟩
        have hw0 : w.heap.size < wr.heap.size := (hown.lt w.heap.size rfl).2
        have own1 := own_below hown b1
        have B1 := hbel.trans (b1.mono hbel.size)
        have hfz0 := own1.frozenAt (k * 2)
        have hfz1 := own1.frozenAt (k * 2 + 1)
        have hl2 : xs.length = l.length * 2 := hown.1
        obtain ⟨u0, hu0⟩ : ∃ u, w1.cell? ⟨w.heap.size, k * 2, none⟩ = some u := by
          rw [own1.cellAt (k * 2) (by omega)]
          exact ⟨_, List.getElem?_eq_getElem (by omega)⟩
        obtain ⟨u1, hu1⟩ : ∃ u, w1.cell? ⟨w.heap.size, k * 2 + 1, none⟩ = some u := by
          rw [own1.cellAt (k * 2 + 1) (by omega)]
          exact ⟨_, List.getElem?_eq_getElem (by omega)⟩
        obtain ⟨S1, G1⟩ := own1.stored (k * 2) p'
        obtain ⟨S2, G2⟩ := S1.stored (k * 2 + 1) (.bool r.ex)
        have hne : p'.ownBlock ≠ some w.heap.size := own_high ho1 hw0
        have hsr : StrRow w1 p' r.ps := StrRow.of_own ho1
        have HI2 : Hid (∀ i, i < k + 1 → ∃ p, ((xs.set (k * 2) p').set (k * 2 + 1) (.bool r.ex))[i * 2]? = some p ∧ p.ownBlock ≠ some w.heap.size ∧ StrRow ((w1.setCell ⟨w.heap.size, k * 2, none⟩ p').setCell ⟨w.heap.size, k * 2 + 1, none⟩ (.bool r.ex)) p (l.getD i rv0).ps ∧ ((xs.set (k * 2) p').set (k * 2 + 1) (.bool r.ex))[i * 2 + 1]? = some (.bool (l.getD i rv0).ex)) := fun i hi => by
          by_cases hik : i < k
          · obtain ⟨q, q1, q2, q3, q4⟩ := HI.out i hik
            refine ⟨q, ?_, q2, ((q3.below b1).grown G1 q2).grown G2 q2, ?_⟩
            · rw [List.getElem?_set_ne (by omega), List.getElem?_set_ne (by omega)]; exact q1
            · rw [List.getElem?_set_ne (by omega), List.getElem?_set_ne (by omega)]; exact q4
          · obtain rfl : i = k := by omega
            refine ⟨p', ?_, hne, ?_, ?_⟩
            · rw [List.getElem?_set_ne (by omega), List.getElem?_set_self (by omega)]
            · rw [HR.out]; exact (hsr.grown G1 hne).grown G2 hne
            · rw [List.getElem?_set_self (by rw [List.length_set]; omega), HR.out]
        have B2 := (B1.grown G1 B1.size (fun k hk => by cases hk; exact Nat.le_refl _)).grown G2 (by have := G1.size; have := B1.size; omega) (fun k hk => by cases hk; exact Nat.le_refl _)
        obtain ⟨ao', cap', rfl⟩ := hsr.slice
        clear hsr hne S1 G1 G2 own1 B1 b1 ho1 HI CR hown c1w c3w HK hl2 hbel
        go_wp2_with fail
        go_roundw
        case rel => exact ⟨k + 1, _, by omega, by go_num, S2, HI2, B2⟩
        case measure => simp [intOf]; omega
      · have hki : ¬ (k : Int) < l.length := by omega
        have RR : RuleRow wr (.slice (some ⟨w.heap.size, 0, none⟩) l.length l.length) l := RuleRow.of_own hown fun i hi => by
          obtain ⟨p, p1, _, p3, p4⟩ := HI.out i (by omega)
          exact ⟨p, p1, p3, p4⟩
        have HRR : Hid (RuleRow wr (.slice (some ⟨w.heap.size, 0, none⟩) l.length l.length) l) := RR
        clear hown HI RR
        go_wp2_with fail
        go_ret
        exact ⟨_, rfl, HRR.out, hbel⟩
end Go.Proofs.Ytijliddchoehhaa
