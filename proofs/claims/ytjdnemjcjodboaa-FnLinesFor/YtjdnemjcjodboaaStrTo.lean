/- Rows of texts that stay while another block turns; the laws' copy of a row of texts. -/
import Derived.Test.YtjdnemjcjodboaaRows
import Derived.Test.YtjdnemjcjodboaaRowStr
import Derived.Test.YtjdnemjcjodboaaRowMore
import Derived.Test.YtjdnemjcjodboaaJoinPlain
import Derived.Test.YtjdnemjcjodboaaFieldsWalk
import Derived.Test.YtjdnemjcjodboaaPctWalk
namespace Go.Proofs.Ytjdnemjcjodboaa
open Go.RowKit
set_option linter.unusedVariables false

theorem StrRow.grown {w w' : World} {v : Value} {l : List ByteArray} {B : Nat} (h : StrRow w v l) (hg : w.grownBy w' (some B)) (hne : v.ownBlock ≠ some B) : StrRow w' v l := by
  rcases h with h | ⟨h0, g, off, cap, rfl, h2, h3⟩
  · exact .inl h
  · have hgB : some g ≠ some B := fun e => hne e
    refine .inr ⟨h0, g, off, cap, rfl, Nat.lt_of_lt_of_le h2 hg.size, fun i hi => hg.cell (a := ⟨g, off + i, none⟩) (h3 i hi) hgB⟩
theorem own_high {w : World} {base : Nat} {e : TypeId} {size n : Nat} {v : Value} {xs : List Value} (h : w.ownsRow base e size v n xs) {B : Nat} (hB : B < base) : v.ownBlock ≠ some B := fun e => by
  have := (h.lt B e).1
  omega
theorem own_wide0 {w : World} {base base' : Nat} {e : TypeId} {size n : Nat} {v : Value} {xs : List Value} (h : w.ownsRow base e size v n xs) (hb : base' ≤ base) : w.ownsRow base' e size v n xs := by
  refine ⟨h.1, ?_⟩
  rcases h.2 with h | ⟨g, cap, cur, h1, h2, h3⟩
  · exact .inl h
  · exact .inr ⟨g, cap, cur, h1, Nat.le_trans hb h2, h3⟩
theorem to_setS (fs : List ByteArray) (k : Nat) (h : k < fs.length) (x : Value) (xs : List Value) : (scells (fs.take k) ++ x :: xs).set k (.string (fs.getD k ByteArray.empty)) = scells (fs.take (k + 1)) ++ xs := by
  have hl : (scells (fs.take k)).length = k := by simp [scells]; omega
  rw [List.set_append_right _ _ (by omega), hl, Nat.sub_self, List.set_cons_zero, btake_snoc fs k h, scells_snoc, List.append_assoc]
  rfl
set_option maxHeartbeats 2000000 in
theorem toStringS (l : List ByteArray) (v : Value) (w : World) (hn : l.length ≤ 1099511627776) (h : StrRow w v l) :
    Calls Try.prog 67 #[v] w fun e w' => ∃ v', e = .returned v' ∧ w'.ownsRow w.heap.size 9 1 v' l.length (scells l) ∧ Below w.heap.size w w' := by
  obtain ⟨i0, hi, hz0, hz1, hz2⟩ := info_parts Try.infoStr
  rcases h with ⟨rfl, ao, cap, rfl⟩ | ⟨h0, b, off, cap, rfl, hb, hc⟩
  · clear hn
    go_enter Try.func67, Try.ntmps67
    go_wp2_with (at_make; refine wpList_make_full _ rfl _ _ 33 rfl w.heap.size 9 i0 (.string ⟨#[]⟩) 1 Try.underlying33 hi hz0 hz1 _ _ _ _ 0 rfl rfl (by omega) (by omega) (by rw [hz2]; omega) (by unfold maxLen; omega) (Nat.le_refl _) ?_)
    intro wm hmo hgm
    have Bm : Below w.heap.size w wm := (Below.refl _ _).grown hgm (Nat.le_refl _) (fun k hk => by cases hk)
    clear hgm
    go_wp2
    refine wp_loop_rounds 1 ?_
    rw [rounds_succ]
    go_wp2
    go_ret
    exact ⟨_, rfl, by simpa [madeCells, scells] using hmo, Bm⟩
  · have HC : Hid (∀ i, i < l.length → w.cell? ⟨b, off + i, none⟩ = some (.string (l.getD i ByteArray.empty))) := hc
    clear hc
    go_enter Try.func67, Try.ntmps67
    go_wp2_with (at_make; refine wpList_make_full _ rfl _ _ 33 rfl w.heap.size 9 i0 (.string ⟨#[]⟩) 1 Try.underlying33 hi hz0 hz1 _ _ _ _ l.length rfl rfl (by omega) (by omega) (by rw [hz2]; omega) (by unfold maxLen; omega) (Nat.le_refl _) ?_)
    intro wm hmo hgm
    have Bm : Below w.heap.size w wm := (Below.refl _ _).grown hgm (Nat.le_refl _) (fun k hk => by cases hk)
    obtain ⟨xs0, hmo, hml⟩ : ∃ xs0, wm.ownsRow w.heap.size 9 1 (.slice (some ⟨w.heap.size, 0, none⟩) l.length l.length) l.length xs0 ∧ xs0.length = l.length := ⟨_, hmo, by have := hmo.1; omega⟩
    have HM : Hid (xs0.length = l.length) := hml
    clear hgm hml
    go_wp2
    go_loopw [4] (fun i wr => ∃ (k : Nat) (xs : List Value), k ≤ l.length ∧ i = .int .i64 k ∧ Hid (k + xs.length = l.length) ∧ wr.ownsRow w.heap.size 9 1 (.slice (some ⟨w.heap.size, 0, none⟩) l.length l.length) l.length (scells (l.take k) ++ xs) ∧ Below w.heap.size w wr) (fun i _ => l.length - (intOf i).toNat)
    case atStart => exact ⟨0, xs0, Nat.zero_le _, rfl, by show _ = _; rw [HM.out]; omega, by simpa [scells] using hmo, Bm⟩
    case round =>
      obtain ⟨k, xs, hk, rfl, HX, hown, hbel⟩ := hrel
      by_cases hlt : k < l.length
      · have ca : wr.cell? ⟨b, off + k, none⟩ = some (.string (l.getD k ByteArray.empty)) := (hbel.cell (p := ⟨b, off + k, none⟩) hb).trans (HC.out k hlt)
        have hfz := hown.frozenAt k
        obtain ⟨u, hcl⟩ := own_some hown k hlt
        have R := hown.stored k (.string (l.getD k ByteArray.empty))
        have hex : ∃ x ys, xs = x :: ys := by
          cases xs with
          | nil => have := HX.out; simp at this; omega
          | cons x ys => exact ⟨x, ys, rfl⟩
        obtain ⟨x, ys, hxs⟩ := hex
        have HY : Hid (k + 1 + ys.length = l.length) := by show _ = _; have := HX.out; rw [hxs] at this; simp at this; omega
        rw [hxs, to_setS l k hlt] at R
        obtain ⟨R1, R2⟩ := R
        have B1 := hbel.grown R2 hbel.size (fun k hk => by cases hk; exact Nat.le_refl _)
        clear hown R2 hbel hxs HX
        generalize l.getD k ByteArray.empty = r at *
        go_wp2
        go_roundw
        case rel => exact ⟨k + 1, ys, by omega, by go_num, HY, R1, B1⟩
        case measure => simp [intOf]; omega
      · have hxe : xs = [] := List.eq_nil_of_length_eq_zero (by have := HX.out; omega)
        have R : wr.ownsRow w.heap.size 9 1 (.slice (some ⟨w.heap.size, 0, none⟩) l.length l.length) l.length (scells l) := by
          rw [hxe, List.append_nil, List.take_of_length_le (by omega)] at hown
          exact hown
        clear hown hxe HX
        go_wp2
        go_ret
        exact ⟨_, rfl, R, hbel⟩
end Go.Proofs.Ytjdnemjcjodboaa
