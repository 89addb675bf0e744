/- Contracts of the laws' helpers that copy Leases. -/
import Derived.Test.YtcjblhiihgdljaaGreatRows
import Derived.Test.YtcjblhiihgdljaaGreatLsRow
import Derived.Test.YtcjblhiihgdljaaGreatBlockAt
import Derived.Handy
import Derived.Deep.DeepCutAuto
namespace Go.Proofs.YtcjblhiihgdljaaGreat
open Go.RowKit
set_option linter.unusedVariables false

theorem ls_result1 {fn : Func} {q : Tmp} (h : fn.results = #[.cell q 51]) (tmps : Array Value) (W : World) (B : Nat) (a b c d : Value)
    (hp : tmps[q]?.getD undef = .pointer (some ⟨B, 0, none⟩)) (hx : BAt W B [a, b, c, d]) : (results fn tmps).run Tryz.prog W = .ok (.agg #[a, b, c, d]) W := by
  have c0 := hx.1 0 _ rfl
  have c1 := hx.1 1 _ rfl
  have c2 := hx.1 2 _ rfl
  have c3 := hx.1 3 _ rfl
  simp [results, h, hp, asAddr, go_sem, c0, c1, c2, c3, Addr.add_lit]
set_option maxHeartbeats 4000000 in
theorem toLsC (x : LsV) (w : World) :
    Calls Tryz.prog 129 #[.agg #[.string x.k, .string x.s, .int .i64 x.p, .int .i64 x.u]] w fun e w' => e = .returned (.agg #[.string x.k, .string x.s, .int .i64 x.p, .int .i64 x.u]) ∧ Below w.heap.size w w' := by
  obtain ⟨a, b, c, d⟩ := x
  dsimp only
  obtain ⟨O, hO⟩ : ∃ O, O = ((w.alloc (.cells #[.string a, .string b, .int .i64 c, .int .i64 d] 151)).alloc (.cells #[.string ⟨#[]⟩, .string ⟨#[]⟩, .int .i64 0, .int .i64 0] 51)).alloc (.cells #[.string ⟨#[]⟩, .string ⟨#[]⟩, .int .i64 0, .int .i64 0] 51) := ⟨_, rfl⟩
  have hbO : Below w.heap.size w O := by rw [hO]; exact (((Below.refl _ _).alloc (Nat.le_refl _) _).alloc (by simp) _).alloc (by simp; omega) _
  have hzO : O.heap.size = w.heap.size + 3 := by rw [hO]; simp
  have A0 : BAt O w.heap.size [.string a, .string b, .int .i64 c, .int .i64 d] := by rw [hO]; exact ((BAt.new w #[.string a, .string b, .int .i64 c, .int .i64 d] _).alloc _).alloc _
  have A1 : BAt O (w.heap.size + 1) [.string ⟨#[]⟩, .string ⟨#[]⟩, .int .i64 0, .int .i64 0] := by
    rw [hO]
    have := BAt.new (w.alloc (.cells #[.string a, .string b, .int .i64 c, .int .i64 d] 151)) #[.string ⟨#[]⟩, .string ⟨#[]⟩, .int .i64 0, .int .i64 0] 51
    rw [World.size_alloc] at this
    exact this.alloc _
  have A2 : BAt O (w.heap.size + 1 + 1) [.string ⟨#[]⟩, .string ⟨#[]⟩, .int .i64 0, .int .i64 0] := by
    rw [hO]
    have := BAt.new ((w.alloc (.cells #[.string a, .string b, .int .i64 c, .int .i64 d] 151)).alloc (.cells #[.string ⟨#[]⟩, .string ⟨#[]⟩, .int .i64 0, .int .i64 0] 51)) #[.string ⟨#[]⟩, .string ⟨#[]⟩, .int .i64 0, .int .i64 0] 51
    rw [World.size_alloc, World.size_alloc] at this
    exact this
  go_enter Tryz.func129, Tryz.ntmps129
  go_upto_region 2 with fail
  rw [← hO]
  clear hO
  have c0 := A0.1 0 _ rfl
  have c1 := A0.1 1 _ rfl
  have c2 := A0.1 2 _ rfl
  have c3 := A0.1 3 _ rfl
  have r0 := A1.1 0 _ rfl
  have r1 := A1.1 1 _ rfl
  have r2 := A1.1 2 _ rfl
  have r3 := A1.1 3 _ rfl
  have o0 := A2.1 0 _ rfl
  have o1 := A2.1 1 _ rfl
  have o2 := A2.1 2 _ rfl
  have o3 := A2.1 3 _ rfl
  have f1 := A1.2.1
  have f2 := A2.2.1
  go_wp2_with fail
  refine bodyPost_ret (ls_result1 rfl _ _ (w.heap.size + 1) (.string a) (.string b) (.int .i64 c) (.int .i64 d) rfl ((((((((A1.other (by omega) 0 _).other (by omega) 1 _).other (by omega) 2 _).other (by omega) 3 _).set 0 (by simp) _).set 1 (by simp) _).set 2 (by simp) _).set 3 (by simp) _)) rfl ⟨rfl, ?_⟩
  exact ((((((((hbO.setCell (by simp; omega) _).setCell (by simp; omega) _).setCell (by simp; omega) _).setCell (by simp; omega) _).setCell (by simp) _).setCell (by simp) _).setCell (by simp) _).setCell (by simp) _)
set_option maxHeartbeats 4000000 in
theorem toLss (l : List LsV) (v : Value) (w : World) (hn : l.length ≤ 1073741824) (h : LsRow w v l) :
    Calls Tryz.prog 83 #[v] w fun e w' => ∃ ao cap, e = .returned (.slice ao l.length cap) ∧ Hid (w'.ownsRow w.heap.size 51 4 (.slice ao l.length cap) l.length (lscells l)) ∧ Below w.heap.size w w' := by
  obtain ⟨i0, hi, hz0, hz1, hz2⟩ := info_parts Tryz.infoLs
  rcases h with ⟨rfl, ao, cap, rfl⟩ | ⟨h0, b, off, cap, rfl, hb, hc⟩
  · clear hn
    go_enter Tryz.func83, Tryz.ntmps83
    go_wp2_with (at_make; refine wpList_make_full _ rfl _ _ 25 rfl w.heap.size 51 i0 (.agg #[.string ⟨#[]⟩, .string ⟨#[]⟩, .int .i64 0, .int .i64 0]) 4 Tryz.underlying25 hi hz0 hz1 _ _ _ _ 0 rfl rfl (by omega) (by omega) (by rw [hz2]; omega) (by unfold maxLen; omega) (Nat.le_refl _) ?_)
    intro wm hmo hgm
    have Bm : Below w.heap.size w wm := (Below.refl _ _).grown hgm (Nat.le_refl _) (fun k hk => by cases hk)
    clear hgm
    go_wp2
    refine wp_loop_rounds 1 ?_
    rw [rounds_succ]
    go_wp2
    go_ret
    exact ⟨_, _, rfl, by show World.ownsRow _ _ _ _ _ _ _; simpa [madeCells, lscells] using hmo, Bm⟩
  · have HC : Hid (∀ i, i < l.length → LsAt w b (off + i * 4) (l.getD i lsv0)) := hc
    clear hc
    go_enter Tryz.func83, Tryz.ntmps83
    go_wp2_with (at_make; refine wpList_make_full _ rfl _ _ 25 rfl w.heap.size 51 i0 (.agg #[.string ⟨#[]⟩, .string ⟨#[]⟩, .int .i64 0, .int .i64 0]) 4 Tryz.underlying25 hi hz0 hz1 _ _ _ _ l.length rfl rfl (by omega) (by omega) (by rw [hz2]; omega) (by unfold maxLen; omega) (Nat.le_refl _) ?_)
    intro wm hmo hgm
    have Bm : Below w.heap.size w wm := (Below.refl _ _).grown hgm (Nat.le_refl _) (fun k hk => by cases hk)
    obtain ⟨xs0, hmo⟩ : ∃ xs0, wm.ownsRow w.heap.size 51 4 (.slice (some ⟨w.heap.size, 0, none⟩) l.length l.length) l.length xs0 := ⟨_, hmo⟩
    clear hgm
    go_wp2
    go_loopw [4] (fun i wr => ∃ (k : Nat) (xs : List Value), k ≤ l.length ∧ i = .int .i64 k ∧ wr.ownsRow w.heap.size 51 4 (.slice (some ⟨w.heap.size, 0, none⟩) l.length l.length) l.length xs ∧ Hid (xs.take (k * 4) = lscells (l.take k)) ∧ Below w.heap.size w wr) (fun i _ => l.length - (intOf i).toNat)
    case atStart => exact ⟨0, xs0, Nat.zero_le _, rfl, hmo, (by show _ = _; rw [Nat.zero_mul, List.take_zero, List.take_zero]; rfl), Bm⟩
    case round =>
      obtain ⟨k, xs, hk, rfl, hown, HI, hbel⟩ := hrel
      clear hmo Bm
      by_cases hlt : k < l.length
      · have hki : (k : Int) < l.length := by omega
        obtain ⟨c0, c1, c2, c3⟩ := (HC.out k hlt).below hbel hb
        have CR : Hid (∀ W, Calls Tryz.prog 129 #[.agg #[.string (l.getD k lsv0).k, .string (l.getD k lsv0).s, .int .i64 (l.getD k lsv0).p, .int .i64 (l.getD k lsv0).u]] W fun e w' => e = .returned (.agg #[.string (l.getD k lsv0).k, .string (l.getD k lsv0).s, .int .i64 (l.getD k lsv0).p, .int .i64 (l.getD k lsv0).u]) ∧ Below W.heap.size W w') := fun W => toLsC _ W
        have HI2 : Hid ((setLs xs k (l.getD k lsv0)).take ((k + 1) * 4) = lscells (l.take (k + 1))) := by
          show _ = _
          rw [List.take_succ_eq_append_getElem hlt]
          have := setLs_take xs l.length k (l.take k) (l.getD k lsv0) hown.1 hlt (by rw [List.length_take]; omega) HI.out
          rw [this, List.getD_eq_getElem?_getD, List.getElem?_eq_getElem hlt]
          rfl
        unfold setLs at HI2
        generalize (l.getD k lsv0).k = x0 at *
        generalize (l.getD k lsv0).s = x1 at *
        generalize (l.getD k lsv0).p = x2 at *
        generalize (l.getD k lsv0).u = x3 at *
        go_wp2_with fail
        refine (CR.out _).mono ?_
        rintro e w1 ⟨rfl, b1⟩
        have own1 := own_below hown b1
        have B1 := hbel.trans (b1.mono hbel.size)
        have hfz0 := own1.frozenAt (k * 4)
        have hfz1 := own1.frozenAt (k * 4 + 1)
        have hfz2 := own1.frozenAt (k * 4 + 2)
        have hfz3 := own1.frozenAt (k * 4 + 3)
        obtain ⟨⟨u0, hu0⟩, ⟨u1, hu1⟩, ⟨u2, hu2⟩, ⟨u3, hu3⟩⟩ := own_ls own1 k hlt
        obtain ⟨S1, G1⟩ := own1.stored (k * 4) (.string x0)
        obtain ⟨S2, G2⟩ := S1.stored (k * 4 + 1) (.string x1)
        obtain ⟨S3, G3⟩ := S2.stored (k * 4 + 2) (.int .i64 x2)
        obtain ⟨S4, G4⟩ := S3.stored (k * 4 + 3) (.int .i64 x3)
        have B2 := ((((B1.grown G1 (by have := B1.size; omega) (fun k hk => by cases hk; exact Nat.le_refl _)).grown G2 (by have := G1.size; have := B1.size; omega) (fun k hk => by cases hk; exact Nat.le_refl _)).grown G3 (by have := G1.size; have := G2.size; have := B1.size; omega) (fun k hk => by cases hk; exact Nat.le_refl _)).grown G4 (by have := G1.size; have := G2.size; have := G3.size; have := B1.size; omega) (fun k hk => by cases hk; exact Nat.le_refl _))
        clear S1 S2 S3 G1 G2 G3 G4 own1 B1 b1 HI CR hown c0 c1 c2 c3 hbel
        go_wp2_with fail
        go_roundw
        case rel => exact ⟨k + 1, _, by omega, by go_num, S4, HI2, B2⟩
        case measure => simp [intOf]; omega
      · have hki : ¬ (k : Int) < l.length := by omega
        have RR : Hid (wr.ownsRow w.heap.size 51 4 (.slice (some ⟨w.heap.size, 0, none⟩) l.length l.length) l.length (lscells l)) := by
          have e := HI.out
          rw [show k = l.length by omega, List.take_length, List.take_of_length_le (by have := hown.1; omega)] at e
          rw [← e]
          exact hown
        clear hown HI
        go_wp2_with fail
        go_ret
        exact ⟨_, _, rfl, RR, hbel⟩
end Go.Proofs.YtcjblhiihgdljaaGreat
