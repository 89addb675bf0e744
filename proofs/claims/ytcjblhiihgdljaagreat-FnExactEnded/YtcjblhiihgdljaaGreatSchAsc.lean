/- Contracts of the code's 'ascends', at what waits, at sites, at leases. -/
import Derived.Test.YtcjblhiihgdljaaGreatRows
import Derived.Test.YtcjblhiihgdljaaGreatSchImpl1
namespace Go.Proofs.YtcjblhiihgdljaaGreat
open Go.RowKit
set_option linter.unusedVariables false
set_option linter.unusedSimpArgs false

set_option maxRecDepth 100000 in
set_option maxHeartbeats 8000000 in
theorem implAscWt (l : List WtV) (v : Value) (w : World) (hl : l.length ≤ 1099511627776) (h : WtRow w v l) :
    Calls Tryz.prog 145 #[v, .func (.func 96) #[] #[]] w fun e w' => AnsB (Adj wBef wtv0 l) w e w' := by
  rcases h with ⟨rfl, ao, cap, rfl⟩ | ⟨h0, g, off, cap, rfl, hg, hc⟩
  · clear hl
    have HR : Hid (BIs true (Adj wBef wtv0 [])) := BIs.yes fun i _ h => absurd h (Nat.not_lt_zero _)
    go_enter Tryz.func145, Tryz.ntmps145
    go_wp2
    refine wp_loop_rounds 1 ?_
    rw [rounds_succ]
    go_wp2
    go_ret
    exact AnsB.mk HR.out (Below.refl _ _)
  · have HC : Hid (∀ i, i < l.length → WtAt w g (off + i * 3) (l.getD i wtv0)) := hc
    clear hc
    go_enter Tryz.func145, Tryz.ntmps145
    go_wp2
    go_loopw [5] (fun i wr => ∃ m : Nat, m + 1 ≤ l.length ∧ i = .int .i64 ((m : Int) + 1) ∧ Hid (∀ j, 0 < j → j < m + 1 → wBef (l.getD (j - 1) wtv0) (l.getD j wtv0) = true) ∧ Below w.heap.size w wr) (fun i _ => l.length - (intOf i).toNat)
    case atStart => exact ⟨0, by omega, rfl, fun j h1 h2 => by omega, Below.refl _ _⟩
    case round =>
      obtain ⟨m, hk, rfl, HN, hbel⟩ := hrel
      by_cases hlt : m + 1 < l.length
      · have hki : (m : Int) + 1 < l.length := by omega
        have hki0 : (m : Int) < l.length := by omega
        have hki1 : (0 : Int) ≤ (m : Int) + 1 := by omega
        have hki2 : ((m : Int) + 1).toNat = m + 1 := by omega
        have hml : m < l.length := by omega
        obtain ⟨c0, c1, c2⟩ := (HC.out m hml).below hbel hg
        obtain ⟨d0, d1, d2⟩ := (HC.out (m + 1) hlt).below hbel hg
        have CB : Hid (∀ W, Calls Tryz.prog 96 #[.agg #[.string (l.getD m wtv0).k, .int .i64 (l.getD m wtv0).p, .int .i64 (l.getD m wtv0).q], .agg #[.string (l.getD (m + 1) wtv0).k, .int .i64 (l.getD (m + 1) wtv0).p, .int .i64 (l.getD (m + 1) wtv0).q]] W fun e w' => e = .returned (.int .i64 (turnZ (l.getD m wtv0) (l.getD (m + 1) wtv0))) ∧ Below W.heap.size W w') := fun W => implByTurn _ _ W
        have HZ : Hid (turnZ (l.getD m wtv0) (l.getD (m + 1) wtv0) < 0 ↔ wBef (l.getD m wtv0) (l.getD (m + 1) wtv0) = true) := turn_neg _ _
        have HY : Hid (turnZ (l.getD m wtv0) (l.getD (m + 1) wtv0) < 0 → ∀ j, 0 < j → j < m + 1 + 1 → wBef (l.getD (j - 1) wtv0) (l.getD j wtv0) = true) := fun h j h1 h2 => by
          by_cases e : j = m + 1
          · subst e; rw [Nat.add_sub_cancel]; exact HZ.out.1 h
          · exact HN.out j h1 (by omega)
        have HX : Hid (¬ turnZ (l.getD m wtv0) (l.getD (m + 1) wtv0) < 0 → BIs false (Adj wBef wtv0 l)) := fun h => BIs.no fun e => absurd (HZ.out.2 (by have := e (m + 1) (by omega) hlt; rwa [Nat.add_sub_cancel] at this)) h
        clear HZ HN
        generalize turnZ (l.getD m wtv0) (l.getD (m + 1) wtv0) = z at *
        generalize (l.getD m wtv0).k = x0 at *
        generalize (l.getD m wtv0).p = x1 at *
        generalize (l.getD m wtv0).q = x2 at *
        generalize (l.getD (m + 1) wtv0).k = y0 at *
        generalize (l.getD (m + 1) wtv0).p = y1 at *
        generalize (l.getD (m + 1) wtv0).q = y2 at *
        have hw1 : IntKind.i64.wrap ((m : Int) + 1 - 1) = (m : Int) := by rw [IntKind.wrap_i64]; omega
        have hw2 : IntKind.i64.wrap (m : Int) = (m : Int) := by rw [IntKind.wrap_i64]; omega
        have hki3 : (0 : Int) ≤ (m : Int) := by omega
        have hki4 : (m : Int).toNat = m := by omega
        go_wp2_with fail
        go_region_with (go_at_call 96; refine (CB.out _).mono ?_; rintro e wc ⟨rfl, hbc⟩)
        all_goals
          have B1 := hbel.drew.trans (hbc.mono hbel.size)
          clear hbc CB
          by_cases hz : z < 0
          · have HY2 := hidM (HY.out (by omega))
            clear HY HX
            go_wp2_with fail
            refine ⟨⟨m + 1, by omega, by go_num, HY2, B1⟩, ?_⟩
            simp [intOf]
            omega
          · have HX2 := hidM (HX.out (by omega))
            clear HY HX
            go_wp2_with fail
            go_ret
            exact AnsB.mk HX2.out B1
      · have hki : ¬ (m : Int) + 1 < l.length := by omega
        have HE : Hid (BIs true (Adj wBef wtv0 l)) := BIs.yes fun i h1 h2 => HN.out i h1 (by omega)
        clear HN
        go_wp2_with fail
        go_ret
        exact AnsB.mk HE.out hbel
def siBef (a b : SiV) : Bool := tl a.n b.n
def lsBef (a b : LsV) : Bool := tl a.k b.k
set_option maxRecDepth 100000 in
set_option maxHeartbeats 8000000 in
theorem implAscSi (l : List SiV) (v : Value) (w : World) (hl : l.length ≤ 1099511627776) (h : SiRow w v l) :
    Calls Tryz.prog 107 #[v, .func (.func 108) #[] #[]] w fun e w' => AnsB (Adj siBef siv0 l) w e w' := by
  rcases h with ⟨rfl, ao, cap, rfl⟩ | ⟨h0, g, off, cap, rfl, hg, hc⟩
  · clear hl
    have HR : Hid (BIs true (Adj siBef siv0 [])) := BIs.yes fun i _ h => absurd h (Nat.not_lt_zero _)
    go_enter Tryz.func107, Tryz.ntmps107
    go_wp2
    refine wp_loop_rounds 1 ?_
    rw [rounds_succ]
    go_wp2
    go_ret
    exact AnsB.mk HR.out (Below.refl _ _)
  · have HC : Hid (∀ i, i < l.length → SiAt w g (off + i * 3) (l.getD i siv0)) := hc
    clear hc
    go_enter Tryz.func107, Tryz.ntmps107
    go_wp2
    go_loopw [5] (fun i wr => ∃ m : Nat, m + 1 ≤ l.length ∧ i = .int .i64 ((m : Int) + 1) ∧ Hid (∀ j, 0 < j → j < m + 1 → siBef (l.getD (j - 1) siv0) (l.getD j siv0) = true) ∧ Below w.heap.size w wr) (fun i _ => l.length - (intOf i).toNat)
    case atStart => exact ⟨0, by omega, rfl, fun j h1 h2 => by omega, Below.refl _ _⟩
    case round =>
      obtain ⟨m, hk, rfl, HN, hbel⟩ := hrel
      by_cases hlt : m + 1 < l.length
      · have hki : (m : Int) + 1 < l.length := by omega
        have hki0 : (m : Int) < l.length := by omega
        have hki1 : (0 : Int) ≤ (m : Int) + 1 := by omega
        have hki2 : ((m : Int) + 1).toNat = m + 1 := by omega
        have hml : m < l.length := by omega
        obtain ⟨c0, c1, c2⟩ := (HC.out m hml).below hbel hg
        obtain ⟨d0, d1, d2⟩ := (HC.out (m + 1) hlt).below hbel hg
        have CB : Hid (∀ W, Calls Tryz.prog 108 #[.agg #[.string (l.getD m siv0).n, .int .i64 (l.getD m siv0).r, (l.getD m siv0).q], .agg #[.string (l.getD (m + 1) siv0).n, .int .i64 (l.getD (m + 1) siv0).r, (l.getD (m + 1) siv0).q]] W fun e w' => e = .returned (.int .i64 (Lib.compareBytes (l.getD m siv0).n.data.toList (l.getD (m + 1) siv0).n.data.toList)) ∧ Below W.heap.size W w') := fun W => implBySiteName _ _ _ _ _ _ W
        have HZ : Hid (Lib.compareBytes (l.getD m siv0).n.data.toList (l.getD (m + 1) siv0).n.data.toList < 0 ↔ siBef (l.getD m siv0) (l.getD (m + 1) siv0) = true) := tl_cmp _ _
        have HY : Hid (Lib.compareBytes (l.getD m siv0).n.data.toList (l.getD (m + 1) siv0).n.data.toList < 0 → ∀ j, 0 < j → j < m + 1 + 1 → siBef (l.getD (j - 1) siv0) (l.getD j siv0) = true) := fun h j h1 h2 => by
          by_cases e : j = m + 1
          · subst e; rw [Nat.add_sub_cancel]; exact HZ.out.1 h
          · exact HN.out j h1 (by omega)
        have HX : Hid (¬ Lib.compareBytes (l.getD m siv0).n.data.toList (l.getD (m + 1) siv0).n.data.toList < 0 → BIs false (Adj siBef siv0 l)) := fun h => BIs.no fun e => absurd (HZ.out.2 (by have := e (m + 1) (by omega) hlt; rwa [Nat.add_sub_cancel] at this)) h
        clear HZ HN
        generalize Lib.compareBytes (l.getD m siv0).n.data.toList (l.getD (m + 1) siv0).n.data.toList = z at *
        generalize (l.getD m siv0).n = x0 at *
        generalize (l.getD m siv0).r = x1 at *
        generalize (l.getD m siv0).q = x2 at *
        generalize (l.getD (m + 1) siv0).n = y0 at *
        generalize (l.getD (m + 1) siv0).r = y1 at *
        generalize (l.getD (m + 1) siv0).q = y2 at *
        have hw1 : IntKind.i64.wrap ((m : Int) + 1 - 1) = (m : Int) := by rw [IntKind.wrap_i64]; omega
        have hw2 : IntKind.i64.wrap (m : Int) = (m : Int) := by rw [IntKind.wrap_i64]; omega
        have hki3 : (0 : Int) ≤ (m : Int) := by omega
        have hki4 : (m : Int).toNat = m := by omega
        go_wp2_with fail
        go_region_with (go_at_call 108; refine (CB.out _).mono ?_; rintro e wc ⟨rfl, hbc⟩)
        all_goals
          have B1 := hbel.drew.trans (hbc.mono hbel.size)
          clear hbc CB
          by_cases hz : z < 0
          · have HY2 := hidM (HY.out (by omega))
            clear HY HX
            go_wp2_with fail
            refine ⟨⟨m + 1, by omega, by go_num, HY2, B1⟩, ?_⟩
            simp [intOf]
            omega
          · have HX2 := hidM (HX.out (by omega))
            clear HY HX
            go_wp2_with fail
            go_ret
            exact AnsB.mk HX2.out B1
      · have hki : ¬ (m : Int) + 1 < l.length := by omega
        have HE : Hid (BIs true (Adj siBef siv0 l)) := BIs.yes fun i h1 h2 => HN.out i h1 (by omega)
        clear HN
        go_wp2_with fail
        go_ret
        exact AnsB.mk HE.out hbel
set_option maxRecDepth 100000 in
set_option maxHeartbeats 8000000 in
theorem implAscLs (l : List LsV) (v : Value) (w : World) (hl : l.length ≤ 1099511627776) (h : LsRow w v l) :
    Calls Tryz.prog 112 #[v, .func (.func 113) #[] #[]] w fun e w' => AnsB (Adj lsBef lsv0 l) w e w' := by
  rcases h with ⟨rfl, ao, cap, rfl⟩ | ⟨h0, g, off, cap, rfl, hg, hc⟩
  · clear hl
    have HR : Hid (BIs true (Adj lsBef lsv0 [])) := BIs.yes fun i _ h => absurd h (Nat.not_lt_zero _)
    go_enter Tryz.func112, Tryz.ntmps112
    go_wp2
    refine wp_loop_rounds 1 ?_
    rw [rounds_succ]
    go_wp2
    go_ret
    exact AnsB.mk HR.out (Below.refl _ _)
  · have HC : Hid (∀ i, i < l.length → LsAt w g (off + i * 4) (l.getD i lsv0)) := hc
    clear hc
    go_enter Tryz.func112, Tryz.ntmps112
    go_wp2
    go_loopw [5] (fun i wr => ∃ m : Nat, m + 1 ≤ l.length ∧ i = .int .i64 ((m : Int) + 1) ∧ Hid (∀ j, 0 < j → j < m + 1 → lsBef (l.getD (j - 1) lsv0) (l.getD j lsv0) = true) ∧ Below w.heap.size w wr) (fun i _ => l.length - (intOf i).toNat)
    case atStart => exact ⟨0, by omega, rfl, fun j h1 h2 => by omega, Below.refl _ _⟩
    case round =>
      obtain ⟨m, hk, rfl, HN, hbel⟩ := hrel
      by_cases hlt : m + 1 < l.length
      · have hki : (m : Int) + 1 < l.length := by omega
        have hki0 : (m : Int) < l.length := by omega
        have hki1 : (0 : Int) ≤ (m : Int) + 1 := by omega
        have hki2 : ((m : Int) + 1).toNat = m + 1 := by omega
        have hml : m < l.length := by omega
        obtain ⟨c0, c1, c2, c3⟩ := (HC.out m hml).below hbel hg
        obtain ⟨d0, d1, d2, d3⟩ := (HC.out (m + 1) hlt).below hbel hg
        have CB : Hid (∀ W, Calls Tryz.prog 113 #[.agg #[.string (l.getD m lsv0).k, .string (l.getD m lsv0).s, .int .i64 (l.getD m lsv0).p, .int .i64 (l.getD m lsv0).u], .agg #[.string (l.getD (m + 1) lsv0).k, .string (l.getD (m + 1) lsv0).s, .int .i64 (l.getD (m + 1) lsv0).p, .int .i64 (l.getD (m + 1) lsv0).u]] W fun e w' => e = .returned (.int .i64 (Lib.compareBytes (l.getD m lsv0).k.data.toList (l.getD (m + 1) lsv0).k.data.toList)) ∧ Below W.heap.size W w') := fun W => implByLeaseKey _ _ W
        have HZ : Hid (Lib.compareBytes (l.getD m lsv0).k.data.toList (l.getD (m + 1) lsv0).k.data.toList < 0 ↔ lsBef (l.getD m lsv0) (l.getD (m + 1) lsv0) = true) := tl_cmp _ _
        have HY : Hid (Lib.compareBytes (l.getD m lsv0).k.data.toList (l.getD (m + 1) lsv0).k.data.toList < 0 → ∀ j, 0 < j → j < m + 1 + 1 → lsBef (l.getD (j - 1) lsv0) (l.getD j lsv0) = true) := fun h j h1 h2 => by
          by_cases e : j = m + 1
          · subst e; rw [Nat.add_sub_cancel]; exact HZ.out.1 h
          · exact HN.out j h1 (by omega)
        have HX : Hid (¬ Lib.compareBytes (l.getD m lsv0).k.data.toList (l.getD (m + 1) lsv0).k.data.toList < 0 → BIs false (Adj lsBef lsv0 l)) := fun h => BIs.no fun e => absurd (HZ.out.2 (by have := e (m + 1) (by omega) hlt; rwa [Nat.add_sub_cancel] at this)) h
        clear HZ HN
        generalize Lib.compareBytes (l.getD m lsv0).k.data.toList (l.getD (m + 1) lsv0).k.data.toList = z at *
        generalize (l.getD m lsv0).k = x0 at *
        generalize (l.getD m lsv0).s = x1 at *
        generalize (l.getD m lsv0).p = x2 at *
        generalize (l.getD m lsv0).u = x3 at *
        generalize (l.getD (m + 1) lsv0).k = y0 at *
        generalize (l.getD (m + 1) lsv0).s = y1 at *
        generalize (l.getD (m + 1) lsv0).p = y2 at *
        generalize (l.getD (m + 1) lsv0).u = y3 at *
        have hw1 : IntKind.i64.wrap ((m : Int) + 1 - 1) = (m : Int) := by rw [IntKind.wrap_i64]; omega
        have hw2 : IntKind.i64.wrap (m : Int) = (m : Int) := by rw [IntKind.wrap_i64]; omega
        have hki3 : (0 : Int) ≤ (m : Int) := by omega
        have hki4 : (m : Int).toNat = m := by omega
        go_wp2_with fail
        go_region_with (go_at_call 113; refine (CB.out _).mono ?_; rintro e wc ⟨rfl, hbc⟩)
        all_goals
          have B1 := hbel.drew.trans (hbc.mono hbel.size)
          clear hbc CB
          by_cases hz : z < 0
          · have HY2 := hidM (HY.out (by omega))
            clear HY HX
            go_wp2_with fail
            refine ⟨⟨m + 1, by omega, by go_num, HY2, B1⟩, ?_⟩
            simp [intOf]
            omega
          · have HX2 := hidM (HX.out (by omega))
            clear HY HX
            go_wp2_with fail
            go_ret
            exact AnsB.mk HX2.out B1
      · have hki : ¬ (m : Int) + 1 < l.length := by omega
        have HE : Hid (BIs true (Adj lsBef lsv0 l)) := BIs.yes fun i h1 h2 => HN.out i h1 (by omega)
        clear HN
        go_wp2_with fail
        go_ret
        exact AnsB.mk HE.out hbel
end Go.Proofs.YtcjblhiihgdljaaGreat
