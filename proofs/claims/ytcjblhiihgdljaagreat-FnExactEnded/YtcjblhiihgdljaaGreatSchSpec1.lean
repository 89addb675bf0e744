/- Contracts of the specification's small functions of queues. -/
import Derived.Test.YtcjblhiihgdljaaGreatRows
import Derived.Test.YtcjblhiihgdljaaGreatSchImpl1
import Derived.Deep.QuietTactic
namespace Go.Proofs.YtcjblhiihgdljaaGreat
open Go.RowKit
set_option linter.unusedVariables false
set_option linter.unusedSimpArgs false

theorem specIn (x a b : Int) (W : World) : Calls Tryz.prog 51 #[.int .i64 x, .int .i64 a, .int .i64 b] W fun e w' => e = .returned (.bool (inB x a b)) ∧ W = w' := by
  unfold inB
  by_cases h : a ≤ x
  · have h0 : a ≤ x := h
    go_enter Tryz.func51, Tryz.ntmps51
    go_wp2_with fail
    go_ret
    exact ⟨by rw [decide_eq_true h]; rfl, rfl⟩
  · go_enter Tryz.func51, Tryz.ntmps51
    go_wp2_with fail
    go_ret
    exact ⟨by rw [decide_eq_false (show ¬ a ≤ x by omega)]; rfl, rfl⟩
set_option maxHeartbeats 4000000 in
theorem specBefore (x y : WtV) (W : World) :
    Calls Tryz.prog 105 #[.agg #[.string x.k, .int .i64 x.p, .int .i64 x.q], .agg #[.string y.k, .int .i64 y.p, .int .i64 y.q]] W fun e w' => e = .returned (.bool (wBef x y)) ∧ Below W.heap.size W w' := by
  obtain ⟨xk, xp, xq⟩ := x
  obtain ⟨yk, yp, yq⟩ := y
  have hbO : Below W.heap.size W ((W.alloc (.cells #[.string xk, .int .i64 xp, .int .i64 xq] 83)).alloc (.cells #[.string yk, .int .i64 yp, .int .i64 yq] 83)) := ((Below.refl _ _).alloc (Nat.le_refl _) _).alloc (by simp) _
  have HT : Hid (wBef ⟨xk, xp, xq⟩ ⟨yk, yp, yq⟩ = (decide (yp < xp) || (decide (xp = yp) && decide (xq < yq)))) := rfl
  dsimp only
  generalize wBef ⟨xk, xp, xq⟩ ⟨yk, yp, yq⟩ = T at *
  by_cases h1 : yp < xp
  · have h1b : decide (yp < xp) = true := decide_eq_true h1
    have HB : Hid (T = true) := hidM (by rw [HT.out, h1b]; rfl)
    clear HT
    go_enter Tryz.func105, Tryz.ntmps105
    go_wp2_with fail
    go_ret
    exact ⟨by rw [HB.out]; rfl, hbO⟩
  · have h1b : decide (yp < xp) = false := decide_eq_false h1
    by_cases h2 : xp = yp
    · subst h2
      have HB : Hid (T = decide (xq < yq)) := hidM (by rw [HT.out, h1b, decide_eq_true rfl]; rfl)
      clear HT
      go_enter Tryz.func105, Tryz.ntmps105
      go_wp2_with fail
      go_ret
      exact ⟨by rw [HB.out]; rfl, hbO⟩
    · have h2b : (xp == yp) = false := beq_eq_false_iff_ne.2 h2
      have HB : Hid (T = false) := hidM (by rw [HT.out, h1b, decide_eq_false h2]; rfl)
      clear HT
      go_enter Tryz.func105, Tryz.ntmps105
      go_wp2_with fail
      go_ret
      exact ⟨by rw [HB.out]; rfl, hbO⟩
/-- The first place below n that b tells, or -1. -/
def posZ (b : Nat → Bool) (n : Nat) : Int := if (List.range n).findIdx b < n then ((List.range n).findIdx b : Int) else -1
theorem posZ_yes {b : Nat → Bool} {n k : Nat} (hk : k < n) (hb : b k = true) (h : ∀ j, j < k → b j = false) : posZ b n = k := by
  have e : (List.range n).findIdx b = k := by
    rw [List.findIdx_eq (by simpa using hk)]
    refine ⟨by simpa using hb, fun j hj => by simpa using h j hj⟩
  unfold posZ
  rw [e, if_pos hk]
theorem posZ_no {b : Nat → Bool} {n : Nat} (h : ∀ j, j < n → b j = false) : posZ b n = -1 := by
  unfold posZ
  rw [if_neg]
  intro hlt
  have := List.findIdx_getElem (w := show (List.range n).findIdx b < (List.range n).length by simpa using hlt)
  rw [List.getElem_range] at this
  rw [h _ hlt] at this
  cases this
theorem posZ_cases (b : Nat → Bool) (n : Nat) : (∃ k, k < n ∧ b k = true ∧ (∀ j, j < k → b j = false) ∧ posZ b n = k) ∨ ((∀ j, j < n → b j = false) ∧ posZ b n = -1) := by
  by_cases h : ∀ j, j < n → b j = false
  · exact .inr ⟨h, posZ_no h⟩
  · left
    have hlt : (List.range n).findIdx b < n := by
      by_cases hh : (List.range n).findIdx b < n
      · exact hh
      · exfalso
        apply h
        intro j hj
        have := List.findIdx_eq_length.1 (show (List.range n).findIdx b = (List.range n).length by
          have := List.findIdx_le_length (xs := List.range n) (p := b)
          rw [List.length_range] at this ⊢
          omega)
        simpa using this j (List.mem_range.2 hj)
    refine ⟨_, hlt, ?_, fun j hj => ?_, by unfold posZ; rw [if_pos hlt]⟩
    · have := List.findIdx_getElem (w := show (List.range n).findIdx b < (List.range n).length by simpa using hlt)
      rwa [List.getElem_range] at this
    · have := List.not_of_lt_findIdx (p := b) (xs := List.range n) hj
      simpa using this
def sitePos (si : List SiteV) (n : ByteArray) : Int := posZ (fun i => decide ((si.getD i sitv0).n = n)) si.length
def leasePos (le : List LsV) (k : ByteArray) : Int := posZ (fun i => decide ((le.getD i lsv0).k = k)) le.length
set_option maxRecDepth 100000 in
set_option maxHeartbeats 8000000 in
theorem specL18Site (d sp nw sq : Int) (si : List SiteV) (p q : Value) (s : ByteArray) (w : World) (hl : si.length ≤ 1073741824) (hp : SitRow w p si) :
    Calls Tryz.prog 104 #[.agg #[.int .i64 d, .int .i64 sp, .int .i64 nw, .int .i64 sq, p, q], .string s] w fun e w' => e = .returned (.int .i64 (sitePos si s)) ∧ Below w.heap.size w w' := by
  obtain ⟨O, hO⟩ : ∃ O, O = w.alloc (.cells #[.int .i64 d, .int .i64 sp, .int .i64 nw, .int .i64 sq, p, q] 27) := ⟨_, rfl⟩
  have bO : Below w.heap.size w O := by rw [hO]; exact (Below.refl _ _).alloc (Nat.le_refl _) _
  have AO : BAt O w.heap.size [.int .i64 d, .int .i64 sp, .int .i64 nw, .int .i64 sq, p, q] := by rw [hO]; exact BAt.new w #[.int .i64 d, .int .i64 sp, .int .i64 nw, .int .i64 sq, p, q] _
  have c4 := AO.1 4 _ rfl
  have HP : Hid (∀ k, k < si.length → (si.getD k sitv0).n = s → (∀ j, j < k → (si.getD j sitv0).n ≠ s) → sitePos si s = k) := fun k hk h1 h2 => posZ_yes hk (decide_eq_true h1) fun j hj => decide_eq_false (h2 j hj)
  have HNo : Hid ((∀ j, j < si.length → (si.getD j sitv0).n ≠ s) → sitePos si s = -1) := fun h => posZ_no fun j hj => decide_eq_false (h j hj)
  generalize sitePos si s = Z at *
  rcases hp.cases with ⟨rfl, ao, cap, rfl⟩ | ⟨h0, g, off, cap, rfl, hg, hc⟩
  · have HZ := hidM (HNo.out fun j hj => absurd hj (Nat.not_lt_zero _))
    clear hp HP HNo
    go_enter Tryz.func104, Tryz.ntmps104
    go_upto_region 1 with fail
    rw [← hO]
    clear hO
    go_wp2
    refine wp_loop_rounds 1 ?_
    rw [rounds_succ]
    go_wp2
    go_ret
    exact ⟨by rw [HZ.out]; rfl, bO⟩
  · have HC : Hid (∀ i, i < si.length → SitAt O g (off + i * 3) (si.getD i sitv0)) := fun i hi => (hc i hi).below bO hg
    clear hc hp
    go_enter Tryz.func104, Tryz.ntmps104
    go_upto_region 1 with fail
    rw [← hO]
    clear hO
    go_wp2
    go_loopw [5] (fun i wr => ∃ k : Nat, k ≤ si.length ∧ i = .int .i64 k ∧ Hid (∀ j, j < k → (si.getD j sitv0).n ≠ s) ∧ wr = O) (fun i _ => si.length - (intOf i).toNat)
    case atStart => exact ⟨0, Nat.zero_le _, rfl, fun j h => absurd h (Nat.not_lt_zero _), rfl⟩
    case round =>
      obtain ⟨k, hk, rfl, HN, rfl⟩ := hrel
      by_cases hlt : k < si.length
      · have hki : (k : Int) < si.length := by omega
        obtain ⟨c0, c1, x, c2, c3⟩ := HC.out k hlt
        by_cases he : (si.getD k sitv0).n = s
        · have HZ := hidM (HP.out k hlt he HN.out)
          rw [he] at c0
          clear HP HNo HN he c1 c2 c3
          go_wp2_with fail
          go_ret
          exact ⟨by rw [HZ.out]; rfl, bO⟩
        · have hne : ((si.getD k sitv0).n.toList == s.toList) = false := by rw [beq_toList]; exact decide_eq_false he
          have HN2 : Hid (∀ j, j < k + 1 → (si.getD j sitv0).n ≠ s) := fun j hj => by
            by_cases e : j = k
            · subst e; exact he
            · exact HN.out j (by omega)
          clear HN he c1 c2 c3
          generalize (si.getD k sitv0).n = x0 at *
          go_wp2_with fail
          go_roundw
          case rel => exact ⟨k + 1, by omega, by go_num, HN2, by first | rfl | trivial⟩
          case measure => simp [intOf]; omega
      · have hki : ¬ (k : Int) < si.length := by omega
        have HZ := hidM (HNo.out fun j hj => HN.out j (by omega))
        clear HP HNo HN
        go_wp2_with fail
        go_ret
        exact ⟨by rw [HZ.out]; rfl, bO⟩
set_option maxRecDepth 100000 in
set_option maxHeartbeats 8000000 in
theorem specL18Lease (d sp nw sq : Int) (le : List LsV) (p q : Value) (s : ByteArray) (w : World) (hl : le.length ≤ 1073741824) (hq : LsRow w q le) :
    Calls Tryz.prog 90 #[.agg #[.int .i64 d, .int .i64 sp, .int .i64 nw, .int .i64 sq, p, q], .string s] w fun e w' => e = .returned (.int .i64 (leasePos le s)) ∧ Below w.heap.size w w' := by
  obtain ⟨O, hO⟩ : ∃ O, O = w.alloc (.cells #[.int .i64 d, .int .i64 sp, .int .i64 nw, .int .i64 sq, p, q] 27) := ⟨_, rfl⟩
  have bO : Below w.heap.size w O := by rw [hO]; exact (Below.refl _ _).alloc (Nat.le_refl _) _
  have AO : BAt O w.heap.size [.int .i64 d, .int .i64 sp, .int .i64 nw, .int .i64 sq, p, q] := by rw [hO]; exact BAt.new w #[.int .i64 d, .int .i64 sp, .int .i64 nw, .int .i64 sq, p, q] _
  have c5 := AO.1 5 _ rfl
  have HP : Hid (∀ k, k < le.length → (le.getD k lsv0).k = s → (∀ j, j < k → (le.getD j lsv0).k ≠ s) → leasePos le s = k) := fun k hk h1 h2 => posZ_yes hk (decide_eq_true h1) fun j hj => decide_eq_false (h2 j hj)
  have HNo : Hid ((∀ j, j < le.length → (le.getD j lsv0).k ≠ s) → leasePos le s = -1) := fun h => posZ_no fun j hj => decide_eq_false (h j hj)
  generalize leasePos le s = Z at *
  rcases hq with ⟨rfl, ao, cap, rfl⟩ | ⟨h0, g, off, cap, rfl, hg, hc⟩
  · have HZ := hidM (HNo.out fun j hj => absurd hj (Nat.not_lt_zero _))
    clear HP HNo
    go_enter Tryz.func90, Tryz.ntmps90
    go_upto_region 1 with fail
    rw [← hO]
    clear hO
    go_wp2
    refine wp_loop_rounds 1 ?_
    rw [rounds_succ]
    go_wp2
    go_ret
    exact ⟨by rw [HZ.out]; rfl, bO⟩
  · have HC : Hid (∀ i, i < le.length → LsAt O g (off + i * 4) (le.getD i lsv0)) := fun i hi => (hc i hi).below bO hg
    clear hc
    go_enter Tryz.func90, Tryz.ntmps90
    go_upto_region 1 with fail
    rw [← hO]
    clear hO
    go_wp2
    go_loopw [5] (fun i wr => ∃ k : Nat, k ≤ le.length ∧ i = .int .i64 k ∧ Hid (∀ j, j < k → (le.getD j lsv0).k ≠ s) ∧ wr = O) (fun i _ => le.length - (intOf i).toNat)
    case atStart => exact ⟨0, Nat.zero_le _, rfl, fun j h => absurd h (Nat.not_lt_zero _), rfl⟩
    case round =>
      obtain ⟨k, hk, rfl, HN, rfl⟩ := hrel
      by_cases hlt : k < le.length
      · have hki : (k : Int) < le.length := by omega
        obtain ⟨c0, c1, c2, c3⟩ := HC.out k hlt
        by_cases he : (le.getD k lsv0).k = s
        · have HZ := hidM (HP.out k hlt he HN.out)
          rw [he] at c0
          clear HP HNo HN he c1 c2 c3
          go_wp2_with fail
          go_ret
          exact ⟨by rw [HZ.out]; rfl, bO⟩
        · have hne : ((le.getD k lsv0).k.toList == s.toList) = false := by rw [beq_toList]; exact decide_eq_false he
          have HN2 : Hid (∀ j, j < k + 1 → (le.getD j lsv0).k ≠ s) := fun j hj => by
            by_cases e : j = k
            · subst e; exact he
            · exact HN.out j (by omega)
          clear HN he c1 c2 c3
          generalize (le.getD k lsv0).k = x0 at *
          go_wp2_with fail
          go_roundw
          case rel => exact ⟨k + 1, by omega, by go_num, HN2, by first | rfl | trivial⟩
          case measure => simp [intOf]; omega
      · have hki : ¬ (k : Int) < le.length := by omega
        have HZ := hidM (HNo.out fun j hj => HN.out j (by omega))
        clear HP HNo HN
        go_wp2_with fail
        go_ret
        exact ⟨by rw [HZ.out]; rfl, bO⟩
end Go.Proofs.YtcjblhiihgdljaaGreat
