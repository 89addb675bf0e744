/- Contracts of the laws' helpers that measure sites and queues. -/
import Derived.Test.YtcjblhiihgdljaaRows
import Derived.Test.YtcjblhiihgdljaaSitRow
import Derived.Test.YtcjblhiihgdljaaWtSz
import Derived.Test.YtcjblhiihgdljaaLsSz
namespace Go.Proofs.Ytcjblhiihgdljaa
open Go.RowKit
set_option linter.unusedVariables false

def szSit (x : SiteV) : Nat := x.n.size + sumWt x.w
def sumSit (l : List SiteV) : Nat := l.length + psum (fun i => szSit (l.getD i sitv0)) l.length
def SitMx (l : List SiteV) : Prop := l.length ≤ maxLen ∧ ∀ i, i < l.length → (l.getD i sitv0).n.size ≤ maxLen ∧ WtMx (l.getD i sitv0).w
theorem sumSit_len {l : List SiteV} (h : sumSit l ≤ 1048576) : l.length ≤ 1048576 := by unfold sumSit at h; omega
theorem leftZ_neg {left : Int} {a b : Nat} (h0 : 0 ≤ left) (h : leftZ left a < 0) : leftZ left (a + b) = -1 := leftZ_no (by
  by_cases hh : (a : Int) ≤ left
  · have := leftZ_yes hh; omega
  · omega)
set_option maxHeartbeats 4000000 in
theorem szSitC (x : SiteV) (q : Value) (left : Int) (w : World) (h0 : 0 ≤ left) (h1 : left ≤ 1048576) (hm1 : x.n.size ≤ maxLen) (hm2 : WtMx x.w) (hq : WtRow w q x.w) :
    Calls Try.prog 40 #[.agg #[.string x.n, .int .i64 x.r, q], .int .i64 left] w fun e w' => e = .returned (.int .i64 (leftZ left (szSit x))) ∧ Below w.heap.size w w' := by
  obtain ⟨n, r, l⟩ := x
  dsimp only at hm1 hm2 hq ⊢
  unfold szSit
  dsimp only
  obtain ⟨O, hO⟩ : ∃ O, O = w.alloc (.cells #[.string n, .int .i64 r, q] 65) := ⟨_, rfl⟩
  have bO : Below w.heap.size w O := by rw [hO]; exact (Below.refl _ _).alloc (Nat.le_refl _) _
  have AO : BAt O w.heap.size [.string n, .int .i64 r, q] := by rw [hO]; exact BAt.new w #[.string n, .int .i64 r, q] _
  unfold maxLen at hm1
  have CR : Hid (∀ W z, Below w.heap.size w W → 0 ≤ z → z ≤ 1048576 → Calls Try.prog 64 #[q, .int .i64 z] W fun e w' => e = .returned (.int .i64 (leftZ z (sumWt l))) ∧ Below W.heap.size W w') := fun W z hW h2 h3 => szWts l q z W h2 h3 hm2 (hq.below hW)
  obtain ⟨qa, qc, rfl⟩ := hq.slice
  clear hq hm2
  have c0 := AO.1 0 _ rfl
  have c2 := AO.1 2 _ rfl
  by_cases hn : left - (n.size : Int) < 0
  · have HZ : Hid (leftZ left (n.size + sumWt l) = -1) := leftZ_no (by omega)
    go_enter Try.func40, Try.ntmps40
    go_upto_region 1 with fail
    rw [← hO]
    clear hO
    go_wp2_with fail
    go_ret
    exact ⟨by rw [HZ.out]; rfl, bO⟩
  · obtain ⟨z, hz⟩ : ∃ z : Int, left - (n.size : Int) = z := ⟨_, rfl⟩
    have hz0 : 0 ≤ z := by omega
    have hz1 : z ≤ 1048576 := by omega
    have hz2 : ¬ z < 0 := by omega
    have HZ : Hid (leftZ left (n.size + sumWt l) = leftZ z (sumWt l)) := by
      show _ = _
      rw [← leftZ_two h0 (by omega), leftZ_yes (show (n.size : Int) ≤ left by omega), hz]
    have CR2 := hidM (CR.out O z bO hz0 hz1)
    have hl := leftZ_le (n := sumWt l) hz0
    generalize leftZ z (sumWt l) = y at *
    obtain ⟨hl1, _, _⟩ := hl
    clear CR
    go_enter Try.func40, Try.ntmps40
    go_upto_region 1 with fail
    rw [← hO]
    clear hO
    go_wp2_with fail
    refine CR2.out.mono ?_
    rintro e w1 ⟨rfl, b1⟩
    have B1 := bO.trans (b1.mono bO.size)
    clear CR2 b1
    by_cases hy : y < 0
    · obtain rfl : y = -1 := by omega
      go_wp2_with fail
      go_ret
      exact ⟨by rw [HZ.out]; rfl, B1⟩
    · go_wp2_with fail
      go_ret
      exact ⟨by rw [HZ.out]; rfl, B1⟩
set_option maxHeartbeats 4000000 in
theorem szSits (l : List SiteV) (v : Value) (left : Int) (w : World) (h0 : 0 ≤ left) (h1 : left ≤ 1048576) (hm : SitMx l) (h : SitRow w v l) :
    Calls Try.prog 20 #[v, .int .i64 left] w fun e w' => e = .returned (.int .i64 (leftZ left (sumSit l))) ∧ Below w.heap.size w w' := by
  obtain ⟨hml, hmx⟩ := hm
  unfold maxLen at hml
  have HMX : Hid (∀ i, i < l.length → (l.getD i sitv0).n.size ≤ maxLen ∧ WtMx (l.getD i sitv0).w) := hmx
  clear hmx
  by_cases hneg : left - (l.length : Int) < 0
  · obtain ⟨ao, cap, rfl⟩ := h.slice
    clear h
    have HZ : Hid (leftZ left (sumSit l) = -1) := leftZ_no (by unfold sumSit; omega)
    go_enter Try.func20, Try.ntmps20
    go_wp2
    go_ret
    exact ⟨by rw [HZ.out]; rfl, Below.refl _ _⟩
  · rcases h.cases with ⟨rfl, ao, cap, rfl⟩ | ⟨hp, g, off, cap, rfl, hg, hc⟩
    · have HZ : Hid (leftZ left (sumSit []) = left) := (leftZ_yes (by show ((0 : Nat) : Int) ≤ left; omega)).trans (by show left - ((0 : Nat) : Int) = left; omega)
      clear h
      go_enter Try.func20, Try.ntmps20
      have hneg' : ¬ left < 0 := by omega
      go_wp2
      refine wp_loop_rounds 1 ?_
      rw [rounds_succ]
      go_wp2
      go_ret
      exact ⟨by rw [HZ.out]; rfl, Below.refl _ _⟩
    · have HC : Hid (∀ i, i < l.length → SitAt w g (off + i * 3) (l.getD i sitv0)) := hc
      clear hc h
      obtain ⟨F, hF⟩ : ∃ F : Nat → Nat, F = fun i => szSit (l.getD i sitv0) := ⟨_, rfl⟩
      have HS : Hid (sumSit l = l.length + psum F l.length) := by show _ = _; rw [hF]; rfl
      have HF : Hid (F = fun i => szSit (l.getD i sitv0)) := hF
      clear hF
      have hz : ∃ z : Int, left - l.length = z ∧ 0 ≤ z ∧ z ≤ left := ⟨_, rfl, by omega, by omega⟩
      obtain ⟨z0, hz0, hz1, hz2⟩ := hz
      have HZ0 : Hid (left - l.length = z0) := hz0
      clear hneg
      have hzn : ¬ z0 < 0 := by omega
      go_enter Try.func20, Try.ntmps20
      go_wp2
      clear hz0 hzn
      go_loopw [1, 5] (fun a i wr => ∃ (k : Nat) (z : Int), k ≤ l.length ∧ i = .int .i64 k ∧ a = .int .i64 z ∧ 0 ≤ z ∧ z ≤ left ∧ Hid (z = z0 - psum F k) ∧ Below w.heap.size w wr) (fun _ i _ => l.length - (intOf i).toNat)
      case atStart => exact ⟨0, z0, Nat.zero_le _, rfl, rfl, hz1, hz2, (by show z0 = z0 - ((0 : Nat) : Int); omega), Below.refl _ _⟩
      case round =>
        obtain ⟨k, z, hk, rfl, rfl, hy1, hy2, HX, hbel⟩ := hrel
        clear hz1 hz2
        by_cases hlt : k < l.length
        · have hki : (k : Int) < l.length := by omega
          obtain ⟨c0, c1, q, c2, c3⟩ := (HC.out k hlt).below hbel hg
          have HFk : Hid (F k = szSit (l.getD k sitv0)) := by show _ = _; rw [HF.out]
          have CR : Hid (Calls Try.prog 40 #[.agg #[.string (l.getD k sitv0).n, .int .i64 (l.getD k sitv0).r, q], .int .i64 z] wr fun e w' => e = .returned (.int .i64 (leftZ z (szSit (l.getD k sitv0)))) ∧ Below wr.heap.size wr w') := szSitC (l.getD k sitv0) q z wr hy1 (by omega) (HMX.out k hlt).1 (HMX.out k hlt).2 c3
          obtain ⟨xa, xc, hxx⟩ := c3.slice
          clear c3
          generalize szSit (l.getD k sitv0) = XS at *
          generalize (l.getD k sitv0).n = x0 at *
          generalize (l.getD k sitv0).r = x1 at *
          generalize (l.getD k sitv0).w.length = XN at *
          subst hxx
          have hlz := leftZ_le (n := XS) hy1
          have HLY : Hid ((XS : Int) ≤ z → leftZ z XS = z - XS) := leftZ_yes
          have HLN : Hid (z < (XS : Int) → leftZ z XS = -1) := leftZ_no
          generalize leftZ z XS = z' at *
          obtain ⟨q1, q2, q3⟩ := hlz
          have HQ3 : Hid (0 ≤ z' → (XS : Int) ≤ z) := q3
          clear q3
          go_wp2_with fail
          refine CR.out.mono ?_
          rintro e w1 ⟨rfl, b1⟩
          have B1 := hbel.trans (b1.mono hbel.size)
          clear CR b1 hbel c0 c1 c2
          by_cases hn : z' < 0
          · have HZ : Hid (leftZ left (sumSit l) = -1) := leftZ_no (by
              have e1 := HX.out; have e2 := HZ0.out; have e3 := HFk.out
              have e4 := psum_le F (show k + 1 ≤ l.length from hlt)
              have e5 : psum F (k + 1) = psum F k + F k := rfl
              have e6 : z < (XS : Int) := by
                by_cases h : (XS : Int) ≤ z
                · have := HLY.out h; omega
                · omega
              rw [HS.out]; omega)
            clear HX
            go_wp2_with fail
            go_ret
            exact ⟨by rw [HZ.out]; rfl, B1⟩
          · have HN : Hid (z' = z0 - psum F (k + 1)) := by
              show _ = _
              have e1 := HX.out; have e3 := HFk.out
              have e5 : psum F (k + 1) = psum F k + F k := rfl
              have e6 := HLY.out (HQ3.out (by omega))
              omega
            clear HX
            go_wp2_with fail
            go_roundw
            case rel => exact ⟨k + 1, _, by omega, by go_num, rfl, by omega, by omega, HN, B1⟩
            case measure => simp [intOf]; omega
        · have hki : ¬ (k : Int) < l.length := by omega
          have HZ : Hid (leftZ left (sumSit l) = z) := by
            have e1 := HX.out; have e2 := HZ0.out
            rw [show k = l.length by omega] at e1
            show _ = _
            rw [HS.out, leftZ_yes (by omega)]
            omega
          clear HX
          go_wp2_with fail
          go_ret
          exact ⟨by rw [HZ.out]; rfl, hbel⟩
set_option maxHeartbeats 4000000 in
theorem szSch (d sp nw sq : Int) (si : List SiteV) (le : List LsV) (p q : Value) (left : Int) (w : World) (h0 : 0 ≤ left) (h1 : left ≤ 1048576) (hm1 : SitMx si) (hm2 : LsMx le) (hp : SitRow w p si) (hq : LsRow w q le) :
    Calls Try.prog 6 #[.agg #[.int .i64 d, .int .i64 sp, .int .i64 nw, .int .i64 sq, p, q], .int .i64 left] w fun e w' => e = .returned (.int .i64 (leftZ left (sumSit si + sumLs le))) ∧ Below w.heap.size w w' := by
  obtain ⟨O, hO⟩ : ∃ O, O = w.alloc (.cells #[.int .i64 d, .int .i64 sp, .int .i64 nw, .int .i64 sq, p, q] 25) := ⟨_, rfl⟩
  have bO : Below w.heap.size w O := by rw [hO]; exact (Below.refl _ _).alloc (Nat.le_refl _) _
  have AO : BAt O w.heap.size [.int .i64 d, .int .i64 sp, .int .i64 nw, .int .i64 sq, p, q] := by rw [hO]; exact BAt.new w #[.int .i64 d, .int .i64 sp, .int .i64 nw, .int .i64 sq, p, q] _
  have CM := hidM (szSits si p left O h0 h1 hm1 (hp.below bO))
  have hlz := leftZ_le (n := sumSit si) h0
  have CR : Hid (∀ W, Below w.heap.size w W → 0 ≤ leftZ left (sumSit si) → Calls Try.prog 21 #[q, .int .i64 (leftZ left (sumSit si))] W fun e w' => e = .returned (.int .i64 (leftZ (leftZ left (sumSit si)) (sumLs le))) ∧ Below W.heap.size W w') := fun W hW h => szLss le q _ W h (by omega) hm2 (hq.below hW)
  have HT : Hid (0 ≤ leftZ left (sumSit si) → leftZ (leftZ left (sumSit si)) (sumLs le) = leftZ left (sumSit si + sumLs le)) := fun h => leftZ_two h0 (hlz.2.2 h)
  have HN : Hid (leftZ left (sumSit si) < 0 → leftZ left (sumSit si + sumLs le) = -1) := fun h => leftZ_neg h0 h
  obtain ⟨pa, pc, rfl⟩ := hp.slice
  obtain ⟨qa, qc, rfl⟩ := hq.slice
  have hl2 := hlz.1
  clear hp hq hlz
  generalize leftZ left (sumSit si) = z at *
  have hz2 := leftZ_le (left := z) (n := sumLs le)
  generalize leftZ z (sumLs le) = z2 at *
  have c4 := AO.1 4 _ rfl
  go_enter Try.func6, Try.ntmps6
  go_upto_region 1 with fail
  rw [← hO]
  clear hO
  go_wp2_with fail
  refine CM.out.mono ?_
  rintro e w1 ⟨rfl, b1⟩
  have B1 := bO.trans (b1.mono bO.size)
  have c5 := (AO.below b1).1 5 _ rfl
  clear CM c4
  by_cases hz : z < 0
  · have HE := hidM (HN.out hz)
    go_wp2_with fail
    go_ret
    exact ⟨by rw [HE.out]; rfl, B1⟩
  · have hz0 : 0 ≤ z := by omega
    obtain ⟨y1, y2, y3⟩ := hz2 hz0
    clear y3
    have HE := hidM (HT.out hz0)
    have CR2 := hidM (CR.out w1 B1 hz0)
    clear CR HT HN
    go_wp2_with fail
    refine CR2.out.mono ?_
    rintro e w2 ⟨rfl, b2⟩
    have B2 := B1.trans (b2.mono B1.size)
    by_cases hz3 : z2 < 0
    · obtain rfl : z2 = -1 := by omega
      go_wp2_with fail
      go_ret
      exact ⟨by rw [← HE.out]; rfl, B2⟩
    · go_wp2_with fail
      go_ret
      exact ⟨by rw [← HE.out]; rfl, B2⟩
end Go.Proofs.Ytcjblhiihgdljaa
