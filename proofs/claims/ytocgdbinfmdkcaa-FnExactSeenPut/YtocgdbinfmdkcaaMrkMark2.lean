/- The laws' marks on rows of rows of marks, and on what was seen. -/
import Derived.Test.YtocgdbinfmdkcaaRows
import Derived.Test.YtocgdbinfmdkcaaMrkMark
import Derived.Test.YtocgdbinfmdkcaaRunOwn
import Derived.Deep.DeepCutAuto
import Derived.Handy
namespace Go.Proofs.Ytocgdbinfmdkcaa
open Go.RowKit
set_option linter.unusedVariables false

def kR (k0 : Nat) (ll : List (List EV)) (i : Nat) : Nat := k0 + 2 * psum (fun j => (ll.getD j []).length) i
def mixR (k0 : Nat) (ll : List (List EV)) (k : Nat) : List (List EV) := (List.range ll.length).map fun i => if i < k then mkEL (kR k0 ll i) (ll.getD i []).length else ll.getD i []
def markR (k0 : Nat) (ll : List (List EV)) : List (List EV) := mixR k0 ll ll.length
theorem kR_succ (k0 : Nat) (ll : List (List EV)) (i : Nat) : kR k0 ll (i + 1) = kR k0 ll i + 2 * (ll.getD i []).length := by
  unfold kR
  show k0 + 2 * (psum _ i + (ll.getD i []).length) = _
  omega
theorem kR_le (k0 : Nat) (ll : List (List EV)) {i j : Nat} (h : i ≤ j) : kR k0 ll i ≤ kR k0 ll j := by
  unfold kR
  have := psum_le (fun j => (ll.getD j []).length) h
  omega
theorem mixR_length (k0 : Nat) (ll : List (List EV)) (k : Nat) : (mixR k0 ll k).length = ll.length := by simp [mixR]
theorem mixR_at (k0 : Nat) (ll : List (List EV)) (k : Nat) {i : Nat} (h : i < ll.length) : (mixR k0 ll k).getD i [] = if i < k then mkEL (kR k0 ll i) (ll.getD i []).length else ll.getD i [] := getD_map _ _ _ _ h
theorem markR_at (k0 : Nat) (ll : List (List EV)) {i : Nat} (h : i < ll.length) : (markR k0 ll).getD i [] = mkEL (kR k0 ll i) (ll.getD i []).length := by
  unfold markR
  rw [mixR_at k0 ll _ h, if_pos h]
theorem InR.ext {w : World} {base top : Nat} {v : Value} {vs : List Value} {l l' : List (List EV)} {k : Nat} (h : InR w base top v vs l k) (he : ∀ i, i < k → l'.getD i [] = l.getD i []) : InR w base top v vs l' k :=
  ⟨fun i hi => by rw [he i hi]; exact h.1 i hi, h.2⟩
/-- Nothing but the blocks of these rows has turned. -/
structure OnlyR (vs : List Value) (n : Nat) (w w' : World) : Prop where
  os : w'.os = w.os
  tape : w'.tape = w.tape
  output : w'.output = w.output
  size : w.heap.size ≤ w'.heap.size
  block : ∀ b, b < w.heap.size → (∀ a x, a < n → vs[a]? = some x → x.ownBlock ≠ some b) → w'.heap[b]? = w.heap[b]?
theorem OnlyR.refl (vs : List Value) (n : Nat) (w : World) : OnlyR vs n w w := ⟨rfl, rfl, rfl, Nat.le_refl _, fun _ _ _ => rfl⟩
theorem OnlyR.more {vs : List Value} {n a : Nat} {x : Value} {w w1 w2 : World} (h : OnlyR vs n w w1) (ha : a < n) (hx : vs[a]? = some x) (hg : w1.grownBy w2 x.ownBlock) : OnlyR vs n w w2 :=
  ⟨hg.os.trans h.os, hg.tape.trans h.tape, hg.output.trans h.output, Nat.le_trans h.size hg.size, fun b hb hn => (hg.block b (Nat.lt_of_lt_of_le hb h.size) (fun e => hn a x ha hx e.symm)).trans (h.block b hb hn)⟩
theorem OnlyR.only {vs : List Value} {n base top : Nat} {v : Value} {l : List (List EV)} {w0 w w' : World} (h : OnlyR vs n w w') (hI : InR w0 base top v vs l n) : Only base top w w' :=
  ⟨h.os, h.tape, h.output, h.size, fun k hk hx => h.block k hk fun a x ha he e => by
    have h1 := hI.ge ha he k e
    have h2 := (hI.2.1 a x ha he).2.1 k e
    omega⟩
set_option maxRecDepth 100000 in
set_option maxHeartbeats 4000000 in
theorem markRuns (ll : List (List EV)) (v : Value) (vs : List Value) (k0 base top : Nat) (w : World) (hk0 : 0 < k0) (hll : ll.length ≤ 1048576) (hK : kR k0 ll ll.length ≤ 1000000000) (ht : top ≤ w.heap.size) (h1 : w.ownsRow base 24 1 v ll.length vs) (h2 : InR w base top v vs ll ll.length) :
    Calls Try.prog 51 #[v, .int .i64 (k0 : Int)] w fun e w' => e = .returned (.int .i64 ((kR k0 ll ll.length : Nat) : Int)) ∧ InR w' base top v vs (markR k0 ll) ll.length ∧ OnlyR vs ll.length w w' := by
  by_cases h0 : ll.length = 0
  · have hl : ll = [] := List.eq_nil_of_length_eq_zero h0
    obtain ⟨ao, cap, rfl⟩ := (RunRow.of_own h1 h2).slice
    subst hl
    have HI : Hid (InR w base top (.slice ao 0 cap) vs (markR k0 []) 0) := h2
    have HK0 : Hid (kR k0 [] 0 = k0) := rfl
    clear h1 h2
    go_enter Try.func51, Try.ntmps51
    go_wp2
    refine wp_loop_rounds 1 ?_
    rw [rounds_succ]
    go_wp2
    go_ret
    exact ⟨rfl, HI.out, OnlyR.refl _ _ _⟩
  · obtain ⟨g, cap, rfl⟩ : ∃ g cap, v = .slice (some ⟨g, 0, none⟩) ll.length cap := by
      rcases h1.2 with ⟨_, h3⟩ | ⟨g, cap, cur, rfl, _⟩
      · exact absurd h3 h0
      · exact ⟨g, cap, rfl⟩
    have hg := (h1.lt g rfl).2
    have H1 := hidM h1
    have HI0 : Hid (InR w base top (.slice (some ⟨g, 0, none⟩) ll.length cap) vs (mixR k0 ll 0) ll.length) := hidM (h2.ext fun i hi => by rw [mixR_at k0 ll 0 hi, if_neg (Nat.not_lt_zero _)])
    have HKL : Hid (∀ i, i ≤ ll.length → k0 ≤ kR k0 ll i ∧ kR k0 ll i ≤ 1000000000) := fun i hi => ⟨by unfold kR; omega, Nat.le_trans (kR_le k0 ll hi) hK⟩
    clear h1 h2 hK
    go_enter Try.func51, Try.ntmps51
    go_wp2
    go_loopw [1, 5] (fun a i wr => ∃ (k z : Nat), k ≤ ll.length ∧ i = .int .i64 k ∧ a = .int .i64 z ∧ Hid (z = kR k0 ll k) ∧ Hid (InR wr base top (.slice (some ⟨g, 0, none⟩) ll.length cap) vs (mixR k0 ll k) ll.length) ∧ Hid (OnlyR vs ll.length w wr)) (fun _ i _ => ll.length - (intOf i).toNat)
    case atStart => exact ⟨0, k0, Nat.zero_le _, rfl, rfl, rfl, HI0, OnlyR.refl _ _ _⟩
    case round =>
      clear HI0
      obtain ⟨k, z, hk, rfl, rfl, HZ, HI, HR⟩ := hrel
      by_cases hlt : k < ll.length
      · have hki : (k : Int) < ll.length := by omega
        obtain ⟨x, a1, a2⟩ := HI.out.1 k hlt
        rw [mixR_at k0 ll k hlt, if_neg (Nat.lt_irrefl _)] at a2
        have hc : wr.cell? ⟨g, k, none⟩ = some x := by
          have hb := HR.out.block g hg (fun a y ha hy e => (HI.out.2.1 a y ha hy).1 g e rfl)
          rw [World.cell?_of_block (w := w) (a := ⟨g, k, none⟩) hb, H1.out.cellAt k (by omega)]
          exact a1
        obtain ⟨hz1, hz2⟩ := HKL.out k hk
        have hzz := HZ.out
        have hk1 := (HKL.out (k + 1) (by omega)).2
        have hks := kR_succ k0 ll k
        have CM := hidM (markMrks (ll.getD k []) x z base wr (by omega) (by omega) a2)
        have HN : Hid (z + 2 * (ll.getD k []).length = kR k0 ll (k + 1)) := hidM (by omega)
        have HMX : Hid (∀ W, W.ownsRow base 35 2 x (ll.getD k []).length (ecells (mkEL z (ll.getD k []).length)) → wr.grownBy W x.ownBlock → InR W base top (.slice (some ⟨g, 0, none⟩) ll.length cap) vs (mixR k0 ll (k + 1)) ll.length ∧ OnlyR vs ll.length w W) := fun W ho hg => by
          refine ⟨HI.out.at (l' := mixR k0 ll (k + 1)) hlt a1 (fun b h1 h2 h3 h4 => hg.block b ?_ h4) ?_ (fun j hj hne => ?_), HR.out.more hlt a1 hg⟩
          · have := HR.out.size; omega
          · rw [mixR_at k0 ll (k + 1) hlt, if_pos (by omega), mkEL_length, ← hzz]
            exact ho
          · rw [mixR_at k0 ll (k + 1) hj, mixR_at k0 ll k hj]
            by_cases hjk : j < k
            · rw [if_pos (by omega), if_pos hjk]
            · rw [if_neg (by omega), if_neg hjk]
        obtain ⟨xa, xc, hxe⟩ := (EntRow.of_own' a2).slice
        have hzb : z ≤ 1000000000 := by omega
        have hNb : z + 2 * (ll.getD k []).length ≤ 1000000000 := by omega
        clear a1 a2 HI HR HZ hzz hks hz1 hz2 hk1
        generalize (ll.getD k []).length = XN at *
        subst hxe
        go_wp2_with fail
        refine CM.out.mono ?_
        rintro e w1 ⟨rfl, o1, g1⟩
        obtain ⟨i1, r1⟩ := HMX.out w1 o1 g1
        have I1 := hidM i1
        have R1 := hidM r1
        clear i1 r1 o1 g1 CM HMX hc
        go_wp2_with fail
        go_roundw
        case rel => exact ⟨k + 1, z + 2 * XN, by omega, by go_num, rfl, HN, I1, R1⟩
        case measure => simp [intOf]; omega
      · have hki : ¬ (k : Int) < ll.length := by omega
        have hke : k = ll.length := by omega
        have HE : Hid (Value.int .i64 (z : Int) = .int .i64 ((kR k0 ll ll.length : Nat) : Int)) := hidM (by rw [HZ.out, hke])
        have HI2 : Hid (InR wr base top (.slice (some ⟨g, 0, none⟩) ll.length cap) vs (markR k0 ll) ll.length) := hidM (by have := HI.out; rw [hke] at this; exact this)
        clear HI HZ hke
        go_wp2_with fail
        go_ret
        exact ⟨by first | exact congrArg _ HE.out | (rw [HE.out]; rfl), HI2.out, HR.out⟩
set_option maxRecDepth 100000 in
set_option maxHeartbeats 4000000 in
theorem heldRuns (ll : List (List EV)) (v : Value) (k0 : Nat) (w : World) (hk0 : 0 < k0) (hll : ll.length ≤ 1048576) (hK : kR k0 ll ll.length ≤ 1000000000) (h : RunRow w v (markR k0 ll)) :
    Calls Try.prog 53 #[v, .int .i64 (k0 : Int)] w fun e w' => e = .returned (.int .i64 ((kR k0 ll ll.length : Nat) : Int)) ∧ Below w.heap.size w w' := by
  have hml : (markR k0 ll).length = ll.length := mixR_length k0 ll _
  rcases h with ⟨h0, ao, cap, rfl⟩ | ⟨h0, g, off, cap, rfl, hg, hc⟩
  · have hl : ll = [] := List.eq_nil_of_length_eq_zero (by rw [← hml, h0]; rfl)
    subst hl
    clear hml h0
    go_enter Try.func53, Try.ntmps53
    go_wp2
    refine wp_loop_rounds 1 ?_
    rw [rounds_succ]
    go_wp2
    go_ret
    exact ⟨rfl, Below.refl _ _⟩
  · rw [hml] at h0 hc ⊢
    have HC : Hid (∀ i, i < ll.length → ∃ x, w.cell? ⟨g, off + i, none⟩ = some x ∧ EntRow w x (mkEL (kR k0 ll i) (ll.getD i []).length)) := fun i hi => by
      obtain ⟨x, a1, a2⟩ := hc i hi
      rw [markR_at k0 ll hi] at a2
      exact ⟨x, a1, a2⟩
    have HKL : Hid (∀ i, i ≤ ll.length → k0 ≤ kR k0 ll i ∧ kR k0 ll i ≤ 1000000000) := fun i hi => ⟨by unfold kR; omega, Nat.le_trans (kR_le k0 ll hi) hK⟩
    clear hc hml hK
    go_enter Try.func53, Try.ntmps53
    go_wp2
    go_loopw [1, 5] (fun a i wr => ∃ (k z : Nat), k ≤ ll.length ∧ i = .int .i64 k ∧ a = .int .i64 z ∧ Hid (z = kR k0 ll k) ∧ Below w.heap.size w wr) (fun _ i _ => ll.length - (intOf i).toNat)
    case atStart => exact ⟨0, k0, Nat.zero_le _, rfl, rfl, rfl, Below.refl _ _⟩
    case round =>
      obtain ⟨k, z, hk, rfl, rfl, HZ, hbel⟩ := hrel
      by_cases hlt : k < ll.length
      · have hki : (k : Int) < ll.length := by omega
        obtain ⟨x, c1, c2⟩ := HC.out k hlt
        have c1w := (hbel.cell (p := ⟨g, off + k, none⟩) hg).trans c1
        obtain ⟨hz1, hz2⟩ := HKL.out k hk
        have hzz := HZ.out
        have hk1 := (HKL.out (k + 1) (by omega)).2
        have hks := kR_succ k0 ll k
        rw [← hzz] at c2
        have CM := hidM (heldMrks (ll.getD k []).length x z wr (by omega) (by omega) (c2.below hbel))
        have HN : Hid (z + 2 * (ll.getD k []).length = kR k0 ll (k + 1)) := hidM (by omega)
        obtain ⟨xa, xc, hxe⟩ := c2.slice
        rw [mkEL_length] at hxe
        have hNb : z + 2 * (ll.getD k []).length ≤ 1000000000 := by omega
        clear c1 c2 HZ hzz hks hz1 hz2 hk1
        generalize (ll.getD k []).length = XN at *
        subst hxe
        obtain ⟨y, hy⟩ : ∃ y : Int, ((z + 2 * XN : Nat) : Int) = y := ⟨_, rfl⟩
        have hy0 : ¬ y < 0 := by omega
        rw [hy] at CM
        have HY : Hid (Value.int .i64 y = .int .i64 ((z + 2 * XN : Nat) : Int)) := hidM (by rw [hy])
        clear hy
        go_wp2_with fail
        refine CM.out.mono ?_
        rintro e w1 ⟨rfl, b1⟩
        have B1 := hbel.trans (b1.mono hbel.size)
        clear CM b1 hbel c1w
        go_wp2_with fail
        go_roundw
        case rel => exact ⟨k + 1, z + 2 * XN, by omega, by go_num, HY.out, HN, B1⟩
        case measure => simp [intOf]; omega
      · have hki : ¬ (k : Int) < ll.length := by omega
        have HE : Hid (Value.int .i64 (z : Int) = .int .i64 ((kR k0 ll ll.length : Nat) : Int)) := hidM (by rw [HZ.out, show k = ll.length by omega])
        clear HZ
        go_wp2_with fail
        go_ret
        exact ⟨by first | exact congrArg _ HE.out | (rw [HE.out]; rfl), hbel⟩
def kS (m : List EV) (ll : List (List EV)) : Nat := kR (1 + 2 * m.length) ll ll.length
set_option maxHeartbeats 4000000 in
theorem markSeen (m : List EV) (ll : List (List EV)) (p q : Value) (base top : Nat) (w : World) (hll : ll.length ≤ 1048576) (hK : kS m ll ≤ 1000000000) (ht : top ≤ w.heap.size) (h : SnOwn w base top p q m ll) :
    Calls Try.prog 23 #[.agg #[p, q], .int .i64 1] w fun e w' => e = .returned (.int .i64 ((kS m ll : Nat) : Int)) ∧ SnOwn w' base top p q (mkEL 1 m.length) (markR (1 + 2 * m.length) ll) ∧ Only base top w w' := by
  have hk1 : 1 + 2 * m.length ≤ kS m ll := by unfold kS kR; omega
  obtain ⟨O, hO⟩ : ∃ O, O = w.alloc (.cells #[p, q] 27) := ⟨_, rfl⟩
  have bO : Below w.heap.size w O := by rw [hO]; exact (Below.refl _ _).alloc (Nat.le_refl _) _
  have AO : BAt O w.heap.size [p, q] := by rw [hO]; exact BAt.new w #[p, q] _
  obtain ⟨vs, s1, s2⟩ := h.below ht bO
  obtain ⟨x, a1, a2⟩ := s2.1 0 (by omega)
  obtain rfl : p = x := by simpa using a1
  have CM := hidM (markMrks m p 1 base O (by decide) (by omega) a2)
  obtain ⟨pa, pc, hpe⟩ : ∃ pa pc, p = .slice pa m.length pc := (EntRow.of_own' a2).slice
  obtain ⟨qa, qc, hqe⟩ := (RunRow.of_own s1 s2.tail).slice
  have hpt := (s2.2.1 0 p (by omega) rfl).2.1
  have hpv := (s2.2.1 0 p (by omega) rfl).1
  have hpx : ∀ a x, a < ll.length → vs[a]? = some x → apt p x := fun a x ha hx => (s2.2.1 0 p (by omega) rfl).2.2 (a + 1) x (by omega) (by simpa using hx) (by omega)
  have HK := hidM (show ∀ W, W.ownsRow base 35 2 p m.length (ecells (mkEL 1 m.length)) → O.grownBy W p.ownBlock → W.ownsRow base 24 1 q ll.length vs ∧ InR W base top q vs ll ll.length from fun W _ hg => by
    have hs : ∀ b, base ≤ b → b < top → some b ≠ p.ownBlock → W.heap[b]? = O.heap[b]? := fun b h1 h2 h3 => hg.block b (by have := bO.size; omega) h3
    refine ⟨own_at s1 fun b hb => hs b (s1.lt b hb).1 (s2.2.2 b hb) (fun e => hpv b e.symm hb), ?_⟩
    have ht := s2.tail
    refine ⟨fun i hi => ?_, ht.2⟩
    obtain ⟨y, y1, y2⟩ := ht.1 i hi
    exact ⟨y, y1, own_at y2 fun b hb => hs b (y2.lt b hb).1 ((ht.2.1 i y hi y1).2.1 b hb) (fun e => hpx i y hi y1 b e.symm hb)⟩)
  have HQ : Hid (∀ W, top ≤ W.heap.size → W.ownsRow base 24 1 q ll.length vs → InR W base top q vs ll ll.length → Calls Try.prog 51 #[q, .int .i64 ((1 + 2 * m.length : Nat) : Int)] W fun e w' => e = .returned (.int .i64 ((kS m ll : Nat) : Int)) ∧ InR w' base top q vs (markR (1 + 2 * m.length) ll) ll.length ∧ OnlyR vs ll.length W w') := fun W h1 h2 h3 => markRuns ll q vs (1 + 2 * m.length) base top W (by omega) hll hK h1 h2 h3
  have HF : Hid (∀ W1 W2, O.grownBy W1 p.ownBlock → W1.ownsRow base 35 2 p m.length (ecells (mkEL 1 m.length)) → W1.ownsRow base 24 1 q ll.length vs → InR W2 base top q vs (markR (1 + 2 * m.length) ll) ll.length → OnlyR vs ll.length W1 W2 → SnOwn W2 base top p q (mkEL 1 m.length) (markR (1 + 2 * m.length) ll) ∧ Only base top w W2) := fun W1 W2 g1 o1 q1 i2 r2 => by
    have hml : (markR (1 + 2 * m.length) ll).length = ll.length := mixR_length _ _ _
    have hsz : ∀ b, b < top → b < W1.heap.size := fun b hb => by have := bO.size; have := g1.size; omega
    refine ⟨⟨vs, ?_, ?_⟩, ?_⟩
    · rw [hml]
      exact own_at q1 fun b hb => r2.block b (hsz b (s2.2.2 b hb)) fun a x ha hx e => (s2.tail.2.1 a x ha hx).1 b e hb
    · rw [hml]
      refine InR.cons i2 ?_ hpt hpv hpx
      rw [mkEL_length]
      exact own_at o1 fun b hb => r2.block b (hsz b (hpt b hb)) fun a x ha hx e => hpx a x ha hx b hb e
    · have oO : Only base top w O := Only.of_below bO
      have o1' : Only base top O W1 := Only.of_grown g1 fun b hb => ⟨(a2.lt b hb).1, hpt b hb⟩
      exact (oO.trans o1').trans (r2.only i2)
  have HSZ : Hid (∀ W, O.grownBy W p.ownBlock → top ≤ W.heap.size ∧ BAt W w.heap.size [p, q]) := fun W hg => ⟨by have := bO.size; have := hg.size; omega, AO.same hg.size (hg.block _ AO.2.2 fun e => by have := hpt w.heap.size e.symm; omega)⟩
  subst hpe hqe
  have c0 := AO.1 0 _ rfl
  clear h s1 s2 a1 a2 hpt hpv hpx AO
  obtain ⟨y1, hy1⟩ : ∃ y : Int, ((1 + 2 * m.length : Nat) : Int) = y := ⟨_, rfl⟩
  obtain ⟨y2, hy2⟩ : ∃ y : Int, ((kS m ll : Nat) : Int) = y := ⟨_, rfl⟩
  rw [hy1] at CM HQ
  rw [hy2] at HQ ⊢
  clear hy1 hy2
  go_enter Try.func23, Try.ntmps23
  go_upto_region 1 with fail
  rw [← hO]
  clear hO
  go_wp2_with fail
  refine CM.out.mono ?_
  rintro e w1 ⟨rfl, o1, g1⟩
  obtain ⟨q1, i1⟩ := HK.out w1 o1 g1
  obtain ⟨ht1, A1⟩ := HSZ.out w1 g1
  have c1 := A1.1 1 _ rfl
  have CQ := hidM (HQ.out w1 ht1 q1 i1)
  have HF2 := hidM (fun W2 => HF.out w1 W2 g1 o1 q1)
  clear HQ HF HK HSZ CM c0 o1 g1 q1 i1 A1
  go_wp2_with fail
  refine CQ.out.mono ?_
  rintro e w2 ⟨rfl, i2, r2⟩
  obtain ⟨f1, f2⟩ := HF2.out w2 i2 r2
  have F1 := hidM f1
  have F2 := hidM f2
  clear f1 f2 i2 r2 CQ HF2 c1
  go_wp2_with fail
  go_ret
  exact ⟨rfl, F1.out, F2.out⟩
set_option maxHeartbeats 4000000 in
theorem heldSeen (m : List EV) (ll : List (List EV)) (p q : Value) (w : World) (hll : ll.length ≤ 1048576) (hK : kS m ll ≤ 1000000000) (hp : EntRow w p (mkEL 1 m.length)) (hq : RunRow w q (markR (1 + 2 * m.length) ll)) :
    Calls Try.prog 24 #[.agg #[p, q], .int .i64 1] w fun e w' => e = .returned (.int .i64 ((kS m ll : Nat) : Int)) ∧ Below w.heap.size w w' := by
  have hk1 : 1 + 2 * m.length ≤ kS m ll := by unfold kS kR; omega
  obtain ⟨O, hO⟩ : ∃ O, O = w.alloc (.cells #[p, q] 27) := ⟨_, rfl⟩
  have bO : Below w.heap.size w O := by rw [hO]; exact (Below.refl _ _).alloc (Nat.le_refl _) _
  have AO : BAt O w.heap.size [p, q] := by rw [hO]; exact BAt.new w #[p, q] _
  have CM := hidM (heldMrks m.length p 1 O (by decide) (by omega) (hp.below bO))
  have CQ : Hid (∀ W, Below w.heap.size w W → Calls Try.prog 53 #[q, .int .i64 ((1 + 2 * m.length : Nat) : Int)] W fun e w' => e = .returned (.int .i64 ((kS m ll : Nat) : Int)) ∧ Below W.heap.size W w') := fun W hW => heldRuns ll q (1 + 2 * m.length) W (by omega) hll hK (hq.below hW)
  obtain ⟨pa, pc, hpe⟩ := hp.slice
  obtain ⟨qa, qc, hqe⟩ := hq.slice
  generalize (mkEL 1 m.length).length = N1 at *
  generalize (markR (1 + 2 * m.length) ll).length = N2 at *
  subst hpe hqe
  have c0 := AO.1 0 _ rfl
  clear hp hq
  obtain ⟨y1, hy1⟩ : ∃ y : Int, ((1 + 2 * m.length : Nat) : Int) = y := ⟨_, rfl⟩
  obtain ⟨y2, hy2⟩ : ∃ y : Int, ((kS m ll : Nat) : Int) = y := ⟨_, rfl⟩
  have hn1 : ¬ y1 < 0 := by omega
  have hn2 : ¬ y2 < 0 := by omega
  rw [hy1] at CM CQ
  rw [hy2] at CQ ⊢
  clear hy1 hy2
  go_enter Try.func24, Try.ntmps24
  go_upto_region 1 with fail
  rw [← hO]
  clear hO
  go_wp2_with fail
  refine CM.out.mono ?_
  rintro e w1 ⟨rfl, b1⟩
  have B1 := bO.trans (b1.mono bO.size)
  have c1 := (AO.below b1).1 1 _ rfl
  clear CM c0
  go_wp2_with fail
  refine (CQ.out _ B1).mono ?_
  rintro e w2 ⟨rfl, b2⟩
  have B2 := B1.trans (b2.mono B1.size)
  clear CQ c1
  go_wp2_with fail
  go_ret
  exact ⟨rfl, B2⟩
end Go.Proofs.Ytocgdbinfmdkcaa
