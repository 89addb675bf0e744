/- Contracts of the laws' helpers that hold sites, and queues, against each other, where they are the same. -/
import Derived.Test.YtcjblhiihgdljaaGreatRows
import Derived.Test.YtcjblhiihgdljaaGreatSitRow
import Derived.Test.YtcjblhiihgdljaaGreatWtEq
import Derived.Test.YtcjblhiihgdljaaGreatLsEq
namespace Go.Proofs.YtcjblhiihgdljaaGreat
open Go.RowKit
set_option linter.unusedVariables false

/-- Few enough. -/
def SitFew (l : List SiteV) : Prop := l.length ≤ 1073741824 ∧ ∀ i, i < l.length → (l.getD i sitv0).w.length ≤ 1073741824
theorem getD_map_sit {f : SiteV → SiteV} {l : List SiteV} {i : Nat} (h : i < l.length) : (l.map f).getD i sitv0 = f (l.getD i sitv0) := by
  rw [List.getD_eq_getElem?_getD, List.getElem?_map, List.getD_eq_getElem?_getD, List.getElem?_eq_getElem h]; rfl
set_option maxHeartbeats 4000000 in
theorem eqSit (x : SiteV) (p q : Value) (w : World) (hn : x.w.length ≤ 1073741824) (hp : WtRow w p x.w) (hq : WtRow w q x.w) :
    Calls Tryz.prog 130 #[.agg #[.string x.n, .int .i64 x.r, p], .agg #[.string x.n, .int .i64 x.r, q]] w fun e w' => e = .returned (.bool true) ∧ Below w.heap.size w w' := by
  obtain ⟨n, r, l⟩ := x
  dsimp only at hn hp hq ⊢
  obtain ⟨O, hO⟩ : ∃ O, O = (w.alloc (.cells #[.string n, .int .i64 r, p] 43)).alloc (.cells #[.string n, .int .i64 r, q] 43) := ⟨_, rfl⟩
  have bO : Below w.heap.size w O := by rw [hO]; exact ((Below.refl _ _).alloc (Nat.le_refl _) _).alloc (by simp) _
  have A0 : BAt O w.heap.size [.string n, .int .i64 r, p] := by rw [hO]; exact (BAt.new w #[.string n, .int .i64 r, p] _).alloc _
  have A1 : BAt O (w.heap.size + 1) [.string n, .int .i64 r, q] := by
    rw [hO]
    have := BAt.new (w.alloc (.cells #[.string n, .int .i64 r, p] 43)) #[.string n, .int .i64 r, q] 43
    rwa [World.size_alloc] at this
  have CE : Hid (∀ W, Below w.heap.size w W → Calls Tryz.prog 154 #[p, q] W fun e w' => e = .returned (.bool true) ∧ Below W.heap.size W w') := fun W hW => eqWts l p q W (by omega) (hp.below hW) (hq.below hW)
  obtain ⟨_, _, rfl⟩ := hp.slice
  obtain ⟨_, _, rfl⟩ := hq.slice
  clear hp hq hn
  have c0 := A0.1 0 _ rfl
  have d0 := A1.1 0 _ rfl
  have c1 := A0.1 1 _ rfl
  have d1 := A1.1 1 _ rfl
  have c2 := A0.1 2 _ rfl
  have d2 := A1.1 2 _ rfl
  go_enter Tryz.func130, Tryz.ntmps130
  go_upto_region 1 with fail
  rw [← hO]
  clear hO
  go_wp2_with fail
  refine (CE.out _ (by first | exact bO | exact below_drewN bO _ | exact bO.drew | exact bO.drew.drew)).mono ?_
  rintro e wc ⟨rfl, bc⟩
  have B1 : Below w.heap.size w wc := by first | exact bO.trans (bc.mono bO.size) | exact bO.drew.trans (bc.mono bO.size) | exact bO.drew.drew.trans (bc.mono bO.size)
  clear CE bc
  go_wp2_with fail
  go_ret
  exact ⟨rfl, B1⟩
set_option maxHeartbeats 4000000 in
theorem eqSits (l : List SiteV) (va vb : Value) (w : World) (hl : SitFew l) (ha : SitRow w va l) (hb : SitRow w vb l) :
    Calls Tryz.prog 84 #[va, vb] w fun e w' => e = .returned (.bool true) ∧ Below w.heap.size w w' := by
  obtain ⟨hl1, hl2⟩ := hl
  rcases ha.cases with ⟨rfl, ao, cap, rfl⟩ | ⟨h0, g, off, cap, rfl, hg, hc⟩
  · obtain ⟨bo, cap', rfl⟩ := hb.slice
    clear ha hb hl1 hl2
    go_enter Tryz.func84, Tryz.ntmps84
    go_wp2
    refine wp_loop_rounds 1 ?_
    rw [rounds_succ]
    go_wp2
    go_ret
    exact ⟨rfl, Below.refl _ _⟩
  · rcases hb.cases with ⟨rfl, _⟩ | ⟨_, g', off', cap', rfl, hg', hc'⟩
    · exact absurd h0 (by simp)
    · have HC : Hid (∀ i, i < l.length → SitAt w g (off + i * 3) (l.getD i sitv0)) := hc
      have HC' : Hid (∀ i, i < l.length → SitAt w g' (off' + i * 3) (l.getD i sitv0)) := hc'
      have HR : Hid (∀ i, i < l.length → (l.getD i sitv0).w.length ≤ 1073741824) := hl2
      clear hc hc' ha hb hl2
      go_enter Tryz.func84, Tryz.ntmps84
      go_wp2
      go_loopw [5] (fun i wr => ∃ k : Nat, k ≤ l.length ∧ i = .int .i64 k ∧ Below w.heap.size w wr) (fun i _ => l.length - (intOf i).toNat)
      case atStart => exact ⟨0, Nat.zero_le _, rfl, Below.refl _ _⟩
      case round =>
        obtain ⟨k, hk, rfl, hbel⟩ := hrel
        by_cases hlt : k < l.length
        · have hki : (k : Int) < l.length := by omega
          obtain ⟨c0, c1, q, c2, c3⟩ := (HC.out k hlt).below hbel hg
          obtain ⟨d0, d1, q', d2, d3⟩ := (HC'.out k hlt).below hbel hg'
          have CE : Hid (∀ W, Below wr.heap.size wr W → Calls Tryz.prog 130 #[.agg #[.string (l.getD k sitv0).n, .int .i64 (l.getD k sitv0).r, q], .agg #[.string (l.getD k sitv0).n, .int .i64 (l.getD k sitv0).r, q']] W fun e w' => e = .returned (.bool true) ∧ Below W.heap.size W w') := fun W hW => eqSit _ _ _ W (HR.out k hlt) (c3.below hW) (d3.below hW)
          obtain ⟨xa, xc, hx⟩ := c3.slice
          obtain ⟨ya, yc, hy⟩ := d3.slice
          clear c3 d3
          generalize (l.getD k sitv0).w.length = XN at *
          generalize (l.getD k sitv0).n = x0 at *
          generalize (l.getD k sitv0).r = x1 at *
          subst hx hy
          go_wp2_with fail
          go_region_with (go_at_call 130; refine (CE.out _ ((Below.refl _ _).drew)).mono ?_; rintro e wc ⟨rfl, hbc⟩)
          all_goals
            have B1 := hbel.drew.trans (hbc.mono hbel.size)
            clear hbc CE
            go_wp2_with fail
            refine ⟨⟨k + 1, by omega, by go_num, B1⟩, ?_⟩
            simp [intOf]
            omega
        · have hki : ¬ (k : Int) < l.length := by omega
          go_wp2_with fail
          go_ret
          exact ⟨rfl, hbel⟩
set_option maxHeartbeats 4000000 in
theorem eqSch (d sp nw sq : Int) (si : List SiteV) (le : List LsV) (p q p' q' : Value) (w : World) (hm : SitFew si) (hl : le.length ≤ 1099511627776) (ha : SchRow w p q si le) (hb : SchRow w p' q' si le) :
    Calls Tryz.prog 34 #[.agg #[.int .i64 d, .int .i64 sp, .int .i64 nw, .int .i64 sq, p, q], .agg #[.int .i64 d, .int .i64 sp, .int .i64 nw, .int .i64 sq, p', q']] w fun e w' => e = .returned (.bool true) ∧ Below w.heap.size w w' := by
  obtain ⟨ha1, ha2⟩ := ha
  obtain ⟨hb1, hb2⟩ := hb
  obtain ⟨O, hO⟩ : ∃ O, O = (w.alloc (.cells #[.int .i64 d, .int .i64 sp, .int .i64 nw, .int .i64 sq, p, q] 27)).alloc (.cells #[.int .i64 d, .int .i64 sp, .int .i64 nw, .int .i64 sq, p', q'] 27) := ⟨_, rfl⟩
  have bO : Below w.heap.size w O := by rw [hO]; exact ((Below.refl _ _).alloc (Nat.le_refl _) _).alloc (by simp) _
  have A0 : BAt O w.heap.size [.int .i64 d, .int .i64 sp, .int .i64 nw, .int .i64 sq, p, q] := by rw [hO]; exact (BAt.new w #[.int .i64 d, .int .i64 sp, .int .i64 nw, .int .i64 sq, p, q] _).alloc _
  have A1 : BAt O (w.heap.size + 1) [.int .i64 d, .int .i64 sp, .int .i64 nw, .int .i64 sq, p', q'] := by
    rw [hO]
    have := BAt.new (w.alloc (.cells #[.int .i64 d, .int .i64 sp, .int .i64 nw, .int .i64 sq, p, q] 27)) #[.int .i64 d, .int .i64 sp, .int .i64 nw, .int .i64 sq, p', q'] 27
    rwa [World.size_alloc] at this
  have CE : Hid (∀ W, Below w.heap.size w W → Calls Tryz.prog 84 #[p, p'] W fun e w' => e = .returned (.bool true) ∧ Below W.heap.size W w') := fun W hW => eqSits si p p' W hm (ha1.below hW) (hb1.below hW)
  have CR : Hid (∀ W, Below w.heap.size w W → Calls Tryz.prog 85 #[q, q'] W fun e w' => e = .returned (.bool true) ∧ Below W.heap.size W w') := fun W hW => eqLss le q q' W hl (ha2.below hW) (hb2.below hW)
  obtain ⟨_, _, rfl⟩ := ha1.slice
  obtain ⟨_, _, rfl⟩ := ha2.slice
  obtain ⟨_, _, rfl⟩ := hb1.slice
  obtain ⟨_, _, rfl⟩ := hb2.slice
  clear ha1 ha2 hb1 hb2 hm hl
  have c0 := A0.1 0 _ rfl
  have d0 := A1.1 0 _ rfl
  have c1 := A0.1 1 _ rfl
  have d1 := A1.1 1 _ rfl
  have c2 := A0.1 2 _ rfl
  have d2 := A1.1 2 _ rfl
  have c3 := A0.1 3 _ rfl
  have d3 := A1.1 3 _ rfl
  have c4 := A0.1 4 _ rfl
  have d4 := A1.1 4 _ rfl
  go_enter Tryz.func34, Tryz.ntmps34
  go_upto_region 1 with fail
  rw [← hO]
  clear hO
  go_wp2_with fail
  refine (CE.out _ bO).mono ?_
  rintro e wc ⟨rfl, bc⟩
  have B1 := bO.trans (bc.mono bO.size)
  have e5 := (A0.below bc).1 5 _ rfl
  have f5 := (A1.below bc).1 5 _ rfl
  clear c0 d0 c1 d1 c2 d2 c3 d3 c4 d4 bc CE
  go_wp2_with fail
  refine (CR.out _ B1).mono ?_
  rintro e wd ⟨rfl, bd⟩
  have B2 := B1.trans (bd.mono B1.size)
  clear bd CR
  go_wp2_with fail
  go_ret
  exact ⟨rfl, B2⟩
end Go.Proofs.YtcjblhiihgdljaaGreat
