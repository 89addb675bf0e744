/- Contracts of the code's looks at queues: the room, the sites. -/
import Derived.Test.YtcjblhiihgdljaaGreatRows
import Derived.Test.YtcjblhiihgdljaaGreatSchOkI
import Derived.Test.YtcjblhiihgdljaaGreatSitEq
namespace Go.Proofs.YtcjblhiihgdljaaGreat
open Go.RowKit
set_option linter.unusedVariables false
set_option linter.unusedSimpArgs false

theorem waitL_len : ∀ si : List SiteV, (waitL si).length = psum (fun i => (si.getD i sitv0).w.length) si.length := fun si => by
  have key : ∀ k, k ≤ si.length → (waitL (si.take k)).length = psum (fun i => (si.getD i sitv0).w.length) k := fun k => by
    induction k with
    | zero => intro _; rw [List.take_zero]; rfl
    | succ k ih =>
      intro hk
      rw [List.take_succ_eq_append_getElem (by omega)]
      unfold waitL at ih ⊢
      rw [List.flatMap_append, List.length_append, ih (by omega)]
      show _ = psum _ k + _
      congr 1
      show _ = (si.getD k sitv0).w.length
      rw [List.getD_eq_getElem?_getD, List.getElem?_eq_getElem (by omega)]
      simp
  have := key si.length (Nat.le_refl _)
  rwa [List.take_length] at this
def RoomOk (si : List SiteV) (le : List LsV) : Prop := si.length ≤ 200 ∧ (waitL si).length + le.length ≤ 200
set_option maxRecDepth 100000 in
set_option maxHeartbeats 8000000 in
theorem implRoomOk (d sp nw sq : Int) (si : List SiteV) (le : List LsV) (p q : Value) (w : World) (hf : SitFew si) (hl : le.length ≤ 1073741824) (hp : SitRow w p si) (hq : LsRow w q le) :
    Calls Tryz.prog 54 #[.agg #[.int .i64 d, .int .i64 sp, .int .i64 nw, .int .i64 sq, p, q]] w fun e w' => AnsB (RoomOk si le) w e w' := by
  obtain ⟨hf1, hf2⟩ := hf
  have HF := hidM hf2
  have HW := hidM (waitL_len si)
  obtain ⟨qa, qc, rfl⟩ := hq.slice
  clear hq hf2
  have bO : Below w.heap.size w (w.alloc (.cells #[.int .i64 d, .int .i64 sp, .int .i64 nw, .int .i64 sq, p, .slice qa le.length qc] 27)) := (Below.refl _ _).alloc (Nat.le_refl _) _
  by_cases hs : si.length ≤ 200
  · rcases hp.cases with ⟨rfl, ao, cap, rfl⟩ | ⟨h0, g, off, cap, rfl, hg, hc⟩
    · clear hp hf1 HF
      have HR : Hid (AnsB (RoomOk [] le) w (.returned (.bool (decide ((le.length : Int) ≤ 200)))) (w.alloc (.cells #[.int .i64 d, .int .i64 sp, .int .i64 nw, .int .i64 sq, .slice ao 0 cap, .slice qa le.length qc] 27))) := AnsB.mk (by unfold BIs RoomOk; rw [decide_eq_true_eq, HW.out]; simp [psum]; omega) bO
      go_enter Tryz.func54, Tryz.ntmps54
      go_wp2
      refine wp_loop_rounds 1 ?_
      rw [rounds_succ]
      go_wp2
      go_ret
      exact HR.out
    · have HC : Hid (∀ i, i < si.length → SitAt w g (off + i * 3) (si.getD i sitv0)) := hc
      clear hc hp
      obtain ⟨F, hF⟩ : ∃ F : Nat → Nat, F = fun i => (si.getD i sitv0).w.length := ⟨_, rfl⟩
      rw [← hF] at HW
      have HFF := hidM hF
      clear hF
      obtain ⟨W0, hW0⟩ : ∃ W0, W0 = w.alloc (.cells #[.int .i64 d, .int .i64 sp, .int .i64 nw, .int .i64 sq, .slice (some ⟨g, off, none⟩) si.length (si.length + cap), .slice qa le.length qc] 27) := ⟨_, rfl⟩
      have hzs : (si.length : Int) ≤ 200 := by omega
      go_enter Tryz.func54, Tryz.ntmps54
      go_wp2
      go_loopw [3, 16] (fun t i wr => ∃ (k : Nat) (z : Int), k ≤ si.length ∧ i = .int .i64 k ∧ t = .int .i64 z ∧ 0 ≤ z ∧ z ≤ 1073741824 + k * 1073741824 ∧ Hid (z = ((le.length + psum F k : Nat) : Int)) ∧ Below w.heap.size w wr) (fun _ i _ => si.length - (intOf i).toNat)
      case atStart => exact ⟨0, _, Nat.zero_le _, rfl, rfl, by omega, by omega, (by show _ = _; simp [psum]), bO⟩
      case round =>
        obtain ⟨k, z, hk, rfl, rfl, hz0, hz1, HZ, hbel⟩ := hrel
        by_cases hlt : k < si.length
        · have hki : (k : Int) < si.length := by omega
          obtain ⟨c0, c1, x, c2, c3⟩ := (HC.out k hlt).below hbel hg
          have hwl := HF.out k hlt
          have HZ2 : Hid (z + ((si.getD k sitv0).w.length : Int) = ((le.length + psum F (k + 1) : Nat) : Int)) := by
            have e1 := HZ.out
            have e2 : psum F (k + 1) = psum F k + F k := rfl
            have e3 : F k = (si.getD k sitv0).w.length := by rw [HFF.out]
            show _ = _
            omega
          obtain ⟨xa, xc, hxe⟩ := c3.slice
          have BN : Below w.heap.size w (wr.alloc (.cells #[.string (si.getD k sitv0).n, .int .i64 (si.getD k sitv0).r, x] 43)) := hbel.alloc hbel.size _
          clear HZ c3 hbel
          generalize (si.getD k sitv0).w.length = XN at *
          generalize (si.getD k sitv0).n = x0 at *
          generalize (si.getD k sitv0).r = x1 at *
          subst hxe
          go_wp2_with fail
          go_roundw
          case rel => exact ⟨k + 1, _, by omega, by go_num, rfl, by omega, by omega, HZ2, BN⟩
          case measure => simp [intOf]; omega
        · have hki : ¬ (k : Int) < si.length := by omega
          have HR : Hid (BIs (decide (z ≤ 200)) (RoomOk si le)) := by
            show BIs _ _
            unfold BIs RoomOk
            have e1 := HZ.out
            have e2 := HW.out
            rw [show k = si.length by omega] at e1
            rw [decide_eq_true_eq]
            omega
          clear HZ
          by_cases h2 : z ≤ 200
          · rw [decide_eq_true h2] at HR
            go_wp2_with fail
            go_ret
            first | exact AnsB.mk HR.out hbel | (refine AnsB.mk ?_ hbel; simpa using HR.out)
          · rw [decide_eq_false h2] at HR
            go_wp2_with fail
            go_ret
            first | exact AnsB.mk HR.out hbel | (refine AnsB.mk ?_ hbel; simpa using HR.out)
  · obtain ⟨pa, pc, rfl⟩ := hp.slice
    have hsz : (200 : Int) < si.length := by omega
    have HR : Hid (BIs false (RoomOk si le)) := BIs.no fun h => hs h.1
    clear hp
    go_enter Tryz.func54, Tryz.ntmps54
    go_wp2_with fail
    go_ret
    exact AnsB.mk HR.out bO
def siteIn (sq : Int) (x : SiteV) : Prop := 0 < x.n.size ∧ inB x.r 0 1000000000 = true ∧ QOk sq x.w
def sitBef (a b : SiteV) : Bool := tl a.n b.n
def SitesOk (sq : Int) (si : List SiteV) : Prop := (∀ i, i < si.length → siteIn sq (si.getD i sitv0)) ∧ Adj sitBef sitv0 si
theorem adj_cells {w : World} {cs : List SiV} {si : List SiteV} (h1 : cs.length = si.length) (h2 : ∀ i, i < si.length → SitEq w (cs.getD i siv0) (si.getD i sitv0)) : Adj siBef siv0 cs ↔ Adj sitBef sitv0 si := by
  unfold Adj
  constructor
  · intro h i h3 h4
    have := h i h3 (by omega)
    unfold siBef at this
    unfold sitBef
    rwa [(h2 i h4).1, (h2 (i - 1) (by omega)).1] at this
  · intro h i h3 h4
    have := h i h3 (by omega)
    unfold sitBef at this
    unfold siBef
    rwa [(h2 i (by omega)).1, (h2 (i - 1) (by omega)).1]
set_option maxRecDepth 100000 in
set_option maxHeartbeats 8000000 in
theorem implSitesOk (d sp nw sq : Int) (si : List SiteV) (p q : Value) (w : World) (hs : 0 ≤ sq ∧ sq ≤ 1000000) (hf : SitFew si) (hp : SitRow w p si) :
    Calls Tryz.prog 55 #[.agg #[.int .i64 d, .int .i64 sp, .int .i64 nw, .int .i64 sq, p, q]] w fun e w' => AnsB (SitesOk sq si) w e w' := by
  obtain ⟨hf1, hf2⟩ := hf
  have HF := hidM hf2
  have HA : Hid (∀ W, Below w.heap.size w W → Calls Tryz.prog 107 #[p, .func (.func 108) #[] #[]] W fun e w' => AnsB (Adj sitBef sitv0 si) W e w') := fun W hW => by
    obtain ⟨cs, h1, h2, h3⟩ := hp
    refine (implAscSi cs p W (by omega) (h1.below hW)).mono fun e w' h => h.iff (adj_cells h2 h3)
  obtain ⟨O, hO⟩ : ∃ O, O = w.alloc (.cells #[.int .i64 d, .int .i64 sp, .int .i64 nw, .int .i64 sq, p, q] 27) := ⟨_, rfl⟩
  have bO : Below w.heap.size w O := by rw [hO]; exact (Below.refl _ _).alloc (Nat.le_refl _) _
  have AO : Hid (BAt O w.heap.size [.int .i64 d, .int .i64 sp, .int .i64 nw, .int .i64 sq, p, q]) := hidM (by rw [hO]; exact BAt.new w #[.int .i64 d, .int .i64 sp, .int .i64 nw, .int .i64 sq, p, q] _)
  have hOz : O.heap.size = w.heap.size + 1 := by rw [hO]; simp
  have HOz := hidM hOz
  clear hOz hf2
  obtain ⟨hs0, hs1⟩ := hs
  have c4 := AO.out.1 4 _ rfl
  rcases hp.cases with ⟨rfl, ao, cap, rfl⟩ | ⟨h0, g, off, cap, rfl, hg, hc⟩
  · clear hp hf1 HF
    go_enter Tryz.func55, Tryz.ntmps55
    go_upto_region 1 with fail
    rw [← hO]
    clear hO
    go_wp2
    refine wp_loop_rounds 1 ?_
    rw [rounds_succ]
    go_wp2_with fail
    refine (HA.out _ bO).mono ?_
    rintro e w1 ⟨b, rfl, hb, b1⟩
    have HB : Hid (BIs b (SitesOk sq [])) := hb.iff ⟨fun h => ⟨fun i hi => absurd hi (Nat.not_lt_zero _), h⟩, fun h => h.2⟩
    clear hb HA
    go_wp2_with fail
    go_ret
    exact AnsB.mk HB.out (bO.trans (b1.mono bO.size))
  · have HC : Hid (∀ i, i < si.length → SitAt w g (off + i * 3) (si.getD i sitv0)) := hc
    clear hc hp
    go_enter Tryz.func55, Tryz.ntmps55
    go_upto_region 1 with fail
    rw [← hO]
    clear hO
    go_wp2
    go_loopw [8] (fun i wr => ∃ k : Nat, k ≤ si.length ∧ i = .int .i64 k ∧ Hid (∀ j, j < k → siteIn sq (si.getD j sitv0)) ∧ Below O.heap.size O wr) (fun i _ => si.length - (intOf i).toNat)
    case atStart => exact ⟨0, Nat.zero_le _, rfl, fun j h => absurd h (Nat.not_lt_zero _), Below.refl _ _⟩
    case round =>
      obtain ⟨k, hk, rfl, HN, hbO⟩ := hrel
      have hbel : Below w.heap.size w wr := bO.trans (hbO.mono bO.size)
      have A1 := AO.out.below hbO
      have d3 := A1.1 3 _ rfl
      have d4 := A1.1 4 _ rfl
      by_cases hlt : k < si.length
      · have hki : (k : Int) < si.length := by omega
        obtain ⟨c0, c1, x, c2, c3⟩ := (HC.out k hlt).below hbel hg
        have hwl := HF.out k hlt
        have HNo : Hid (¬ siteIn sq (si.getD k sitv0) → BIs false (SitesOk sq si)) := fun h => BIs.no fun e => h (e.1 k hlt)
        have HYes : Hid (siteIn sq (si.getD k sitv0) → ∀ j, j < k + 1 → siteIn sq (si.getD j sitv0)) := fun h j hj => by
          by_cases e : j = k
          · subst e; exact h
          · exact HN.out j (by omega)
        have CQ : Hid (∀ W, Below wr.heap.size wr W → Calls Tryz.prog 106 #[x, .int .i64 sq] W fun e w' => AnsB (QOk sq (si.getD k sitv0).w) W e w') := fun W hW => implQueueOk _ x sq W ⟨hs0, hs1⟩ (by omega) (c3.below hW)
        obtain ⟨xa, xc, hxe⟩ := c3.slice
        have C1 : Hid (∀ W, Calls Tryz.prog 74 #[.int .i64 (si.getD k sitv0).r, .int .i64 0, .int .i64 1000000000] W fun e w' => e = .returned (.bool (inB (si.getD k sitv0).r 0 1000000000)) ∧ W = w') := fun W => implFromTo _ _ _ W
        have HI : Hid (siteIn sq (si.getD k sitv0) ↔ (0 < (si.getD k sitv0).n.size ∧ inB (si.getD k sitv0).r 0 1000000000 = true ∧ QOk sq (si.getD k sitv0).w)) := Iff.rfl
        clear HN c3
        generalize siteIn sq (si.getD k sitv0) = WI at *
        generalize QOk sq (si.getD k sitv0).w = QP at *
        have HE : Hid ((si.getD k sitv0).n.toList.isEmpty = true ↔ ¬ 0 < (si.getD k sitv0).n.size) := emp_iff
        generalize inB (si.getD k sitv0).r 0 1000000000 = b1 at *
        generalize (si.getD k sitv0).w.length = XN at *
        generalize (si.getD k sitv0).n = x0 at *
        generalize (si.getD k sitv0).r = x1 at *
        have BN : Below O.heap.size O (wr.alloc (.cells #[.string x0, .int .i64 x1, x] 43)) := hbO.alloc hbO.size _
        have BW : Below wr.heap.size wr (wr.alloc (.cells #[.string x0, .int .i64 x1, x] 43)) := (Below.refl _ _).alloc (Nat.le_refl _) _
        subst hxe
        by_cases he : x0.toList.isEmpty = true
        · have HZ := hidM (HNo.out (fun h => HE.out.1 he (HI.out.1 h).1))
          clear HNo HYes HI HE CQ A1
          go_wp2_with fail
          go_ret
          exact AnsB.mk HZ.out (bO.trans (BN.mono bO.size))
        · have he2 : x0.toList.isEmpty = false := by cases h : x0.toList.isEmpty with | true => exact absurd h he | false => rfl
          have HEP : Hid (0 < x0.size) := by
            by_cases h : 0 < x0.size
            · exact h
            · exact absurd (HE.out.2 h) he
          clear he HE
          cases b1 with
          | false =>
            have HZ := hidM (HNo.out (fun h => by have := (HI.out.1 h).2.1; cases this))
            clear HNo HYes HI CQ A1
            go_wp2_with fail
            refine (C1.out _).mono ?_
            rintro e w1 ⟨rfl, rfl⟩
            go_wp2_with fail
            go_ret
            exact AnsB.mk HZ.out (bO.trans (BN.mono bO.size))
          | true =>
            obtain ⟨V, hV⟩ : ∃ V, V = wr.alloc (.cells #[.string x0, .int .i64 x1, .slice xa XN xc] 43) := ⟨_, rfl⟩
            have v3 : V.cell? ⟨w.heap.size, 3, none⟩ = some (.int .i64 sq) := by rw [hV]; exact (A1.alloc _).1 3 _ rfl
            have AV : BAt V wr.heap.size [.string x0, .int .i64 x1, .slice xa XN xc] := by rw [hV]; exact BAt.new wr #[.string x0, .int .i64 x1, .slice xa XN xc] _
            have v0 := AV.1 0 _ rfl
            have v1 := AV.1 1 _ rfl
            have v2 := AV.1 2 _ rfl
            rw [← hV] at BN BW
            clear A1 AV
            go_upto_region 4 with fail
            rw [← hV]
            clear hV
            go_wp2_with fail
            refine (C1.out _).mono ?_
            rintro e w1 ⟨rfl, rfl⟩
            go_wp2_with fail
            refine (CQ.out _ BW).mono ?_
            rintro e w2 ⟨b2, rfl, hb2, d2⟩
            have B2 := BN.trans (d2.mono BN.size)
            have HB2 := hidM hb2
            clear d2 hb2 CQ C1 c0 c1 c2 d3 d4 v0 v1 v2 v3
            cases b2 with
            | false =>
              have HZ := hidM (HNo.out (fun h => HB2.out.neg (HI.out.1 h).2.2))
              clear HNo HYes HI HB2
              go_wp2_with fail
              go_ret
              exact AnsB.mk HZ.out (bO.trans (B2.mono bO.size))
            | true =>
              have HZ := hidM (HYes.out (HI.out.2 ⟨HEP.out, (by first | rfl | trivial), HB2.out.pos⟩))
              clear HNo HYes HI HB2
              go_wp2_with fail
              go_roundw
              case rel => exact ⟨k + 1, by omega, by go_num, HZ, B2⟩
              case measure => simp [intOf]; omega
      · have hki : ¬ (k : Int) < si.length := by omega
        have HB : Hid (∀ b, BIs b (Adj sitBef sitv0 si) → BIs b (SitesOk sq si)) := fun b hb => hb.iff ⟨fun h => ⟨fun i hi => HN.out i (by omega), h⟩, fun h => h.2⟩
        clear HN
        go_wp2_with fail
        refine (HA.out _ hbel).mono ?_
        rintro e w1 ⟨b, rfl, hb, b1⟩
        have HB2 := hidM (HB.out b hb)
        clear hb HA HB
        go_wp2_with fail
        go_ret
        exact AnsB.mk HB2.out (hbel.trans (b1.mono hbel.size))
end Go.Proofs.YtcjblhiihgdljaaGreat
