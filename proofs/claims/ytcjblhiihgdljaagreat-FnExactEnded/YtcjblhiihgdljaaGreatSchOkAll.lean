/- The contract of the code's SchedOk. -/
import Derived.Test.YtcjblhiihgdljaaGreatRows
import Derived.Test.YtcjblhiihgdljaaGreatSchTwo
namespace Go.Proofs.YtcjblhiihgdljaaGreat
open Go.RowKit
set_option linter.unusedVariables false
set_option linter.unusedSimpArgs false

theorem adj_iff {α : Type} {rel : α → α → Bool} (tr : ∀ a b c, rel a b = true → rel b c = true → rel a c = true) (d : α) (l : List α) : Adj rel d l ↔ l.Pairwise (fun a b => rel a b = true) :=
  ⟨fun h => adj_pair (R := fun a b => rel a b = true) tr d l h, fun h i h1 h2 => pair_at (R := fun a b => rel a b = true) d h (by omega) h2⟩
theorem all_at {α : Type} {p : α → Prop} (d : α) (l : List α) : (∀ i, i < l.length → p (l.getD i d)) ↔ ∀ x ∈ l, p x :=
  ⟨fun h x hx => by obtain ⟨i, hi, rfl⟩ := mem_getD d hx; exact h i hi, fun h i hi => h _ (getD_mem d hi)⟩
theorem there_iff (si : List SiteV) (n : ByteArray) : There si n ↔ ∃ y ∈ si, y.n = n :=
  ⟨fun ⟨i, hi, h⟩ => ⟨_, getD_mem _ hi, h⟩, fun ⟨y, hy, h⟩ => by obtain ⟨i, hi, rfl⟩ := mem_getD sitv0 hy; exact ⟨i, hi, h⟩⟩
theorem qok_iff (sq : Int) (l : List WtV) : QOk sq l ↔ (∀ y ∈ l, 0 < y.k.size ∧ 0 ≤ y.p ∧ y.p ≤ 1000 ∧ 0 ≤ y.q ∧ y.q < sq) ∧ l.Pairwise (fun a b => wBef a b = true) := by
  unfold QOk
  rw [adj_iff (rel := wBef) (fun a b c => wBef_trans), all_at (p := wtIn sq)]
  have : ∀ y : WtV, wtIn sq y ↔ (0 < y.k.size ∧ 0 ≤ y.p ∧ y.p ≤ 1000 ∧ 0 ≤ y.q ∧ y.q < sq) := fun y => by unfold wtIn; rw [inB_iff, inB_iff]; omega
  simp only [this]
theorem sites_iff (sq : Int) (si : List SiteV) : SitesOk sq si ↔ (∀ x ∈ si, 0 < x.n.size ∧ 0 ≤ x.r ∧ x.r ≤ 1000000000) ∧ si.Pairwise (fun x y => tl x.n y.n = true) ∧ (∀ x ∈ si, (∀ y ∈ x.w, 0 < y.k.size ∧ 0 ≤ y.p ∧ y.p ≤ 1000 ∧ 0 ≤ y.q ∧ y.q < sq) ∧ x.w.Pairwise (fun a b => wBef a b = true)) := by
  unfold SitesOk
  rw [adj_iff (rel := sitBef) (fun a b c => tl_trans), all_at (p := siteIn sq)]
  have : ∀ x : SiteV, siteIn sq x ↔ (0 < x.n.size ∧ 0 ≤ x.r ∧ x.r ≤ 1000000000) ∧ ((∀ y ∈ x.w, 0 < y.k.size ∧ 0 ≤ y.p ∧ y.p ≤ 1000 ∧ 0 ≤ y.q ∧ y.q < sq) ∧ x.w.Pairwise (fun a b => wBef a b = true)) := fun x => by
    unfold siteIn
    rw [inB_iff, qok_iff]
    exact ⟨fun h => ⟨⟨h.1, h.2.1.1, h.2.1.2⟩, h.2.2⟩, fun h => ⟨h.1.1, ⟨h.1.2.1, h.1.2.2⟩, h.2⟩⟩
  simp only [this]
  exact ⟨fun h => ⟨fun x hx => (h.1 x hx).1, h.2, fun x hx => (h.1 x hx).2⟩, fun h => ⟨fun x hx => ⟨h.1 x hx, h.2.2 x hx⟩, h.2.1⟩⟩
theorem leases_iff (si : List SiteV) (le : List LsV) : LeasesOk si le ↔ (∀ x ∈ le, 0 < x.k.size ∧ 0 ≤ x.p ∧ x.p ≤ 1000 ∧ 0 ≤ x.u ∧ x.u ≤ 1000000000 ∧ ∃ y ∈ si, y.n = x.s) ∧ le.Pairwise (fun x y => tl x.k y.k = true) := by
  unfold LeasesOk
  rw [adj_iff (rel := lsBef) (fun a b c => tl_trans), all_at (p := leaseIn si)]
  have : ∀ x : LsV, leaseIn si x ↔ (0 < x.k.size ∧ 0 ≤ x.p ∧ x.p ≤ 1000 ∧ 0 ≤ x.u ∧ x.u ≤ 1000000000 ∧ ∃ y ∈ si, y.n = x.s) := fun x => by
    unfold leaseIn
    rw [inB_iff, inB_iff, there_iff]
    exact ⟨fun h => ⟨h.1, h.2.1.1, h.2.1.2, h.2.2.1.1, h.2.2.1.2, h.2.2.2⟩, fun h => ⟨h.1, ⟨h.2.1, h.2.2.1⟩, ⟨h.2.2.2.1, h.2.2.2.2.1⟩, h.2.2.2.2.2⟩⟩
  simp only [this]
  rfl
theorem sok_iff {d sp nw sq : Int} {si : List SiteV} {le : List LsV} : SOk d sp nw sq si le ↔ (timesB d sp nw sq = true ∧ RoomOk si le ∧ SitesOk sq si ∧ LeasesOk si le ∧ (keysL si le).Nodup ∧ ((waitL si).map (·.q)).Nodup) := by
  rw [timesB_iff, sites_iff, leases_iff]
  exact ⟨fun h => ⟨h.t, ⟨h.few, h.all⟩, ⟨h.st, h.sa, h.wt⟩, ⟨h.ls, h.la⟩, h.keys, h.seqs⟩, fun h => ⟨h.1, h.2.1.1, h.2.1.2, h.2.2.1.1, h.2.2.1.2.1, h.2.2.1.2.2, h.2.2.2.1.1, h.2.2.2.1.2, h.2.2.2.2.1, h.2.2.2.2.2⟩⟩
set_option maxRecDepth 100000 in
set_option maxHeartbeats 16000000 in
theorem implSchedOk (d sp nw sq : Int) (si : List SiteV) (le : List LsV) (p q : Value) (w : World) (hf : SitFew si) (hl : le.length ≤ 1073741824) (hp : SitRow w p si) (hq : LsRow w q le) :
    Calls Tryz.prog 20 #[.agg #[.int .i64 d, .int .i64 sp, .int .i64 nw, .int .i64 sq, p, q]] w fun e w' => AnsB (SOk d sp nw sq si le) w e w' := by
  obtain ⟨O, hO⟩ : ∃ O, O = w.alloc (.cells #[.int .i64 d, .int .i64 sp, .int .i64 nw, .int .i64 sq, p, q] 27) := ⟨_, rfl⟩
  have bO : Below w.heap.size w O := by rw [hO]; exact (Below.refl _ _).alloc (Nat.le_refl _) _
  have AO : Hid (BAt O w.heap.size [.int .i64 d, .int .i64 sp, .int .i64 nw, .int .i64 sq, p, q]) := hidM (by rw [hO]; exact BAt.new w #[.int .i64 d, .int .i64 sp, .int .i64 nw, .int .i64 sq, p, q] _)
  have HS := hidM hp
  have HL := hidM hq
  have HF := hidM hf
  have CT : Hid (Calls Tryz.prog 53 #[.agg #[.int .i64 d, .int .i64 sp, .int .i64 nw, .int .i64 sq, p, q]] O fun e w' => e = .returned (.bool (timesB d sp nw sq)) ∧ Below O.heap.size O w') := implTimesOk d sp nw sq p q O
  have CR : Hid (∀ W, Below w.heap.size w W → Calls Tryz.prog 54 #[.agg #[.int .i64 d, .int .i64 sp, .int .i64 nw, .int .i64 sq, p, q]] W fun e w' => AnsB (RoomOk si le) W e w') := fun W hW => implRoomOk d sp nw sq si le p q W HF.out hl (HS.out.below hW) (HL.out.below hW)
  have CS : Hid (∀ W, timesB d sp nw sq = true → Below w.heap.size w W → Calls Tryz.prog 55 #[.agg #[.int .i64 d, .int .i64 sp, .int .i64 nw, .int .i64 sq, p, q]] W fun e w' => AnsB (SitesOk sq si) W e w') := fun W ht hW => implSitesOk d sp nw sq si p q W (by have := timesB_iff.1 ht; omega) HF.out (HS.out.below hW)
  have CL : Hid (∀ W, Below w.heap.size w W → Calls Tryz.prog 56 #[.agg #[.int .i64 d, .int .i64 sp, .int .i64 nw, .int .i64 sq, p, q]] W fun e w' => AnsB (LeasesOk si le) W e w') := fun W hW => implLeasesOk d sp nw sq si le p q W HF.out.1 hl (HS.out.below hW) (HL.out.below hW)
  have CK : Hid (∀ W, RoomOk si le → Below w.heap.size w W → Calls Tryz.prog 57 #[.agg #[.int .i64 d, .int .i64 sp, .int .i64 nw, .int .i64 sq, p, q]] W fun e w' => KasR W si le e w') := fun W hr hW => implKeysAndSeqs d sp nw sq si le p q W hr.2 hr.1 (HS.out.below hW) (HL.out.below hW)
  have HI : Hid (SOk d sp nw sq si le ↔ (timesB d sp nw sq = true ∧ RoomOk si le ∧ SitesOk sq si ∧ LeasesOk si le ∧ (keysL si le).Nodup ∧ ((waitL si).map (·.q)).Nodup)) := sok_iff
  have HRL : Hid (RoomOk si le → (keysL si le).length ≤ 200 ∧ (waitL si).length ≤ 200) := fun h => by
    have := h.2
    unfold keysL
    rw [List.length_append, List.length_map, List.length_map]
    omega
  obtain ⟨pa, pc, hpe⟩ := hp.slice
  obtain ⟨qa, qc, hqe⟩ := hq.slice
  generalize SOk d sp nw sq si le = P at *
  generalize timesB d sp nw sq = b1 at *
  clear hp hq hf hl HS HL HF
  subst hpe hqe
  have c0 := AO.out.1 0 _ rfl
  have c1 := AO.out.1 1 _ rfl
  have c2 := AO.out.1 2 _ rfl
  have c3 := AO.out.1 3 _ rfl
  have c4 := AO.out.1 4 _ rfl
  have c5 := AO.out.1 5 _ rfl
  go_enter Tryz.func20, Tryz.ntmps20
  go_upto_region 1 with fail
  rw [← hO]
  clear hO
  go_wp2_with fail
  refine CT.out.mono ?_
  rintro e w1 ⟨rfl, d1⟩
  have B1 := bO.trans (d1.mono bO.size)
  have A1 := hidM (AO.out.below d1)
  have c0 := A1.out.1 0 _ rfl
  have c1 := A1.out.1 1 _ rfl
  have c2 := A1.out.1 2 _ rfl
  have c3 := A1.out.1 3 _ rfl
  have c4 := A1.out.1 4 _ rfl
  have c5 := A1.out.1 5 _ rfl
  clear d1 AO CT
  cases b1 with
  | false =>
    have HN : Hid (BIs false P) := BIs.no fun h => by have := (HI.out.1 h).1; cases this
    clear HI
    go_wp2_with fail
    go_ret
    exact AnsB.mk HN.out B1
  | true =>
    go_wp2_with fail
    refine (CR.out _ B1).mono ?_
    rintro e w2 ⟨b2, rfl, hb2, d2⟩
    have HB2 := hidM hb2
    have B2 := B1.trans (d2.mono B1.size)
    have A2 := hidM (A1.out.below d2)
    have c0 := A2.out.1 0 _ rfl
    have c1 := A2.out.1 1 _ rfl
    have c2 := A2.out.1 2 _ rfl
    have c3 := A2.out.1 3 _ rfl
    have c4 := A2.out.1 4 _ rfl
    have c5 := A2.out.1 5 _ rfl
    clear d2 hb2 A1 CR B1
    cases b2 with
    | false =>
      have HN : Hid (BIs false P) := BIs.no fun h => HB2.out.neg (HI.out.1 h).2.1
      clear HI
      go_wp2_with fail
      go_ret
      exact AnsB.mk HN.out B2
    | true =>
      have HR := hidM HB2.out.pos
      have hrl := HRL.out HR.out
      go_wp2_with fail
      refine (CS.out _ (by first | rfl | trivial) B2).mono ?_
      rintro e w3 ⟨b3, rfl, hb3, d3⟩
      have HB3 := hidM hb3
      have B3 := B2.trans (d3.mono B2.size)
      have A3 := hidM (A2.out.below d3)
      have c0 := A3.out.1 0 _ rfl
      have c1 := A3.out.1 1 _ rfl
      have c2 := A3.out.1 2 _ rfl
      have c3 := A3.out.1 3 _ rfl
      have c4 := A3.out.1 4 _ rfl
      have c5 := A3.out.1 5 _ rfl
      clear d3 hb3 A2 CS B2 HRL HB2
      cases b3 with
      | false =>
        have HN : Hid (BIs false P) := BIs.no fun h => HB3.out.neg (HI.out.1 h).2.2.1
        clear HI
        go_wp2_with fail
        go_ret
        exact AnsB.mk HN.out B3
      | true =>
        go_wp2_with fail
        refine (CL.out _ B3).mono ?_
        rintro e w4 ⟨b4, rfl, hb4, d4⟩
        have HB4 := hidM hb4
        have B4 := B3.trans (d4.mono B3.size)
        have A4 := hidM (A3.out.below d4)
        have c0 := A4.out.1 0 _ rfl
        have c1 := A4.out.1 1 _ rfl
        have c2 := A4.out.1 2 _ rfl
        have c3 := A4.out.1 3 _ rfl
        have c4 := A4.out.1 4 _ rfl
        have c5 := A4.out.1 5 _ rfl
        clear d4 hb4 A3 CL B3
        cases b4 with
        | false =>
          have HN : Hid (BIs false P) := BIs.no fun h => HB4.out.neg (HI.out.1 h).2.2.2.1
          clear HI
          go_wp2_with fail
          go_ret
          exact AnsB.mk HN.out B4
        | true =>
          have CK2 := hidM (CK.out w4 HR.out B4)
          have HI2 : Hid (P ↔ (keysL si le).Nodup ∧ ((waitL si).map (·.q)).Nodup) := hidM ⟨fun h => (HI.out.1 h).2.2.2.2, fun h => HI.out.2 ⟨(by first | rfl | trivial), HR.out, HB3.out.pos, HB4.out.pos, h⟩⟩
          clear HI HB3 HB4 HR CK
          go_wp2_with fail
          refine CK2.out.mono ?_
          rintro e w5 ⟨ka, kc, za, zc, rfl, ht, d5⟩
          have B5 := B4.trans (d5.mono B4.size)
          have CN1 := hidM (implTwoS _ _ _ w4.heap.size w5 rfl hrl.1 ht.k)
          have HZ0 := hidM ht.z
          have HK0 := hidM ht.k
          have zd := d5.size
          have zB4 := B4.size
          generalize hkk : keysL si le = KK at *
          generalize hzz : (waitL si).map (·.q) = ZZ at *
          have hzl : ZZ.length = (waitL si).length := by rw [← hzz, List.length_map]
          rw [hzl] at HZ0
          clear d5 CK2 ht A4 c0 c1 c2 c3 c4 c5 hkk hzz
          obtain ⟨hk1, hk2⟩ := hrl
          generalize (waitL si).length = NZ at *
          have hkl : KK.length = KK.length := rfl
          go_wp2_with fail
          refine CN1.out.mono ?_
          rintro e w6 ⟨b6, rfl, hb6, d6⟩
          have HB6 := hidM hb6
          have B6 : Below w.heap.size w w6 := B5.grown d6 B5.size (fun x hx => by have := (HK0.out.lt x hx).1; omega)
          have Z6 := own_beside HZ0.out HK0.out t_str_int.symm d6
          have zl6 := HZ0.out.lt
          have CN2 := hidM (implTwoI _ _ ZZ w4.heap.size w6 hzl hk2 Z6)
          have HB7 : Hid (∀ W, w6.grownBy W (Value.ownBlock (.slice za NZ zc)) → Below w.heap.size w W) := fun W hW => B6.grown hW B6.size (fun x hx => by have := (zl6 x hx).1; omega)
          clear hb6 d6 CN1 HZ0 HK0 Z6 zl6
          cases b6 with
          | false =>
            have HN : Hid (BIs false P) := BIs.no fun h => HB6.out.neg (HI2.out.1 h).1
            clear HI2 HB6
            go_wp2_with fail
            go_ret
            exact AnsB.mk HN.out B6
          | true =>
            go_wp2_with fail
            refine CN2.out.mono ?_
            rintro e w7 ⟨b7, rfl, hb7, d7⟩
            have B7 := HB7.out w7 d7
            have HN : Hid (BIs b7 P) := hb7.iff ⟨fun h => HI2.out.2 ⟨HB6.out.pos, h⟩, fun h => (HI2.out.1 h).2⟩
            clear HI2 HB6 hb7 d7 CN2 HB7
            go_wp2_with fail
            go_ret
            exact AnsB.mk HN.out B7
end Go.Proofs.YtcjblhiihgdljaaGreat
