/- Proved: laws.FnHosts answers true at every slice of bytes and leaves it as it was; no condition. -/
import Derived.Test.YtamnhegianpedaaGreatDoorRows
import Derived.Test.YtamnhegianpedaaGreatDoorCards
import Derived.Test.YtamnhegianpedaaGreatDoorTie
import Derived.Test.YtamnhegianpedaaGreatDoorPackD
import Derived.Test.YtamnhegianpedaaGreatDoorPackC
import Derived.Test.YtamnhegianpedaaGreatDoorPackB
import Derived.Test.YtamnhegianpedaaGreatDoorPackE
import Derived.OpenShut
import Derived.ShutString
namespace Go.Proofs.YtamnhegianpedaaGreatDoor.fnHosts
open Go.ChangeShapes Go.WideShapes Go.ChangeAt Go.RowKit
open Go.ChangeMaps (open_string shut_string)
set_option linter.unusedVariables false

def IsRow (k : IntKind) (w : World) (a : Option Addr) (len cap : Nat) (zs : List Int) : Prop :=
  (a = none ∧ len = 0 ∧ cap = 0 ∧ zs = []) ∨
  ∃ x, a = some x ∧ len ≤ cap ∧ cap ≤ maxLen ∧ zs.length = cap ∧ (∀ i, i < zs.length → w.cell? (x.add i) = some (.int k (zs.getD i 0))) ∧ ∀ n ∈ zs, (Lit.int k n).wf = true

set_option maxRecDepth 100000 in
set_option maxHeartbeats 8000000 in
theorem walk (a0 : Option Addr) (len0 cap0 : Nat) (z0 : List Int) (w : World) (w0 : IsRow .u8 w a0 len0 cap0 z0) (hT : Pow w) (hM : MaxI w) (hD : Bruijn w) (hU : Lib.Utf8Tabs 2 3 w) :
    Calls Tryz.prog 3 #[.slice a0 len0 cap0] w fun e w' => e = .returned (.bool true) ∧ Below w.heap.size w w' := by
  by_cases hbig : 1048576 < (len0 : Int)
  · go_enter Tryz.func3, Tryz.ntmps3
    go_wp2_with fail
    refine (big_yes _ _ _ _ hbig).mono ?_
    rintro e w' ⟨rfl, rfl⟩
    go_wp2
    go_ret
    exact ⟨rfl, Below.refl _ _⟩
  · have hl : len0 ≤ 1048576 := by omega
    have hcode : CodeRow w.heap.size w a0 len0 := by
      rcases w0 with ⟨rfl, rfl, rfl, rfl⟩ | ⟨x, rfl, h1, h2, h3, h4, h5⟩
      · exact .inl rfl
      · by_cases h0 : len0 = 0
        · exact .inl h0
        · obtain ⟨b, off, rfl, hc⟩ := ints_at h4 (by omega)
          refine .inr ⟨b, off, rfl, World.block_lt_of_cell? w ⟨b, off + 0, none⟩ (hc 0 (by omega)), fun i hi => ?_⟩
          refine ⟨_, hc i (by omega), ?_⟩
          have hb := bounds_u8 (h5 (z0.getD i 0) (by
            rw [List.getD_eq_getElem?_getD, List.getElem?_eq_getElem (by omega)]
            exact List.getElem_mem _))
          exact hb
    have HCO : Hid (CodeRow w.heap.size w a0 len0) := hcode
    have HTA : Hid (∀ W, Below w.heap.size w W → Pow W ∧ MaxI W ∧ Bruijn W ∧ Lib.Utf8Tabs 2 3 W) := fun W hb => ⟨pow_below hT hb, max_below hM hb, bruijn_below hD hb, tabs_below hU hb⟩
    have CPH : Hid (∀ (t : ByteArray) W, t.size ≤ 1048576 → Below w.heap.size w W → Calls Tryz.prog 11 #[.string t] W fun e w' => e = .returned (.tuple #[hostVal (rV (readH t)), .int .i64 (rC (readH t))]) ∧ Below W.heap.size W w') := fun t W h hb => implParseHost t W h (HTA.out W hb).2.2.2 (HTA.out W hb).1 (HTA.out W hb).2.2.1 (HTA.out W hb).2.1
    clear w0 hT hM hD hU hcode
    go_enter Tryz.func3, Tryz.ntmps3
    go_wp2_with fail
    refine (big_no _ _ _ _ (by omega)).mono ?_
    rintro e w' ⟨rfl, rfl⟩
    go_wp2_with fail
    refine (drawHost _ _ _ _ hl HCO.out).mono ?_
    rintro e wa ⟨k, n, s, x0, x1, x2, x3, x4, x5, x6, x7, hs, rfl, ba⟩
    obtain ⟨Q, hQ⟩ : ∃ Q, Q = wa.alloc (.cells #[.int .i64 k, .string s, .int .i64 n, .int .i64 x0, .int .i64 x1, .int .i64 x2, .int .i64 x3, .int .i64 x4, .int .i64 x5, .int .i64 x6, .int .i64 x7] 26) := ⟨_, rfl⟩
    have HQ : Hid (Below w.heap.size w Q) := by rw [hQ]; exact ba.alloc ba.size _
    have HW : Hid (∀ W, Hid (Below Q.heap.size Q W) → Below w.heap.size w W) := fun W hb => HQ.out.trans (hb.out.mono HQ.out.size)
    have HC : Hid (∀ W, Hid (Below Q.heap.size Q W) → HostCells wa W k s n x0 x1 x2 x3 x4 x5 x6 x7) := fun W hb => host_cells wa W _ _ _ x0 x1 x2 x3 x4 x5 x6 x7 _ (by have h := hb.out; rw [hQ] at h; exact h)
    have CT : Hid (∀ W, Hid (Below Q.heap.size Q W) → Calls Tryz.prog 8 #[.agg #[.int .i64 k, .string s, .int .i64 n, .int .i64 x0, .int .i64 x1, .int .i64 x2, .int .i64 x3, .int .i64 x4, .int .i64 x5, .int .i64 x6, .int .i64 x7]] W fun e w' => e = .returned (.string (hTx ⟨k, s, n, [x0, x1, x2, x3, x4, x5, x6, x7]⟩)) ∧ HostCells wa w' k s n x0 x1 x2 x3 x4 x5 x6 x7 ∧ Hid (Below Q.heap.size Q w')) := fun W hb =>
      (implHostText k n s x0 x1 x2 x3 x4 x5 x6 x7 W hs (HTA.out W (HW.out W hb)).2.2.2 (HTA.out W (HW.out W hb)).1 (HTA.out W (HW.out W hb)).2.2.1).mono fun e w' h => ⟨h.1, HC.out w' (hb.out.trans (h.2.mono hb.out.size)), hb.out.trans (h.2.mono hb.out.size)⟩
    have CI : Hid (∀ W, Hid (Below Q.heap.size Q W) → Calls Tryz.prog 10 #[.agg #[.int .i64 k, .string s, .int .i64 n, .int .i64 x0, .int .i64 x1, .int .i64 x2, .int .i64 x3, .int .i64 x4, .int .i64 x5, .int .i64 x6, .int .i64 x7]] W fun e w' => e = .returned (.bool (hOk ⟨k, s, n, [x0, x1, x2, x3, x4, x5, x6, x7]⟩)) ∧ HostCells wa w' k s n x0 x1 x2 x3 x4 x5 x6 x7 ∧ Hid (Below Q.heap.size Q w')) := fun W hb =>
      (implHostOk k n s x0 x1 x2 x3 x4 x5 x6 x7 W hs (HTA.out W (HW.out W hb)).2.2.2 (HTA.out W (HW.out W hb)).1).mono fun e w' h => ⟨h.1, HC.out w' (hb.out.trans (h.2.mono hb.out.size)), hb.out.trans (h.2.mono hb.out.size)⟩
    have CS : Hid (∀ W, Hid (Below Q.heap.size Q W) → Calls Tryz.prog 9 #[.agg #[.int .i64 k, .string s, .int .i64 n, .int .i64 x0, .int .i64 x1, .int .i64 x2, .int .i64 x3, .int .i64 x4, .int .i64 x5, .int .i64 x6, .int .i64 x7]] W fun e w' => e = .returned (.bool (hOk ⟨k, s, n, [x0, x1, x2, x3, x4, x5, x6, x7]⟩)) ∧ HostCells wa w' k s n x0 x1 x2 x3 x4 x5 x6 x7 ∧ Hid (Below Q.heap.size Q w')) := fun W hb =>
      (specHostOk k n s x0 x1 x2 x3 x4 x5 x6 x7 W hs).mono fun e w' h => ⟨h.1, HC.out w' (hb.out.trans (h.2.mono hb.out.size)), hb.out.trans (h.2.mono hb.out.size)⟩
    have CP : Hid (∀ W, Hid (Below Q.heap.size Q W) → Calls Tryz.prog 11 #[.string (hTx ⟨k, s, n, [x0, x1, x2, x3, x4, x5, x6, x7]⟩)] W fun e w' => e = .returned (.tuple #[hostVal (rV (readH (hTx ⟨k, s, n, [x0, x1, x2, x3, x4, x5, x6, x7]⟩))), .int .i64 (rC (readH (hTx ⟨k, s, n, [x0, x1, x2, x3, x4, x5, x6, x7]⟩)))]) ∧ HostCells wa w' k s n x0 x1 x2 x3 x4 x5 x6 x7 ∧ Hid (Below Q.heap.size Q w')) := fun W hb =>
      (CPH.out _ W (hTx_size hs) (HW.out W hb)).mono fun e w' h => ⟨h.1, HC.out w' (hb.out.trans (h.2.mono hb.out.size)), hb.out.trans (h.2.mono hb.out.size)⟩
    have HB : Hid (∀ {o : Obj} {W : World}, Hid (Below Q.heap.size Q W) → Hid (Below Q.heap.size Q (W.alloc o))) := fun {o W} hb => hb.out.alloc hb.out.size o
    have hbQ : Hid (Below Q.heap.size Q Q) := Below.refl _ _
    have HCL : Hid (∀ W, Below w.heap.size w W → CodeRow W.heap.size W a0 len0) := fun W hb => HCO.out.later hb
    clear ba HCO
    cases hok : hOk ⟨k, s, n, [x0, x1, x2, x3, x4, x5, x6, x7]⟩ with
    | true =>
      obtain ⟨hp, hv, hr⟩ := host_back hok
      have hem := empty_no hp
      have heq : ∀ W, _ := eqH k s n x0 x1 x2 x3 x4 x5 x6 x7 k s n x0 x1 x2 x3 x4 x5 x6 x7
      rw [eqHB_self] at heq
      rw [hok] at CI CS
      rw [hv, hr, show hostVal ⟨k, s, n, [x0, x1, x2, x3, x4, x5, x6, x7]⟩ = .agg #[.int .i64 k, .string s, .int .i64 n, .int .i64 x0, .int .i64 x1, .int .i64 x2, .int .i64 x3, .int .i64 x4, .int .i64 x5, .int .i64 x6, .int .i64 x7] from rfl] at CP
      generalize hTx ⟨k, s, n, [x0, x1, x2, x3, x4, x5, x6, x7]⟩ = T at CT CP hem
      clear hp hv hr hok
      go_wp2_with fail
      rw [← hQ]
      refine (CT.out _ hbQ).mono ?_
      rintro e w1 ⟨rfl, hc1, hb1⟩
      have hb1d : Hid (Below Q.heap.size Q w1.drew) := ⟨hb1.out.os, hb1.out.tape, hb1.out.output, hb1.out.size, hb1.out.block⟩
      obtain ⟨c0, c1, c2, c3, c4, c5, c6, c7, c8, c9, c10⟩ := hc1
      obtain ⟨f0, f1, f2, f3, f4, f5, f6, f7, f8, f9, f10⟩ := HC.out _ hb1d
      go_wp2_with fail
      go_cut [32] (fun v wx => v = .bool false ∧ HostCells wa wx k s n x0 x1 x2 x3 x4 x5 x6 x7 ∧ Hid (Below Q.heap.size Q wx))
      case first =>
        first | go_region_with (first | (go_at_call 9; refine (CS.out _ ?_).mono ?_; assumption; rintro e wq ⟨rfl, ⟨g0, g1, g2, g3, g4, g5, g6, g7, g8, g9, g10⟩, hbq⟩) | (go_at_call 10; refine (CI.out _ ?_).mono ?_; assumption; rintro e wq ⟨rfl, ⟨g0, g1, g2, g3, g4, g5, g6, g7, g8, g9, g10⟩, hbq⟩)) | fail
        all_goals go_wp2_with fail
        all_goals go_meet
        all_goals exact ⟨rfl, ⟨by assumption, by assumption, by assumption, by assumption, by assumption, by assumption, by assumption, by assumption, by assumption, by assumption, by assumption⟩, by assumption⟩
      case rest =>
        obtain ⟨rfl, hc2, hb2⟩ := hcut
        clear hb1 hb1d c0 c1 c2 c3 c4 c5 c6 c7 c8 c9 c10 f0 f1 f2 f3 f4 f5 f6 f7 f8 f9 f10
        go_wp2_with fail
        refine (CP.out _ hb2).mono ?_
        rintro e w3 ⟨rfl, hc3, hb3⟩
        have hb3a : Hid (Below Q.heap.size Q (w3.alloc (.cells #[.int .i64 k, .string s, .int .i64 n, .int .i64 x0, .int .i64 x1, .int .i64 x2, .int .i64 x3, .int .i64 x4, .int .i64 x5, .int .i64 x6, .int .i64 x7] 26))) := HB.out hb3
        obtain ⟨c0, c1, c2, c3, c4, c5, c6, c7, c8, c9, c10⟩ := HC.out _ hb3a
        clear hc2 hc3 hb2
        go_wp2_with fail
        clear c0 c1 c2 c3 c4 c5 c6 c7 c8 c9 c10
        refine (drawParseHost _ _ _ _ hl (HCL.out _ (HW.out _ hb3a))).mono ?_
        rintro e v1 ⟨s2, hs2, rfl, bv1⟩
        have HV1 : Hid (Below w.heap.size w v1) := (HW.out _ hb3a).trans (bv1.mono (HW.out _ hb3a).size)
        clear bv1
        rcases read_ok s2 with ⟨c, hrd, hc1, hc4⟩ | ⟨hok2, hc0⟩
        · have CP2 : Hid (∀ W, Below w.heap.size w W → Calls Tryz.prog 11 #[.string s2] W fun e w' => e = .returned (.tuple #[.agg #[.int .i64 0, .string ⟨#[]⟩, .int .i64 0, .int .i64 0, .int .i64 0, .int .i64 0, .int .i64 0, .int .i64 0, .int .i64 0, .int .i64 0, .int .i64 0], .int .i64 c]) ∧ Below W.heap.size W w') := fun W hb => by
            have h := CPH.out s2 W hs2 hb
            rw [hrd] at h
            exact h
          have CS2 : Hid (∀ W, Calls Tryz.prog 13 #[.string s2] W fun e w' => e = .returned (.tuple #[.agg #[.int .i64 0, .string ⟨#[]⟩, .int .i64 0, .int .i64 0, .int .i64 0, .int .i64 0, .int .i64 0, .int .i64 0, .int .i64 0, .int .i64 0, .int .i64 0], .int .i64 c]) ∧ Below W.heap.size W w') := fun W => by
            have h := specParseHost s2 W hs2
            rw [hrd] at h
            exact h
          have qc : (c == 0) = false := beq_eq_false_iff_ne.2 (by omega)
          have heq2 : ∀ W, _ := eqH 0 ⟨#[]⟩ 0 0 0 0 0 0 0 0 0 0 ⟨#[]⟩ 0 0 0 0 0 0 0 0 0
          rw [eqHB_self] at heq2
          clear hrd
          go_wp2_with fail
          refine (CP2.out _ HV1.out).mono ?_
          rintro e v2 ⟨rfl, b2⟩
          have HV2 : Hid (Below w.heap.size w v2) := HV1.out.trans (b2.mono HV1.out.size)
          clear b2
          go_wp2_with fail
          refine (CS2.out _).mono ?_
          rintro e v3 ⟨rfl, b3⟩
          obtain ⟨m0, m1, m2, m3, m4, m5, m6, m7, m8, m9, m10⟩ := host_cells v2 v3 _ _ _ 0 0 0 0 0 0 0 0 _ b3
          have HV3 : Hid (Below w.heap.size w v3) := (HV2.out.alloc HV2.out.size _).trans (b3.mono (by have := HV2.out.size; simp; omega))
          have hlt3 : v2.heap.size < v3.heap.size := Nat.lt_of_lt_of_le (by simp) b3.size
          clear b3
          go_wp2_with fail
          go_ret
          exact ⟨rfl, (HV3.out.alloc HV3.out.size _).alloc (by have := HV3.out.size; simp; omega) _⟩
        · obtain ⟨y0, y1, y2, y3, y4, y5, y6, y7, hyz, hyv⟩ := hostVal_eight _ (readH_eight s2)
          have hst : rV (readH s2) = ⟨(rV (readH s2)).k, (rV (readH s2)).s, (rV (readH s2)).n, [y0, y1, y2, y3, y4, y5, y6, y7]⟩ := by rw [← hyz]
          have hok3 : hOk ⟨(rV (readH s2)).k, (rV (readH s2)).s, (rV (readH s2)).n, [y0, y1, y2, y3, y4, y5, y6, y7]⟩ = true := by rw [← hst]; exact hok2
          have hsz := readH_size s2
          have CP2 : Hid (∀ W, Below w.heap.size w W → Calls Tryz.prog 11 #[.string s2] W fun e w' => e = .returned (.tuple #[.agg #[.int .i64 (rV (readH s2)).k, .string (rV (readH s2)).s, .int .i64 (rV (readH s2)).n, .int .i64 y0, .int .i64 y1, .int .i64 y2, .int .i64 y3, .int .i64 y4, .int .i64 y5, .int .i64 y6, .int .i64 y7], .int .i64 0]) ∧ Below W.heap.size W w') := fun W hb => by
            have h := CPH.out s2 W hs2 hb
            rw [hyv, hc0] at h
            exact h
          have CS2 : Hid (∀ W, Calls Tryz.prog 13 #[.string s2] W fun e w' => e = .returned (.tuple #[.agg #[.int .i64 (rV (readH s2)).k, .string (rV (readH s2)).s, .int .i64 (rV (readH s2)).n, .int .i64 y0, .int .i64 y1, .int .i64 y2, .int .i64 y3, .int .i64 y4, .int .i64 y5, .int .i64 y6, .int .i64 y7], .int .i64 0]) ∧ Below W.heap.size W w') := fun W => by
            have h := specParseHost s2 W hs2
            rw [hyv, hc0] at h
            exact h
          clear hyz hyv hst hok2 hc0
          generalize (rV (readH s2)).k = yk at CP2 CS2 hok3
          generalize (rV (readH s2)).s = ys at CP2 CS2 hok3 hsz
          generalize (rV (readH s2)).n = yn at CP2 CS2 hok3
          obtain ⟨_, hv2, hr2⟩ := host_back hok3
          have hT2 := hTx_size (k := yk) (n := yn) (s := ys) (x0 := y0) (x1 := y1) (x2 := y2) (x3 := y3) (x4 := y4) (x5 := y5) (x6 := y6) (x7 := y7) hsz
          have heq2 : ∀ W, _ := eqH yk ys yn y0 y1 y2 y3 y4 y5 y6 y7 yk ys yn y0 y1 y2 y3 y4 y5 y6 y7
          rw [eqHB_self] at heq2
          have CT2 : Hid (∀ W, Below w.heap.size w W → Calls Tryz.prog 8 #[.agg #[.int .i64 yk, .string ys, .int .i64 yn, .int .i64 y0, .int .i64 y1, .int .i64 y2, .int .i64 y3, .int .i64 y4, .int .i64 y5, .int .i64 y6, .int .i64 y7]] W fun e w' => e = .returned (.string (hTx ⟨yk, ys, yn, [y0, y1, y2, y3, y4, y5, y6, y7]⟩)) ∧ Below W.heap.size W w') := fun W hb => implHostText yk yn ys y0 y1 y2 y3 y4 y5 y6 y7 W hsz (HTA.out W hb).2.2.2 (HTA.out W hb).1 (HTA.out W hb).2.2.1
          have CP3 : Hid (∀ W, Below w.heap.size w W → Calls Tryz.prog 11 #[.string (hTx ⟨yk, ys, yn, [y0, y1, y2, y3, y4, y5, y6, y7]⟩)] W fun e w' => e = .returned (.tuple #[.agg #[.int .i64 yk, .string ys, .int .i64 yn, .int .i64 y0, .int .i64 y1, .int .i64 y2, .int .i64 y3, .int .i64 y4, .int .i64 y5, .int .i64 y6, .int .i64 y7], .int .i64 0]) ∧ Below W.heap.size W w') := fun W hb => by
            have h := CPH.out _ W hT2 hb
            rw [hv2, hr2] at h
            exact h
          have CI2 : Hid (∀ W, Below w.heap.size w W → Calls Tryz.prog 10 #[.agg #[.int .i64 yk, .string ys, .int .i64 yn, .int .i64 y0, .int .i64 y1, .int .i64 y2, .int .i64 y3, .int .i64 y4, .int .i64 y5, .int .i64 y6, .int .i64 y7]] W fun e w' => e = .returned (.bool true) ∧ Below W.heap.size W w') := fun W hb => by
            have h := implHostOk yk yn ys y0 y1 y2 y3 y4 y5 y6 y7 W hsz (HTA.out W hb).2.2.2 (HTA.out W hb).1
            rw [hok3] at h
            exact h
          generalize hTx ⟨yk, ys, yn, [y0, y1, y2, y3, y4, y5, y6, y7]⟩ = T2 at CT2 CP3
          clear hv2 hr2 hT2 hok3 hsz CPH HTA
          go_wp2_with fail
          refine (CP2.out _ HV1.out).mono ?_
          rintro e v2 ⟨rfl, b2⟩
          have HV2 : Hid (Below w.heap.size w v2) := HV1.out.trans (b2.mono HV1.out.size)
          clear b2
          obtain ⟨P, hP⟩ : ∃ P, P = v2.alloc (.cells #[.int .i64 yk, .string ys, .int .i64 yn, .int .i64 y0, .int .i64 y1, .int .i64 y2, .int .i64 y3, .int .i64 y4, .int .i64 y5, .int .i64 y6, .int .i64 y7] 26) := ⟨_, rfl⟩
          have HVP : Hid (Below w.heap.size w P) := by rw [hP]; exact HV2.out.alloc HV2.out.size _
          have HW2 : Hid (∀ W, Hid (Below P.heap.size P W) → Below w.heap.size w W) := fun W hb => HVP.out.trans (hb.out.mono HVP.out.size)
          have HC2 : Hid (∀ W, Hid (Below P.heap.size P W) → HostCells v2 W yk ys yn y0 y1 y2 y3 y4 y5 y6 y7) := fun W hb => host_cells v2 W _ _ _ y0 y1 y2 y3 y4 y5 y6 y7 _ (by have h := hb.out; rw [hP] at h; exact h)
          have HA2 : Hid (∀ (o : Obj) (W : World), Hid (Below P.heap.size P W) → Hid (Below P.heap.size P (W.alloc o))) := fun o W hb => hb.out.alloc hb.out.size o
          go_wp2_with fail
          rw [← hP]
          refine (CS2.out _).mono ?_
          rintro e v3 ⟨rfl, b3⟩
          have hb3 : Hid (Below P.heap.size P (v3.alloc (.cells #[.int .i64 yk, .string ys, .int .i64 yn, .int .i64 y0, .int .i64 y1, .int .i64 y2, .int .i64 y3, .int .i64 y4, .int .i64 y5, .int .i64 y6, .int .i64 y7] 26))) := HA2.out _ _ b3
          obtain ⟨m0, m1, m2, m3, m4, m5, m6, m7, m8, m9, m10⟩ := HC2.out _ hb3
          clear b3
          go_wp2_with fail
          refine (CT2.out _ (HW2.out _ hb3)).mono ?_
          rintro e v4 ⟨rfl, b4⟩
          have hb4 : Hid (Below P.heap.size P v4) := hb3.out.trans (b4.mono hb3.out.size)
          clear b4 m0 m1 m2 m3 m4 m5 m6 m7 m8 m9 m10
          go_wp2_with fail
          refine (CP3.out _ (HW2.out _ hb4)).mono ?_
          rintro e v5 ⟨rfl, b5⟩
          have hb5 : Hid (Below P.heap.size P v5) := hb4.out.trans (b5.mono hb4.out.size)
          have hb6 : Hid (Below P.heap.size P (v5.alloc (.cells #[.int .i64 yk, .string ys, .int .i64 yn, .int .i64 y0, .int .i64 y1, .int .i64 y2, .int .i64 y3, .int .i64 y4, .int .i64 y5, .int .i64 y6, .int .i64 y7] 26))) := HA2.out _ _ hb5
          obtain ⟨m0, m1, m2, m3, m4, m5, m6, m7, m8, m9, m10⟩ := HC2.out _ hb6
          have CI3 : Hid (Calls Tryz.prog 10 #[.agg #[.int .i64 yk, .string ys, .int .i64 yn, .int .i64 y0, .int .i64 y1, .int .i64 y2, .int .i64 y3, .int .i64 y4, .int .i64 y5, .int .i64 y6, .int .i64 y7]] (v5.alloc (.cells #[.int .i64 yk, .string ys, .int .i64 yn, .int .i64 y0, .int .i64 y1, .int .i64 y2, .int .i64 y3, .int .i64 y4, .int .i64 y5, .int .i64 y6, .int .i64 y7] 26)) fun e w' => e = .returned (.bool true) ∧ HostCells v2 w' yk ys yn y0 y1 y2 y3 y4 y5 y6 y7 ∧ HostCells v5 w' yk ys yn y0 y1 y2 y3 y4 y5 y6 y7 ∧ Hid (Below w.heap.size w w')) :=
            (CI2.out _ (HW2.out _ hb6)).mono fun e w' h => by
              have hb7 : Hid (Below P.heap.size P w') := hb6.out.trans (h.2.mono hb6.out.size)
              exact ⟨h.1, HC2.out _ hb7, host_cells v5 w' _ _ _ y0 y1 y2 y3 y4 y5 y6 y7 26 h.2, HW2.out _ hb7⟩
          clear b5
          go_wp2_with fail
          refine CI3.out.mono ?_
          rintro e v6 ⟨rfl, ⟨p0, p1, p2, p3, p4, p5, p6, p7, p8, p9, p10⟩, ⟨r0, r1, r2, r3, r4, r5, r6, r7, r8, r9, r10⟩, hb7⟩
          clear m0 m1 m2 m3 m4 m5 m6 m7 m8 m9 m10
          go_wp2_with fail
          go_ret
          exact ⟨rfl, hb7.out⟩
    | false =>
      have hT0 : hTx ⟨k, s, n, [x0, x1, x2, x3, x4, x5, x6, x7]⟩ = ⟨#[]⟩ := hTx_no hok
      rw [hok] at CI CS
      rw [hT0] at CT CP
      rw [readH_nil rfl, show hostVal (rV (.bad 1)) = .agg #[.int .i64 0, .string ⟨#[]⟩, .int .i64 0, .int .i64 0, .int .i64 0, .int .i64 0, .int .i64 0, .int .i64 0, .int .i64 0, .int .i64 0, .int .i64 0] from rfl, show rC (.bad 1) = 1 from rfl] at CP
      clear hT0 hok
      go_wp2_with fail
      rw [← hQ]
      refine (CT.out _ hbQ).mono ?_
      rintro e w1 ⟨rfl, hc1, hb1⟩
      have hb1d : Hid (Below Q.heap.size Q w1.drew) := ⟨hb1.out.os, hb1.out.tape, hb1.out.output, hb1.out.size, hb1.out.block⟩
      obtain ⟨c0, c1, c2, c3, c4, c5, c6, c7, c8, c9, c10⟩ := hc1
      obtain ⟨f0, f1, f2, f3, f4, f5, f6, f7, f8, f9, f10⟩ := HC.out _ hb1d
      go_wp2_with fail
      go_cut [32] (fun v wx => v = .bool false ∧ HostCells wa wx k s n x0 x1 x2 x3 x4 x5 x6 x7 ∧ Hid (Below Q.heap.size Q wx))
      case first =>
        first | go_region_with (first | (go_at_call 9; refine (CS.out _ ?_).mono ?_; assumption; rintro e wq ⟨rfl, ⟨g0, g1, g2, g3, g4, g5, g6, g7, g8, g9, g10⟩, hbq⟩) | (go_at_call 10; refine (CI.out _ ?_).mono ?_; assumption; rintro e wq ⟨rfl, ⟨g0, g1, g2, g3, g4, g5, g6, g7, g8, g9, g10⟩, hbq⟩)) | fail
        all_goals go_wp2_with fail
        all_goals go_meet
        all_goals exact ⟨rfl, ⟨by assumption, by assumption, by assumption, by assumption, by assumption, by assumption, by assumption, by assumption, by assumption, by assumption, by assumption⟩, by assumption⟩
      case rest =>
        obtain ⟨rfl, hc2, hb2⟩ := hcut
        clear hb1 hb1d c0 c1 c2 c3 c4 c5 c6 c7 c8 c9 c10 f0 f1 f2 f3 f4 f5 f6 f7 f8 f9 f10
        go_wp2_with fail
        refine (CP.out _ hb2).mono ?_
        rintro e w3 ⟨rfl, hc3, hb3⟩
        have hb3a : Hid (Below Q.heap.size Q (w3.alloc (.cells #[.int .i64 0, .string ⟨#[]⟩, .int .i64 0, .int .i64 0, .int .i64 0, .int .i64 0, .int .i64 0, .int .i64 0, .int .i64 0, .int .i64 0, .int .i64 0] 26))) := HB.out hb3
        clear hc2 hc3 hb2
        go_wp2_with fail
        refine (drawParseHost _ _ _ _ hl (HCL.out _ (HW.out _ hb3a))).mono ?_
        rintro e v1 ⟨s2, hs2, rfl, bv1⟩
        have HV1 : Hid (Below w.heap.size w v1) := (HW.out _ hb3a).trans (bv1.mono (HW.out _ hb3a).size)
        clear bv1
        rcases read_ok s2 with ⟨c, hrd, hc1, hc4⟩ | ⟨hok2, hc0⟩
        · have CP2 : Hid (∀ W, Below w.heap.size w W → Calls Tryz.prog 11 #[.string s2] W fun e w' => e = .returned (.tuple #[.agg #[.int .i64 0, .string ⟨#[]⟩, .int .i64 0, .int .i64 0, .int .i64 0, .int .i64 0, .int .i64 0, .int .i64 0, .int .i64 0, .int .i64 0, .int .i64 0], .int .i64 c]) ∧ Below W.heap.size W w') := fun W hb => by
            have h := CPH.out s2 W hs2 hb
            rw [hrd] at h
            exact h
          have CS2 : Hid (∀ W, Calls Tryz.prog 13 #[.string s2] W fun e w' => e = .returned (.tuple #[.agg #[.int .i64 0, .string ⟨#[]⟩, .int .i64 0, .int .i64 0, .int .i64 0, .int .i64 0, .int .i64 0, .int .i64 0, .int .i64 0, .int .i64 0, .int .i64 0], .int .i64 c]) ∧ Below W.heap.size W w') := fun W => by
            have h := specParseHost s2 W hs2
            rw [hrd] at h
            exact h
          have qc : (c == 0) = false := beq_eq_false_iff_ne.2 (by omega)
          have heq2 : ∀ W, _ := eqH 0 ⟨#[]⟩ 0 0 0 0 0 0 0 0 0 0 ⟨#[]⟩ 0 0 0 0 0 0 0 0 0
          rw [eqHB_self] at heq2
          clear hrd
          go_wp2_with fail
          refine (CP2.out _ HV1.out).mono ?_
          rintro e v2 ⟨rfl, b2⟩
          have HV2 : Hid (Below w.heap.size w v2) := HV1.out.trans (b2.mono HV1.out.size)
          clear b2
          go_wp2_with fail
          refine (CS2.out _).mono ?_
          rintro e v3 ⟨rfl, b3⟩
          obtain ⟨m0, m1, m2, m3, m4, m5, m6, m7, m8, m9, m10⟩ := host_cells v2 v3 _ _ _ 0 0 0 0 0 0 0 0 _ b3
          have HV3 : Hid (Below w.heap.size w v3) := (HV2.out.alloc HV2.out.size _).trans (b3.mono (by have := HV2.out.size; simp; omega))
          have hlt3 : v2.heap.size < v3.heap.size := Nat.lt_of_lt_of_le (by simp) b3.size
          clear b3
          go_wp2_with fail
          go_ret
          exact ⟨rfl, (HV3.out.alloc HV3.out.size _).alloc (by have := HV3.out.size; simp; omega) _⟩
        · obtain ⟨y0, y1, y2, y3, y4, y5, y6, y7, hyz, hyv⟩ := hostVal_eight _ (readH_eight s2)
          have hst : rV (readH s2) = ⟨(rV (readH s2)).k, (rV (readH s2)).s, (rV (readH s2)).n, [y0, y1, y2, y3, y4, y5, y6, y7]⟩ := by rw [← hyz]
          have hok3 : hOk ⟨(rV (readH s2)).k, (rV (readH s2)).s, (rV (readH s2)).n, [y0, y1, y2, y3, y4, y5, y6, y7]⟩ = true := by rw [← hst]; exact hok2
          have hsz := readH_size s2
          have CP2 : Hid (∀ W, Below w.heap.size w W → Calls Tryz.prog 11 #[.string s2] W fun e w' => e = .returned (.tuple #[.agg #[.int .i64 (rV (readH s2)).k, .string (rV (readH s2)).s, .int .i64 (rV (readH s2)).n, .int .i64 y0, .int .i64 y1, .int .i64 y2, .int .i64 y3, .int .i64 y4, .int .i64 y5, .int .i64 y6, .int .i64 y7], .int .i64 0]) ∧ Below W.heap.size W w') := fun W hb => by
            have h := CPH.out s2 W hs2 hb
            rw [hyv, hc0] at h
            exact h
          have CS2 : Hid (∀ W, Calls Tryz.prog 13 #[.string s2] W fun e w' => e = .returned (.tuple #[.agg #[.int .i64 (rV (readH s2)).k, .string (rV (readH s2)).s, .int .i64 (rV (readH s2)).n, .int .i64 y0, .int .i64 y1, .int .i64 y2, .int .i64 y3, .int .i64 y4, .int .i64 y5, .int .i64 y6, .int .i64 y7], .int .i64 0]) ∧ Below W.heap.size W w') := fun W => by
            have h := specParseHost s2 W hs2
            rw [hyv, hc0] at h
            exact h
          clear hyz hyv hst hok2 hc0
          generalize (rV (readH s2)).k = yk at CP2 CS2 hok3
          generalize (rV (readH s2)).s = ys at CP2 CS2 hok3 hsz
          generalize (rV (readH s2)).n = yn at CP2 CS2 hok3
          obtain ⟨_, hv2, hr2⟩ := host_back hok3
          have hT2 := hTx_size (k := yk) (n := yn) (s := ys) (x0 := y0) (x1 := y1) (x2 := y2) (x3 := y3) (x4 := y4) (x5 := y5) (x6 := y6) (x7 := y7) hsz
          have heq2 : ∀ W, _ := eqH yk ys yn y0 y1 y2 y3 y4 y5 y6 y7 yk ys yn y0 y1 y2 y3 y4 y5 y6 y7
          rw [eqHB_self] at heq2
          have CT2 : Hid (∀ W, Below w.heap.size w W → Calls Tryz.prog 8 #[.agg #[.int .i64 yk, .string ys, .int .i64 yn, .int .i64 y0, .int .i64 y1, .int .i64 y2, .int .i64 y3, .int .i64 y4, .int .i64 y5, .int .i64 y6, .int .i64 y7]] W fun e w' => e = .returned (.string (hTx ⟨yk, ys, yn, [y0, y1, y2, y3, y4, y5, y6, y7]⟩)) ∧ Below W.heap.size W w') := fun W hb => implHostText yk yn ys y0 y1 y2 y3 y4 y5 y6 y7 W hsz (HTA.out W hb).2.2.2 (HTA.out W hb).1 (HTA.out W hb).2.2.1
          have CP3 : Hid (∀ W, Below w.heap.size w W → Calls Tryz.prog 11 #[.string (hTx ⟨yk, ys, yn, [y0, y1, y2, y3, y4, y5, y6, y7]⟩)] W fun e w' => e = .returned (.tuple #[.agg #[.int .i64 yk, .string ys, .int .i64 yn, .int .i64 y0, .int .i64 y1, .int .i64 y2, .int .i64 y3, .int .i64 y4, .int .i64 y5, .int .i64 y6, .int .i64 y7], .int .i64 0]) ∧ Below W.heap.size W w') := fun W hb => by
            have h := CPH.out _ W hT2 hb
            rw [hv2, hr2] at h
            exact h
          have CI2 : Hid (∀ W, Below w.heap.size w W → Calls Tryz.prog 10 #[.agg #[.int .i64 yk, .string ys, .int .i64 yn, .int .i64 y0, .int .i64 y1, .int .i64 y2, .int .i64 y3, .int .i64 y4, .int .i64 y5, .int .i64 y6, .int .i64 y7]] W fun e w' => e = .returned (.bool true) ∧ Below W.heap.size W w') := fun W hb => by
            have h := implHostOk yk yn ys y0 y1 y2 y3 y4 y5 y6 y7 W hsz (HTA.out W hb).2.2.2 (HTA.out W hb).1
            rw [hok3] at h
            exact h
          generalize hTx ⟨yk, ys, yn, [y0, y1, y2, y3, y4, y5, y6, y7]⟩ = T2 at CT2 CP3
          clear hv2 hr2 hT2 hok3 hsz CPH HTA
          go_wp2_with fail
          refine (CP2.out _ HV1.out).mono ?_
          rintro e v2 ⟨rfl, b2⟩
          have HV2 : Hid (Below w.heap.size w v2) := HV1.out.trans (b2.mono HV1.out.size)
          clear b2
          obtain ⟨P, hP⟩ : ∃ P, P = v2.alloc (.cells #[.int .i64 yk, .string ys, .int .i64 yn, .int .i64 y0, .int .i64 y1, .int .i64 y2, .int .i64 y3, .int .i64 y4, .int .i64 y5, .int .i64 y6, .int .i64 y7] 26) := ⟨_, rfl⟩
          have HVP : Hid (Below w.heap.size w P) := by rw [hP]; exact HV2.out.alloc HV2.out.size _
          have HW2 : Hid (∀ W, Hid (Below P.heap.size P W) → Below w.heap.size w W) := fun W hb => HVP.out.trans (hb.out.mono HVP.out.size)
          have HC2 : Hid (∀ W, Hid (Below P.heap.size P W) → HostCells v2 W yk ys yn y0 y1 y2 y3 y4 y5 y6 y7) := fun W hb => host_cells v2 W _ _ _ y0 y1 y2 y3 y4 y5 y6 y7 _ (by have h := hb.out; rw [hP] at h; exact h)
          have HA2 : Hid (∀ (o : Obj) (W : World), Hid (Below P.heap.size P W) → Hid (Below P.heap.size P (W.alloc o))) := fun o W hb => hb.out.alloc hb.out.size o
          go_wp2_with fail
          rw [← hP]
          refine (CS2.out _).mono ?_
          rintro e v3 ⟨rfl, b3⟩
          have hb3 : Hid (Below P.heap.size P (v3.alloc (.cells #[.int .i64 yk, .string ys, .int .i64 yn, .int .i64 y0, .int .i64 y1, .int .i64 y2, .int .i64 y3, .int .i64 y4, .int .i64 y5, .int .i64 y6, .int .i64 y7] 26))) := HA2.out _ _ b3
          obtain ⟨m0, m1, m2, m3, m4, m5, m6, m7, m8, m9, m10⟩ := HC2.out _ hb3
          clear b3
          go_wp2_with fail
          refine (CT2.out _ (HW2.out _ hb3)).mono ?_
          rintro e v4 ⟨rfl, b4⟩
          have hb4 : Hid (Below P.heap.size P v4) := hb3.out.trans (b4.mono hb3.out.size)
          clear b4 m0 m1 m2 m3 m4 m5 m6 m7 m8 m9 m10
          go_wp2_with fail
          refine (CP3.out _ (HW2.out _ hb4)).mono ?_
          rintro e v5 ⟨rfl, b5⟩
          have hb5 : Hid (Below P.heap.size P v5) := hb4.out.trans (b5.mono hb4.out.size)
          have hb6 : Hid (Below P.heap.size P (v5.alloc (.cells #[.int .i64 yk, .string ys, .int .i64 yn, .int .i64 y0, .int .i64 y1, .int .i64 y2, .int .i64 y3, .int .i64 y4, .int .i64 y5, .int .i64 y6, .int .i64 y7] 26))) := HA2.out _ _ hb5
          obtain ⟨m0, m1, m2, m3, m4, m5, m6, m7, m8, m9, m10⟩ := HC2.out _ hb6
          have CI3 : Hid (Calls Tryz.prog 10 #[.agg #[.int .i64 yk, .string ys, .int .i64 yn, .int .i64 y0, .int .i64 y1, .int .i64 y2, .int .i64 y3, .int .i64 y4, .int .i64 y5, .int .i64 y6, .int .i64 y7]] (v5.alloc (.cells #[.int .i64 yk, .string ys, .int .i64 yn, .int .i64 y0, .int .i64 y1, .int .i64 y2, .int .i64 y3, .int .i64 y4, .int .i64 y5, .int .i64 y6, .int .i64 y7] 26)) fun e w' => e = .returned (.bool true) ∧ HostCells v2 w' yk ys yn y0 y1 y2 y3 y4 y5 y6 y7 ∧ HostCells v5 w' yk ys yn y0 y1 y2 y3 y4 y5 y6 y7 ∧ Hid (Below w.heap.size w w')) :=
            (CI2.out _ (HW2.out _ hb6)).mono fun e w' h => by
              have hb7 : Hid (Below P.heap.size P w') := hb6.out.trans (h.2.mono hb6.out.size)
              exact ⟨h.1, HC2.out _ hb7, host_cells v5 w' _ _ _ y0 y1 y2 y3 y4 y5 y6 y7 26 h.2, HW2.out _ hb7⟩
          clear b5
          go_wp2_with fail
          refine CI3.out.mono ?_
          rintro e v6 ⟨rfl, ⟨p0, p1, p2, p3, p4, p5, p6, p7, p8, p9, p10⟩, ⟨r0, r1, r2, r3, r4, r5, r6, r7, r8, r9, r10⟩, hb7⟩
          clear m0 m1 m2 m3 m4 m5 m6 m7 m8 m9 m10
          go_wp2_with fail
          go_ret
          exact ⟨rfl, hb7.out⟩

set_option maxRecDepth 100000 in
theorem contract (H : Type) (enc : TypeId × Value → H) (W : World) (base : Nat) (args : Array Value) (ds gs : List (DataW H)) (before : List MemPlace)
    (hval : ∀ (j : Nat) t v, Tryz.f3.params[j]? = some t → args[j]? = some v → Value.okWide Tryz.prog W .any base t v)
    (hW : DataW.Whole enc Tryz.prog Tryz.f3.params.toList Rows.fnHostsSpec.vars false W args.toList ds gs before) (hL : laidMet Tryz.prog laidHost W) (hSh : W.ShapedOpen Tryz.prog) :
    Calls Tryz.prog 3 args W fun e W' => ∃ v, e = .returned v ∧ Rows.fnHostsSpec.post enc Tryz.prog Tryz.f3 false true false false W args v W' := by
  have hW' := hW
  obtain ⟨p, q, hA0, hV, rfl, hfz, hnd⟩ := hW
  have hA : DataW.TrodAll enc Tryz.prog W 0 (fun _ => true) true Tryz.f3.params.toList args.toList ds p := hA0
  rw [Tryz.params3] at hA hval
  obtain ⟨v0, vs0, d0, ds0, p0, q0, hargs, rfl, rfl, h0, r0⟩ := trodAll_cons hA
  obtain ⟨rfl, rfl, rfl⟩ := trodAll_nil r0
  obtain rfl : args = #[v0] := by cases args; simp_all
  obtain ⟨rfl, rfl⟩ := trodVars_none hV
  obtain ⟨a0, len0, cap0, rfl⟩ := okWide_slice Tryz.underlying22 (hval 0 22 v0 rfl rfl)
  have k0 := h0
  have lt0 : ∀ x ∈ p0, x.block < W.heap.size := by obtain ⟨m, hm⟩ := k0; exact DataW.trod_lt m _ _ _ hm
  obtain ⟨z0, w0⟩ : ∃ zs, IsRow .u8 W a0 len0 cap0 zs := by
    obtain ⟨fuel, hf⟩ := h0
    rcases open_ints Tryz.underlying22 Tryz.underlying5 (by kernel_rfl) hf with ⟨hcs, _⟩ | ⟨x, l, c, zs, hcs, _, hl, hm, hz, _, hcell, hwz⟩
    · simp [Value.cells] at hcs
      obtain ⟨rfl, rfl, rfl⟩ := hcs
      exact ⟨[], .inl ⟨rfl, rfl, rfl, rfl⟩⟩
    · simp [Value.cells] at hcs
      obtain ⟨rfl, rfl, rfl⟩ := hcs
      exact ⟨zs, .inr ⟨_, rfl, hl, hm, by simpa using hz, hcell, hwz⟩⟩
  clear hA0
  refine (walk a0 len0 cap0 z0 W w0 (host_pow hL) (max_shaped hSh) (host_bru hL) (host_tabs hL)).mono fun e W' ⟨he, bel⟩ => ?_
  subst he
  exact ⟨_, rfl, _, _, _, [], _, [], hW', trodAll_mk1 (shut_bool Tryz.underlying4 _), (trodAll_cons_mk (Below.trod laidOutPow (by kernel_rfl) (of_decide_eq_true (by kernel_rfl)) k0 bel lt0) trodAll_mk0), rfl, bel.frame _, fun h => by cases h⟩

theorem witness_row (os : Os) {H : Type} (enc : TypeId × Value → H) :
    (OpenSpec.ofChange Rows.fnHostsSpec).preRow enc Tryz.prog Tryz.f3 Rows.fnHostsRow.domain false laidHost (({ World.holding Tryz.prog os ⟨#[], #[], []⟩ with heap := hostHeap (World.holding Tryz.prog os ⟨#[], #[], []⟩).heap } : World).forCall (fun _ _ => 0) ⟨#[], #[.slice none 0 0], []⟩).memory #[.slice none 0 0] := by
  have hw : (DataW.whole enc Tryz.prog (({ World.holding Tryz.prog os ⟨#[], #[], []⟩ with heap := hostHeap (World.holding Tryz.prog os ⟨#[], #[], []⟩).heap } : World).forCall (fun _ _ => 0) ⟨#[], #[.slice none 0 0], []⟩).memory Tryz.f3.params.toList Rows.fnHostsSpec.vars false (#[.slice none 0 0] : Array Value).toList 8).map (fun x => (x.1, x.2.1)) =
      some ([.nil], []) := by kernel_rfl
  obtain ⟨⟨x1, x2, x3⟩, hx, hx1⟩ := Option.map_eq_some_iff.1 hw
  simp only [Prod.mk.injEq] at hx1
  obtain ⟨rfl, rfl⟩ := hx1
  exact OpenSpec.preRow_of_cond 8 hx (by kernel_rfl) (fun k hk => by cases hk) (by kernel_rfl) (host_met os _)

set_option maxRecDepth 100000 in
set_option maxHeartbeats 2000000 in
theorem lifted (os : Os) (started : os.Started) (H : Type) (enc : TypeId × Value → H) (F : Stop.Interp) :
    ReturnsInHanded {} Tryz.checked os 3 .any ((OpenSpec.ofChange Rows.fnHostsSpec).preRow enc Tryz.prog Tryz.f3 Rows.fnHostsRow.domain false laidHost) (((OpenSpec.ofChange Rows.fnHostsSpec).at F).post enc Tryz.prog Tryz.f3 false true false false) := by
  refine returnsInHanded_of_row (C := Tryz.checked) (s := OpenSpec.ofChange Rows.fnHostsSpec) ownPow started (by kernel_rfl) Tryz.func3
    (witness_row_atRef (enc := enc) (C := Tryz.checked) false ({ World.holding Tryz.prog os ⟨#[], #[], []⟩ with heap := hostHeap (World.holding Tryz.prog os ⟨#[], #[], []⟩).heap }) #[.slice none 0 0] rfl (by kernel_rfl) (by kernel_rfl) (by kernel_rfl) (witness_row os enc)) ?_
  intro W base args ds gs before hval hW _ _ _ hL hSh _
  exact contract H enc W base args ds gs before hval hW hL hSh

theorem said : Rows.FnHostsSaid :=
  OpenClaim.holds_of_cond 3 Tryz.f3 rfl rfl rfl rfl rfl rfl rfl ⟨rfl, rfl, rfl, rfl, rfl⟩ rfl rfl rfl rfl rfl (by kernel_rfl) Tryz.func3 (by kernel_rfl)
    (of_decide_eq_true (by kernel_rfl)) (by unfold Func.isWrapper; first | (rw [if_pos (by decide +kernel)]; kernel_rfl) | (rw [if_neg (by decide +kernel)]; exact ⟨rfl, rfl⟩))
    (fun os started H enc _ F => by rw [OpenClaim.pre_eq_preRow]; exact lifted os started H enc F)

theorem plain (f : FuncId) (fn : Func) (hf : Tryz.pinned.checked.prog.funcNamed "loop.example/g00191/laws.FnHosts" = some f) (hfn : Tryz.pinned.checked.prog.funcs[f]? = some fn) :
    true = Tryz.pinned.checked.prog.looks [] ∧ ∀ (j : Nat) t, fn.params[j]? = some t → Tryz.pinned.checked.prog.wantsStandIn t = false := by
  obtain rfl : f = 3 := Option.some.inj ((show Tryz.prog.funcNamed "loop.example/g00191/laws.FnHosts" = some 3 by kernel_rfl).symm.trans hf) |>.symm
  obtain rfl : fn = Tryz.f3 := (Option.some.inj (Tryz.func3.symm.trans hfn)).symm
  refine ⟨by kernel_rfl, fun j t ht => ?_⟩
  rw [Tryz.params3] at ht
  obtain rfl : t = 22 := by simpa using Array.mem_of_getElem? ht
  exact (show Tryz.prog.wantsStandIn 22 = false by kernel_rfl)

theorem card : Rows.FnHostsCardSaid :=
  Claim7.holds_tied_plain_at .later [] _ _ _ _ said (fun _ h => by cases h) (by kernel_rfl) (fun _ h => by cases h) fnHosts_row_tie rfl ⟨rfl, rfl⟩ (by kernel_rfl) rfl plain (by kernel_rfl)
end Go.Proofs.YtamnhegianpedaaGreatDoor.fnHosts

namespace Go.Proofs.YtamnhegianpedaaGreatDoor
theorem fnHosts_holds : Rows.FnHostsCardSaid := fnHosts.card
#print axioms fnHosts_holds
end Go.Proofs.YtamnhegianpedaaGreatDoor
