/- Proved: laws.FnParsed answers true at every code and leaves it as it was; no condition. -/
import Derived.Test.YtgcbaphbiaimoaaGreatDoorRows
import Derived.Test.YtgcbaphbiaimoaaGreatDoorCards
import Derived.Test.YtgcbaphbiaimoaaGreatDoorTie
import Derived.Test.YtgcbaphbiaimoaaGreatDoorQP06
import Derived.Test.YtgcbaphbiaimoaaGreatDoorQP35
import Derived.Test.YtgcbaphbiaimoaaGreatDoorQP34
import Derived.Test.YtgcbaphbiaimoaaGreatDoorQP36
import Derived.OpenShut
import Derived.ShutString
namespace Go.Proofs.YtgcbaphbiaimoaaGreatDoor.fnParsed
open Go.ChangeShapes Go.WideShapes Go.ChangeAt Go.RowKit
open Go.ChangeMaps (open_string shut_string)
set_option linter.unusedVariables false

def ztmz(k:IntKind)(w:World)(a:Option Addr)(len cap:Nat)(zs:List Int):Prop:=
  (a=none∧len=0∧cap=0∧zs=[])∨
  ∃x,a=some x∧len≤cap∧cap≤maxLen∧zs.length=cap∧(∀i,i<zs.length→w.cell? (x.add i)=some (.int k (zs.getD i 0)))∧ ∀n∈zs,(Lit.int k n).wf=true

set_option maxRecDepth 100000 in
set_option maxHeartbeats 8000000 in
theorem walk (a0 : Option Addr) (len0 cap0 : Nat) (z0 : List Int) (w : World) (w0 : ztmz .u8 w a0 len0 cap0 z0) (hT : Pow w) (hM : MaxI w) (hD : zJz w) (hU : Lib.Utf8Tabs 12 13 w) (hK : xLz w) (hE : ErrT w) :
    Calls Tryz.prog 4 #[.slice a0 len0 cap0] w fun e w' => e = .returned (.bool true) ∧ Below w.heap.size w w' := by
  by_cases hbig : 1048576 < (len0 : Int)
  · go_enter Tryz.func4, Tryz.ntmps4
    go_wp2_with fail
    refine (zslz _ _ _ _ hbig).mono ?_
    rintro e w' ⟨rfl, rfl⟩
    go_wp2
    go_ret
    exact ⟨rfl, Below.refl _ _⟩
  · have hl : len0 ≤ 1048576 := by omega
    have hcode : yNz w.heap.size w a0 len0 := by
      rcases w0 with ⟨rfl, rfl, rfl, rfl⟩ | ⟨x, rfl, h1, h2, h3, h4, h5⟩
      · exact .inl rfl
      · by_cases h0 : len0 = 0
        · exact .inl h0
        · obtain ⟨b, off, rfl, hc⟩ := ints_at h4 (by omega)
          refine .inr ⟨b, off, rfl, World.block_lt_of_cell? w ⟨b, off + 0, none⟩ (hc 0 (by omega)), fun i hi => ?_⟩
          refine ⟨_, hc i (by omega), ?_⟩
          have hb := bounds_u8 (h5 (z0.getD i 0) (by
            rw [List.getD_eq_getElem?_getD, List.getElem?_eq_getElem (by omega)]
            exact List.getElem_mem _))
          exact hb
    have HCO : Hid (yNz w.heap.size w a0 len0) := hcode
    have HTA : Hid (∀ W, Below w.heap.size w W → Pow W ∧ MaxI W ∧ zJz W ∧ Lib.Utf8Tabs 12 13 W ∧ xLz W ∧ ErrT W) := fun W hb => ⟨yfz hT hb, viz hM hb, zxz hD hb, zYz hU hb, hK.later hb, zc4z hE hb⟩
    have CPU : Hid (∀ (t : ByteArray) W, t.size ≤ 1099511627776 → Below w.heap.size w W → Calls Tryz.prog 18 #[.string t] W fun e w' => e = .returned (.tuple #[zb1z (zwz t.data.toList).2, .int .i64 (zwz t.data.toList).1]) ∧ Below W.heap.size W w') := fun t W ht hb => by
      have h := HTA.out W hb
      exact zebz t W ht h.2.2.2.1 h.1 h.2.2.1 h.2.1 h.2.2.2.2.1 h.2.2.2.2.2
    clear w0 hT hM hD hU hK hE hcode
    go_enter Tryz.func4, Tryz.ntmps4
    go_wp2_with fail
    refine (ztBz _ _ _ _ (by omega)).mono ?_
    rintro e w' ⟨rfl, rfl⟩
    go_wp2_with fail
    refine (zjyz _ _ _ _ hl HCO.out).mono ?_
    rintro e wa ⟨t, ht, rfl, ba⟩
    have B1 : Hid (Below w.heap.size w wa) := ba
    clear ba HCO
    have hrt := zipz t.data.toList
    obtain ⟨s, k, n, p, nm, a, r, q, x0, x1, x2, x3, x4, x5, x6, x7, hu⟩ := zcnz _ (zanz t.data.toList)
    have CS : Hid (∀ W, Calls Tryz.prog 20 #[.string t] W fun e w' => e = .returned (.tuple #[.agg (zqz s k nm n x0 x1 x2 x3 x4 x5 x6 x7 p a q r).toArray, .int .i64 (zwz t.data.toList).1]) ∧ Below W.heap.size W w') := fun W => by
      have h := zeaz t W (by omega)
      rw [hu, zcoz] at h
      exact h
    have CI : Hid (∀ W, Below w.heap.size w W → Calls Tryz.prog 18 #[.string t] W fun e w' => e = .returned (.tuple #[.agg (zqz s k nm n x0 x1 x2 x3 x4 x5 x6 x7 p a q r).toArray, .int .i64 (zwz t.data.toList).1]) ∧ Below W.heap.size W w') := fun W hb => by
      have h := CPU.out t W (by omega) hb
      rw [hu, zcoz] at h
      exact h
    unfold zgUz at hrt
    rw [hu] at hrt
    have HR : Hid ((1 ≤ (zwz t.data.toList).1 ∧ (zwz t.data.toList).1 ≤ 5 ∧ (⟨s, ⟨k, nm, n, [x0, x1, x2, x3, x4, x5, x6, x7]⟩, p, a, q, r⟩ : UV) = y3z) ∨ ((zwz t.data.toList).1 = 0 ∧ uOk ⟨s, ⟨k, nm, n, [x0, x1, x2, x3, x4, x5, x6, x7]⟩, p, a, q, r⟩ = true ∧ (orgL ⟨s, ⟨k, nm, n, [x0, x1, x2, x3, x4, x5, x6, x7]⟩, p, a, q, r⟩).length + (jhz ⟨s, ⟨k, nm, n, [x0, x1, x2, x3, x4, x5, x6, x7]⟩, p, a, q, r⟩).length ≤ 2000)) := hrt
    generalize (zwz t.data.toList).1 = c at CS CI HR
    clear hrt hu
    go_wp2_with fail
    refine (CI.out _ B1.out).mono ?_
    rintro e w1 ⟨rfl, b1⟩
    have hb1 : Below w.heap.size w w1 := B1.out.trans (b1.mono B1.out.size)
    clear b1 B1 CI
    have hz1 : w.heap.size ≤ w1.heap.size := hb1.size
    have B1a : Hid (Below w.heap.size w (w1.alloc (.cells #[.int .i64 0, .int .i64 0, .string ⟨#[]⟩, .int .i64 0, .int .i64 0, .int .i64 0, .int .i64 0, .int .i64 0, .int .i64 0, .int .i64 0, .int .i64 0, .int .i64 0, .int .i64 0, .string ⟨#[]⟩, .bool false, .string ⟨#[]⟩] 28))) := hb1.alloc hb1.size _
    go_upto_region 5 with (refine y5z (UAt.new w1 _ _) rfl (us := (zqz s k nm n x0 x1 x2 x3 x4 x5 x6 x7 p a q r)) rfl (zQz ..) rfl _ _ rfl rfl rfl ?_; intro w2 HUh HMh)
    have B2 : Hid (Below w.heap.size w w2) := HMh.2 _ _ hz1 B1a.out
    have HV2 : Hid (UAt w2 w1.heap.size (zqz s k nm n x0 x1 x2 x3 x4 x5 x6 x7 p a q r)) := HUh
    clear HUh HMh B1a hz1 hb1
    generalize w1.heap.size = V at HV2 ⊢
    go_wp2_with fail
    refine (CS.out _).mono ?_
    rintro e w3 ⟨rfl, b3⟩
    have hb3 : Below w.heap.size w w3 := B2.out.trans (b3.mono B2.out.size)
    have HV3 : Hid (UAt (w3.alloc (.cells #[.int .i64 0, .int .i64 0, .string ⟨#[]⟩, .int .i64 0, .int .i64 0, .int .i64 0, .int .i64 0, .int .i64 0, .int .i64 0, .int .i64 0, .int .i64 0, .int .i64 0, .int .i64 0, .string ⟨#[]⟩, .bool false, .string ⟨#[]⟩] 28)) V (zqz s k nm n x0 x1 x2 x3 x4 x5 x6 x7 p a q r)) := (HV2.out.below b3).below ((Below.refl _ _).alloc (Nat.le_refl _) _)
    have hlt : V < w3.heap.size := Nat.lt_of_lt_of_le HV2.out.2.2 b3.size
    clear b3 B2 HV2 CS
    have hz1 : w.heap.size ≤ w3.heap.size := hb3.size
    have B3a : Hid (Below w.heap.size w (w3.alloc (.cells #[.int .i64 0, .int .i64 0, .string ⟨#[]⟩, .int .i64 0, .int .i64 0, .int .i64 0, .int .i64 0, .int .i64 0, .int .i64 0, .int .i64 0, .int .i64 0, .int .i64 0, .int .i64 0, .string ⟨#[]⟩, .bool false, .string ⟨#[]⟩] 28))) := hb3.alloc hb3.size _
    go_upto_region 6 with (refine y5z (UAt.new w3 _ _) rfl (us := (zqz s k nm n x0 x1 x2 x3 x4 x5 x6 x7 p a q r)) rfl (zQz ..) rfl _ _ rfl rfl rfl ?_; intro w4 HUh HMh)
    have B4 : Hid (Below w.heap.size w w4) := HMh.2 _ _ hz1 B3a.out
    have HVw : Hid (UAt w4 w3.heap.size (zqz s k nm n x0 x1 x2 x3 x4 x5 x6 x7 p a q r)) := HUh
    have HV4 : Hid (UAt w4 V (zqz s k nm n x0 x1 x2 x3 x4 x5 x6 x7 p a q r)) := HMh.1 _ _ (by omega) HV3.out
    clear HUh HMh B3a hz1 hb3 HV3 hlt HVw
    rcases HR.out with ⟨hc1, hc5, hnone⟩ | ⟨hc0, hok, hlen⟩
    · have hq : (c != 0) = true := bne_iff_ne.2 (by omega)
      have hrow : (zqz s k nm n x0 x1 x2 x3 x4 x5 x6 x7 p a q r) = zHz := by
        have e := congrArg zluz hnone
        exact e
      rw [hrow] at HV4
      have heq : ∀ W, (Op.equalIn 10000 28 (.agg zHz.toArray) (.agg zHz.toArray)).run Tryz.prog W = .ok true W := eqU 0 0 0 0 ⟨#[]⟩ ⟨#[]⟩ ⟨#[]⟩ false 0 0 0 0 0 0 0 0
      clear HR hrow hnone CPU HTA hc1 hc5
      have HV5 : Hid (UAt (w4.alloc (.cells #[.int .i64 0, .int .i64 0, .string ⟨#[]⟩, .int .i64 0, .int .i64 0, .int .i64 0, .int .i64 0, .int .i64 0, .int .i64 0, .int .i64 0, .int .i64 0, .int .i64 0, .int .i64 0, .string ⟨#[]⟩, .bool false, .string ⟨#[]⟩] 28)) V zHz) := HV4.out.below ((Below.refl _ _).alloc (Nat.le_refl _) _)
      have hlt4 : V < w4.heap.size := HV4.out.2.2
      have hb4 : Below w.heap.size w w4 := B4.out
      have hz1 : w.heap.size ≤ w4.heap.size := hb4.size
      have B4a : Hid (Below w.heap.size w (w4.alloc (.cells #[.int .i64 0, .int .i64 0, .string ⟨#[]⟩, .int .i64 0, .int .i64 0, .int .i64 0, .int .i64 0, .int .i64 0, .int .i64 0, .int .i64 0, .int .i64 0, .int .i64 0, .int .i64 0, .string ⟨#[]⟩, .bool false, .string ⟨#[]⟩] 28))) := hb4.alloc hb4.size _
      go_upto_region 8 with (refine y5z (UAt.new w4 _ _) rfl (us := zHz) rfl (zQz ..) rfl _ _ rfl rfl rfl ?_; intro w5 HUh HMh)
      have B5 : Hid (Below w.heap.size w w5) := HMh.2 _ _ hz1 B4a.out
      have HN5 : Hid (UAt w5 w4.heap.size zHz) := HUh
      have HV6 : Hid (UAt w5 V zHz) := HMh.1 _ _ (by omega) HV5.out
      clear HUh HMh B4a hz1 hb4 HV5 hlt4 HV4 B4
      generalize w4.heap.size = V2 at HN5 ⊢
      go_wp2_with (first | (refine zbqz HV6.out rfl rfl _ rfl rfl ?_) | (refine zbqz HN5.out rfl rfl _ rfl rfl ?_))
      go_ret
      exact ⟨rfl, B5.out⟩
    · subst hc0
      obtain ⟨hp0, hv0, hr0⟩ := zoyz (vNz hok).2.1
      have htl := zgTz hok
      have hl2 : (uTx ⟨s, ⟨k, nm, n, [x0, x1, x2, x3, x4, x5, x6, x7]⟩, p, a, q, r⟩).length ≤ 2000 := by omega
      obtain ⟨hbk1, hbk2⟩ := zrvz hok hp0 hv0 hr0 hl2
      have hnm : nm.size ≤ 1048576 := Nat.le_trans (zg2z (vNz hok).2.1) (by decide)
      have hra : a.size ≤ 1048576 ∧ r.size ≤ 1048576 := by
        have h1 : (jhz ⟨s, ⟨k, nm, n, [x0, x1, x2, x3, x4, x5, x6, x7]⟩, p, a, q, r⟩).length ≤ 2000 := by omega
        have ha : (toL a).length = a.size := by simp [toL]
        have hr : (toL r).length = r.size := by simp [toL]
        have h5 := (vNz hok).2.2.2.2.1
        unfold jhz at h1
        cases q with
        | true =>
          simp only [if_true, List.length_append, List.length_cons] at h1
          omega
        | false =>
          simp only [Bool.false_eq_true, if_false] at h1
          rcases h5 with h | h
          · cases h
          · have h6 : r.size = 0 := h
            omega
      have CT : Hid (∀ W, Below w.heap.size w W → Calls Tryz.prog 12 #[.agg (zqz s k nm n x0 x1 x2 x3 x4 x5 x6 x7 p a q r).toArray] W fun e w' => e = .returned (.string ⟨(uTx ⟨s, ⟨k, nm, n, [x0, x1, x2, x3, x4, x5, x6, x7]⟩, p, a, q, r⟩).toArray⟩) ∧ Below W.heap.size W w') := fun W hb => by
        have h := HTA.out W hb
        exact ze4z s k n p nm a r q x0 x1 x2 x3 x4 x5 x6 x7 W hnm hra.1 hra.2 h.2.2.2.1 h.1 h.2.2.1 h.2.2.2.2.1
      have CO : Hid (∀ W, Below w.heap.size w W → Calls Tryz.prog 13 #[.agg (zqz s k nm n x0 x1 x2 x3 x4 x5 x6 x7 p a q r).toArray] W fun e w' => e = .returned (.bool true) ∧ Below W.heap.size W w') := fun W hb => by
        have h := HTA.out W hb
        have h2 := zeGz s k n p nm a r q x0 x1 x2 x3 x4 x5 x6 x7 W hnm hra.1 hra.2 h.2.2.2.1 h.1 h.2.2.2.2.1
        rw [hok] at h2
        exact h2
      have CP1 : Hid (∀ W, Below w.heap.size w W → Calls Tryz.prog 18 #[.string ⟨(uTx ⟨s, ⟨k, nm, n, [x0, x1, x2, x3, x4, x5, x6, x7]⟩, p, a, q, r⟩).toArray⟩] W fun e w' => e = .returned (.tuple #[.agg (zqz s k nm n x0 x1 x2 x3 x4 x5 x6 x7 p a q r).toArray, .int .i64 0]) ∧ Below W.heap.size W w') := fun W hb => by
        have h := CPU.out ⟨(uTx ⟨s, ⟨k, nm, n, [x0, x1, x2, x3, x4, x5, x6, x7]⟩, p, a, q, r⟩).toArray⟩ W (by rw [yVz]; omega) hb
        rw [show (⟨(uTx ⟨s, ⟨k, nm, n, [x0, x1, x2, x3, x4, x5, x6, x7]⟩, p, a, q, r⟩).toArray⟩ : ByteArray).data.toList = uTx ⟨s, ⟨k, nm, n, [x0, x1, x2, x3, x4, x5, x6, x7]⟩, p, a, q, r⟩ from rfl, hbk1] at h
        exact h
      have HT2 : Hid ((⟨#[32]⟩ ++ (⟨(uTx ⟨s, ⟨k, nm, n, [x0, x1, x2, x3, x4, x5, x6, x7]⟩, p, a, q, r⟩).toArray⟩ : ByteArray) ++ ⟨#[35, 102]⟩).data.toList = 32 :: (uTx ⟨s, ⟨k, nm, n, [x0, x1, x2, x3, x4, x5, x6, x7]⟩, p, a, q, r⟩ ++ [35, 102])) := by
        show toL _ = _
        simp [toL]
      have HBK : Hid ((uTx ⟨s, ⟨k, nm, n, [x0, x1, x2, x3, x4, x5, x6, x7]⟩, p, a, q, r⟩).length ≤ 1997 → zwz (⟨#[32]⟩ ++ (⟨(uTx ⟨s, ⟨k, nm, n, [x0, x1, x2, x3, x4, x5, x6, x7]⟩, p, a, q, r⟩).toArray⟩ : ByteArray) ++ ⟨#[35, 102]⟩).data.toList = (0, ⟨s, ⟨k, nm, n, [x0, x1, x2, x3, x4, x5, x6, x7]⟩, p, a, q, r⟩)) := fun h => by rw [HT2.out]; exact hbk2 h
      have hts : (⟨(uTx ⟨s, ⟨k, nm, n, [x0, x1, x2, x3, x4, x5, x6, x7]⟩, p, a, q, r⟩).toArray⟩ : ByteArray).size ≤ 2000 := by rw [yVz]; exact hl2
      have HSZ : Hid ((⟨(uTx ⟨s, ⟨k, nm, n, [x0, x1, x2, x3, x4, x5, x6, x7]⟩, p, a, q, r⟩).toArray⟩ : ByteArray).size = (uTx ⟨s, ⟨k, nm, n, [x0, x1, x2, x3, x4, x5, x6, x7]⟩, p, a, q, r⟩).length) := yVz _
      rw [← HSZ.out] at HBK
      generalize (⟨(uTx ⟨s, ⟨k, nm, n, [x0, x1, x2, x3, x4, x5, x6, x7]⟩, p, a, q, r⟩).toArray⟩ : ByteArray) = TT at CT CP1 HBK hts
      clear HT2 HSZ HR hok hlen hp0 hv0 hr0 htl hl2 hbk1 hbk2 hnm hra
      have d1 : (⟨#[32]⟩ : ByteArray).size = 1 := rfl
      have d2 : (⟨#[35, 102]⟩ : ByteArray).size = 2 := rfl
      have hbs : (⟨#[32]⟩ ++ TT ++ ⟨#[35, 102]⟩).size ≤ 2003 := by rw [ByteArray.size_append, ByteArray.size_append, d1, d2]; omega
      obtain ⟨s', k', n', p', nm', a', r', q', y0, y1, y2, y3, y4, y5, y6, y7, hu'⟩ := zcnz _ (zanz (⟨#[32]⟩ ++ TT ++ ⟨#[35, 102]⟩).data.toList)
      have CP2 : Hid (∀ W, Below w.heap.size w W → Calls Tryz.prog 18 #[.string (⟨#[32]⟩ ++ TT ++ ⟨#[35, 102]⟩)] W fun e w' => e = .returned (.tuple #[.agg (zqz s' k' nm' n' y0 y1 y2 y3 y4 y5 y6 y7 p' a' q' r').toArray, .int .i64 (zwz (⟨#[32]⟩ ++ TT ++ ⟨#[35, 102]⟩).data.toList).1]) ∧ Below W.heap.size W w') := fun W hb => by
        have h := CPU.out (⟨#[32]⟩ ++ TT ++ ⟨#[35, 102]⟩) W (by omega) hb
        rw [hu', zcoz] at h
        exact h
      have HB2 : Hid (TT.size ≤ 1997 → (zwz (⟨#[32]⟩ ++ TT ++ ⟨#[35, 102]⟩).data.toList).1 = 0 ∧ (zqz s' k' nm' n' y0 y1 y2 y3 y4 y5 y6 y7 p' a' q' r') = (zqz s k nm n x0 x1 x2 x3 x4 x5 x6 x7 p a q r)) := fun h => by
        have h1 := HBK.out h
        have h2 : (⟨s, ⟨k, nm, n, [x0, x1, x2, x3, x4, x5, x6, x7]⟩, p, a, q, r⟩ : UV) = ⟨s', ⟨k', nm', n', [y0, y1, y2, y3, y4, y5, y6, y7]⟩, p', a', q', r'⟩ := by
          rw [← hu', h1]
        exact ⟨by rw [h1], (congrArg zluz h2).symm⟩
      generalize (zwz (⟨#[32]⟩ ++ TT ++ ⟨#[35, 102]⟩).data.toList).1 = c2 at CP2 HB2
      clear hu' HBK CPU HTA
      have HEQ : Hid (∀ W, (Op.equalIn 10000 28 (.agg (zqz s k nm n x0 x1 x2 x3 x4 x5 x6 x7 p a q r).toArray) (.agg (zqz s k nm n x0 x1 x2 x3 x4 x5 x6 x7 p a q r).toArray)).run Tryz.prog W = .ok true W) := eqU s k n p nm a r q x0 x1 x2 x3 x4 x5 x6 x7
      go_wp2_with (refine xGz HV4.out rfl rfl _ rfl rfl ?_)
      refine (CT.out _ B4.out).mono ?_
      rintro e w5 ⟨rfl, b5⟩
      have B5 : Hid (Below w.heap.size w w5) := B4.out.trans (b5.mono B4.out.size)
      have HV5 : Hid (UAt w5 V (zqz s k nm n x0 x1 x2 x3 x4 x5 x6 x7 p a q r)) := HV4.out.below b5
      clear b5 B4 HV4 CT
      go_wp2_with fail
      refine (CP1.out _ B5.out).mono ?_
      rintro e w6 ⟨rfl, b6⟩
      have hb6 : Below w.heap.size w w6 := B5.out.trans (b6.mono B5.out.size)
      have HV6 : Hid (UAt (w6.alloc (.cells #[.int .i64 0, .int .i64 0, .string ⟨#[]⟩, .int .i64 0, .int .i64 0, .int .i64 0, .int .i64 0, .int .i64 0, .int .i64 0, .int .i64 0, .int .i64 0, .int .i64 0, .int .i64 0, .string ⟨#[]⟩, .bool false, .string ⟨#[]⟩] 28)) V (zqz s k nm n x0 x1 x2 x3 x4 x5 x6 x7 p a q r)) := (HV5.out.below b6).below ((Below.refl _ _).alloc (Nat.le_refl _) _)
      have hlt6 : V < w6.heap.size := Nat.lt_of_lt_of_le HV5.out.2.2 b6.size
      clear b6 B5 HV5 CP1
      have hz1 : w.heap.size ≤ w6.heap.size := hb6.size
      have B6a : Hid (Below w.heap.size w (w6.alloc (.cells #[.int .i64 0, .int .i64 0, .string ⟨#[]⟩, .int .i64 0, .int .i64 0, .int .i64 0, .int .i64 0, .int .i64 0, .int .i64 0, .int .i64 0, .int .i64 0, .int .i64 0, .int .i64 0, .string ⟨#[]⟩, .bool false, .string ⟨#[]⟩] 28))) := hb6.alloc hb6.size _
      go_upto_region 11 with (refine y5z (UAt.new w6 _ _) rfl (us := (zqz s k nm n x0 x1 x2 x3 x4 x5 x6 x7 p a q r)) rfl (zQz ..) rfl _ _ rfl rfl rfl ?_; intro w7 HUh HMh)
      have B7 : Hid (Below w.heap.size w w7) := HMh.2 _ _ hz1 B6a.out
      have HX7 : Hid (UAt w7 w6.heap.size (zqz s k nm n x0 x1 x2 x3 x4 x5 x6 x7 p a q r)) := HUh
      have HV7 : Hid (UAt w7 V (zqz s k nm n x0 x1 x2 x3 x4 x5 x6 x7 p a q r)) := HMh.1 _ _ (by omega) HV6.out
      clear HUh HMh B6a hz1 hb6 HV6
      generalize w6.heap.size = V2 at HX7 hlt6 ⊢
      go_wp2_with fail
      refine (CP2.out _ B7.out).mono ?_
      rintro e w8 ⟨rfl, b8⟩
      have hb8 : Below w.heap.size w w8 := B7.out.trans (b8.mono B7.out.size)
      have HV8 : Hid (UAt (w8.alloc (.cells #[.int .i64 0, .int .i64 0, .string ⟨#[]⟩, .int .i64 0, .int .i64 0, .int .i64 0, .int .i64 0, .int .i64 0, .int .i64 0, .int .i64 0, .int .i64 0, .int .i64 0, .int .i64 0, .string ⟨#[]⟩, .bool false, .string ⟨#[]⟩] 28)) V (zqz s k nm n x0 x1 x2 x3 x4 x5 x6 x7 p a q r)) := (HV7.out.below b8).below ((Below.refl _ _).alloc (Nat.le_refl _) _)
      have HX8 : Hid (UAt (w8.alloc (.cells #[.int .i64 0, .int .i64 0, .string ⟨#[]⟩, .int .i64 0, .int .i64 0, .int .i64 0, .int .i64 0, .int .i64 0, .int .i64 0, .int .i64 0, .int .i64 0, .int .i64 0, .int .i64 0, .string ⟨#[]⟩, .bool false, .string ⟨#[]⟩] 28)) V2 (zqz s k nm n x0 x1 x2 x3 x4 x5 x6 x7 p a q r)) := (HX7.out.below b8).below ((Below.refl _ _).alloc (Nat.le_refl _) _)
      have hlt8 : V2 < w8.heap.size := Nat.lt_of_lt_of_le HX7.out.2.2 b8.size
      clear b8 B7 HV7 HX7 CP2
      have hz1 : w.heap.size ≤ w8.heap.size := hb8.size
      have B8a : Hid (Below w.heap.size w (w8.alloc (.cells #[.int .i64 0, .int .i64 0, .string ⟨#[]⟩, .int .i64 0, .int .i64 0, .int .i64 0, .int .i64 0, .int .i64 0, .int .i64 0, .int .i64 0, .int .i64 0, .int .i64 0, .int .i64 0, .string ⟨#[]⟩, .bool false, .string ⟨#[]⟩] 28))) := hb8.alloc hb8.size _
      go_upto_region 12 with (refine y5z (UAt.new w8 _ _) rfl (us := (zqz s' k' nm' n' y0 y1 y2 y3 y4 y5 y6 y7 p' a' q' r')) rfl (zQz ..) rfl _ _ rfl rfl rfl ?_; intro w9 HUh HMh)
      have B9 : Hid (Below w.heap.size w w9) := HMh.2 _ _ hz1 B8a.out
      have HY9 : Hid (UAt w9 w8.heap.size (zqz s' k' nm' n' y0 y1 y2 y3 y4 y5 y6 y7 p' a' q' r')) := HUh
      have HV9 : Hid (UAt w9 V (zqz s k nm n x0 x1 x2 x3 x4 x5 x6 x7 p a q r)) := HMh.1 _ _ (by omega) HV8.out
      have HX9 : Hid (UAt w9 V2 (zqz s k nm n x0 x1 x2 x3 x4 x5 x6 x7 p a q r)) := HMh.1 _ _ (by omega) HX8.out
      clear HUh HMh B8a hz1 hb8 HV8 HX8
      generalize w8.heap.size = V3 at HY9 hlt8 ⊢
      go_wp2_with (refine xGz HV9.out rfl rfl _ rfl rfl ?_)
      refine (CO.out _ B9.out).mono ?_
      rintro e w10 ⟨rfl, b10⟩
      have B10 : Hid (Below w.heap.size w w10) := B9.out.trans (b10.mono B9.out.size)
      have HV10 : Hid (UAt w10 V (zqz s k nm n x0 x1 x2 x3 x4 x5 x6 x7 p a q r)) := HV9.out.below b10
      have HX10 : Hid (UAt w10 V2 (zqz s k nm n x0 x1 x2 x3 x4 x5 x6 x7 p a q r)) := HX9.out.below b10
      have HY10 : Hid (UAt w10 V3 (zqz s' k' nm' n' y0 y1 y2 y3 y4 y5 y6 y7 p' a' q' r')) := HY9.out.below b10
      clear b10 B9 HV9 HX9 HY9 CO
      have hti : (TT.size : Int) ≤ 2000 := by omega
      by_cases h97 : 1997 < TT.size
      · have h97i : 1997 < (TT.size : Int) := by omega
        have heq := HEQ.out
        clear HB2 HEQ
        go_wp2_with (first | (refine zbqz HX10.out rfl rfl _ rfl rfl ?_) | (refine zbqz HV10.out rfl rfl _ rfl rfl ?_))
        go_ret
        exact ⟨rfl, B10.out⟩
      · have h97i : ¬ 1997 < (TT.size : Int) := by omega
        obtain ⟨hc2, hrw⟩ := HB2.out (by omega)
        rw [hrw] at HY10
        subst hc2
        have heq := HEQ.out
        clear HB2 HEQ hrw
        go_wp2_with (first | (refine zbqz HX10.out rfl rfl _ rfl rfl ?_) | (refine zbqz HV10.out rfl rfl _ rfl rfl ?_) | (refine zbqz HY10.out rfl rfl _ rfl rfl ?_))
        go_ret
        exact ⟨rfl, B10.out⟩

set_option maxRecDepth 100000 in
theorem contract (H : Type) (enc : TypeId × Value → H) (W : World) (base : Nat) (args : Array Value) (ds gs : List (DataW H)) (before : List MemPlace)
    (hval : ∀ (j : Nat) t v, Tryz.f4.params[j]? = some t → args[j]? = some v → Value.okWide Tryz.prog W .any base t v)
    (hW : DataW.Whole enc Tryz.prog Tryz.f4.params.toList Rows.fnParsedSpec.vars false W args.toList ds gs before) (hL : laidMetH Tryz.prog xVz W) (hSh : W.ShapedOpen Tryz.prog) :
    Calls Tryz.prog 4 args W fun e W' => ∃ v, e = .returned v ∧ Rows.fnParsedSpec.post enc Tryz.prog Tryz.f4 false true false false W args v W' := by
  have hW' := hW
  obtain ⟨p, q, hA0, hV, rfl, hfz, hnd⟩ := hW
  have hA : DataW.TrodAll enc Tryz.prog W 0 (fun _ => true) true Tryz.f4.params.toList args.toList ds p := hA0
  rw [Tryz.params4] at hA hval
  obtain ⟨v0, vs0, d0, ds0, p0, q0, hargs, rfl, rfl, h0, r0⟩ := trodAll_cons hA
  obtain ⟨rfl, rfl, rfl⟩ := trodAll_nil r0
  obtain rfl : args = #[v0] := by cases args; simp_all
  have hV2 : DataW.TrodVars enc Tryz.prog W (fun _ => true) ["loop.example/g00191/impl.keptMarks", "loop.example/g00191/impl.plainMarks"] gs q := hV
  obtain ⟨g1, g2, rfl⟩ := zjUz hV2
  obtain ⟨a0, len0, cap0, rfl⟩ := okWide_slice Tryz.underlying22 (hval 0 22 v0 rfl rfl)
  have k0 := h0
  have lt0 : ∀ x ∈ p0, x.block < W.heap.size := by obtain ⟨m, hm⟩ := k0; exact DataW.trod_lt m _ _ _ hm
  obtain ⟨z0, w0⟩ : ∃ zs, ztmz .u8 W a0 len0 cap0 zs := by
    obtain ⟨fuel, hf⟩ := h0
    rcases open_ints Tryz.underlying22 Tryz.underlying5 (by kernel_rfl) hf with ⟨hcs, _⟩ | ⟨x, l, c, zs, hcs, _, hl, hm, hz, _, hcell, hwz⟩
    · simp [Value.cells] at hcs
      obtain ⟨rfl, rfl, rfl⟩ := hcs
      exact ⟨[], .inl ⟨rfl, rfl, rfl, rfl⟩⟩
    · simp [Value.cells] at hcs
      obtain ⟨rfl, rfl, rfl⟩ := hcs
      exact ⟨zs, .inr ⟨_, rfl, hl, hm, by simpa using hz, hcell, hwz⟩⟩
  clear hA0
  refine (walk a0 len0 cap0 z0 W w0 (zm3z hL) (zfLz hSh) (zm4z hL) (zjWz hL) (zhsz hL) (zjXz hL)).mono fun e W' ⟨he, bel⟩ => ?_
  subst he
  exact ⟨_, rfl, _, _, _, [], _, _, hW', trodAll_mk1 (shut_bool Tryz.underlying4 _), (trodAll_cons_mk (Below.trod za7z (by kernel_rfl) (of_decide_eq_true (by kernel_rfl)) k0 bel lt0) trodAll_mk0), bel.trodVars za7z (by kernel_rfl) hV, bel.frame _, fun h => by cases h⟩

theorem witness_row(os:Os){H:Type}(enc:TypeId×Value→H):
    (OpenSpec.ofChange Rows.fnParsedSpec).preRow enc Tryz.prog Tryz.f4 Rows.fnParsedRow.domain false xVz (({World.holding Tryz.prog os ⟨#[],#[],[]⟩with heap:=za8z (World.holding Tryz.prog os ⟨#[],#[],[]⟩).heap}:World).forCall (fun _ _=>0) ⟨#[],#[.slice none 0 0],[]⟩).memory #[.slice none 0 0]:=by
  have hw:(DataW.whole enc Tryz.prog (({World.holding Tryz.prog os ⟨#[],#[],[]⟩with heap:=za8z (World.holding Tryz.prog os ⟨#[],#[],[]⟩).heap}:World).forCall (fun _ _=>0) ⟨#[],#[.slice none 0 0],[]⟩).memory Tryz.f4.params.toList Rows.fnParsedSpec.vars false (#[.slice none 0 0]:Array Value).toList 8).map (fun x=>(x.1,x.2.1))=
      some ([.nil],[Rows.laid_loop_example_g00191_impl_keptMarks,Rows.laid_loop_example_g00191_impl_plainMarks]):=by kernel_rfl
  obtain ⟨⟨x1,x2,x3⟩,hx,hx1⟩:=Option.map_eq_some_iff.1 hw
  simp only[Prod.mk.injEq]at hx1
  obtain ⟨rfl,rfl⟩:=hx1
  exact OpenSpec.preRow_of_cond 8 hx (by kernel_rfl) (fun k hk=>by cases hk) (by kernel_rfl) (zm5z os _)

set_option maxRecDepth 100000 in
set_option maxHeartbeats 2000000 in
theorem lifted(os:Os)(started:os.Started)(H:Type)(enc:TypeId×Value→H)(F:Stop.Interp):
    ReturnsInHanded {} Tryz.checked os 4 .any ((OpenSpec.ofChange Rows.fnParsedSpec).preRow enc Tryz.prog Tryz.f4 Rows.fnParsedRow.domain false xVz) (((OpenSpec.ofChange Rows.fnParsedSpec).at F).post enc Tryz.prog Tryz.f4 false true false false):=by
  refine returnsInHanded_of_row (C:=Tryz.checked) (s:=OpenSpec.ofChange Rows.fnParsedSpec) zjTz started (by kernel_rfl) Tryz.func4
    (witness_row_atRef (enc:=enc) (C:=Tryz.checked) false ({World.holding Tryz.prog os ⟨#[],#[],[]⟩with heap:=za8z (World.holding Tryz.prog os ⟨#[],#[],[]⟩).heap}) #[.slice none 0 0] rfl (by kernel_rfl) (by kernel_rfl) (by kernel_rfl) (witness_row os enc)) ?_
  intro W base args ds gs before hval hW _ _ _ hL hSh _
  exact contract H enc W base args ds gs before hval hW hL hSh

theorem both_true{a b:Bool}(h:a=true)(k:b=true):(a&&b)=true:=by rw[h,k];rfl
set_option maxRecDepth 100000 in
set_option maxHeartbeats 16000000 in
theorem said:Rows.FnParsedSaid:=
  OpenClaim.holds_of_cond 4 Tryz.f4 rfl rfl rfl rfl rfl rfl rfl ⟨rfl,rfl,rfl,rfl,rfl⟩ rfl rfl rfl rfl rfl (by as_aux_lemma=>kernel_rfl) Tryz.func4
    (by unfold joinedFacts;repeat' (with_reducible refine both_true ?_ ?_)
        all_goals as_aux_lemma=>kernel_rfl)
    (by as_aux_lemma=>exact of_decide_eq_true (by kernel_rfl)) (by as_aux_lemma=>unfold Func.isWrapper;first|(rw[if_pos (by decide+kernel)];kernel_rfl)|(rw[if_neg (by decide+kernel)];exact ⟨rfl,rfl⟩))
    (fun os started H enc _ F=>by rw[OpenClaim.pre_eq_preRow];exact lifted os started H enc F)

theorem plain(f:FuncId)(fn:Func)(hf:Tryz.pinned.checked.prog.funcNamed "loop.example/g00191/laws.FnParsed" =some f)(hfn:Tryz.pinned.checked.prog.funcs[f]? =some fn):
    true=Tryz.pinned.checked.prog.looks []∧ ∀(j:Nat) t,fn.params[j]? =some t→Tryz.pinned.checked.prog.wantsStandIn t=false:=by
  obtain rfl:f=4:=Option.some.inj ((show Tryz.prog.funcNamed "loop.example/g00191/laws.FnParsed" =some 4 by kernel_rfl).symm.trans hf)|>.symm
  obtain rfl:fn=Tryz.f4:=(Option.some.inj (Tryz.func4.symm.trans hfn)).symm
  refine ⟨by kernel_rfl,fun j t ht=> ?_⟩
  rw[Tryz.params4]at ht
  obtain rfl:t=22:=by simpa using Array.mem_of_getElem? ht
  exact (show Tryz.prog.wantsStandIn 22=false by kernel_rfl)

theorem card:Rows.FnParsedCardSaid:=
  Claim7.holds_tied_plain_at .later [] _ _ _ _ said (fun _ h=>by cases h) (by kernel_rfl) (fun _ h=>by cases h) fnParsed_row_tie rfl ⟨rfl,rfl⟩ (by kernel_rfl) rfl plain (by kernel_rfl)
end Go.Proofs.YtgcbaphbiaimoaaGreatDoor.fnParsed

namespace Go.Proofs.YtgcbaphbiaimoaaGreatDoor
theorem fnParsed_holds:Rows.FnParsedCardSaid:=fnParsed.card
#print axioms fnParsed_holds
end Go.Proofs.YtgcbaphbiaimoaaGreatDoor
