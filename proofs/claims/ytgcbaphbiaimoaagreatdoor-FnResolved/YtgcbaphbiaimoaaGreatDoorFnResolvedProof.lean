/- Proved: laws.FnResolved answers true at every code and leaves it as it was; no condition. -/
import Derived.Test.YtgcbaphbiaimoaaGreatDoorRows
import Derived.Test.YtgcbaphbiaimoaaGreatDoorCards
import Derived.Test.YtgcbaphbiaimoaaGreatDoorTie
import Derived.Test.YtgcbaphbiaimoaaGreatDoorQB25
import Derived.Test.YtgcbaphbiaimoaaGreatDoorQB33
import Derived.Test.YtgcbaphbiaimoaaGreatDoorQB35
import Derived.OpenShut
import Derived.ShutString
namespace Go.Proofs.YtgcbaphbiaimoaaGreatDoor.fnResolved
open _root_.Go.Act renaming put->zk
open _root_.Go.AllReadyH renaming cons->zf,nil->zi
open _root_.Go.RowKit.Below renaming refl->zl
open _root_.List renaming getElem_cons_succ->zd,getElem_cons_zero->zc,getElem_toArray->ze,setIfInBounds_toArray->za,set_cons_succ->zh,set_cons_zero->zg
open _root_.Go.World renaming holding->zj
open _root_.Go.Proofs.Tryz
open _root_.Go.Proofs.YtgcbaphbiaimoaaGreatDoor.Tryz
open Go.ChangeShapes Go.WideShapes Go.ChangeAt Go.RowKit
open Go.ChangeMaps (open_string shut_string)
set_option linter.unusedVariables false
set_option linter.unusedSimpArgs false

def Ln(k:IntKind)(w:World)(a:Option Addr)(len cap:Nat)(zs:List Int):Prop:=
  (a=none/\len=0/\cap=0/\zs=[])∨
  ∃x,a=some x/\len<=cap/\cap<=maxLen/\zs.length=cap/\(∀i,i<zs.length->w.cell? (x.add i)=some (.int k (zs.getD i 0)))/\ ∀n∈zs,(Lit.int k n).wf=true

set_option maxRecDepth 100000 in
set_option maxHeartbeats 8000000 in
theorem walk (a0 : Option Addr) (len0 cap0 : Nat) (z0 : List Int) (w : World) (w0 : Ln .u8 w a0 len0 cap0 z0) (ad : Nat -> Addr) (hT : qZ ad w) :
    Calls prog 5 #[.slice a0 len0 cap0] w fun e w' => e = .returned (.bool true) /\ Below w.heap.size w w' := by
  by_cases hbig : 1048576 < (len0 : Int)
  . go_enter func5, ntmps5
    go_wp2_with fail;refine (Ik _ _ _ _ hbig).mono ?_;rintro e w' ⟨rfl, rfl⟩;go_wp2;go_ret;exact ⟨rfl, zl _ _⟩
  . have hl : len0 <= 1048576 := by omega
    have hcode : eI w.heap.size w a0 len0 := by
      rcases w0 with ⟨rfl, rfl, rfl, rfl⟩ | ⟨x, rfl, h1, h2, h3, h4, h5⟩
      . exact .inl rfl
      . by_cases h0 : len0 = 0
        . exact .inl h0
        . obtain ⟨b, off, rfl, hc⟩ := ints_at h4 om
          refine .inr ⟨b, off, rfl, World.block_lt_of_cell? w ⟨b, off + 0, none⟩ (hc 0 om), fun i hi => ?_⟩;refine ⟨_, hc i om, ?_⟩;have hb := bounds_u8 (h5 (z0.getD i 0) (by
            rw [List.getD_eq_getElem?_getD, List.getElem?_eq_getElem om];exact List.getElem_mem _))
          exact hb
    have HCO : Hid (eI w.heap.size w a0 len0) := hcode;have HTA : Hid (∀ W, Below w.heap.size w W -> qZ ad W) := fun W hb => hT.later hb
    clear w0 hT hcode;go_enter func5, ntmps5;go_wp2_with fail;refine (Mc _ _ _ _ om).mono ?_;rintro e w' ⟨rfl, rfl⟩;go_wp2_with fail;refine (XG _ _ _ _ hl HCO.out).mono ?_;rintro e wa ⟨s, k, n, p, nm, a, r, q, x0, x1, x2, x3, x4, x5, x6, x7, z, ⟨hs, ha, hr, hz⟩, rfl, ba⟩;have B1 : Hid (Below w.heap.size w (wa.alloc (.cells #[.int .i64 0, .int .i64 0, .string ⟨#[]⟩, .int .i64 0, .int .i64 0, .int .i64 0, .int .i64 0, .int .i64 0, .int .i64 0, .int .i64 0, .int .i64 0, .int .i64 0, .int .i64 0, .string ⟨#[]⟩, .bool false, .string ⟨#[]⟩] 28))) := ba.alloc ba.size _;have hza : w.heap.size <= wa.heap.size := ba.size;clear ba HCO
    go_upto_region 4 with (refine aT (UAt.new wa _ _) rfl (us := aA s k nm n x0 x1 x2 x3 x4 x5 x6 x7 p a q r) rfl (aG ..) rfl _ _ rfl rfl rfl ?_; intro w1 HUh HMh)
    have HB1 : Hid (Below w.heap.size w w1) := HMh.2 _ _ hza B1.out;have HV1 : Hid (UAt w1 wa.heap.size (aA s k nm n x0 x1 x2 x3 x4 x5 x6 x7 p a q r)) := HUh;clear HUh HMh B1;generalize wa.heap.size = V at HV1 hza ⊢;have hrt := NK ⟨s, ⟨k, nm, n, [x0, x1, x2, x3, x4, x5, x6, x7]⟩, p, a, q, r⟩ z.data.toList;have hbo : (fU ⟨s, ⟨k, nm, n, [x0, x1, x2, x3, x4, x5, x6, x7]⟩, p, a, q, r⟩ z.data.toList).1 = 0 -> uOk ⟨s, ⟨k, nm, n, [x0, x1, x2, x3, x4, x5, x6, x7]⟩, p, a, q, r⟩ = true := fun h => by
      cases hok : uOk ⟨s, ⟨k, nm, n, [x0, x1, x2, x3, x4, x5, x6, x7]⟩, p, a, q, r⟩ with
      | true => rfl
      | false =>
        rw [RF hok] at h;exact absurd h de
    obtain ⟨s2, k2, n2, p2, nm2, a2, r2, q2, y0, y1, y2, y3, y4, y5, y6, y7, hu⟩ := iW _ (BH ⟨s, ⟨k, nm, n, [x0, x1, x2, x3, x4, x5, x6, x7]⟩, p, a, q, r⟩ rfl z.data.toList);have CR : Hid (∀ (S : ByteArray) W, S.size <= 1099511627776 -> Below w.heap.size w W -> Calls prog 22 #[.agg (aA s k nm n x0 x1 x2 x3 x4 x5 x6 x7 p a q r).toArray, .string S] W fun e w' => e = .returned (.tuple #[gV (fU ⟨s, ⟨k, nm, n, [x0, x1, x2, x3, x4, x5, x6, x7]⟩, p, a, q, r⟩ S.data.toList).2, .int .i64 (fU ⟨s, ⟨k, nm, n, [x0, x1, x2, x3, x4, x5, x6, x7]⟩, p, a, q, r⟩ S.data.toList).1]) /\ Below W.heap.size W w') := fun S W hS hb => tP ad s k n p nm a r q x0 x1 x2 x3 x4 x5 x6 x7 S W hs om hr hS (HTA.out W hb)
    have CI : Hid (∀ W, Below w.heap.size w W -> Calls prog 22 #[.agg (aA s k nm n x0 x1 x2 x3 x4 x5 x6 x7 p a q r).toArray, .string z] W fun e w' => e = .returned (.tuple #[.agg (aA s2 k2 nm2 n2 y0 y1 y2 y3 y4 y5 y6 y7 p2 a2 q2 r2).toArray, .int .i64 (fU ⟨s, ⟨k, nm, n, [x0, x1, x2, x3, x4, x5, x6, x7]⟩, p, a, q, r⟩ z.data.toList).1]) /\ Below W.heap.size W w') := fun W hb => by
      have h := CR.out z W om hb;rw [hu, eT] at h;exact h
    have CS : Hid (∀ W, Calls prog 23 #[.agg (aA s k nm n x0 x1 x2 x3 x4 x5 x6 x7 p a q r).toArray, .string z] W fun e w' => e = .returned (.tuple #[.agg (aA s2 k2 nm2 n2 y0 y1 y2 y3 y4 y5 y6 y7 p2 a2 q2 r2).toArray, .int .i64 (fU ⟨s, ⟨k, nm, n, [x0, x1, x2, x3, x4, x5, x6, x7]⟩, p, a, q, r⟩ z.data.toList).1]) /\ Below W.heap.size W w') := fun W => by
      have h := DI s k n p nm a r q x0 x1 x2 x3 x4 x5 x6 x7 z W hs om hr om;rw [hu, eT] at h;exact h
    unfold wR at hrt;rw [hu] at hrt;have HR : Hid ((1 <= (fU ⟨s, ⟨k, nm, n, [x0, x1, x2, x3, x4, x5, x6, x7]⟩, p, a, q, r⟩ z.data.toList).1 /\ (fU ⟨s, ⟨k, nm, n, [x0, x1, x2, x3, x4, x5, x6, x7]⟩, p, a, q, r⟩ z.data.toList).1 <= 5 /\ (⟨s2, ⟨k2, nm2, n2, [y0, y1, y2, y3, y4, y5, y6, y7]⟩, p2, a2, q2, r2⟩ : UV) = cP) ∨ ((fU ⟨s, ⟨k, nm, n, [x0, x1, x2, x3, x4, x5, x6, x7]⟩, p, a, q, r⟩ z.data.toList).1 = 0 /\ uOk ⟨s2, ⟨k2, nm2, n2, [y0, y1, y2, y3, y4, y5, y6, y7]⟩, p2, a2, q2, r2⟩ = true /\ (wD ⟨s2, ⟨k2, nm2, n2, [y0, y1, y2, y3, y4, y5, y6, y7]⟩, p2, a2, q2, r2⟩).length + (lH ⟨s2, ⟨k2, nm2, n2, [y0, y1, y2, y3, y4, y5, y6, y7]⟩, p2, a2, q2, r2⟩).length <= 2000)) := hrt;have HBO : Hid ((fU ⟨s, ⟨k, nm, n, [x0, x1, x2, x3, x4, x5, x6, x7]⟩, p, a, q, r⟩ z.data.toList).1 = 0 -> uOk ⟨s, ⟨k, nm, n, [x0, x1, x2, x3, x4, x5, x6, x7]⟩, p, a, q, r⟩ = true) := hbo;generalize (fU ⟨s, ⟨k, nm, n, [x0, x1, x2, x3, x4, x5, x6, x7]⟩, p, a, q, r⟩ z.data.toList).1 = c at CS CI HR HBO;clear hrt hu hbo;go_wp2_with (refine bA HV1.out rfl rfl _ rfl rfl ?_);refine (CI.out _ HB1.out).mono ?_;rintro e w2 ⟨rfl, b2⟩;have hb2 : Below w.heap.size w w2 := HB1.out.trans (b2.mono HB1.out.size);have hv2 := HV1.out.below b2;have hlt2 : V < w2.heap.size := hv2.2.2;have HB2 : Hid (Below w.heap.size w (w2.alloc (.cells #[.int .i64 0, .int .i64 0, .string ⟨#[]⟩, .int .i64 0, .int .i64 0, .int .i64 0, .int .i64 0, .int .i64 0, .int .i64 0, .int .i64 0, .int .i64 0, .int .i64 0, .int .i64 0, .string ⟨#[]⟩, .bool false, .string ⟨#[]⟩] 28)) /\ UAt (w2.alloc (.cells #[.int .i64 0, .int .i64 0, .string ⟨#[]⟩, .int .i64 0, .int .i64 0, .int .i64 0, .int .i64 0, .int .i64 0, .int .i64 0, .int .i64 0, .int .i64 0, .int .i64 0, .int .i64 0, .string ⟨#[]⟩, .bool false, .string ⟨#[]⟩] 28)) V (aA s k nm n x0 x1 x2 x3 x4 x5 x6 x7 p a q r)) := ⟨hb2.alloc hb2.size _, hv2.below ((zl _ _).alloc (Nat.le_refl _) _)⟩;clear b2 hb2 hv2 HB1 HV1 CI
    go_upto_region 5 with (refine aT (UAt.new w2 _ _) rfl (us := aA s2 k2 nm2 n2 y0 y1 y2 y3 y4 y5 y6 y7 p2 a2 q2 r2) rfl (aG ..) rfl _ _ rfl rfl rfl ?_; intro w3 HUh HMh)
    have HP3 : Hid (PT w V w2.heap.size (aA s k nm n x0 x1 x2 x3 x4 x5 x6 x7 p a q r) (aA s2 k2 nm2 n2 y0 y1 y2 y3 y4 y5 y6 y7 p2 a2 q2 r2) w3) := ⟨HMh.1 _ _ om HB2.out.2, HUh, HMh.2 _ _ om HB2.out.1, hza, hlt2⟩;clear HUh HMh HB2 hza hlt2;generalize w2.heap.size = V2 at HP3 ⊢;go_wp2_with (refine bA HP3.out.1 rfl rfl _ rfl rfl ?_);refine (CS.out _).mono ?_;rintro e w4 ⟨rfl, b4⟩;have h4 := HP3.out.later b4;have hlt4 : V2 < w4.heap.size := h4.2.1.2.2;have HP4 : Hid (PT w V V2 (aA s k nm n x0 x1 x2 x3 x4 x5 x6 x7 p a q r) (aA s2 k2 nm2 n2 y0 y1 y2 y3 y4 y5 y6 y7 p2 a2 q2 r2) (w4.alloc (.cells #[.int .i64 0, .int .i64 0, .string ⟨#[]⟩, .int .i64 0, .int .i64 0, .int .i64 0, .int .i64 0, .int .i64 0, .int .i64 0, .int .i64 0, .int .i64 0, .int .i64 0, .int .i64 0, .string ⟨#[]⟩, .bool false, .string ⟨#[]⟩] 28))) := h4.alloc _;clear b4 h4 HP3 CS
    go_upto_region 6 with (refine aT (UAt.new w4 _ _) rfl (us := aA s2 k2 nm2 n2 y0 y1 y2 y3 y4 y5 y6 y7 p2 a2 q2 r2) rfl (aG ..) rfl _ _ rfl rfl rfl ?_; intro w5 HUh HMh)
    have HP5 : Hid (PT w V V2 (aA s k nm n x0 x1 x2 x3 x4 x5 x6 x7 p a q r) (aA s2 k2 nm2 n2 y0 y1 y2 y3 y4 y5 y6 y7 p2 a2 q2 r2) w5) := HP4.out.moved hlt4 HMh;clear HUh HMh HP4 hlt4
    rcases HR.out with ⟨hc1, hc5, hnone⟩ | ⟨hc0, hok, hlen⟩
    . have hq : (c != 0) = true := bne_iff_ne.2 om
      have hrow : (aA s2 k2 nm2 n2 y0 y1 y2 y3 y4 y5 y6 y7 p2 a2 q2 r2) = aM := by
        have e := congrArg WC hnone;exact e
      rw [hrow] at HP5;have heq : ∀ W, (Op.equalIn 10000 28 (.agg aM.toArray) (.agg aM.toArray)).run prog W = .ok true W := eqU 0 0 0 0 ⟨#[]⟩ ⟨#[]⟩ ⟨#[]⟩ false 0 0 0 0 0 0 0 0;clear HR hrow hnone CR HTA hc1 hc5 HBO;have hlt5 : V2 < w5.heap.size := HP5.out.2.1.2.2;have HP6 : Hid (PT w V V2 (aA s k nm n x0 x1 x2 x3 x4 x5 x6 x7 p a q r) aM (w5.alloc (.cells #[.int .i64 0, .int .i64 0, .string ⟨#[]⟩, .int .i64 0, .int .i64 0, .int .i64 0, .int .i64 0, .int .i64 0, .int .i64 0, .int .i64 0, .int .i64 0, .int .i64 0, .int .i64 0, .string ⟨#[]⟩, .bool false, .string ⟨#[]⟩] 28))) := HP5.out.alloc _;clear HP5
      go_upto_region 8 with (refine aT (UAt.new w5 _ _) rfl (us := aM) rfl (aG ..) rfl _ _ rfl rfl rfl ?_; intro w6 HUh HMh)
      have HP7 : Hid (PT w V V2 (aA s k nm n x0 x1 x2 x3 x4 x5 x6 x7 p a q r) aM w6) := HP6.out.moved hlt5 HMh;have HN7 : Hid (UAt w6 w5.heap.size aM) := HUh;clear HUh HMh HP6 hlt5;generalize w5.heap.size = V3 at HN7 ⊢;go_wp2_with (first | (refine zR HP7.out.2.1 rfl rfl _ rfl rfl ?_) | (refine zR HN7.out rfl rfl _ rfl rfl ?_));go_ret;exact ⟨rfl, HP7.out.2.2.1⟩
    . subst hc0
      have hbok := HBO.out rfl;have hf : RD (⟨k2, nm2, n2, [y0, y1, y2, y3, y4, y5, y6, y7]⟩ : HV) := Gm (u := ⟨s2, ⟨k2, nm2, n2, [y0, y1, y2, y3, y4, y5, y6, y7]⟩, p2, a2, q2, r2⟩) hok rfl;have htl := zN hok;have hl2 : (uTx ⟨s2, ⟨k2, nm2, n2, [y0, y1, y2, y3, y4, y5, y6, y7]⟩, p2, a2, q2, r2⟩).length <= 2000 := by omega
      have hbk := Gn hbok hok hf hl2;have hsf := Gp hok hl2;have hnm : nm2.size <= 1048576 := Nat.le_trans (JB (gG hok).2.1) de;have hra : a2.size <= 2000 /\ r2.size <= 2000 := by
        have h1 : (lH ⟨s2, ⟨k2, nm2, n2, [y0, y1, y2, y3, y4, y5, y6, y7]⟩, p2, a2, q2, r2⟩).length <= 2000 := by omega
        have ha : (toL a2).length = a2.size := by simp [toL]
        have hr : (toL r2).length = r2.size := by simp [toL]
        have h5 := (gG hok).2.2.2.2.1;unfold lH at h1
        cases q2 with
        | true =>
          simp only [if_true, List.length_append, List.length_cons] at h1;omega
        | false =>
          simp only [Bool.false_eq_true, if_false] at h1
          rcases h5 with h | h
          . cases h
          . have h6 : r2.size = 0 := h
            omega
      have CT : Hid (∀ W, Below w.heap.size w W -> Calls prog 12 #[.agg (aA s2 k2 nm2 n2 y0 y1 y2 y3 y4 y5 y6 y7 p2 a2 q2 r2).toArray] W fun e w' => e = .returned (.string ⟨(uTx ⟨s2, ⟨k2, nm2, n2, [y0, y1, y2, y3, y4, y5, y6, y7]⟩, p2, a2, q2, r2⟩).toArray⟩) /\ Below W.heap.size W w') := fun W hb => by
        have h := HTA.out W hb;exact tH s2 k2 n2 p2 nm2 a2 r2 q2 y0 y1 y2 y3 y4 y5 y6 y7 W hnm om om h.1 h.2.1 h.2.2.1 h.2.2.2.2.1
      have CO : Hid (∀ W, Below w.heap.size w W -> Calls prog 13 #[.agg (aA s2 k2 nm2 n2 y0 y1 y2 y3 y4 y5 y6 y7 p2 a2 q2 r2).toArray] W fun e w' => e = .returned (.bool true) /\ Below W.heap.size W w') := fun W hb => by
        have h := HTA.out W hb;have h2 := uM s2 k2 n2 p2 nm2 a2 r2 q2 y0 y1 y2 y3 y4 y5 y6 y7 W hnm om om h.1 h.2.1 h.2.2.2.2.1;rw [hok] at h2;exact h2
      have CP1 : Hid (∀ W, Below w.heap.size w W -> Calls prog 22 #[.agg (aA s k nm n x0 x1 x2 x3 x4 x5 x6 x7 p a q r).toArray, .string ⟨(uTx ⟨s2, ⟨k2, nm2, n2, [y0, y1, y2, y3, y4, y5, y6, y7]⟩, p2, a2, q2, r2⟩).toArray⟩] W fun e w' => e = .returned (.tuple #[.agg (aA s2 k2 nm2 n2 y0 y1 y2 y3 y4 y5 y6 y7 p2 a2 q2 r2).toArray, .int .i64 0]) /\ Below W.heap.size W w') := fun W hb => by
        have h := CR.out ⟨(uTx ⟨s2, ⟨k2, nm2, n2, [y0, y1, y2, y3, y4, y5, y6, y7]⟩, p2, a2, q2, r2⟩).toArray⟩ W (by rw [cR]; omega) hb;rw [show (⟨(uTx ⟨s2, ⟨k2, nm2, n2, [y0, y1, y2, y3, y4, y5, y6, y7]⟩, p2, a2, q2, r2⟩).toArray⟩ : ByteArray).data.toList = uTx ⟨s2, ⟨k2, nm2, n2, [y0, y1, y2, y3, y4, y5, y6, y7]⟩, p2, a2, q2, r2⟩ from rfl, hbk] at h;exact h
      have CP2 : Hid (∀ W, Below w.heap.size w W -> Calls prog 22 #[.agg (aA s2 k2 nm2 n2 y0 y1 y2 y3 y4 y5 y6 y7 p2 a2 q2 r2).toArray, .string ⟨#[]⟩] W fun e w' => e = .returned (.tuple #[.agg (aA s2 k2 nm2 n2 y0 y1 y2 y3 y4 y5 y6 y7 p2 a2 q2 r2).toArray, .int .i64 0]) /\ Below W.heap.size W w') := fun W hb => by
        have h := tP ad s2 k2 n2 p2 nm2 a2 r2 q2 y0 y1 y2 y3 y4 y5 y6 y7 ⟨#[]⟩ W hnm om om de (HTA.out W hb);rw [show (⟨#[]⟩ : ByteArray).data.toList = [] from rfl, hsf] at h;exact h
      have HEQ : Hid (∀ W, (Op.equalIn 10000 28 (.agg (aA s2 k2 nm2 n2 y0 y1 y2 y3 y4 y5 y6 y7 p2 a2 q2 r2).toArray) (.agg (aA s2 k2 nm2 n2 y0 y1 y2 y3 y4 y5 y6 y7 p2 a2 q2 r2).toArray)).run prog W = .ok true W) := eqU s2 k2 n2 p2 nm2 a2 r2 q2 y0 y1 y2 y3 y4 y5 y6 y7;generalize (⟨(uTx ⟨s2, ⟨k2, nm2, n2, [y0, y1, y2, y3, y4, y5, y6, y7]⟩, p2, a2, q2, r2⟩).toArray⟩ : ByteArray) = TT at CT CP1;clear HR HBO hok hlen hbok hf htl hl2 hbk hsf hnm hra CR HTA
      go_upto_region 9 with fail
      go_cut [10, 11] (fun v1 v2 wx => ∃ NB, v1 = .pointer (some ⟨NB, 0, none⟩) /\ v2 = .int .i64 0 /\ PT w V V2 (aA s k nm n x0 x1 x2 x3 x4 x5 x6 x7 p a q r) (aA s2 k2 nm2 n2 y0 y1 y2 y3 y4 y5 y6 y7 p2 a2 q2 r2) wx /\ UAt wx NB (aA s2 k2 nm2 n2 y0 y1 y2 y3 y4 y5 y6 y7 p2 a2 q2 r2) /\ V2 < NB)
      case first =>
        refine wp_region_held_drew (S := PT w V V2 (aA s k nm n x0 x1 x2 x3 x4 x5 x6 x7 p a q r) (aA s2 k2 nm2 n2 y0 y1 y2 y3 y4 y5 y6 y7 p2 a2 q2 r2)) kr HP5.out.drew (fun h0 => ?_);clear HP5;refine wpAnyH_take (i := 0) (v := .agg (aA s k nm n x0 x1 x2 x3 x4 x5 x6 x7 p a q r).toArray) rfl kr kr kr (fun _ _ _ h => h) (yieldsIf_load_mid (by rfl) _ _ rfl V 0 rfl (aA s k nm n x0 x1 x2 x3 x4 x5 x6 x7 p a q r) _ (fun W hW => hW.1.range 0 _ (fun j v hv => by rw [Nat.zero_add]; exact hv)) underlying28 rfl infoUrl) h0 ?_;simp only [zk, ze, zc, zd, za, zg, zh];refine wpAnyH_take (i := 1) (v := .agg (aA s2 k2 nm2 n2 y0 y1 y2 y3 y4 y5 y6 y7 p2 a2 q2 r2).toArray) rfl kr kr kr (fun _ _ _ h => h) (yieldsIf_load_mid (by rfl) _ _ rfl V2 0 rfl (aA s2 k2 nm2 n2 y0 y1 y2 y3 y4 y5 y6 y7 p2 a2 q2 r2) _ (fun W hW => hW.2.1.range 0 _ (fun j v hv => by rw [Nat.zero_add]; exact hv)) underlying28 rfl infoUrl) h0 ?_;simp only [zk, ze, zc, zd, za, zg, zh];refine wpAnyH_ready (rs := [2, 7]) kr j2 (zf rfl (fun K hK => ?_) (zf rfl (fun K hK => ?_) zi))
        . go_simp
          go_wp2_with (go_at_call 12; refine (CT.out _ h0.2.2.1).mono ?_; rintro e wq1 ⟨rfl, hb1⟩);refine hK.out _ _ (PT.later h0 hb1) (fun h1 => ?_);clear hK K h0 hb1;refine wpAnyH_ready (rs := [3, 7]) kr j2 (zf rfl (fun K hK => ?_) (zf rfl (fun K hK => ?_) zi))
          . go_simp
            go_wp2_with (go_at_call 22; refine (CP1.out _ h1.2.2.1).mono ?_; rintro e wq2 ⟨rfl, hb2⟩);refine hK.out _ _ (PT.later h1 hb2) (fun h2 => ?_);clear hK K h1 hb2;refine wpAnyH_take (i := 4) (v := .tuple #[.agg (aA s2 k2 nm2 n2 y0 y1 y2 y3 y4 y5 y6 y7 p2 a2 q2 r2).toArray, .int .i64 0]) rfl kr kr kr (fun _ _ _ h => h) (Or.inl ⟨by rfl, fun W hW => by kernel_rfl⟩) h2 ?_;refine wpAnyH_take (i := 5) (v := .agg (aA s2 k2 nm2 n2 y0 y1 y2 y3 y4 y5 y6 y7 p2 a2 q2 r2).toArray) rfl kr kr kr (fun _ _ _ h => h) (Or.inl ⟨by rfl, fun W hW => by kernel_rfl⟩) h2 ?_;refine wpAnyH_take (i := 6) (v := .int .i64 0) rfl kr kr kr (fun _ _ _ h => h) (Or.inl ⟨by rfl, fun W hW => by kernel_rfl⟩) h2 ?_;simp only [zk, ze, zc, zd, za, zg, zh];have hlt := h2.2.1.2.2;refine wpAnyH_ready (rs := [7]) kr j2 (zf rfl (fun K hK => ?_) zi);go_simp;refine hK.out _ _ (PT.alloc h2 _) (fun h3 => ?_);clear hK K;have hN := UAt.new wq2 #[.int .i64 0, .int .i64 0, .string ⟨#[]⟩, .int .i64 0, .int .i64 0, .int .i64 0, .int .i64 0, .int .i64 0, .int .i64 0, .int .i64 0, .int .i64 0, .int .i64 0, .int .i64 0, .string ⟨#[]⟩, .bool false, .string ⟨#[]⟩] 28;refine wpAnyH_ready (rs := [8]) kr j2 (zf rfl (fun K hK => ?_) zi);rw [if_pos (by rfl)];refine wp_store_mid _ _ _ rfl wq2.heap.size 0 (aA s2 k2 nm2 n2 y0 y1 y2 y3 y4 y5 y6 y7 p2 a2 q2 r2).toArray rfl rfl (hN.there 0 16 (by show 0 + 16 <= 16; decide)) infoUrl (aG ..) ?_;have hns := fZ (us := aA s2 k2 nm2 n2 y0 y1 y2 y3 y4 y5 y6 y7 p2 a2 q2 r2) hN rfl rfl;refine hK.out _ _ (PT.moved h3 hlt (bW _ _ _)) (fun hZ => ?_);clear hK K;refine wpAnyH_take (i := 9) (v := .int .i64 0) rfl kr kr kr (fun _ _ _ h => h) (Or.inl ⟨by rfl, fun W hW => by kernel_rfl⟩) hZ ?_;refine wpAnyH_done kr ?_ _;simp only [zk, ze, zc, zd, za, zg, zh];go_wp2_with fail;go_meet;exact ⟨_, rfl, rfl, hZ, hns, hlt⟩
          . go_simp
            refine hK.out _ _ (PT.alloc h1 _) (fun h2 => ?_);clear hK K;have hlt := h1.2.1.2.2;have hN := UAt.new wq1 #[.int .i64 0, .int .i64 0, .string ⟨#[]⟩, .int .i64 0, .int .i64 0, .int .i64 0, .int .i64 0, .int .i64 0, .int .i64 0, .int .i64 0, .int .i64 0, .int .i64 0, .int .i64 0, .string ⟨#[]⟩, .bool false, .string ⟨#[]⟩] 28;refine wpAnyH_ready (rs := [3]) kr j2 (zf rfl (fun K hK => ?_) zi);go_simp;go_wp2_with (go_at_call 22; refine (CP1.out _ h2.2.2.1).mono ?_; rintro e wq2 ⟨rfl, hb2⟩);refine hK.out _ _ (PT.later h2 hb2) (fun h3 => ?_);clear hK K;have hN2 := hN.below hb2;refine wpAnyH_take (i := 4) (v := .tuple #[.agg (aA s2 k2 nm2 n2 y0 y1 y2 y3 y4 y5 y6 y7 p2 a2 q2 r2).toArray, .int .i64 0]) rfl kr kr kr (fun _ _ _ h => h) (Or.inl ⟨by rfl, fun W hW => by kernel_rfl⟩) h3 ?_;refine wpAnyH_take (i := 5) (v := .agg (aA s2 k2 nm2 n2 y0 y1 y2 y3 y4 y5 y6 y7 p2 a2 q2 r2).toArray) rfl kr kr kr (fun _ _ _ h => h) (Or.inl ⟨by rfl, fun W hW => by kernel_rfl⟩) h3 ?_;refine wpAnyH_take (i := 6) (v := .int .i64 0) rfl kr kr kr (fun _ _ _ h => h) (Or.inl ⟨by rfl, fun W hW => by kernel_rfl⟩) h3 ?_;simp only [zk, ze, zc, zd, za, zg, zh];refine wpAnyH_ready (rs := [8]) kr j2 (zf rfl (fun K hK => ?_) zi);rw [if_pos (by rfl)];refine wp_store_mid _ _ _ rfl wq1.heap.size 0 (aA s2 k2 nm2 n2 y0 y1 y2 y3 y4 y5 y6 y7 p2 a2 q2 r2).toArray rfl rfl (hN2.there 0 16 (by show 0 + 16 <= 16; decide)) infoUrl (aG ..) ?_;have hns := fZ (us := aA s2 k2 nm2 n2 y0 y1 y2 y3 y4 y5 y6 y7 p2 a2 q2 r2) hN2 rfl rfl;refine hK.out _ _ (PT.moved h3 hlt (bW _ _ _)) (fun hZ => ?_);clear hK K;refine wpAnyH_take (i := 9) (v := .int .i64 0) rfl kr kr kr (fun _ _ _ h => h) (Or.inl ⟨by rfl, fun W hW => by kernel_rfl⟩) hZ ?_;refine wpAnyH_done kr ?_ _;simp only [zk, ze, zc, zd, za, zg, zh];go_wp2_with fail;go_meet;exact ⟨_, rfl, rfl, hZ, hns, hlt⟩
        . go_simp
          refine hK.out _ _ (PT.alloc h0 _) (fun h1 => ?_);clear hK K;have hlt : V2 < w5.heap.size := h0.2.1.2.2;have hN := UAt.new w5.drew #[.int .i64 0, .int .i64 0, .string ⟨#[]⟩, .int .i64 0, .int .i64 0, .int .i64 0, .int .i64 0, .int .i64 0, .int .i64 0, .int .i64 0, .int .i64 0, .int .i64 0, .int .i64 0, .string ⟨#[]⟩, .bool false, .string ⟨#[]⟩] 28;refine wpAnyH_ready (rs := [2]) kr j2 (zf rfl (fun K hK => ?_) zi);go_simp;go_wp2_with (go_at_call 12; refine (CT.out _ h1.2.2.1).mono ?_; rintro e wq1 ⟨rfl, hb1⟩);refine hK.out _ _ (PT.later h1 hb1) (fun h2 => ?_);clear hK K;have hN1 := hN.below hb1;refine wpAnyH_ready (rs := [3]) kr j2 (zf rfl (fun K hK => ?_) zi);go_simp;go_wp2_with (go_at_call 22; refine (CP1.out _ h2.2.2.1).mono ?_; rintro e wq2 ⟨rfl, hb2⟩);refine hK.out _ _ (PT.later h2 hb2) (fun h3 => ?_);clear hK K;have hN2 := hN1.below hb2;refine wpAnyH_take (i := 4) (v := .tuple #[.agg (aA s2 k2 nm2 n2 y0 y1 y2 y3 y4 y5 y6 y7 p2 a2 q2 r2).toArray, .int .i64 0]) rfl kr kr kr (fun _ _ _ h => h) (Or.inl ⟨by rfl, fun W hW => by kernel_rfl⟩) h3 ?_;refine wpAnyH_take (i := 5) (v := .agg (aA s2 k2 nm2 n2 y0 y1 y2 y3 y4 y5 y6 y7 p2 a2 q2 r2).toArray) rfl kr kr kr (fun _ _ _ h => h) (Or.inl ⟨by rfl, fun W hW => by kernel_rfl⟩) h3 ?_;refine wpAnyH_take (i := 6) (v := .int .i64 0) rfl kr kr kr (fun _ _ _ h => h) (Or.inl ⟨by rfl, fun W hW => by kernel_rfl⟩) h3 ?_;simp only [zk, ze, zc, zd, za, zg, zh];refine wpAnyH_ready (rs := [8]) kr j2 (zf rfl (fun K hK => ?_) zi);rw [if_pos (by rfl)];refine wp_store_mid _ _ _ rfl w5.heap.size 0 (aA s2 k2 nm2 n2 y0 y1 y2 y3 y4 y5 y6 y7 p2 a2 q2 r2).toArray rfl rfl (hN2.there 0 16 (by show 0 + 16 <= 16; decide)) infoUrl (aG ..) ?_;have hns := fZ (us := aA s2 k2 nm2 n2 y0 y1 y2 y3 y4 y5 y6 y7 p2 a2 q2 r2) hN2 rfl rfl;refine hK.out _ _ (PT.moved h3 hlt (bW _ _ _)) (fun hZ => ?_);clear hK K;refine wpAnyH_take (i := 9) (v := .int .i64 0) rfl kr kr kr (fun _ _ _ h => h) (Or.inl ⟨by rfl, fun W hW => by kernel_rfl⟩) hZ ?_;refine wpAnyH_done kr ?_ _;simp only [zk, ze, zc, zd, za, zg, zh];go_wp2_with fail;go_meet;exact ⟨_, rfl, rfl, hZ, hns, hlt⟩
      case rest =>
        obtain ⟨NB, rfl, rfl, hp6, hn6, hlt6⟩ := hcut;have HP6 : Hid (PT w V V2 (aA s k nm n x0 x1 x2 x3 x4 x5 x6 x7 p a q r) (aA s2 k2 nm2 n2 y0 y1 y2 y3 y4 y5 y6 y7 p2 a2 q2 r2) wc) := hp6;have HN6 : Hid (UAt wc NB (aA s2 k2 nm2 n2 y0 y1 y2 y3 y4 y5 y6 y7 p2 a2 q2 r2)) := hn6;clear hp6 hn6 HP5 CT CP1;go_wp2_with (refine bA HP6.out.2.1 rfl rfl _ rfl rfl ?_);refine (CP2.out _ HP6.out.2.2.1).mono ?_;rintro e w7 ⟨rfl, b7⟩;have h7 := HP6.out.later b7;have hn7 := HN6.out.below b7;have hlt7 : NB < w7.heap.size := hn7.2.2;have HP7 : Hid (PT w V V2 (aA s k nm n x0 x1 x2 x3 x4 x5 x6 x7 p a q r) (aA s2 k2 nm2 n2 y0 y1 y2 y3 y4 y5 y6 y7 p2 a2 q2 r2) (w7.alloc (.cells #[.int .i64 0, .int .i64 0, .string ⟨#[]⟩, .int .i64 0, .int .i64 0, .int .i64 0, .int .i64 0, .int .i64 0, .int .i64 0, .int .i64 0, .int .i64 0, .int .i64 0, .int .i64 0, .string ⟨#[]⟩, .bool false, .string ⟨#[]⟩] 28))) := h7.alloc _;have HN7 : Hid (UAt (w7.alloc (.cells #[.int .i64 0, .int .i64 0, .string ⟨#[]⟩, .int .i64 0, .int .i64 0, .int .i64 0, .int .i64 0, .int .i64 0, .int .i64 0, .int .i64 0, .int .i64 0, .int .i64 0, .int .i64 0, .string ⟨#[]⟩, .bool false, .string ⟨#[]⟩] 28)) NB (aA s2 k2 nm2 n2 y0 y1 y2 y3 y4 y5 y6 y7 p2 a2 q2 r2)) := hn7.below ((zl _ _).alloc (Nat.le_refl _) _);clear b7 h7 hn7 HP6 HN6 CP2
        go_upto_region 11 with (refine aT (UAt.new w7 _ _) rfl (us := aA s2 k2 nm2 n2 y0 y1 y2 y3 y4 y5 y6 y7 p2 a2 q2 r2) rfl (aG ..) rfl _ _ rfl rfl rfl ?_; intro w8 HUh HMh)
        have HP8 : Hid (PT w V V2 (aA s k nm n x0 x1 x2 x3 x4 x5 x6 x7 p a q r) (aA s2 k2 nm2 n2 y0 y1 y2 y3 y4 y5 y6 y7 p2 a2 q2 r2) w8) := HP7.out.moved om HMh;have HN8 : Hid (UAt w8 NB (aA s2 k2 nm2 n2 y0 y1 y2 y3 y4 y5 y6 y7 p2 a2 q2 r2)) := HMh.1 _ _ om HN7.out;have HY8 : Hid (UAt w8 w7.heap.size (aA s2 k2 nm2 n2 y0 y1 y2 y3 y4 y5 y6 y7 p2 a2 q2 r2)) := HUh;clear HUh HMh HP7 HN7;generalize w7.heap.size = V4 at HY8 hlt7 ⊢;go_wp2_with (refine bA HP8.out.2.1 rfl rfl _ rfl rfl ?_);refine (CO.out _ HP8.out.2.2.1).mono ?_;rintro e w9 ⟨rfl, b9⟩;have HP9 : Hid (PT w V V2 (aA s k nm n x0 x1 x2 x3 x4 x5 x6 x7 p a q r) (aA s2 k2 nm2 n2 y0 y1 y2 y3 y4 y5 y6 y7 p2 a2 q2 r2) w9) := HP8.out.later b9;have HN9 : Hid (UAt w9 NB (aA s2 k2 nm2 n2 y0 y1 y2 y3 y4 y5 y6 y7 p2 a2 q2 r2)) := HN8.out.below b9;have HY9 : Hid (UAt w9 V4 (aA s2 k2 nm2 n2 y0 y1 y2 y3 y4 y5 y6 y7 p2 a2 q2 r2)) := HY8.out.below b9;clear b9 HP8 HN8 HY8 CO;have heq := HEQ.out;clear HEQ;go_wp2_with (first | (refine zR HN9.out rfl rfl _ rfl rfl ?_) | (refine zR HP9.out.2.1 rfl rfl _ rfl rfl ?_) | (refine zR HY9.out rfl rfl _ rfl rfl ?_));go_ret;exact ⟨rfl, HP9.out.2.2.1⟩

set_option maxRecDepth 100000 in
theorem contract (H : Type) (enc : TypeId × Value -> H) (W : World) (base : Nat) (args : Array Value) (ds gs : List (DataW H)) (before : List MemPlace)
    (hval : ∀ (j : Nat) t v, f5.params[j]? = some t -> args[j]? = some v -> Value.okWide prog W .any base t v)
    (hW : DataW.Whole enc prog f5.params.toList Rows.fnResolvedSpec.vars false W args.toList ds gs before) (hL : laidMetH prog lP W) (hSh : W.ShapedOpen prog) :
    Calls prog 5 args W fun e W' => ∃ v, e = .returned v /\ Rows.fnResolvedSpec.post enc prog f5 false true false false W args v W' := by
  have hW' := hW;obtain ⟨p, q, hA0, hV, rfl, hfz, hnd⟩ := hW;have hA : DataW.TrodAll enc prog W 0 (fun _ => true) true f5.params.toList args.toList ds p := hA0;rw [params5] at hA hval;obtain ⟨v0, vs0, d0, ds0, p0, q0, hargs, rfl, rfl, h0, r0⟩ := trodAll_cons hA;obtain ⟨rfl, rfl, rfl⟩ := trodAll_nil r0
  obtain rfl : args = #[v0] := by cases args; simp_all
  obtain ⟨g1, g2, g3, g4, g5, g6, g7, rfl⟩ := JC hV;obtain ⟨ad, hSens⟩ := WJ hL;obtain ⟨a0, len0, cap0, rfl⟩ := okWide_slice underlying22 (hval 0 22 v0 rfl rfl);have k0 := h0;have lt0 : ∀ x ∈ p0, x.block < W.heap.size := by obtain ⟨m, hm⟩ := k0; exact DataW.trod_lt m _ _ _ hm
  obtain ⟨z0, w0⟩ : ∃ zs, Ln .u8 W a0 len0 cap0 zs := by
    obtain ⟨fuel, hf⟩ := h0
    rcases open_ints underlying22 underlying5 kr hf with ⟨hcs, _⟩ | ⟨x, l, c, zs, hcs, _, hl, hm, hz, _, hcell, hwz⟩
    . simp [Value.cells] at hcs
      obtain ⟨rfl, rfl, rfl⟩ := hcs;exact ⟨[], .inl ⟨rfl, rfl, rfl, rfl⟩⟩
    . simp [Value.cells] at hcs
      obtain ⟨rfl, rfl, rfl⟩ := hcs;exact ⟨zs, .inr ⟨_, rfl, hl, hm, by simpa using hz, hcell, hwz⟩⟩
  clear hA0;refine (walk a0 len0 cap0 z0 W w0 ad ⟨WF (lQ hL), K8 (lQ hL), K9 (lQ hL), EZ hSh, MX (lQ hL), WG (lQ hL), hSens⟩).mono fun e W' ⟨he, bel⟩ => ?_
  subst he;exact ⟨_, rfl, _, _, _, [], _, _, hW', trodAll_mk1 (shut_bool underlying4 _), (trodAll_cons_mk (Below.trod nH kr (of_decide_eq_true kr) k0 bel lt0) trodAll_mk0), bel.trodVars nH kr hV, bel.frame _, fun h => by cases h⟩

theorem witness_row(os:Os){H:Type}(enc:TypeId×Value->H):
    (OpenSpec.ofChange Rows.fnResolvedSpec).preRow enc prog f5 Rows.fnResolvedRow.domain false lP (({zj prog os ⟨eY,#[],[]⟩with heap:=sC (zj prog os ⟨eY,#[],[]⟩).heap}:World).forCall (fun _ _=>0) ⟨#[],#[.slice none 0 0],[]⟩).memory #[.slice none 0 0]:=by
  obtain ⟨x,hx⟩:=Option.isSome_iff_exists.1 (show (DataW.whole enc prog (({zj prog os ⟨eY,#[],[]⟩with heap:=sC (zj prog os ⟨eY,#[],[]⟩).heap}:World).forCall (fun _ _=>0) ⟨#[],#[.slice none 0 0],[]⟩).memory f5.params.toList Rows.fnResolvedSpec.vars false (#[.slice none 0 0]:Array Value).toList 8).isSome=true by kernel_rfl);exact OpenSpec.preRow_of_cond 8 hx kr (fun k hk=>by cases hk) kr (M0 os _)

set_option maxRecDepth 100000 in
set_option maxHeartbeats 2000000 in
theorem lifted(os:Os)(started:os.Started)(H:Type)(enc:TypeId×Value->H)(F:Stop.Interp):
    ReturnsInHanded {} checked os 5 .any ((OpenSpec.ofChange Rows.fnResolvedSpec).preRow enc prog f5 Rows.fnResolvedRow.domain false lP) (((OpenSpec.ofChange Rows.fnResolvedSpec).at F).post enc prog f5 false true false false):=by
  refine returnsInHanded_of_row (C:=checked) (s:=OpenSpec.ofChange Rows.fnResolvedSpec) WD started kr func5
    (witness_row_atRef (enc:=enc) (C:=checked) false ({zj prog os ⟨eY,#[],[]⟩with heap:=sC (zj prog os ⟨eY,#[],[]⟩).heap}) #[.slice none 0 0] rfl kr kr kr (witness_row os enc)) ?_
  intro W base args ds gs before hval hW _ _ _ hL hSh _;exact contract H enc W base args ds gs before hval hW hL hSh

theorem both_true{a b:Bool}(h:a=true)(k:b=true):(a&&b)=true:=by rw[h,k];rfl
set_option maxRecDepth 100000 in
set_option maxHeartbeats 16000000 in
theorem said:Rows.FnResolvedSaid:=
  OpenClaim.holds_of_cond 5 f5 rfl rfl rfl rfl rfl rfl rfl ⟨rfl,rfl,rfl,rfl,rfl⟩ rfl rfl rfl rfl rfl (by as_aux_lemma=>kernel_rfl) func5
    (by unfold joinedFacts;repeat' (with_reducible refine both_true ?_ ?_)
        all_goals as_aux_lemma=>kernel_rfl)
    (by as_aux_lemma=>exact of_decide_eq_true kr) (by as_aux_lemma=>unfold Func.isWrapper;first|(rw[if_pos (by decide+kernel)];kernel_rfl)|(rw[if_neg (by decide+kernel)];exact ⟨rfl,rfl⟩))
    (fun os started H enc _ F=>by rw[OpenClaim.pre_eq_preRow];exact lifted os started H enc F)

theorem plain(f:FuncId)(fn:Func)(hf:pinned.checked.prog.funcNamed "loop.example/g00191/laws.FnResolved" =some f)(hfn:pinned.checked.prog.funcs[f]? =some fn):
    true=pinned.checked.prog.looks []/\ ∀(j:Nat) t,fn.params[j]? =some t->pinned.checked.prog.wantsStandIn t=false:=by
  obtain rfl:f=5:=Option.some.inj ((show prog.funcNamed "loop.example/g00191/laws.FnResolved" =some 5 by kernel_rfl).symm.trans hf)|>.symm
  obtain rfl:fn=f5:=(Option.some.inj (func5.symm.trans hfn)).symm
  refine ⟨kr,fun j t ht=> ?_⟩;rw[params5]at ht
  obtain rfl:t=22:=by simpa using Array.mem_of_getElem? ht
  exact (show prog.wantsStandIn 22=false by kernel_rfl)

theorem card:Rows.FnResolvedCardSaid:=
  Claim7.holds_tied_plain_at .later [] _ _ _ _ said (fun _ h=>by cases h) kr (fun _ h=>by cases h) fnResolved_row_tie rfl ⟨rfl,rfl⟩ kr rfl plain kr
end Go.Proofs.YtgcbaphbiaimoaaGreatDoor.fnResolved

namespace Go.Proofs.YtgcbaphbiaimoaaGreatDoor
open _root_.Go.Act renaming put->zk
open _root_.Go.AllReadyH renaming cons->zf,nil->zi
open _root_.Go.RowKit.Below renaming refl->zl
open _root_.List renaming getElem_cons_succ->zd,getElem_cons_zero->zc,getElem_toArray->ze,setIfInBounds_toArray->za,set_cons_succ->zh,set_cons_zero->zg
open _root_.Go.World renaming holding->zj
open _root_.Go.Proofs.Tryz
open _root_.Go.Proofs.YtgcbaphbiaimoaaGreatDoor.Tryz
theorem fnResolved_holds:Rows.FnResolvedCardSaid:=fnResolved.card
#print axioms fnResolved_holds
