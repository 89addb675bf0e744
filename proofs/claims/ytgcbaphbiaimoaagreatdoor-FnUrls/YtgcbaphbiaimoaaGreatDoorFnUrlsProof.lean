/- An address that is drawn: its text is its origin, path and query, and comes back. -/
import Derived.Test.YtgcbaphbiaimoaaGreatDoorRows
import Derived.Test.YtgcbaphbiaimoaaGreatDoorCards
import Derived.Test.YtgcbaphbiaimoaaGreatDoorTie
import Derived.Test.YtgcbaphbiaimoaaGreatDoorQU06
import Derived.Test.YtgcbaphbiaimoaaGreatDoorQU34
import Derived.Test.YtgcbaphbiaimoaaGreatDoorQU37
import Derived.OpenShut
import Derived.ShutString
namespace Go.Proofs.YtgcbaphbiaimoaaGreatDoor.fnUrls
open Go.ChangeShapes Go.WideShapes Go.ChangeAt Go.RowKit
open Go.ChangeMaps (open_string shut_string)
set_option linter.unusedVariables false

def zsqz(k:IntKind)(w:World)(a:Option Addr)(len cap:Nat)(zs:List Int):Prop:=
  (a=none∧len=0∧cap=0∧zs=[])∨
  ∃x,a=some x∧len≤cap∧cap≤maxLen∧zs.length=cap∧(∀i,i<zs.length→w.cell? (x.add i)=some (.int k (zs.getD i 0)))∧ ∀n∈zs,(Lit.int k n).wf=true

set_option maxRecDepth 100000 in
set_option maxHeartbeats 8000000 in
theorem walk (a0 : Option Addr) (len0 cap0 : Nat) (z0 : List Int) (w : World) (w0 : zsqz .u8 w a0 len0 cap0 z0) (hT : Pow w) (hM : MaxI w) (hD : zHz w) (hU : Lib.Utf8Tabs 12 13 w) (hK : xFz w) (hE : ErrT w) :
    Calls Tryz.prog 3 #[.slice a0 len0 cap0] w fun e w' => e = .returned (.bool true) ∧ Below w.heap.size w w' := by
  by_cases hbig : 1048576 < (len0 : Int)
  · go_enter Tryz.func3, Tryz.ntmps3
    go_wp2_with fail
    refine (zruz _ _ _ _ hbig).mono ?_
    rintro e w' ⟨rfl, rfl⟩
    go_wp2
    go_ret
    exact ⟨rfl, Below.refl _ _⟩
  · have hl : len0 ≤ 1048576 := by omega
    have hcode : y2z w.heap.size w a0 len0 := by
      rcases w0 with ⟨rfl, rfl, rfl, rfl⟩ | ⟨x, rfl, h1, h2, h3, h4, h5⟩
      · exact .inl rfl
      · by_cases h0 : len0 = 0
        · exact .inl h0
        · obtain ⟨b, off, rfl, hc⟩ := ints_at h4 (by omega)
          refine .inr ⟨b, off, rfl, World.block_lt_of_cell? w ⟨b, off + 0, none⟩ (hc 0 (by omega)), fun i hi => ?_⟩
          refine ⟨_, hc i (by omega), ?_⟩
          have hb := bounds_u8 (h5 (z0.getD i 0) (by
            rw [List.getD_eq_getElem?_getD, List.getElem?_eq_getElem (by omega)]
            exact List.getElem_mem _))
          exact hb
    have HCO : Hid (y2z w.heap.size w a0 len0) := hcode
    have HTA : Hid (∀ W, Below w.heap.size w W → Pow W ∧ MaxI W ∧ zHz W ∧ Lib.Utf8Tabs 12 13 W ∧ xFz W ∧ ErrT W) := fun W hb => ⟨ybz hT hb, vzz hM hb, zuz hD hb, zWz hU hb, hK.later hb, zgpz hE hb⟩
    clear w0 hT hM hD hU hK hE hcode
    go_enter Tryz.func3, Tryz.ntmps3
    go_wp2_with fail
    refine (zsEz _ _ _ _ (by omega)).mono ?_
    rintro e w' ⟨rfl, rfl⟩
    go_wp2_with fail
    refine (zkTz _ _ _ _ hl HCO.out).mono ?_
    rintro e w1 ⟨s, k, n, p, nm, a, r, q, x0, x1, x2, x3, x4, x5, x6, x7, ⟨hnm, hza, hzr⟩, rfl, hb1⟩
    clear HCO
    have CT : Hid (∀ W, Below w.heap.size w W → Calls Tryz.prog 12 #[.agg (zjz s k nm n x0 x1 x2 x3 x4 x5 x6 x7 p a q r).toArray] W fun e w' => e = .returned (.string ⟨(uTx ⟨s, ⟨k, nm, n, [x0, x1, x2, x3, x4, x5, x6, x7]⟩, p, a, q, r⟩).toArray⟩) ∧ Below W.heap.size W w') := fun W hb => by
      have h := HTA.out W hb
      exact zbEz s k n p nm a r q x0 x1 x2 x3 x4 x5 x6 x7 W hnm hza hzr h.2.2.2.1 h.1 h.2.2.1 h.2.2.2.2.1
    have CO : Hid (∀ W, Below w.heap.size w W → Calls Tryz.prog 13 #[.agg (zjz s k nm n x0 x1 x2 x3 x4 x5 x6 x7 p a q r).toArray] W fun e w' => e = .returned (.bool (uOk ⟨s, ⟨k, nm, n, [x0, x1, x2, x3, x4, x5, x6, x7]⟩, p, a, q, r⟩)) ∧ Below W.heap.size W w') := fun W hb => by
      have h := HTA.out W hb
      exact zeaz s k n p nm a r q x0 x1 x2 x3 x4 x5 x6 x7 W hnm hza hzr h.2.2.2.1 h.1 h.2.2.2.2.1
    have CS : Hid (∀ W, Calls Tryz.prog 14 #[.agg (zjz s k nm n x0 x1 x2 x3 x4 x5 x6 x7 p a q r).toArray] W fun e w' => e = .returned (.bool (uOk ⟨s, ⟨k, nm, n, [x0, x1, x2, x3, x4, x5, x6, x7]⟩, p, a, q, r⟩)) ∧ Below W.heap.size W w') := fun W => zomz s k n p nm a r q x0 x1 x2 x3 x4 x5 x6 x7 W hnm hza hzr
    have CG : Hid (∀ W, Below w.heap.size w W → Calls Tryz.prog 15 #[.agg (zjz s k nm n x0 x1 x2 x3 x4 x5 x6 x7 p a q r).toArray] W fun e w' => e = .returned (.string ⟨(if uOk ⟨s, ⟨k, nm, n, [x0, x1, x2, x3, x4, x5, x6, x7]⟩, p, a, q, r⟩ = true then xCz s (hTx ⟨k, nm, n, [x0, x1, x2, x3, x4, x5, x6, x7]⟩) p else []).toArray⟩) ∧ Below W.heap.size W w') := fun W hb => by
      have h := HTA.out W hb
      exact za9z s k n p nm a r q x0 x1 x2 x3 x4 x5 x6 x7 W hnm hza hzr h.2.2.2.1 h.1 h.2.2.1 h.2.2.2.2.1
    have CQ : Hid (∀ W, Below w.heap.size w W → Calls Tryz.prog 16 #[.agg (zjz s k nm n x0 x1 x2 x3 x4 x5 x6 x7 p a q r).toArray] W fun e w' => e = .returned (.string ⟨(if uOk ⟨s, ⟨k, nm, n, [x0, x1, x2, x3, x4, x5, x6, x7]⟩, p, a, q, r⟩ = true then xTz ⟨s, ⟨k, nm, n, [x0, x1, x2, x3, x4, x5, x6, x7]⟩, p, a, q, r⟩ else []).toArray⟩) ∧ Below W.heap.size W w') := fun W hb => by
      have h := HTA.out W hb
      exact zgCz s k n p nm a r q x0 x1 x2 x3 x4 x5 x6 x7 W hnm hza hzr h.2.2.2.1 h.1 h.2.2.1 h.2.2.2.2.1
    cases hok : uOk ⟨s, ⟨k, nm, n, [x0, x1, x2, x3, x4, x5, x6, x7]⟩, p, a, q, r⟩ with
    | false =>
      rw [hok] at CO CS CG CQ
      rw [zonz s k n p nm a r q x0 x1 x2 x3 x4 x5 x6 x7 hok] at CT
      simp only [Bool.false_eq_true, if_false] at CG CQ
      have hz1 : w.heap.size ≤ w1.heap.size := hb1.size
      have B1a : Hid (Below w.heap.size w (w1.alloc (.cells #[.int .i64 0, .int .i64 0, .string ⟨#[]⟩, .int .i64 0, .int .i64 0, .int .i64 0, .int .i64 0, .int .i64 0, .int .i64 0, .int .i64 0, .int .i64 0, .int .i64 0, .int .i64 0, .string ⟨#[]⟩, .bool false, .string ⟨#[]⟩] 28))) := hb1.alloc hb1.size _
      go_upto_region 4 with (refine y0z (UAt.new w1 _ _) rfl (us := (zjz s k nm n x0 x1 x2 x3 x4 x5 x6 x7 p a q r)) rfl (zQz ..) rfl _ _ rfl rfl rfl ?_; intro w2 HUh HMh)
      have B2 : Hid (Below w.heap.size w w2) := HMh.2 _ _ hz1 B1a.out
      have HV2 : Hid (UAt w2 w1.heap.size (zjz s k nm n x0 x1 x2 x3 x4 x5 x6 x7 p a q r)) := HUh
      clear HUh HMh B1a hz1 hb1
      generalize w1.heap.size = V at HV2 ⊢
      have P2 : Hid (PV w V (zjz s k nm n x0 x1 x2 x3 x4 x5 x6 x7 p a q r) w2) := ⟨HV2.out, B2.out⟩
      clear HV2 B2
      go_wp2_with (refine xxz P2.out.1 rfl rfl _ rfl rfl ?_)
      refine (CT.out _ P2.out.2).mono ?_
      rintro e w3 ⟨rfl, b3⟩
      have P3 : Hid (PV w V (zjz s k nm n x0 x1 x2 x3 x4 x5 x6 x7 p a q r) w3) := P2.out.later b3
      clear b3 P2 CT
      go_upto_region 5 with fail
      refine wp_region_held_drew (S := PV w V (zjz s k nm n x0 x1 x2 x3 x4 x5 x6 x7 p a q r)) (by kernel_rfl) P3.out.drew (fun h0 => ?_)
      clear P3
      refine wpAnyH_take (i := 0) (v := .agg (zjz s k nm n x0 x1 x2 x3 x4 x5 x6 x7 p a q r).toArray) rfl (by kernel_rfl) (by kernel_rfl) (by kernel_rfl) (fun _ _ _ h => h) (yieldsIf_load_mid (by rfl) _ _ rfl V 0 rfl (zjz s k nm n x0 x1 x2 x3 x4 x5 x6 x7 p a q r) _ (fun W hW => hW.1.range 0 _ (fun j v hv => by rw [Nat.zero_add]; exact hv)) Tryz.underlying28 rfl Tryz.infoUrl) h0 ?_
      simp only [Act.put, List.getElem_toArray, List.getElem_cons_zero, List.setIfInBounds_toArray, List.set_cons_zero, List.set_cons_succ]
      refine wpAnyH_take (i := 2) (v := .agg (zjz s k nm n x0 x1 x2 x3 x4 x5 x6 x7 p a q r).toArray) rfl (by kernel_rfl) (by kernel_rfl) (by kernel_rfl) (fun _ _ _ h => h) (yieldsIf_load_mid (by rfl) _ _ rfl V 0 rfl (zjz s k nm n x0 x1 x2 x3 x4 x5 x6 x7 p a q r) _ (fun W hW => hW.1.range 0 _ (fun j v hv => by rw [Nat.zero_add]; exact hv)) Tryz.underlying28 rfl Tryz.infoUrl) h0 ?_
      simp only [Act.put, List.getElem_toArray, List.getElem_cons_zero, List.getElem_cons_succ, List.setIfInBounds_toArray, List.set_cons_zero, List.set_cons_succ]
      refine wpAnyH_ready (rs := [1]) (by kernel_rfl) (by simp) (AllReadyH.cons rfl (fun K hK => ?_) AllReadyH.nil)
      go_simp
      go_wp2_with (go_at_call 13; refine (CO.out _ h0.2).mono ?_; rintro e wq1 ⟨rfl, hb1⟩)
      refine hK.out _ _ (PV.later h0 hb1) (fun h1 => ?_)
      clear hK K
      clear h0
      refine wpAnyH_ready (rs := [3]) (by kernel_rfl) (by simp) (AllReadyH.cons rfl (fun K hK => ?_) AllReadyH.nil)
      go_simp
      go_wp2_with (go_at_call 14; refine (CS.out _).mono ?_; rintro e wq2 ⟨rfl, hb2⟩)
      refine hK.out _ _ (PV.later h1 hb2) (fun h2 => ?_)
      clear hK K
      clear h1 hb1 hb2
      refine wpAnyH_take (i := 4) (v := ?_) rfl (by kernel_rfl) (by kernel_rfl) (by kernel_rfl) (fun _ _ _ h => h) (Or.inl ⟨by rfl, fun W hW => ?_⟩) h2 ?_
      rotate_left
      · clear hW
        go_simp
        try with_reducible rfl
      simp only [Act.put, List.getElem_toArray, List.getElem_cons_zero, List.getElem_cons_succ, List.setIfInBounds_toArray, List.set_cons_zero, List.set_cons_succ]
      refine wpAnyH_done (by kernel_rfl) ?_ _
      have P4 : Hid (PV w V (zjz s k nm n x0 x1 x2 x3 x4 x5 x6 x7 p a q r) wq2) := h2
      clear h2
      go_wp2_with (refine xxz P4.out.1 rfl rfl _ rfl rfl ?_)
      refine (CO.out _ P4.out.2).mono ?_
      rintro e w5 ⟨rfl, b5⟩
      have P5 : Hid (PV w V (zjz s k nm n x0 x1 x2 x3 x4 x5 x6 x7 p a q r) w5) := P4.out.later b5
      clear b5 P4
      go_wp2_with (refine zeXz P5.out.1 rfl rfl _ rfl rfl ?_)
      refine (CG.out _ P5.out.2).mono ?_
      rintro e w6 ⟨rfl, b6⟩
      have P6 : Hid (PV w V (zjz s k nm n x0 x1 x2 x3 x4 x5 x6 x7 p a q r) w6) := P5.out.later b6
      clear b6 P5
      go_wp2_with (refine zeXz P6.out.1 rfl rfl _ rfl rfl ?_)
      refine (CQ.out _ P6.out.2).mono ?_
      rintro e w7 ⟨rfl, b7⟩
      have P7 : Hid (PV w V (zjz s k nm n x0 x1 x2 x3 x4 x5 x6 x7 p a q r) w7) := P6.out.later b7
      clear b7 P6
      go_wp2
      go_ret
      exact ⟨rfl, P7.out.2⟩
    | true =>
      have hdp : ¬ z4z s = 0 := (vGz hok).1
      have h8 := zl2z s k n p nm a r q x0 x1 x2 x3 x4 x5 x6 x7 hok
      have HTP : Hid ((⟨(uTx ⟨s, ⟨k, nm, n, [x0, x1, x2, x3, x4, x5, x6, x7]⟩, p, a, q, r⟩).toArray⟩ : ByteArray) = ⟨(xCz s (hTx ⟨k, nm, n, [x0, x1, x2, x3, x4, x5, x6, x7]⟩) p).toArray⟩ ++ ⟨(xTz ⟨s, ⟨k, nm, n, [x0, x1, x2, x3, x4, x5, x6, x7]⟩, p, a, q, r⟩).toArray⟩) := zl1z s k n p nm a r q x0 x1 x2 x3 x4 x5 x6 x7 hok
      have HSZ : Hid ((⟨(uTx ⟨s, ⟨k, nm, n, [x0, x1, x2, x3, x4, x5, x6, x7]⟩, p, a, q, r⟩).toArray⟩ : ByteArray).size = (uTx ⟨s, ⟨k, nm, n, [x0, x1, x2, x3, x4, x5, x6, x7]⟩, p, a, q, r⟩).length) := yMz _
      have hbig2 : (uTx ⟨s, ⟨k, nm, n, [x0, x1, x2, x3, x4, x5, x6, x7]⟩, p, a, q, r⟩).length ≤ 8388608 := by
        have h1 := ziPz (k := k) (n := n) (nm := nm) (x0 := x0) (x1 := x1) (x2 := x2) (x3 := x3) (x4 := x4) (x5 := x5) (x6 := x6) (x7 := x7) s p hnm
        have h2 : (xTz ⟨s, ⟨k, nm, n, [x0, x1, x2, x3, x4, x5, x6, x7]⟩, p, a, q, r⟩).length ≤ 2097153 := by
          have ha : (toL a).length = a.size := by simp [toL]
          have hr : (toL r).length = r.size := by simp [toL]
          unfold xTz
          cases q <;> simp only [Bool.false_eq_true, if_false, if_true, List.length_append, List.length_cons] <;> omega
        unfold uTx
        rw [if_pos hok, List.length_append]
        show (xCz s (hTx ⟨k, nm, n, [x0, x1, x2, x3, x4, x5, x6, x7]⟩) p).length + _ ≤ _
        omega
      have CP : Hid (∀ W, Below w.heap.size w W → Calls Tryz.prog 18 #[.string ⟨(uTx ⟨s, ⟨k, nm, n, [x0, x1, x2, x3, x4, x5, x6, x7]⟩, p, a, q, r⟩).toArray⟩] W fun e w' => e = .returned (.tuple #[zgmz (yLz (uTx ⟨s, ⟨k, nm, n, [x0, x1, x2, x3, x4, x5, x6, x7]⟩, p, a, q, r⟩)).2, .int .i64 (yLz (uTx ⟨s, ⟨k, nm, n, [x0, x1, x2, x3, x4, x5, x6, x7]⟩, p, a, q, r⟩)).1]) ∧ Below W.heap.size W w') := fun W hb => by
        have h := HTA.out W hb
        exact ziUz ⟨(uTx ⟨s, ⟨k, nm, n, [x0, x1, x2, x3, x4, x5, x6, x7]⟩, p, a, q, r⟩).toArray⟩ W (by rw [yMz]; omega) h.2.2.2.1 h.1 h.2.2.1 h.2.1 h.2.2.2.2.1 h.2.2.2.2.2
      have CD : Hid (∀ W, Calls Tryz.prog 17 #[.int .i64 s] W fun e w' => e = .returned (.int .i64 (z4z s)) ∧ W = w') := fun W => jfz s W
      have hdb : (z4z s == 0) = false := beq_eq_false_iff_ne.2 hdp
      generalize z4z s = dp at CD hdb hdp
      rw [hok] at CO CS CG CQ
      simp only [if_true] at CG CQ
      by_cases hfit : (uTx ⟨s, ⟨k, nm, n, [x0, x1, x2, x3, x4, x5, x6, x7]⟩, p, a, q, r⟩).length ≤ 2000
      · obtain ⟨hp0, hv0, hr0⟩ := znJz (vGz hok).2.1
        obtain ⟨hbk1, _⟩ := zqFz hok hp0 hv0 hr0 hfit
        have CP2 : Hid (∀ W, Below w.heap.size w W → Calls Tryz.prog 18 #[.string ⟨(uTx ⟨s, ⟨k, nm, n, [x0, x1, x2, x3, x4, x5, x6, x7]⟩, p, a, q, r⟩).toArray⟩] W fun e w' => e = .returned (.tuple #[.agg (zjz s k nm n x0 x1 x2 x3 x4 x5 x6 x7 p a q r).toArray, .int .i64 0]) ∧ Below W.heap.size W w') := fun W hb => by
          have h := CP.out W hb
          rw [hbk1] at h
          exact h
        rw [← HSZ.out] at h8 hfit
        rw [HTP.out] at CT CP2 h8 hfit
        generalize (⟨(xCz s (hTx ⟨k, nm, n, [x0, x1, x2, x3, x4, x5, x6, x7]⟩) p).toArray⟩ : ByteArray) = OG at CT CP2 CG h8 hfit
        generalize (⟨(xTz ⟨s, ⟨k, nm, n, [x0, x1, x2, x3, x4, x5, x6, x7]⟩, p, a, q, r⟩).toArray⟩ : ByteArray) = PQ_ at CT CP2 CQ h8 hfit
        rw [ByteArray.size_append] at h8 hfit
        have hsum : ¬ 9223372036854775807 < OG.size + PQ_.size := by omega
        have h8i : ¬ (OG.size : Int) + (PQ_.size : Int) < 8 := by omega
        have h8d : decide ((OG.size : Int) + (PQ_.size : Int) < 8) = false := decide_eq_false h8i
        have hfi : ¬ 2000 < (OG.size : Int) + (PQ_.size : Int) := by omega
        clear CP HTP HSZ hbig2 hbk1 hp0 hv0 hr0 hfit h8 hdp
        have hz1 : w.heap.size ≤ w1.heap.size := hb1.size
        have B1a : Hid (Below w.heap.size w (w1.alloc (.cells #[.int .i64 0, .int .i64 0, .string ⟨#[]⟩, .int .i64 0, .int .i64 0, .int .i64 0, .int .i64 0, .int .i64 0, .int .i64 0, .int .i64 0, .int .i64 0, .int .i64 0, .int .i64 0, .string ⟨#[]⟩, .bool false, .string ⟨#[]⟩] 28))) := hb1.alloc hb1.size _
        go_upto_region 4 with (refine y0z (UAt.new w1 _ _) rfl (us := (zjz s k nm n x0 x1 x2 x3 x4 x5 x6 x7 p a q r)) rfl (zQz ..) rfl _ _ rfl rfl rfl ?_; intro w2 HUh HMh)
        have B2 : Hid (Below w.heap.size w w2) := HMh.2 _ _ hz1 B1a.out
        have HV2 : Hid (UAt w2 w1.heap.size (zjz s k nm n x0 x1 x2 x3 x4 x5 x6 x7 p a q r)) := HUh
        clear HUh HMh B1a hz1 hb1
        generalize w1.heap.size = V at HV2 ⊢
        have P2 : Hid (PV w V (zjz s k nm n x0 x1 x2 x3 x4 x5 x6 x7 p a q r) w2) := ⟨HV2.out, B2.out⟩
        clear HV2 B2
        go_wp2_with (refine xxz P2.out.1 rfl rfl _ rfl rfl ?_)
        refine (CT.out _ P2.out.2).mono ?_
        rintro e w3 ⟨rfl, b3⟩
        have P3 : Hid (PV w V (zjz s k nm n x0 x1 x2 x3 x4 x5 x6 x7 p a q r) w3) := P2.out.later b3
        clear b3 P2 CT
        go_upto_region 5 with fail
        refine wp_region_held_drew (S := PV w V (zjz s k nm n x0 x1 x2 x3 x4 x5 x6 x7 p a q r)) (by kernel_rfl) P3.out.drew (fun h0 => ?_)
        clear P3
        refine wpAnyH_take (i := 0) (v := .agg (zjz s k nm n x0 x1 x2 x3 x4 x5 x6 x7 p a q r).toArray) rfl (by kernel_rfl) (by kernel_rfl) (by kernel_rfl) (fun _ _ _ h => h) (yieldsIf_load_mid (by rfl) _ _ rfl V 0 rfl (zjz s k nm n x0 x1 x2 x3 x4 x5 x6 x7 p a q r) _ (fun W hW => hW.1.range 0 _ (fun j v hv => by rw [Nat.zero_add]; exact hv)) Tryz.underlying28 rfl Tryz.infoUrl) h0 ?_
        simp only [Act.put, List.getElem_toArray, List.getElem_cons_zero, List.setIfInBounds_toArray, List.set_cons_zero, List.set_cons_succ]
        refine wpAnyH_take (i := 2) (v := .agg (zjz s k nm n x0 x1 x2 x3 x4 x5 x6 x7 p a q r).toArray) rfl (by kernel_rfl) (by kernel_rfl) (by kernel_rfl) (fun _ _ _ h => h) (yieldsIf_load_mid (by rfl) _ _ rfl V 0 rfl (zjz s k nm n x0 x1 x2 x3 x4 x5 x6 x7 p a q r) _ (fun W hW => hW.1.range 0 _ (fun j v hv => by rw [Nat.zero_add]; exact hv)) Tryz.underlying28 rfl Tryz.infoUrl) h0 ?_
        simp only [Act.put, List.getElem_toArray, List.getElem_cons_zero, List.getElem_cons_succ, List.setIfInBounds_toArray, List.set_cons_zero, List.set_cons_succ]
        refine wpAnyH_ready (rs := [1]) (by kernel_rfl) (by simp) (AllReadyH.cons rfl (fun K hK => ?_) AllReadyH.nil)
        go_simp
        go_wp2_with (go_at_call 13; refine (CO.out _ h0.2).mono ?_; rintro e wq1 ⟨rfl, hb1⟩)
        refine hK.out _ _ (PV.later h0 hb1) (fun h1 => ?_)
        clear hK K
        clear h0
        refine wpAnyH_ready (rs := [3]) (by kernel_rfl) (by simp) (AllReadyH.cons rfl (fun K hK => ?_) AllReadyH.nil)
        go_simp
        go_wp2_with (go_at_call 14; refine (CS.out _).mono ?_; rintro e wq2 ⟨rfl, hb2⟩)
        refine hK.out _ _ (PV.later h1 hb2) (fun h2 => ?_)
        clear hK K
        clear h1 hb1 hb2
        refine wpAnyH_take (i := 4) (v := ?_) rfl (by kernel_rfl) (by kernel_rfl) (by kernel_rfl) (fun _ _ _ h => h) (Or.inl ⟨by rfl, fun W hW => ?_⟩) h2 ?_
        rotate_left
        · clear hW
          go_simp
          try with_reducible rfl
        simp only [Act.put, List.getElem_toArray, List.getElem_cons_zero, List.getElem_cons_succ, List.setIfInBounds_toArray, List.set_cons_zero, List.set_cons_succ]
        refine wpAnyH_done (by kernel_rfl) ?_ _
        have P4 : Hid (PV w V (zjz s k nm n x0 x1 x2 x3 x4 x5 x6 x7 p a q r) wq2) := h2
        clear h2
        go_wp2_with (refine xxz P4.out.1 rfl rfl _ rfl rfl ?_)
        refine (CO.out _ P4.out.2).mono ?_
        rintro e w5 ⟨rfl, b5⟩
        have P5 : Hid (PV w V (zjz s k nm n x0 x1 x2 x3 x4 x5 x6 x7 p a q r) w5) := P4.out.later b5
        clear b5 P4
        go_upto_region 9 with fail
        refine wp_region_held_drew (S := PV w V (zjz s k nm n x0 x1 x2 x3 x4 x5 x6 x7 p a q r)) (by kernel_rfl) P5.out.drew (fun h0 => ?_)
        clear P5
        refine wpAnyH_take (i := 0) (v := ?_) rfl (by kernel_rfl) (by kernel_rfl) (by kernel_rfl) (fun _ _ _ h => h) (Or.inl ⟨by rfl, fun W hW => ?_⟩) h0 ?_
        rotate_left
        · clear hW
          go_simp
          try with_reducible rfl
        simp only [Act.put, List.getElem_toArray, List.getElem_cons_zero, List.setIfInBounds_toArray, List.set_cons_zero, List.set_cons_succ]
        refine wpAnyH_take (i := 1) (v := .agg (zjz s k nm n x0 x1 x2 x3 x4 x5 x6 x7 p a q r).toArray) rfl (by kernel_rfl) (by kernel_rfl) (by kernel_rfl) (fun _ _ _ h => h) (yieldsIf_load_mid (by rfl) _ _ rfl V 0 rfl (zjz s k nm n x0 x1 x2 x3 x4 x5 x6 x7 p a q r) _ (fun W hW => hW.1.range 0 _ (fun j v hv => by rw [Nat.zero_add]; exact hv)) Tryz.underlying28 rfl Tryz.infoUrl) h0 ?_
        simp only [Act.put, List.getElem_toArray, List.getElem_cons_zero, List.getElem_cons_succ, List.setIfInBounds_toArray, List.set_cons_zero, List.set_cons_succ]
        refine wpAnyH_take (i := 3) (v := .agg (zjz s k nm n x0 x1 x2 x3 x4 x5 x6 x7 p a q r).toArray) rfl (by kernel_rfl) (by kernel_rfl) (by kernel_rfl) (fun _ _ _ h => h) (yieldsIf_load_mid (by rfl) _ _ rfl V 0 rfl (zjz s k nm n x0 x1 x2 x3 x4 x5 x6 x7 p a q r) _ (fun W hW => hW.1.range 0 _ (fun j v hv => by rw [Nat.zero_add]; exact hv)) Tryz.underlying28 rfl Tryz.infoUrl) h0 ?_
        simp only [Act.put, List.getElem_toArray, List.getElem_cons_zero, List.getElem_cons_succ, List.setIfInBounds_toArray, List.set_cons_zero, List.set_cons_succ]
        refine wpAnyH_ready (rs := [2]) (by kernel_rfl) (by simp) (AllReadyH.cons rfl (fun K hK => ?_) AllReadyH.nil)
        go_simp
        go_wp2_with (go_at_call 15; refine (CG.out _ h0.2).mono ?_; rintro e wr1 ⟨rfl, hb1⟩)
        refine hK.out _ _ (PV.later h0 hb1) (fun h1 => ?_)
        clear hK K
        clear h0
        refine wpAnyH_ready (rs := [4]) (by kernel_rfl) (by simp) (AllReadyH.cons rfl (fun K hK => ?_) AllReadyH.nil)
        go_simp
        go_wp2_with (go_at_call 16; refine (CQ.out _ h1.2).mono ?_; rintro e wr2 ⟨rfl, hb2⟩)
        refine hK.out _ _ (PV.later h1 hb2) (fun h2 => ?_)
        clear hK K
        clear h1 hb1 hb2
        refine wpAnyH_take (i := 5) (v := ?_) rfl (by kernel_rfl) (by kernel_rfl) (by kernel_rfl) (fun _ _ _ h => h) (Or.inl ⟨by rfl, fun W hW => ?_⟩) h2 ?_
        rotate_left
        · clear hW
          go_simp
          try with_reducible rfl
        simp only [Act.put, List.getElem_toArray, List.getElem_cons_zero, List.getElem_cons_succ, List.setIfInBounds_toArray, List.set_cons_zero, List.set_cons_succ]
        refine wpAnyH_take (i := 6) (v := ?_) rfl (by kernel_rfl) (by kernel_rfl) (by kernel_rfl) (fun _ _ _ h => h) (Or.inl ⟨by rfl, fun W hW => ?_⟩) h2 ?_
        rotate_left
        · clear hW
          go_simp
          try with_reducible rfl
        simp only [Act.put, List.getElem_toArray, List.getElem_cons_zero, List.getElem_cons_succ, List.setIfInBounds_toArray, List.set_cons_zero, List.set_cons_succ]
        refine wpAnyH_take (i := 7) (v := ?_) rfl (by kernel_rfl) (by kernel_rfl) (by kernel_rfl) (fun _ _ _ h => h) (Or.inl ⟨by rfl, fun W hW => ?_⟩) h2 ?_
        rotate_left
        · clear hW
          go_simp
          try with_reducible rfl
        simp only [Act.put, List.getElem_toArray, List.getElem_cons_zero, List.getElem_cons_succ, List.setIfInBounds_toArray, List.set_cons_zero, List.set_cons_succ]
        refine wpAnyH_take (i := 8) (v := ?_) rfl (by kernel_rfl) (by kernel_rfl) (by kernel_rfl) (fun _ _ _ h => h) (Or.inl ⟨by rfl, fun W hW => ?_⟩) h2 ?_
        rotate_left
        · clear hW
          go_simp
          try with_reducible rfl
        simp only [Act.put, List.getElem_toArray, List.getElem_cons_zero, List.getElem_cons_succ, List.setIfInBounds_toArray, List.set_cons_zero, List.set_cons_succ]
        refine wpAnyH_take (i := 9) (v := ?_) rfl (by kernel_rfl) (by kernel_rfl) (by kernel_rfl) (fun _ _ _ h => h) (Or.inl ⟨by rfl, fun W hW => ?_⟩) h2 ?_
        rotate_left
        · clear hW
          go_simp
          try with_reducible rfl
        simp only [Act.put, List.getElem_toArray, List.getElem_cons_zero, List.getElem_cons_succ, List.setIfInBounds_toArray, List.set_cons_zero, List.set_cons_succ]
        refine wpAnyH_take (i := 10) (v := ?_) rfl (by kernel_rfl) (by kernel_rfl) (by kernel_rfl) (fun _ _ _ h => h) (Or.inl ⟨by rfl, fun W hW => ?_⟩) h2 ?_
        rotate_left
        · clear hW
          go_simp
          try with_reducible rfl
        simp only [Act.put, List.getElem_toArray, List.getElem_cons_zero, List.getElem_cons_succ, List.setIfInBounds_toArray, List.set_cons_zero, List.set_cons_succ]
        refine wpAnyH_take (i := 11) (v := ?_) rfl (by kernel_rfl) (by kernel_rfl) (by kernel_rfl) (fun _ _ _ h => h) (Or.inl ⟨by rfl, fun W hW => ?_⟩) h2 ?_
        rotate_left
        · clear hW
          go_simp
          try with_reducible rfl
        simp only [Act.put, List.getElem_toArray, List.getElem_cons_zero, List.getElem_cons_succ, List.setIfInBounds_toArray, List.set_cons_zero, List.set_cons_succ]
        refine wpAnyH_take (i := 12) (v := ?_) rfl (by kernel_rfl) (by kernel_rfl) (by kernel_rfl) (fun _ _ _ h => h) (Or.inl ⟨by rfl, fun W hW => ?_⟩) h2 ?_
        rotate_left
        · clear hW
          go_simp
          try with_reducible rfl
        simp only [Act.put, List.getElem_toArray, List.getElem_cons_zero, List.getElem_cons_succ, List.setIfInBounds_toArray, List.set_cons_zero, List.set_cons_succ]
        refine wpAnyH_take (i := 13) (v := ?_) rfl (by kernel_rfl) (by kernel_rfl) (by kernel_rfl) (fun _ _ _ h => h) (Or.inl ⟨by rfl, fun W hW => ?_⟩) h2 ?_
        rotate_left
        · clear hW
          go_simp
          try with_reducible rfl
        simp only [Act.put, List.getElem_toArray, List.getElem_cons_zero, List.getElem_cons_succ, List.setIfInBounds_toArray, List.set_cons_zero, List.set_cons_succ]
        refine wpAnyH_take (i := 14) (v := ?_) rfl (by kernel_rfl) (by kernel_rfl) (by kernel_rfl) (fun _ _ _ h => h) (Or.inl ⟨by rfl, fun W hW => ?_⟩) h2 ?_
        rotate_left
        · have c := hW.1.1 0 _ rfl
          go_simp
          try with_reducible rfl
        simp only [Act.put, List.getElem_toArray, List.getElem_cons_zero, List.getElem_cons_succ, List.setIfInBounds_toArray, List.set_cons_zero, List.set_cons_succ]
        refine wpAnyH_ready (rs := [15]) (by kernel_rfl) (by simp) (AllReadyH.cons rfl (fun K hK => ?_) AllReadyH.nil)
        go_simp
        go_wp2_with (go_at_call 17; refine (CD.out _).mono ?_; rintro e wr3 ⟨rfl, rfl⟩)
        refine hK.out _ _ h2 (fun h3 => ?_)
        clear hK K h3
        refine wpAnyH_take (i := 16) (v := ?_) rfl (by kernel_rfl) (by kernel_rfl) (by kernel_rfl) (fun _ _ _ h => h) (Or.inl ⟨by rfl, fun W hW => ?_⟩) h2 ?_
        rotate_left
        · clear hW
          go_simp
          try with_reducible rfl
        simp only [Act.put, List.getElem_toArray, List.getElem_cons_zero, List.getElem_cons_succ, List.setIfInBounds_toArray, List.set_cons_zero, List.set_cons_succ]
        refine wpAnyH_take (i := 17) (v := ?_) rfl (by kernel_rfl) (by kernel_rfl) (by kernel_rfl) (fun _ _ _ h => h) (Or.inl ⟨by rfl, fun W hW => ?_⟩) h2 ?_
        rotate_left
        · clear hW
          go_simp
          try with_reducible rfl
        simp only [Act.put, List.getElem_toArray, List.getElem_cons_zero, List.getElem_cons_succ, List.setIfInBounds_toArray, List.set_cons_zero, List.set_cons_succ]
        refine wpAnyH_done (by kernel_rfl) ?_ _
        have P6 : Hid (PV w V (zjz s k nm n x0 x1 x2 x3 x4 x5 x6 x7 p a q r) wr2) := h2
        clear h2 CG CQ CD
        go_wp2_with fail
        refine (CP2.out _ P6.out.2).mono ?_
        rintro e w8 ⟨rfl, b8⟩
        have P8 : Hid (PV w V (zjz s k nm n x0 x1 x2 x3 x4 x5 x6 x7 p a q r) w8) := P6.out.later b8
        clear b8 P6
        have heq : ∀ W, (Op.equalIn 10000 28 (.agg (zjz s k nm n x0 x1 x2 x3 x4 x5 x6 x7 p a q r).toArray) (.agg (zjz s k nm n x0 x1 x2 x3 x4 x5 x6 x7 p a q r).toArray)).run Tryz.prog W = .ok true W := eqU s k n p nm a r q x0 x1 x2 x3 x4 x5 x6 x7
        have hb8 : Below w.heap.size w w8 := P8.out.2
        have HV8 : Hid (UAt (w8.alloc (.cells #[.int .i64 0, .int .i64 0, .string ⟨#[]⟩, .int .i64 0, .int .i64 0, .int .i64 0, .int .i64 0, .int .i64 0, .int .i64 0, .int .i64 0, .int .i64 0, .int .i64 0, .int .i64 0, .string ⟨#[]⟩, .bool false, .string ⟨#[]⟩] 28)) V (zjz s k nm n x0 x1 x2 x3 x4 x5 x6 x7 p a q r)) := P8.out.1.below ((Below.refl _ _).alloc (Nat.le_refl _) _)
        have hlt : V < w8.heap.size := P8.out.1.2.2
        have hz1 : w.heap.size ≤ w8.heap.size := hb8.size
        have B8a : Hid (Below w.heap.size w (w8.alloc (.cells #[.int .i64 0, .int .i64 0, .string ⟨#[]⟩, .int .i64 0, .int .i64 0, .int .i64 0, .int .i64 0, .int .i64 0, .int .i64 0, .int .i64 0, .int .i64 0, .int .i64 0, .int .i64 0, .string ⟨#[]⟩, .bool false, .string ⟨#[]⟩] 28))) := hb8.alloc hb8.size _
        go_upto_region 12 with (refine y0z (UAt.new w8 _ _) rfl (us := (zjz s k nm n x0 x1 x2 x3 x4 x5 x6 x7 p a q r)) rfl (zQz ..) rfl _ _ rfl rfl rfl ?_; intro w9 HUh HMh)
        have B9 : Hid (Below w.heap.size w w9) := HMh.2 _ _ hz1 B8a.out
        have HX9 : Hid (UAt w9 w8.heap.size (zjz s k nm n x0 x1 x2 x3 x4 x5 x6 x7 p a q r)) := HUh
        have HV9 : Hid (UAt w9 V (zjz s k nm n x0 x1 x2 x3 x4 x5 x6 x7 p a q r)) := HMh.1 _ _ (by omega) HV8.out
        clear HUh HMh B8a hz1 hb8 HV8 hlt P8
        generalize w8.heap.size = V2 at HX9 ⊢
        go_wp2_with (first | (refine zeXz HX9.out rfl rfl _ rfl rfl ?_) | (refine zeXz HV9.out rfl rfl _ rfl rfl ?_))
        go_ret
        exact ⟨rfl, B9.out⟩
      · have CP2 : Hid (∀ W, Below w.heap.size w W → Calls Tryz.prog 18 #[.string ⟨(uTx ⟨s, ⟨k, nm, n, [x0, x1, x2, x3, x4, x5, x6, x7]⟩, p, a, q, r⟩).toArray⟩] W fun e w' => e = .returned (.tuple #[.agg zZz.toArray, .int .i64 1]) ∧ Below W.heap.size W w') := fun W hb => by
          have h := CP.out W hb
          rw [show yLz (uTx ⟨s, ⟨k, nm, n, [x0, x1, x2, x3, x4, x5, x6, x7]⟩, p, a, q, r⟩) = (1, vlz) from by unfold yLz; rw [if_pos (by omega)]] at h
          exact h
        rw [← HSZ.out] at h8 hfit hbig2
        rw [HTP.out] at CT CP2 h8 hfit hbig2
        generalize (⟨(xCz s (hTx ⟨k, nm, n, [x0, x1, x2, x3, x4, x5, x6, x7]⟩) p).toArray⟩ : ByteArray) = OG at CT CP2 CG h8 hfit hbig2
        generalize (⟨(xTz ⟨s, ⟨k, nm, n, [x0, x1, x2, x3, x4, x5, x6, x7]⟩, p, a, q, r⟩).toArray⟩ : ByteArray) = PQ_ at CT CP2 CQ h8 hfit hbig2
        rw [ByteArray.size_append] at h8 hfit hbig2
        have hsum : ¬ 9223372036854775807 < OG.size + PQ_.size := by omega
        have h8i : ¬ (OG.size : Int) + (PQ_.size : Int) < 8 := by omega
        have h8d : decide ((OG.size : Int) + (PQ_.size : Int) < 8) = false := decide_eq_false h8i
        have hfi : 2000 < (OG.size : Int) + (PQ_.size : Int) := by omega
        clear CP HTP HSZ hbig2 hfit h8 hdp
        have hz1 : w.heap.size ≤ w1.heap.size := hb1.size
        have B1a : Hid (Below w.heap.size w (w1.alloc (.cells #[.int .i64 0, .int .i64 0, .string ⟨#[]⟩, .int .i64 0, .int .i64 0, .int .i64 0, .int .i64 0, .int .i64 0, .int .i64 0, .int .i64 0, .int .i64 0, .int .i64 0, .int .i64 0, .string ⟨#[]⟩, .bool false, .string ⟨#[]⟩] 28))) := hb1.alloc hb1.size _
        go_upto_region 4 with (refine y0z (UAt.new w1 _ _) rfl (us := (zjz s k nm n x0 x1 x2 x3 x4 x5 x6 x7 p a q r)) rfl (zQz ..) rfl _ _ rfl rfl rfl ?_; intro w2 HUh HMh)
        have B2 : Hid (Below w.heap.size w w2) := HMh.2 _ _ hz1 B1a.out
        have HV2 : Hid (UAt w2 w1.heap.size (zjz s k nm n x0 x1 x2 x3 x4 x5 x6 x7 p a q r)) := HUh
        clear HUh HMh B1a hz1 hb1
        generalize w1.heap.size = V at HV2 ⊢
        have P2 : Hid (PV w V (zjz s k nm n x0 x1 x2 x3 x4 x5 x6 x7 p a q r) w2) := ⟨HV2.out, B2.out⟩
        clear HV2 B2
        go_wp2_with (refine xxz P2.out.1 rfl rfl _ rfl rfl ?_)
        refine (CT.out _ P2.out.2).mono ?_
        rintro e w3 ⟨rfl, b3⟩
        have P3 : Hid (PV w V (zjz s k nm n x0 x1 x2 x3 x4 x5 x6 x7 p a q r) w3) := P2.out.later b3
        clear b3 P2 CT
        go_upto_region 5 with fail
        refine wp_region_held_drew (S := PV w V (zjz s k nm n x0 x1 x2 x3 x4 x5 x6 x7 p a q r)) (by kernel_rfl) P3.out.drew (fun h0 => ?_)
        clear P3
        refine wpAnyH_take (i := 0) (v := .agg (zjz s k nm n x0 x1 x2 x3 x4 x5 x6 x7 p a q r).toArray) rfl (by kernel_rfl) (by kernel_rfl) (by kernel_rfl) (fun _ _ _ h => h) (yieldsIf_load_mid (by rfl) _ _ rfl V 0 rfl (zjz s k nm n x0 x1 x2 x3 x4 x5 x6 x7 p a q r) _ (fun W hW => hW.1.range 0 _ (fun j v hv => by rw [Nat.zero_add]; exact hv)) Tryz.underlying28 rfl Tryz.infoUrl) h0 ?_
        simp only [Act.put, List.getElem_toArray, List.getElem_cons_zero, List.setIfInBounds_toArray, List.set_cons_zero, List.set_cons_succ]
        refine wpAnyH_take (i := 2) (v := .agg (zjz s k nm n x0 x1 x2 x3 x4 x5 x6 x7 p a q r).toArray) rfl (by kernel_rfl) (by kernel_rfl) (by kernel_rfl) (fun _ _ _ h => h) (yieldsIf_load_mid (by rfl) _ _ rfl V 0 rfl (zjz s k nm n x0 x1 x2 x3 x4 x5 x6 x7 p a q r) _ (fun W hW => hW.1.range 0 _ (fun j v hv => by rw [Nat.zero_add]; exact hv)) Tryz.underlying28 rfl Tryz.infoUrl) h0 ?_
        simp only [Act.put, List.getElem_toArray, List.getElem_cons_zero, List.getElem_cons_succ, List.setIfInBounds_toArray, List.set_cons_zero, List.set_cons_succ]
        refine wpAnyH_ready (rs := [1]) (by kernel_rfl) (by simp) (AllReadyH.cons rfl (fun K hK => ?_) AllReadyH.nil)
        go_simp
        go_wp2_with (go_at_call 13; refine (CO.out _ h0.2).mono ?_; rintro e wq1 ⟨rfl, hb1⟩)
        refine hK.out _ _ (PV.later h0 hb1) (fun h1 => ?_)
        clear hK K
        clear h0
        refine wpAnyH_ready (rs := [3]) (by kernel_rfl) (by simp) (AllReadyH.cons rfl (fun K hK => ?_) AllReadyH.nil)
        go_simp
        go_wp2_with (go_at_call 14; refine (CS.out _).mono ?_; rintro e wq2 ⟨rfl, hb2⟩)
        refine hK.out _ _ (PV.later h1 hb2) (fun h2 => ?_)
        clear hK K
        clear h1 hb1 hb2
        refine wpAnyH_take (i := 4) (v := ?_) rfl (by kernel_rfl) (by kernel_rfl) (by kernel_rfl) (fun _ _ _ h => h) (Or.inl ⟨by rfl, fun W hW => ?_⟩) h2 ?_
        rotate_left
        · clear hW
          go_simp
          try with_reducible rfl
        simp only [Act.put, List.getElem_toArray, List.getElem_cons_zero, List.getElem_cons_succ, List.setIfInBounds_toArray, List.set_cons_zero, List.set_cons_succ]
        refine wpAnyH_done (by kernel_rfl) ?_ _
        have P4 : Hid (PV w V (zjz s k nm n x0 x1 x2 x3 x4 x5 x6 x7 p a q r) wq2) := h2
        clear h2
        go_wp2_with (refine xxz P4.out.1 rfl rfl _ rfl rfl ?_)
        refine (CO.out _ P4.out.2).mono ?_
        rintro e w5 ⟨rfl, b5⟩
        have P5 : Hid (PV w V (zjz s k nm n x0 x1 x2 x3 x4 x5 x6 x7 p a q r) w5) := P4.out.later b5
        clear b5 P4
        go_upto_region 9 with fail
        refine wp_region_held_drew (S := PV w V (zjz s k nm n x0 x1 x2 x3 x4 x5 x6 x7 p a q r)) (by kernel_rfl) P5.out.drew (fun h0 => ?_)
        clear P5
        refine wpAnyH_take (i := 0) (v := ?_) rfl (by kernel_rfl) (by kernel_rfl) (by kernel_rfl) (fun _ _ _ h => h) (Or.inl ⟨by rfl, fun W hW => ?_⟩) h0 ?_
        rotate_left
        · clear hW
          go_simp
          try with_reducible rfl
        simp only [Act.put, List.getElem_toArray, List.getElem_cons_zero, List.setIfInBounds_toArray, List.set_cons_zero, List.set_cons_succ]
        refine wpAnyH_take (i := 1) (v := .agg (zjz s k nm n x0 x1 x2 x3 x4 x5 x6 x7 p a q r).toArray) rfl (by kernel_rfl) (by kernel_rfl) (by kernel_rfl) (fun _ _ _ h => h) (yieldsIf_load_mid (by rfl) _ _ rfl V 0 rfl (zjz s k nm n x0 x1 x2 x3 x4 x5 x6 x7 p a q r) _ (fun W hW => hW.1.range 0 _ (fun j v hv => by rw [Nat.zero_add]; exact hv)) Tryz.underlying28 rfl Tryz.infoUrl) h0 ?_
        simp only [Act.put, List.getElem_toArray, List.getElem_cons_zero, List.getElem_cons_succ, List.setIfInBounds_toArray, List.set_cons_zero, List.set_cons_succ]
        refine wpAnyH_take (i := 3) (v := .agg (zjz s k nm n x0 x1 x2 x3 x4 x5 x6 x7 p a q r).toArray) rfl (by kernel_rfl) (by kernel_rfl) (by kernel_rfl) (fun _ _ _ h => h) (yieldsIf_load_mid (by rfl) _ _ rfl V 0 rfl (zjz s k nm n x0 x1 x2 x3 x4 x5 x6 x7 p a q r) _ (fun W hW => hW.1.range 0 _ (fun j v hv => by rw [Nat.zero_add]; exact hv)) Tryz.underlying28 rfl Tryz.infoUrl) h0 ?_
        simp only [Act.put, List.getElem_toArray, List.getElem_cons_zero, List.getElem_cons_succ, List.setIfInBounds_toArray, List.set_cons_zero, List.set_cons_succ]
        refine wpAnyH_ready (rs := [2]) (by kernel_rfl) (by simp) (AllReadyH.cons rfl (fun K hK => ?_) AllReadyH.nil)
        go_simp
        go_wp2_with (go_at_call 15; refine (CG.out _ h0.2).mono ?_; rintro e wr1 ⟨rfl, hb1⟩)
        refine hK.out _ _ (PV.later h0 hb1) (fun h1 => ?_)
        clear hK K
        clear h0
        refine wpAnyH_ready (rs := [4]) (by kernel_rfl) (by simp) (AllReadyH.cons rfl (fun K hK => ?_) AllReadyH.nil)
        go_simp
        go_wp2_with (go_at_call 16; refine (CQ.out _ h1.2).mono ?_; rintro e wr2 ⟨rfl, hb2⟩)
        refine hK.out _ _ (PV.later h1 hb2) (fun h2 => ?_)
        clear hK K
        clear h1 hb1 hb2
        refine wpAnyH_take (i := 5) (v := ?_) rfl (by kernel_rfl) (by kernel_rfl) (by kernel_rfl) (fun _ _ _ h => h) (Or.inl ⟨by rfl, fun W hW => ?_⟩) h2 ?_
        rotate_left
        · clear hW
          go_simp
          try with_reducible rfl
        simp only [Act.put, List.getElem_toArray, List.getElem_cons_zero, List.getElem_cons_succ, List.setIfInBounds_toArray, List.set_cons_zero, List.set_cons_succ]
        refine wpAnyH_take (i := 6) (v := ?_) rfl (by kernel_rfl) (by kernel_rfl) (by kernel_rfl) (fun _ _ _ h => h) (Or.inl ⟨by rfl, fun W hW => ?_⟩) h2 ?_
        rotate_left
        · clear hW
          go_simp
          try with_reducible rfl
        simp only [Act.put, List.getElem_toArray, List.getElem_cons_zero, List.getElem_cons_succ, List.setIfInBounds_toArray, List.set_cons_zero, List.set_cons_succ]
        refine wpAnyH_take (i := 7) (v := ?_) rfl (by kernel_rfl) (by kernel_rfl) (by kernel_rfl) (fun _ _ _ h => h) (Or.inl ⟨by rfl, fun W hW => ?_⟩) h2 ?_
        rotate_left
        · clear hW
          go_simp
          try with_reducible rfl
        simp only [Act.put, List.getElem_toArray, List.getElem_cons_zero, List.getElem_cons_succ, List.setIfInBounds_toArray, List.set_cons_zero, List.set_cons_succ]
        refine wpAnyH_take (i := 8) (v := ?_) rfl (by kernel_rfl) (by kernel_rfl) (by kernel_rfl) (fun _ _ _ h => h) (Or.inl ⟨by rfl, fun W hW => ?_⟩) h2 ?_
        rotate_left
        · clear hW
          go_simp
          try with_reducible rfl
        simp only [Act.put, List.getElem_toArray, List.getElem_cons_zero, List.getElem_cons_succ, List.setIfInBounds_toArray, List.set_cons_zero, List.set_cons_succ]
        refine wpAnyH_take (i := 9) (v := ?_) rfl (by kernel_rfl) (by kernel_rfl) (by kernel_rfl) (fun _ _ _ h => h) (Or.inl ⟨by rfl, fun W hW => ?_⟩) h2 ?_
        rotate_left
        · clear hW
          go_simp
          try with_reducible rfl
        simp only [Act.put, List.getElem_toArray, List.getElem_cons_zero, List.getElem_cons_succ, List.setIfInBounds_toArray, List.set_cons_zero, List.set_cons_succ]
        refine wpAnyH_take (i := 10) (v := ?_) rfl (by kernel_rfl) (by kernel_rfl) (by kernel_rfl) (fun _ _ _ h => h) (Or.inl ⟨by rfl, fun W hW => ?_⟩) h2 ?_
        rotate_left
        · clear hW
          go_simp
          try with_reducible rfl
        simp only [Act.put, List.getElem_toArray, List.getElem_cons_zero, List.getElem_cons_succ, List.setIfInBounds_toArray, List.set_cons_zero, List.set_cons_succ]
        refine wpAnyH_take (i := 11) (v := ?_) rfl (by kernel_rfl) (by kernel_rfl) (by kernel_rfl) (fun _ _ _ h => h) (Or.inl ⟨by rfl, fun W hW => ?_⟩) h2 ?_
        rotate_left
        · clear hW
          go_simp
          try with_reducible rfl
        simp only [Act.put, List.getElem_toArray, List.getElem_cons_zero, List.getElem_cons_succ, List.setIfInBounds_toArray, List.set_cons_zero, List.set_cons_succ]
        refine wpAnyH_take (i := 12) (v := ?_) rfl (by kernel_rfl) (by kernel_rfl) (by kernel_rfl) (fun _ _ _ h => h) (Or.inl ⟨by rfl, fun W hW => ?_⟩) h2 ?_
        rotate_left
        · clear hW
          go_simp
          try with_reducible rfl
        simp only [Act.put, List.getElem_toArray, List.getElem_cons_zero, List.getElem_cons_succ, List.setIfInBounds_toArray, List.set_cons_zero, List.set_cons_succ]
        refine wpAnyH_take (i := 13) (v := ?_) rfl (by kernel_rfl) (by kernel_rfl) (by kernel_rfl) (fun _ _ _ h => h) (Or.inl ⟨by rfl, fun W hW => ?_⟩) h2 ?_
        rotate_left
        · clear hW
          go_simp
          try with_reducible rfl
        simp only [Act.put, List.getElem_toArray, List.getElem_cons_zero, List.getElem_cons_succ, List.setIfInBounds_toArray, List.set_cons_zero, List.set_cons_succ]
        refine wpAnyH_take (i := 14) (v := ?_) rfl (by kernel_rfl) (by kernel_rfl) (by kernel_rfl) (fun _ _ _ h => h) (Or.inl ⟨by rfl, fun W hW => ?_⟩) h2 ?_
        rotate_left
        · have c := hW.1.1 0 _ rfl
          go_simp
          try with_reducible rfl
        simp only [Act.put, List.getElem_toArray, List.getElem_cons_zero, List.getElem_cons_succ, List.setIfInBounds_toArray, List.set_cons_zero, List.set_cons_succ]
        refine wpAnyH_ready (rs := [15]) (by kernel_rfl) (by simp) (AllReadyH.cons rfl (fun K hK => ?_) AllReadyH.nil)
        go_simp
        go_wp2_with (go_at_call 17; refine (CD.out _).mono ?_; rintro e wr3 ⟨rfl, rfl⟩)
        refine hK.out _ _ h2 (fun h3 => ?_)
        clear hK K h3
        refine wpAnyH_take (i := 16) (v := ?_) rfl (by kernel_rfl) (by kernel_rfl) (by kernel_rfl) (fun _ _ _ h => h) (Or.inl ⟨by rfl, fun W hW => ?_⟩) h2 ?_
        rotate_left
        · clear hW
          go_simp
          try with_reducible rfl
        simp only [Act.put, List.getElem_toArray, List.getElem_cons_zero, List.getElem_cons_succ, List.setIfInBounds_toArray, List.set_cons_zero, List.set_cons_succ]
        refine wpAnyH_take (i := 17) (v := ?_) rfl (by kernel_rfl) (by kernel_rfl) (by kernel_rfl) (fun _ _ _ h => h) (Or.inl ⟨by rfl, fun W hW => ?_⟩) h2 ?_
        rotate_left
        · clear hW
          go_simp
          try with_reducible rfl
        simp only [Act.put, List.getElem_toArray, List.getElem_cons_zero, List.getElem_cons_succ, List.setIfInBounds_toArray, List.set_cons_zero, List.set_cons_succ]
        refine wpAnyH_done (by kernel_rfl) ?_ _
        have P6 : Hid (PV w V (zjz s k nm n x0 x1 x2 x3 x4 x5 x6 x7 p a q r) wr2) := h2
        clear h2 CG CQ CD
        go_wp2_with fail
        refine (CP2.out _ P6.out.2).mono ?_
        rintro e w8 ⟨rfl, b8⟩
        have P8 : Hid (PV w V (zjz s k nm n x0 x1 x2 x3 x4 x5 x6 x7 p a q r) w8) := P6.out.later b8
        clear b8 P6
        have hb8 : Below w.heap.size w w8 := P8.out.2
        have HV8 : Hid (UAt (w8.alloc (.cells #[.int .i64 0, .int .i64 0, .string ⟨#[]⟩, .int .i64 0, .int .i64 0, .int .i64 0, .int .i64 0, .int .i64 0, .int .i64 0, .int .i64 0, .int .i64 0, .int .i64 0, .int .i64 0, .string ⟨#[]⟩, .bool false, .string ⟨#[]⟩] 28)) V (zjz s k nm n x0 x1 x2 x3 x4 x5 x6 x7 p a q r)) := P8.out.1.below ((Below.refl _ _).alloc (Nat.le_refl _) _)
        have hlt : V < w8.heap.size := P8.out.1.2.2
        have hz1 : w.heap.size ≤ w8.heap.size := hb8.size
        have B8a : Hid (Below w.heap.size w (w8.alloc (.cells #[.int .i64 0, .int .i64 0, .string ⟨#[]⟩, .int .i64 0, .int .i64 0, .int .i64 0, .int .i64 0, .int .i64 0, .int .i64 0, .int .i64 0, .int .i64 0, .int .i64 0, .int .i64 0, .string ⟨#[]⟩, .bool false, .string ⟨#[]⟩] 28))) := hb8.alloc hb8.size _
        go_upto_region 12 with (refine y0z (UAt.new w8 _ _) rfl (us := zZz) rfl (zQz ..) rfl _ _ rfl rfl rfl ?_; intro w9 HUh HMh)
        have B9 : Hid (Below w.heap.size w w9) := HMh.2 _ _ hz1 B8a.out
        have HX9 : Hid (UAt w9 w8.heap.size zZz) := HUh
        have HV9 : Hid (UAt w9 V (zjz s k nm n x0 x1 x2 x3 x4 x5 x6 x7 p a q r)) := HMh.1 _ _ (by omega) HV8.out
        clear HUh HMh B8a hz1 hb8 HV8 hlt P8
        generalize w8.heap.size = V2 at HX9 ⊢
        go_wp2_with fail
        go_ret
        exact ⟨rfl, B9.out⟩

set_option maxRecDepth 100000 in
theorem zqXz (H : Type) (enc : TypeId × Value → H) (W : World) (base : Nat) (args : Array Value) (ds gs : List (DataW H)) (before : List MemPlace)
    (hval : ∀ (j : Nat) t v, Tryz.f3.params[j]? = some t → args[j]? = some v → Value.okWide Tryz.prog W .any base t v)
    (hW : DataW.Whole enc Tryz.prog Tryz.f3.params.toList Rows.fnUrlsSpec.vars false W args.toList ds gs before) (hL : laidMetH Tryz.prog vNz W) (hSh : W.ShapedOpen Tryz.prog) :
    Calls Tryz.prog 3 args W fun e W' => ∃ v, e = .returned v ∧ Rows.fnUrlsSpec.post enc Tryz.prog Tryz.f3 false true false false W args v W' := by
  have hW' := hW
  obtain ⟨p, q, hA0, hV, rfl, hfz, hnd⟩ := hW
  have hA : DataW.TrodAll enc Tryz.prog W 0 (fun _ => true) true Tryz.f3.params.toList args.toList ds p := hA0
  rw [Tryz.params3] at hA hval
  obtain ⟨v0, vs0, d0, ds0, p0, q0, hargs, rfl, rfl, h0, r0⟩ := trodAll_cons hA
  obtain ⟨rfl, rfl, rfl⟩ := trodAll_nil r0
  obtain rfl : args = #[v0] := by cases args; simp_all
  have hV2 : DataW.TrodVars enc Tryz.prog W (fun _ => true) ["loop.example/g00191/impl.keptMarks", "loop.example/g00191/impl.plainMarks"] gs q := hV
  obtain ⟨g1, g2, rfl⟩ := zoOz hV2
  obtain ⟨a0, len0, cap0, rfl⟩ := okWide_slice Tryz.underlying22 (hval 0 22 v0 rfl rfl)
  have k0 := h0
  have lt0 : ∀ x ∈ p0, x.block < W.heap.size := by obtain ⟨m, hm⟩ := k0; exact DataW.trod_lt m _ _ _ hm
  obtain ⟨z0, w0⟩ : ∃ zs, zsqz .u8 W a0 len0 cap0 zs := by
    obtain ⟨fuel, hf⟩ := h0
    rcases open_ints Tryz.underlying22 Tryz.underlying5 (by kernel_rfl) hf with ⟨hcs, _⟩ | ⟨x, l, c, zs, hcs, _, hl, hm, hz, _, hcell, hwz⟩
    · simp [Value.cells] at hcs
      obtain ⟨rfl, rfl, rfl⟩ := hcs
      exact ⟨[], .inl ⟨rfl, rfl, rfl, rfl⟩⟩
    · simp [Value.cells] at hcs
      obtain ⟨rfl, rfl, rfl⟩ := hcs
      exact ⟨zs, .inr ⟨_, rfl, hl, hm, by simpa using hz, hcell, hwz⟩⟩
  clear hA0
  refine (walk a0 len0 cap0 z0 W w0 (zrez hL) (zk3z hSh) (zrfz hL) (zoPz hL) (zniz hL) (zoSz hL)).mono fun e W' ⟨he, bel⟩ => ?_
  subst he
  exact ⟨_, rfl, _, _, _, [], _, _, hW', trodAll_mk1 (shut_bool Tryz.underlying4 _), (trodAll_cons_mk (Below.trod zcYz (by kernel_rfl) (of_decide_eq_true (by kernel_rfl)) k0 bel lt0) trodAll_mk0), bel.trodVars zcYz (by kernel_rfl) hV, bel.frame _, fun h => by cases h⟩

theorem zkUz(os:Os){H:Type}(enc:TypeId×Value→H):
    (OpenSpec.ofChange Rows.fnUrlsSpec).preRow enc Tryz.prog Tryz.f3 Rows.fnUrlsRow.domain false vNz (({World.holding Tryz.prog os ⟨#[],#[],[]⟩with heap:=zeIz (World.holding Tryz.prog os ⟨#[],#[],[]⟩).heap}:World).forCall (fun _ _=>0) ⟨#[],#[.slice none 0 0],[]⟩).memory #[.slice none 0 0]:=by
  have hw:(DataW.whole enc Tryz.prog (({World.holding Tryz.prog os ⟨#[],#[],[]⟩with heap:=zeIz (World.holding Tryz.prog os ⟨#[],#[],[]⟩).heap}:World).forCall (fun _ _=>0) ⟨#[],#[.slice none 0 0],[]⟩).memory Tryz.f3.params.toList Rows.fnUrlsSpec.vars false (#[.slice none 0 0]:Array Value).toList 8).map (fun x=>(x.1,x.2.1))=
      some ([.nil],[Rows.laid_loop_example_g00191_impl_keptMarks,Rows.laid_loop_example_g00191_impl_plainMarks]):=by kernel_rfl
  obtain ⟨⟨x1,x2,x3⟩,hx,hx1⟩:=Option.map_eq_some_iff.1 hw
  simp only[Prod.mk.injEq]at hx1
  obtain ⟨rfl,rfl⟩:=hx1
  exact OpenSpec.preRow_of_cond 8 hx (by kernel_rfl) (fun k hk=>by cases hk) (by kernel_rfl) (zrgz os _)

set_option maxRecDepth 100000 in
set_option maxHeartbeats 2000000 in
theorem ztez(os:Os)(started:os.Started)(H:Type)(enc:TypeId×Value→H)(F:Stop.Interp):
    ReturnsInHanded {} Tryz.checked os 3 .any ((OpenSpec.ofChange Rows.fnUrlsSpec).preRow enc Tryz.prog Tryz.f3 Rows.fnUrlsRow.domain false vNz) (((OpenSpec.ofChange Rows.fnUrlsSpec).at F).post enc Tryz.prog Tryz.f3 false true false false):=by
  refine returnsInHanded_of_row (C:=Tryz.checked) (s:=OpenSpec.ofChange Rows.fnUrlsSpec) zoNz started (by kernel_rfl) Tryz.func3
    (witness_row_atRef (enc:=enc) (C:=Tryz.checked) false ({World.holding Tryz.prog os ⟨#[],#[],[]⟩with heap:=zeIz (World.holding Tryz.prog os ⟨#[],#[],[]⟩).heap}) #[.slice none 0 0] rfl (by kernel_rfl) (by kernel_rfl) (by kernel_rfl) (zkUz os enc)) ?_
  intro W base args ds gs before hval hW _ _ _ hL hSh _
  exact zqXz H enc W base args ds gs before hval hW hL hSh

theorem zooz{a b:Bool}(h:a=true)(k:b=true):(a&&b)=true:=by rw[h,k];rfl
set_option maxRecDepth 100000 in
set_option maxHeartbeats 16000000 in
theorem said:Rows.FnUrlsSaid:=
  OpenClaim.holds_of_cond 3 Tryz.f3 rfl rfl rfl rfl rfl rfl rfl ⟨rfl,rfl,rfl,rfl,rfl⟩ rfl rfl rfl rfl rfl (by as_aux_lemma=>kernel_rfl) Tryz.func3
    (by unfold joinedFacts;repeat' (with_reducible refine zooz ?_ ?_)
        all_goals as_aux_lemma=>kernel_rfl)
    (by as_aux_lemma=>exact of_decide_eq_true (by kernel_rfl)) (by as_aux_lemma=>unfold Func.isWrapper;first|(rw[if_pos (by decide+kernel)];kernel_rfl)|(rw[if_neg (by decide+kernel)];exact ⟨rfl,rfl⟩))
    (fun os started H enc _ F=>by rw[OpenClaim.pre_eq_preRow];exact ztez os started H enc F)

theorem plain(f:FuncId)(fn:Func)(hf:Tryz.pinned.checked.prog.funcNamed "loop.example/g00191/laws.FnUrls" =some f)(hfn:Tryz.pinned.checked.prog.funcs[f]? =some fn):
    true=Tryz.pinned.checked.prog.looks []∧ ∀(j:Nat) t,fn.params[j]? =some t→Tryz.pinned.checked.prog.wantsStandIn t=false:=by
  obtain rfl:f=3:=Option.some.inj ((show Tryz.prog.funcNamed "loop.example/g00191/laws.FnUrls" =some 3 by kernel_rfl).symm.trans hf)|>.symm
  obtain rfl:fn=Tryz.f3:=(Option.some.inj (Tryz.func3.symm.trans hfn)).symm
  refine ⟨by kernel_rfl,fun j t ht=> ?_⟩
  rw[Tryz.params3]at ht
  obtain rfl:t=22:=by simpa using Array.mem_of_getElem? ht
  exact (show Tryz.prog.wantsStandIn 22=false by kernel_rfl)

theorem card:Rows.FnUrlsCardSaid:=
  Claim7.holds_tied_plain_at .later [] _ _ _ _ said (fun _ h=>by cases h) (by kernel_rfl) (fun _ h=>by cases h) fnUrls_row_tie rfl ⟨rfl,rfl⟩ (by kernel_rfl) rfl plain (by kernel_rfl)
end Go.Proofs.YtgcbaphbiaimoaaGreatDoor.fnUrls

namespace Go.Proofs.YtgcbaphbiaimoaaGreatDoor
theorem fnUrls_holds:Rows.FnUrlsCardSaid:=fnUrls.card
#print axioms fnUrls_holds
end Go.Proofs.YtgcbaphbiaimoaaGreatDoor
