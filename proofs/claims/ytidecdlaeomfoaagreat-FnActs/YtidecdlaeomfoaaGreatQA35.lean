/- UrlBack, ResText. -/
import Derived.Test.YtidecdlaeomfoaaGreatQA34
set_option maxHeartbeats 8000000
set_option maxRecDepth 100000
namespace Go.Proofs.YtidecdlaeomfoaaGreat
open Go.RowKit
theorem uOk_parts {u : UV} (h : uOk u = true) : dport u.s ≠ 0 ∧ hOk u.h = true ∧ (1 ≤ u.p ∧ u.p ≤ 65535) ∧ pathOk u.a ∧ (u.q = true ∨ u.r.size = 0) ∧ okL 2 (toL u.r) = true ∧ plL 2 (toL u.r) = toL u.r := by
 unfold uOk at h
 simp only [Bool.and_eq_true, Bool.or_eq_true, decide_eq_true_eq] at h
 obtain ⟨⟨⟨⟨⟨⟨⟨⟨⟨h1, h2⟩, h3⟩, h4⟩, h5⟩, h6⟩, h7⟩, h8⟩, h9⟩, h10⟩ := h
 exact ⟨h1, h2, h3, ⟨h4, h6, h7, toL_inj h8⟩, h5, h9, h10⟩
end Go.Proofs.YtidecdlaeomfoaaGreat
namespace Go.Proofs.YtidecdlaeomfoaaGreat
open Go.RowKit
set_option linter.unusedVariables false
set_option linter.unusedSimpArgs false
theorem text_two {s k n p : Int} {nm a r : ByteArray} {q : Bool} {x0 x1 x2 x3 x4 x5 x6 x7 : Int} (h : uOk ⟨s, ⟨k, nm, n, [x0, x1, x2, x3, x4, x5, x6, x7]⟩, p, a, q, r⟩ = true) :
  (⟨(orgF s (hTx ⟨k, nm, n, [x0, x1, x2, x3, x4, x5, x6, x7]⟩) p).toArray⟩ : ByteArray) ++ ⟨(restL a q r).toArray⟩ = ⟨(uTx ⟨s, ⟨k, nm, n, [x0, x1, x2, x3, x4, x5, x6, x7]⟩, p, a, q, r⟩).toArray⟩ := by
 rw [uTx_yes h]
 apply toL_inj
 show toL _ = orgL _ ++ rstL _
 rw [orgF_eq]
 unfold rstL restL
 simp [toL]
theorem rest_len (a r : ByteArray) (q : Bool) (ha : a.size ≤ 4194304) (hr : r.size ≤ 4194304) : (⟨(restL a q r).toArray⟩ : ByteArray).size ≤ 8388609 := by
 rw [size_mk]
 unfold restL
 have h1 : (toL a).length = a.size := by simp [toL]
 have h2 : (toL r).length = r.size := by simp [toL]
 split
 ·rw [List.length_append, List.length_cons]; omega
 omega
theorem specUrlText (s k n p : Int) (nm a r : ByteArray) (q : Bool) (x0 x1 x2 x3 x4 x5 x6 x7 : Int) (w : World) (hs : nm.size ≤ 1048576) (ha : a.size ≤ 4194304) (hr : r.size ≤ 4194304) :
  Calls Tryz.prog 42 #[.agg #[.int .i64 s, .int .i64 k, .string nm, .int .i64 n, .int .i64 x0, .int .i64 x1, .int .i64 x2, .int .i64 x3, .int .i64 x4, .int .i64 x5, .int .i64 x6, .int .i64 x7, .int .i64 p, .string a, .bool q, .string r]] w fun e w' => e = .returned (.string ⟨(uTx ⟨s, ⟨k, nm, n, [x0, x1, x2, x3, x4, x5, x6, x7]⟩, p, a, q, r⟩).toArray⟩) ∧ Below w.heap.size w w' := by
 have CO : Hid (∀ W, CB 55 #[.agg (uRow s k nm n x0 x1 x2 x3 x4 x5 x6 x7 p a q r).toArray] W (.bool (uOk ⟨s, ⟨k, nm, n, [x0, x1, x2, x3, x4, x5, x6, x7]⟩, p, a, q, r⟩))) := fun W => specUrlOk s k n p nm a r q x0 x1 x2 x3 x4 x5 x6 x7 W hs ha hr
 have CR : Hid (∀ W, CB 54 #[.agg #[.int .i64 s, .int .i64 k, .string nm, .int .i64 n, .int .i64 x0, .int .i64 x1, .int .i64 x2, .int .i64 x3, .int .i64 x4, .int .i64 x5, .int .i64 x6, .int .i64 x7, .int .i64 p, .string a, .bool q, .string r]] W (.string ⟨(restL a q r).toArray⟩)) := fun W => specRest s k n p nm a r q x0 x1 x2 x3 x4 x5 x6 x7 W ha hr
 have HN : Hid (uOk ⟨s, ⟨k, nm, n, [x0, x1, x2, x3, x4, x5, x6, x7]⟩, p, a, q, r⟩ = false → (⟨#[]⟩ : ByteArray) = ⟨(uTx ⟨s, ⟨k, nm, n, [x0, x1, x2, x3, x4, x5, x6, x7]⟩, p, a, q, r⟩).toArray⟩) := fun h => by rw [uTx_no h]
 have HY : Hid (uOk ⟨s, ⟨k, nm, n, [x0, x1, x2, x3, x4, x5, x6, x7]⟩, p, a, q, r⟩ = true → (⟨(orgF s (hTx ⟨k, nm, n, [x0, x1, x2, x3, x4, x5, x6, x7]⟩) p).toArray⟩ : ByteArray) ++ ⟨(restL a q r).toArray⟩ = ⟨(uTx ⟨s, ⟨k, nm, n, [x0, x1, x2, x3, x4, x5, x6, x7]⟩, p, a, q, r⟩).toArray⟩) := fun h => text_two h
 have HG : Hid (uOk ⟨s, ⟨k, nm, n, [x0, x1, x2, x3, x4, x5, x6, x7]⟩, p, a, q, r⟩ = true → ∀ W, CB 53 #[.agg #[.int .i64 s, .int .i64 k, .string nm, .int .i64 n, .int .i64 x0, .int .i64 x1, .int .i64 x2, .int .i64 x3, .int .i64 x4, .int .i64 x5, .int .i64 x6, .int .i64 x7, .int .i64 p, .string a, .bool q, .string r]] W (.string ⟨(orgF s (hTx ⟨k, nm, n, [x0, x1, x2, x3, x4, x5, x6, x7]⟩) p).toArray⟩)) := fun h W => by
  have hp := (uOk_parts h).2.2.1
  have h1 : 1 ≤ p := hp.1
  have h2 : p ≤ 65535 := hp.2
  exact specOrigin s k n p nm a r q x0 x1 x2 x3 x4 x5 x6 x7 W hs (by omega) (by omega)
 have hol := org_len (k := k) (n := n) (nm := nm) (x0 := x0) (x1 := x1) (x2 := x2) (x3 := x3) (x4 := x4) (x5 := x5) (x6 := x6) (x7 := x7) s p hs
 have hos : (⟨(orgF s (hTx ⟨k, nm, n, [x0, x1, x2, x3, x4, x5, x6, x7]⟩) p).toArray⟩ : ByteArray).size ≤ 1048600 := by rw [size_mk]; exact hol
 have hrs := rest_len a r q (by omega) hr
 clear hol
 generalize (⟨(uTx ⟨s, ⟨k, nm, n, [x0, x1, x2, x3, x4, x5, x6, x7]⟩, p, a, q, r⟩).toArray⟩ : ByteArray) = Z at HN HY ⊢
 generalize uOk ⟨s, ⟨k, nm, n, [x0, x1, x2, x3, x4, x5, x6, x7]⟩, p, a, q, r⟩ = b at CO HG HN HY
 generalize (⟨(restL a q r).toArray⟩ : ByteArray) = RR at CR HY hrs
 generalize (⟨(orgF s (hTx ⟨k, nm, n, [x0, x1, x2, x3, x4, x5, x6, x7]⟩) p).toArray⟩ : ByteArray) = G at HG HY hos
 obtain ⟨O, hO⟩ : ∃ O, O = w.alloc (.cells #[.int .i64 s, .int .i64 k, .string nm, .int .i64 n, .int .i64 x0, .int .i64 x1, .int .i64 x2, .int .i64 x3, .int .i64 x4, .int .i64 x5, .int .i64 x6, .int .i64 x7, .int .i64 p, .string a, .bool q, .string r] 69) := ⟨_, rfl⟩
 have HU : Hid (PU w (uRow s k nm n x0 x1 x2 x3 x4 x5 x6 x7 p a q r) O) := by
  rw [hO]
  exact PU.new w _ _
 go_enter Tryz.func42, Tryz.ntmps42
 go_upto_region 1 with fail
 rw [← hO]
 clear hO
 go_wp2_with (refine url_ld HU.out.1 rfl rfl _ rfl rfl ?_)
 refine (CO.out _).mono ?_
 rintro e w1 ⟨rfl, hb1⟩
 have HU1 : Hid (PU w (uRow s k nm n x0 x1 x2 x3 x4 x5 x6 x7 p a q r) w1) := HU.out.later hb1
 clear hb1 HU CO
 cases b with
 | false =>
  have HZ : Hid ((⟨#[]⟩ : ByteArray) = Z) := HN.out rfl
  clear HN HY HG CR
  go_wp2
  go_ret
  exact ⟨ret_bytes HZ.out, HU1.out.2⟩
 | true =>
  have HZ : Hid (G ++ RR = Z) := HY.out rfl
  have CG : Hid (∀ W, CB 53 #[.agg #[.int .i64 s, .int .i64 k, .string nm, .int .i64 n, .int .i64 x0, .int .i64 x1, .int .i64 x2, .int .i64 x3, .int .i64 x4, .int .i64 x5, .int .i64 x6, .int .i64 x7, .int .i64 p, .string a, .bool q, .string r]] W (.string G)) := HG.out rfl
  clear HN HY HG
  go_upto_region 3 with fail
  refine wp_region_held_drew (S := PU w (uRow s k nm n x0 x1 x2 x3 x4 x5 x6 x7 p a q r)) (by kernel_rfl) HU1.out.drew (fun h0 => ?_)
  clear HU1
  refine wpAnyH_take (i := 0) (v := .agg (uRow s k nm n x0 x1 x2 x3 x4 x5 x6 x7 p a q r).toArray) rfl (by kernel_rfl) (by kernel_rfl) (by kernel_rfl) (fun _ _ _ h => h) (yieldsIf_load_mid (by rfl) _ _ rfl w.heap.size 0 rfl (uRow s k nm n x0 x1 x2 x3 x4 x5 x6 x7 p a q r) _ (fun W hW => hW.1.range 0 _ (fun j v hv => by rw [Nat.zero_add]; exact hv)) Tryz.underlying69 rfl Tryz.infoUrl) h0 ?_
  simp only [Act.put, List.getElem_toArray, List.getElem_cons_zero, List.getElem_cons_succ, List.setIfInBounds_toArray, List.set_cons_zero, List.set_cons_succ]
  refine wpAnyH_take (i := 2) (v := .agg (uRow s k nm n x0 x1 x2 x3 x4 x5 x6 x7 p a q r).toArray) rfl (by kernel_rfl) (by kernel_rfl) (by kernel_rfl) (fun _ _ _ h => h) (yieldsIf_load_mid (by rfl) _ _ rfl w.heap.size 0 rfl (uRow s k nm n x0 x1 x2 x3 x4 x5 x6 x7 p a q r) _ (fun W hW => hW.1.range 0 _ (fun j v hv => by rw [Nat.zero_add]; exact hv)) Tryz.underlying69 rfl Tryz.infoUrl) h0 ?_
  simp only [Act.put, List.getElem_toArray, List.getElem_cons_zero, List.getElem_cons_succ, List.setIfInBounds_toArray, List.set_cons_zero, List.set_cons_succ]
  refine wpAnyH_ready (rs := [1]) (by kernel_rfl) (by simp) (AllReadyH.cons rfl (fun K hK => ?_) AllReadyH.nil)
  go_simp
  go_wp2_with (go_at_call 53; refine (CG.out _).mono ?_; rintro e wq1 ⟨rfl, hb1⟩)
  refine hK.out _ _ (PU.later h0 hb1) (fun h1 => ?_)
  clear hK K h0
  refine wpAnyH_ready (rs := [3]) (by kernel_rfl) (by simp) (AllReadyH.cons rfl (fun K hK => ?_) AllReadyH.nil)
  go_simp
  go_wp2_with (go_at_call 54; refine (CR.out _).mono ?_; rintro e wq2 ⟨rfl, hb2⟩)
  refine hK.out _ _ (PU.later h1 hb2) (fun h2 => ?_)
  clear hK K h1
  refine wpAnyH_take (i := 4) (v := .string (G ++ RR)) rfl (by kernel_rfl) (by kernel_rfl) (by kernel_rfl) (fun _ _ _ h => h) (Or.inl ⟨by rfl, fun W hW => ?_⟩) h2 ?_
  ·clear hW
   go_simp
   omega
  simp only [Act.put, List.getElem_toArray, List.getElem_cons_zero, List.getElem_cons_succ, List.setIfInBounds_toArray, List.set_cons_zero, List.set_cons_succ]
  refine wpAnyH_take (i := 5) (v := .string (G ++ RR)) rfl (by kernel_rfl) (by kernel_rfl) (by kernel_rfl) (fun _ _ _ h => h) (Or.inl ⟨by rfl, fun W hW => ?_⟩) h2 ?_
  ·kernel_rfl
  refine wpAnyH_done (by kernel_rfl) ?_ _
  simp only [Act.put, List.getElem_toArray, List.getElem_cons_zero, List.getElem_cons_succ, List.setIfInBounds_toArray, List.set_cons_zero, List.set_cons_succ]
  go_wp2_with fail
  go_ret
  exact ⟨ret_bytes HZ.out, h2.2⟩
end Go.Proofs.YtidecdlaeomfoaaGreat
