/- Proved: laws.FnSeen answers true at every slice of bytes and leaves it as it was; no condition. -/
import Derived.Test.YtdnlaijpgjpplaaRows
import Derived.Test.YtdnlaijpgjpplaaSeenDrawPut
import Derived.Test.YtdnlaijpgjpplaaSeenGetI
import Derived.Test.YtdnlaijpgjpplaaSeenAllP
import Derived.Test.YtdnlaijpgjpplaaSeenPutP
import Derived.Test.YtdnlaijpgjpplaaSeenOkI2
import Derived.Test.YtdnlaijpgjpplaaPutBothS
import Derived.Test.YtdnlaijpgjpplaaPressImpl
import Derived.ProofKit
import Derived.OpenShut
import Derived.ShutString
import Derived.ChangeOld
import Derived.Below
namespace Go.Proofs.Ytdnlaijpgjpplaa.fnSeen
open Go.ChangeShapes Go.WideShapes Go.ChangeAt Go.RowKit
open Go.ChangeMaps (open_string shut_string)
set_option linter.unusedVariables false

theorem own : ownKnob Try.prog.godebug = none := by kernel_rfl
theorem laidOut : laidOutB Try.prog = true := by kernel_rfl

/-- WHAT THE WALK IS TOLD OF A SLICE OF INTEGERS THAT CAME IN: it is nil; or it leads to a row of 'cap' cells, the numbers 'zs' (the first 'len' are its elements, the rest its spare room), each fitting its kind. -/
def IsRow (k : IntKind) (w : World) (a : Option Addr) (len cap : Nat) (zs : List Int) : Prop :=
  (a = none ∧ len = 0 ∧ cap = 0 ∧ zs = []) ∨
  ∃ x, a = some x ∧ len ≤ cap ∧ cap ≤ maxLen ∧ zs.length = cap ∧ (∀ i, i < zs.length → w.cell? (x.add i) = some (.int k (zs.getD i 0))) ∧ ∀ n ∈ zs, (Lit.int k n).wf = true

set_option maxHeartbeats 8000000 in
theorem walk (a0 : Option Addr) (len0 cap0 : Nat) (z0 : List Int) (w : World) (w0 : IsRow .u8 w a0 len0 cap0 z0) :
    Calls Try.prog 3 #[.slice a0 len0 cap0] w fun e w' => e = .returned (.bool true) ∧ Below w.heap.size w w' := by
  by_cases hbig : 1048576 < (len0 : Int)
  · go_enter Try.func3, Try.ntmps3
    go_wp2_with fail
    refine (big_yes _ _ _ _ hbig).mono ?_
    rintro e w' ⟨rfl, rfl⟩
    go_wp2
    go_ret
    exact ⟨rfl, Below.refl _ _⟩
  · have hl : len0 ≤ 1048576 := by omega
    have hcode : CodeRow w.heap.size w a0 len0 := by
      rcases w0 with ⟨rfl, rfl, rfl, rfl⟩ | ⟨x, rfl, h1, h2, h3, h4, h5⟩
      · exact .inl rfl
      · by_cases h0 : len0 = 0
        · exact .inl h0
        · obtain ⟨b, off, rfl, hc⟩ := ints_at h4 (by omega)
          refine .inr ⟨b, off, rfl, World.block_lt_of_cell? w ⟨b, off + 0, none⟩ (hc 0 (by omega)), fun i hi => ?_⟩
          refine ⟨_, hc i (by omega), ?_⟩
          have hb := bounds_u8 (h5 (z0.getD i 0) (by
            rw [List.getD_eq_getElem?_getD, List.getElem?_eq_getElem (by omega)]
            exact List.getElem_mem _))
          exact hb
    have HCO : Hid (CodeRow w.heap.size w a0 len0) := hcode
    clear w0 hcode
    go_enter Try.func3, Try.ntmps3
    go_wp2_with fail
    refine (big_no _ _ _ _ (by omega)).mono ?_
    rintro e w' ⟨rfl, rfl⟩
    go_wp2_with fail
    refine (drawSeenPut _ _ _ _ hl HCO.out).mono ?_
    rintro e wa ⟨ma, mc, ra, rc, m, ll, key, st, hsm, hkey, hst0, hst4, rfl, e5, r6, ba⟩
    obtain ⟨hb1, hb2, hb3, hb4, hb5⟩ := hsm.bounds
    have HE := hidM e5
    have HR := hidM r6
    obtain ⟨U, hU⟩ : ∃ U, U = wa.alloc (.cells #[.slice ma m.length mc, .slice ra ll.length rc] 27) := ⟨_, rfl⟩
    have bU : Below wa.heap.size wa U := by rw [hU]; exact (Below.refl _ _).alloc (Nat.le_refl _) _
    have AU : BAt U wa.heap.size [.slice ma m.length mc, .slice ra ll.length rc] := by rw [hU]; exact BAt.new wa #[.slice ma m.length mc, .slice ra ll.length rc] _
    have B0 := hidM (ba.trans (bU.mono ba.size))
    have HEU := hidM (HE.out.below bU)
    have HRU := hidM (HR.out.below bU)
    have hkz : key.size ≤ 1048576 := by omega
    have CI := hidM (fun W (h : Below U.heap.size U W) => implSeenPut ⟨st, key⟩ m ll _ _ W hb1 (by omega) hb4 hb5 hkz (HEU.out.below h) (HRU.out.below h))
    have CX := hidM (fun W (h : Below U.heap.size U W) => specSeenPut ⟨st, key⟩ m ll _ _ W hb1 (by omega) hb4 hkz (HEU.out.below h) (HRU.out.below h))
    have CG := hidM (fun k W (h : Below U.heap.size U W) => implSeenGet k m ll _ _ W hb2 hb1 hb4 (HEU.out.below h) (HRU.out.below h))
    have CA := hidM (fun W (h : Below U.heap.size U W) => implSeenAll m ll _ _ W hb2 hb3 hb5 (HEU.out.below h) (HRU.out.below h))
    have CAA := hidM (fun p q W (h1 : EntRow W p m) (h2 : RunRow W q ll) => implSeenAll m ll p q W hb2 hb3 hb5 h1 h2)
    obtain ⟨RM, hRM⟩ : ∃ x, resM m ll ⟨st, key⟩ = x := ⟨_, rfl⟩
    obtain ⟨RL, hRL⟩ : ∃ x, resL m ll ⟨st, key⟩ = x := ⟨_, rfl⟩
    obtain ⟨KB, hPK⟩ : ∃ x, putK m ll ⟨st, key⟩ = x := ⟨_, rfl⟩
    rw [hRM, hRL, hPK] at CI CX
    have HSM := hidM hsm
    clear hsm e5 r6 HE HR ba
    go_upto_region 4 with fail
    rw [← hU]
    clear hU
    have c0 := AU.1 0 _ rfl
    have c0' := AU.1 1 _ rfl
    go_wp2_with fail
    refine (CI.out U (Below.refl _ _)).mono ?_
    rintro e w1 ⟨ao, ac, bo, bc, rfl, sn, b1⟩
    have EN := hidM (EntRow.of_own' sn.mem)
    have RN := hidM sn.runs.row
    obtain ⟨V, hV⟩ : ∃ V, V = w1.alloc (.cells #[.slice ao RM.length ac, .slice bo RL.length bc] 27) := ⟨_, rfl⟩
    have bV : Below w1.heap.size w1 V := by rw [hV]; exact (Below.refl _ _).alloc (Nat.le_refl _) _
    have AV : BAt V w1.heap.size [.slice ao RM.length ac, .slice bo RL.length bc] := by rw [hV]; exact BAt.new w1 #[.slice ao RM.length ac, .slice bo RL.length bc] _
    have BUV := b1.trans (bV.mono b1.size)
    have ENV := hidM (EN.out.below bV)
    have RNV := hidM (RN.out.below bV)
    clear sn EN RN CI c0 c0'
    go_upto_region 5 with fail
    rw [← hV]
    clear hV
    have AU1 := AU.below BUV
    have c0 := AU1.1 0 _ rfl
    have c0' := AU1.1 1 _ rfl
    go_wp2_with fail
    refine (CX.out V BUV).mono ?_
    rintro e w2 ⟨ao2, ac2, bo2, bc2, rfl, _, _, b2⟩
    obtain ⟨Z, hZ⟩ : ∃ Z, Z = w2.alloc (.cells #[.slice ao2 RM.length ac2, .slice bo2 RL.length bc2] 27) := ⟨_, rfl⟩
    have bZ : Below w2.heap.size w2 Z := by rw [hZ]; exact (Below.refl _ _).alloc (Nat.le_refl _) _
    have BVZ := b2.trans (bZ.mono b2.size)
    clear CX c0 c0'
    go_upto_region 6 with fail
    rw [← hZ]
    clear hZ bZ b2
    have BUZ := BUV.trans (BVZ.mono BUV.size)
    have AUZ := AU.below BUZ
    have AVZ := AV.below BVZ
    have ENZ := hidM (ENV.out.below BVZ)
    have RNZ := hidM (RNV.out.below BVZ)
    have HEZ := hidM (HEU.out.below BUZ)
    have HRZ := hidM (HRU.out.below BUZ)
    have B1 := hidM (B0.out.trans (BUZ.mono B0.out.size))
    clear ENV RNV HEU HRU AU1 AU AV BVZ BUV b1 bV bU B0
    cases KB
    · have hM : RM = m := by rw [← hRM]; unfold resM; rw [hPK]; rfl
      have hL : RL = ll := by rw [← hRL]; unfold resL; rw [hPK]; rfl
      clear hRM hRL hPK
      subst hM hL
      have hcl : (canon (RM ++ RL.flatten)).length ≤ 1048576 := by have := canon_len (RM ++ RL.flatten); omega
      generalize canon (RM ++ RL.flatten) = L at *
      have CS := hidM (fun va vb W (h1 : EntRow W va L) (h2 : EntRow W vb L) => sameMarks L va vb W (by omega) h1 h2)
      clear CG CA HSM hb1 hb2 hb3 hb4 hb5
      go_upto_region 7 with fail
      refine wp_region_held_drew (S := fun W => Below Z.heap.size Z W) (by kernel_rfl) (Below.refl _ _).drew (fun h0 => ?_)
      refine wpAnyH_take (i := 0) (v := ?_) rfl (by kernel_rfl) (by kernel_rfl) (by kernel_rfl) (fun _ _ _ h => h) (Or.inl ⟨by rfl, fun W hW => ?_⟩) h0 ?_
      rotate_left
      · clear hW
        go_simp
        try with_reducible rfl
      simp only [Act.put, List.getElem_toArray, List.getElem_cons_zero, List.setIfInBounds_toArray, List.set_cons_zero, List.set_cons_succ]
      refine wpAnyH_take (i := 1) (v := ?_) rfl (by kernel_rfl) (by kernel_rfl) (by kernel_rfl) (fun _ _ _ h => h) (Or.inl ⟨by rfl, fun W hW => ?_⟩) h0 ?_
      rotate_left
      · clear hW
        go_simp
        try with_reducible rfl
      simp only [Act.put, List.getElem_toArray, List.getElem_cons_zero, List.getElem_cons_succ, List.setIfInBounds_toArray, List.set_cons_zero, List.set_cons_succ]
      refine wpAnyH_take (i := 2) (v := ?_) rfl (by kernel_rfl) (by kernel_rfl) (by kernel_rfl) (fun _ _ _ h => h) (Or.inl ⟨by rfl, fun W hW => ?_⟩) h0 ?_
      rotate_left
      · clear hW
        go_simp
        try with_reducible rfl
      simp only [Act.put, List.getElem_toArray, List.getElem_cons_zero, List.getElem_cons_succ, List.setIfInBounds_toArray, List.set_cons_zero, List.set_cons_succ]
      refine wpAnyH_take (i := 3) (v := ?_) rfl (by kernel_rfl) (by kernel_rfl) (by kernel_rfl) (fun _ _ _ h => h) (Or.inl ⟨by rfl, fun W hW => ?_⟩) h0 ?_
      rotate_left
      · clear hW
        go_simp
        try with_reducible rfl
      simp only [Act.put, List.getElem_toArray, List.getElem_cons_zero, List.getElem_cons_succ, List.setIfInBounds_toArray, List.set_cons_zero, List.set_cons_succ]
      refine wpAnyH_take (i := 4) (v := .agg #[(.slice ao RM.length ac), (.slice bo RL.length bc)]) rfl (by kernel_rfl) (by kernel_rfl) (by kernel_rfl) (fun _ _ _ h => h) (Or.inl ⟨by rfl, fun W hW => ?_⟩) h0 ?_
      · have q0 := (AVZ.below hW).1 0 _ rfl
        have q1 := (AVZ.below hW).1 1 _ rfl
        go_simp
      simp only [Act.put, List.getElem_toArray, List.getElem_cons_zero, List.getElem_cons_succ, List.setIfInBounds_toArray, List.set_cons_zero, List.set_cons_succ]
      refine wpAnyH_take (i := 6) (v := .agg #[(.slice ma RM.length mc), (.slice ra RL.length rc)]) rfl (by kernel_rfl) (by kernel_rfl) (by kernel_rfl) (fun _ _ _ h => h) (Or.inl ⟨by rfl, fun W hW => ?_⟩) h0 ?_
      · have q0 := (AUZ.below hW).1 0 _ rfl
        have q1 := (AUZ.below hW).1 1 _ rfl
        go_simp
      simp only [Act.put, List.getElem_toArray, List.getElem_cons_zero, List.getElem_cons_succ, List.setIfInBounds_toArray, List.set_cons_zero, List.set_cons_succ]
      refine wpAnyH_ready (rs := [5]) (by kernel_rfl) (by simp) (AllReadyH.cons rfl (fun K hK => ?_) AllReadyH.nil)
      go_simp
      refine (CAA.out _ _ _ (ENZ.out.below h0) (RNZ.out.below h0)).mono ?_
      rintro e w4 ⟨v4, rfl, o4, b4⟩
      have h4 : Below Z.heap.size Z w4 := h0.trans (b4.mono h0.size)
      refine hK.out _ _ h4 (fun h9 => ?_)
      clear hK K h9 h0
      obtain ⟨fa, fc, hv4⟩ := (EntRow.of_own' o4).slice
      subst hv4
      refine wpAnyH_ready (rs := [7]) (by kernel_rfl) (by simp) (AllReadyH.cons rfl (fun K hK => ?_) AllReadyH.nil)
      go_simp
      refine (CAA.out _ _ _ (HEZ.out.below h4) (HRZ.out.below h4)).mono ?_
      rintro e w5 ⟨v5, rfl, o5, b5⟩
      have h5 : Below Z.heap.size Z w5 := h4.trans (b5.mono h4.size)
      have R4 := hidM ((EntRow.of_own' o4).below b5)
      have R5 := hidM (EntRow.of_own' o5)
      refine hK.out _ _ h5 (fun h9 => ?_)
      clear hK K h9 h4 b4 b5
      obtain ⟨ga, gc, hv5⟩ := (EntRow.of_own' o5).slice
      subst hv5
      clear o4 o5
      refine wpAnyH_ready (rs := [8]) (by kernel_rfl) (by simp) (AllReadyH.cons rfl (fun K hK => ?_) AllReadyH.nil)
      go_simp
      refine (CS.out _ _ _ R4.out R5.out).mono ?_
      rintro e w6 ⟨rfl, bq⟩
      refine hK.out _ _ (h5.trans (bq.mono h5.size)) (fun h6 => ?_)
      clear hK K bq h5
      refine wpAnyH_take (i := 9) (v := ?_) rfl (by kernel_rfl) (by kernel_rfl) (by kernel_rfl) (fun _ _ _ h => h) (Or.inl ⟨by rfl, fun W hW => ?_⟩) h6 ?_
      rotate_left
      · clear hW
        go_simp
        try with_reducible rfl
      simp only [Act.put, List.getElem_toArray, List.getElem_cons_zero, List.getElem_cons_succ, List.setIfInBounds_toArray, List.set_cons_zero, List.set_cons_succ]
      refine wpAnyH_take (i := 10) (v := ?_) rfl (by kernel_rfl) (by kernel_rfl) (by kernel_rfl) (fun _ _ _ h => h) (Or.inl ⟨by rfl, fun W hW => ?_⟩) h6 ?_
      rotate_left
      · clear hW
        go_simp
        try with_reducible rfl
      simp only [Act.put, List.getElem_toArray, List.getElem_cons_zero, List.getElem_cons_succ, List.setIfInBounds_toArray, List.set_cons_zero, List.set_cons_succ]
      refine wpAnyH_done (by kernel_rfl) ?_ _
      have BF : Below w.heap.size w w6 := B1.out.trans (h6.mono B1.out.size)
      clear h6 CS CAA R4 R5 AUZ AVZ ENZ RNZ HEZ HRZ HCO
      go_wp2_with fail
      go_ret
      exact ⟨rfl, BF⟩
    · have hM : RM = putM m ⟨st, key⟩ := by rw [← hRM]; unfold resM; rw [hPK]; rfl
      have hL : RL = putL m ll ⟨st, key⟩ := by rw [← hRL]; unfold resL; rw [hPK]; rfl
      have hPK2 : sokS m ll = true ∧ sokS (putM m ⟨st, key⟩) (putL m ll ⟨st, key⟩) = true := by
        unfold putK at hPK
        rwa [Bool.and_eq_true] at hPK
      obtain ⟨hsk, hsk2⟩ := hPK2
      have hrz : RZ (putM m ⟨st, key⟩) (putL m ll ⟨st, key⟩) := put_rz hb5 hkz
      have hself : getS key (putM m ⟨st, key⟩ ++ (putL m ll ⟨st, key⟩).flatten) = st := put_get_self m ll ⟨st, key⟩
      have hoth : ∀ k, k ≠ key → getS k (putM m ⟨st, key⟩ ++ (putL m ll ⟨st, key⟩).flatten) = getS k (m ++ ll.flatten) := fun k h => put_get_other m ll ⟨st, key⟩ k h
      have hcnt : (canon (putM m ⟨st, key⟩ ++ (putL m ll ⟨st, key⟩).flatten)).length = (canon (m ++ ll.flatten)).length + (if getS key (m ++ ll.flatten) = 0 then 1 else 0) := put_count hsk ⟨st, key⟩
      obtain ⟨g1, g2, g3⟩ := put_small (x := ⟨st, key⟩) hsk
      obtain ⟨j1, j2, j3⟩ := sokS_sz hsk2
      rw [← hM] at hsk2 hrz hself hoth hcnt j1 j3
      rw [← hL] at hsk2 hrz hself hoth hcnt j2 j3 g2 g3
      clear hM hL hRM hRL hPK g1 hb5 HSM CAA
      have CNG := hidM (fun k p q W (h1 : EntRow W p RM) (h2 : RunRow W q RL) => implSeenGet k RM RL p q W (by omega) (by omega) (fun i hi => by have := g3 i hi; omega) h1 h2)
      have CNA := hidM (fun p q W (h1 : EntRow W p RM) (h2 : RunRow W q RL) => implSeenAll RM RL p q W (by omega) (by omega) hrz h1 h2)
      have CNO := fun p q W (h1 : EntRow W p RM) (h2 : RunRow W q RL) => implSeenOk RM RL p q W (by omega) (by omega) (fun i hi => by have := g3 i hi; omega) h1 h2
      rw [hsk2] at CNO
      have CO := hidM CNO
      have HG := hidM (fun i h => get_canon (m ++ ll.flatten) (i := i) h)
      have hcl : (canon (m ++ ll.flatten)).length ≤ 262144 := by have := canon_len (m ++ ll.flatten); omega
      have hcl2 : (canon (RM ++ RL.flatten)).length ≤ 400 := by have := canon_len (RM ++ RL.flatten); omega
      clear CNO hsk2 hrz g2 g3 j1 j2 j3 hb1 hb2 hb3 hb4
      generalize RM ++ RL.flatten = G at *
      generalize m ++ ll.flatten = F at *
      have HO := hidM hoth
      clear hoth
      generalize canon F = L at *
      generalize canon G = GL at *
      obtain ⟨gk, hgk⟩ : ∃ x, getS key F = x := ⟨_, rfl⟩
      rw [hgk] at hcnt
      have CK0 := hidM (CG.out key)
      rw [hgk] at CK0
      go_upto_region 8 with fail
      have c0 := AUZ.1 0 _ rfl
      have c0' := AUZ.1 1 _ rfl
      go_wp2_with fail
      refine (CA.out Z BUZ).mono ?_
      rintro e wb ⟨vL, rfl, oL, bb⟩
      have RLW := hidM (EntRow.of_own' oL)
      obtain ⟨la, lc, hvL⟩ := (EntRow.of_own' oL).slice
      subst hvL
      obtain ⟨N, HNL⟩ : ∃ N, Hid (N = L.length) := ⟨_, rfl⟩
      rw [← HNL.out] at RLW hcl hcnt ⊢
      have BUb := BUZ.trans (bb.mono BUZ.size)
      have AUb := AUZ.below bb
      have AVb := AVZ.below bb
      have ENb := hidM (ENZ.out.below bb)
      have RNb := hidM (RNZ.out.below bb)
      have B2 := hidM (B1.out.trans (bb.mono B1.out.size))
      clear oL c0 c0' CA ENZ RNZ HEZ HRZ AUZ AVZ B1 BUZ bb
      go_wp2_with fail
      go_loopw [11] (fun i wr => ∃ k : Nat, k ≤ N ∧ i = .int .i64 k ∧ Below wb.heap.size wb wr) (fun i _ => N - (intOf i).toNat)
      case atStart => exact ⟨0, Nat.zero_le _, rfl, Below.refl _ _⟩
      case round =>
        obtain ⟨k, hk, rfl, hbel⟩ := hrel
        have AR := AVb.below hbel
        by_cases hlt : k < N
        · have hki : (k : Int) < (N : Int) := by omega
          rcases RLW.out with ⟨h, _⟩ | ⟨h0, g, off, cap, hv, hg, hc⟩
          · exact absurd hlt (by have := HNL.out; rw [h] at this; simp at this; omega)
          · injection hv with hv1 hv2 hv3
            subst hv1
            obtain ⟨d1, d2⟩ := hc k (by have := HNL.out; omega)
            have e1 := (hbel.cell (p := ⟨g, off + k * 2, none⟩) hg).trans d1
            have e2 := (hbel.cell (p := ⟨g, off + k * 2 + 1, none⟩) hg).trans d2
            have hgr : g < wr.heap.size := by have := hbel.size; omega
            have ENr := hidM (ENb.out.below hbel)
            have RNr := hidM (RNb.out.below hbel)
            have HX := HO.out (L.getD k ev0).s
            rw [HG.out k (by have := HNL.out; omega)] at HX
            clear hc d1 d2 hv2 hv3 h0
            have c1 := hidM e1
            have c2 := hidM e2
            clear e1 e2
            generalize (L.getD k ev0).s = zs at *
            generalize (L.getD k ev0).k = zk at *
            go_upto_region 12 with fail
            refine wp_region_held_drew (S := fun W => Below wr.heap.size wr W) (by kernel_rfl) (Below.refl _ _).drew (fun h0 => ?_)
            by_cases hzk : zs = key
            · subst hzk
              clear HX
              refine wpAnyH_take (i := 0) (v := ?_) rfl (by kernel_rfl) (by kernel_rfl) (by kernel_rfl) (fun _ _ _ h => h) (Or.inl ⟨by rfl, fun W hW => ?_⟩) h0 ?_
              rotate_left
              · clear hW
                go_simp
                try with_reducible rfl
              simp only [Act.put, List.getElem_toArray, List.getElem_cons_zero, List.setIfInBounds_toArray, List.set_cons_zero, List.set_cons_succ]
              refine wpAnyH_take (i := 1) (v := ?_) rfl (by kernel_rfl) (by kernel_rfl) (by kernel_rfl) (fun _ _ _ h => h) (Or.inl ⟨by rfl, fun W hW => ?_⟩) h0 ?_
              rotate_left
              · clear hW
                go_simp
                try with_reducible rfl
              simp only [Act.put, List.getElem_toArray, List.getElem_cons_zero, List.getElem_cons_succ, List.setIfInBounds_toArray, List.set_cons_zero, List.set_cons_succ]
              refine wpAnyH_take (i := 2) (v := ?_) rfl (by kernel_rfl) (by kernel_rfl) (by kernel_rfl) (fun _ _ _ h => h) (Or.inl ⟨by rfl, fun W hW => ?_⟩) h0 ?_
              rotate_left
              · clear hW
                go_simp
                try with_reducible rfl
              simp only [Act.put, List.getElem_toArray, List.getElem_cons_zero, List.getElem_cons_succ, List.setIfInBounds_toArray, List.set_cons_zero, List.set_cons_succ]
              refine wpAnyH_take (i := 3) (v := ?_) rfl (by kernel_rfl) (by kernel_rfl) (by kernel_rfl) (fun _ _ _ h => h) (Or.inl ⟨by rfl, fun W hW => ?_⟩) h0 ?_
              rotate_left
              · clear hW
                go_simp
                try with_reducible rfl
              simp only [Act.put, List.getElem_toArray, List.getElem_cons_zero, List.getElem_cons_succ, List.setIfInBounds_toArray, List.set_cons_zero, List.set_cons_succ]
              refine wpAnyH_take (i := 4) (v := .string zs) rfl (by kernel_rfl) (by kernel_rfl) (by kernel_rfl) (fun _ _ _ h => h) (Or.inl ⟨by rfl, fun W hW => ?_⟩) h0 ?_
              · have q0 := (hW.cell (p := ⟨g, (off + k * 2), none⟩) hgr).trans c1.out
                go_simp
              simp only [Act.put, List.getElem_toArray, List.getElem_cons_zero, List.getElem_cons_succ, List.setIfInBounds_toArray, List.set_cons_zero, List.set_cons_succ]
              refine wpAnyH_take (i := 5) (v := ?_) rfl (by kernel_rfl) (by kernel_rfl) (by kernel_rfl) (fun _ _ _ h => h) (Or.inl ⟨by rfl, fun W hW => ?_⟩) h0 ?_
              rotate_left
              · clear hW
                go_simp
                try with_reducible rfl
              simp only [Act.put, List.getElem_toArray, List.getElem_cons_zero, List.getElem_cons_succ, List.setIfInBounds_toArray, List.set_cons_zero, List.set_cons_succ]
              refine wpAnyH_take (i := 6) (v := ?_) rfl (by kernel_rfl) (by kernel_rfl) (by kernel_rfl) (fun _ _ _ h => h) (Or.inl ⟨by rfl, fun W hW => ?_⟩) h0 ?_
              rotate_left
              · clear hW
                go_simp
                try with_reducible rfl
              simp only [Act.put, List.getElem_toArray, List.getElem_cons_zero, List.getElem_cons_succ, List.setIfInBounds_toArray, List.set_cons_zero, List.set_cons_succ]
              refine wpAnyH_take (i := 7) (v := ?_) rfl (by kernel_rfl) (by kernel_rfl) (by kernel_rfl) (fun _ _ _ h => h) (Or.inl ⟨by rfl, fun W hW => ?_⟩) h0 ?_
              rotate_left
              · clear hW
                go_simp
                try with_reducible rfl
              simp only [Act.put, List.getElem_toArray, List.getElem_cons_zero, List.getElem_cons_succ, List.setIfInBounds_toArray, List.set_cons_zero, List.set_cons_succ]
              refine wpAnyH_take (i := 8) (v := undef) rfl (by kernel_rfl) (by kernel_rfl) (by kernel_rfl) (fun _ _ _ h => h) (Or.inr ⟨by rfl, rfl⟩) h0 ?_
              simp only [Act.put, List.getElem_toArray, List.getElem_cons_zero, List.getElem_cons_succ, List.setIfInBounds_toArray, List.set_cons_zero, List.set_cons_succ]
              refine wpAnyH_take (i := 9) (v := undef) rfl (by kernel_rfl) (by kernel_rfl) (by kernel_rfl) (fun _ _ _ h => h) (Or.inr ⟨by rfl, rfl⟩) h0 ?_
              simp only [Act.put, List.getElem_toArray, List.getElem_cons_zero, List.getElem_cons_succ, List.setIfInBounds_toArray, List.set_cons_zero, List.set_cons_succ]
              refine wpAnyH_take (i := 10) (v := undef) rfl (by kernel_rfl) (by kernel_rfl) (by kernel_rfl) (fun _ _ _ h => h) (Or.inr ⟨by rfl, rfl⟩) h0 ?_
              simp only [Act.put, List.getElem_toArray, List.getElem_cons_zero, List.getElem_cons_succ, List.setIfInBounds_toArray, List.set_cons_zero, List.set_cons_succ]
              refine wpAnyH_take (i := 11) (v := undef) rfl (by kernel_rfl) (by kernel_rfl) (by kernel_rfl) (fun _ _ _ h => h) (Or.inr ⟨by rfl, rfl⟩) h0 ?_
              simp only [Act.put, List.getElem_toArray, List.getElem_cons_zero, List.getElem_cons_succ, List.setIfInBounds_toArray, List.set_cons_zero, List.set_cons_succ]
              refine wpAnyH_take (i := 12) (v := undef) rfl (by kernel_rfl) (by kernel_rfl) (by kernel_rfl) (fun _ _ _ h => h) (Or.inr ⟨by rfl, rfl⟩) h0 ?_
              simp only [Act.put, List.getElem_toArray, List.getElem_cons_zero, List.getElem_cons_succ, List.setIfInBounds_toArray, List.set_cons_zero, List.set_cons_succ]
              refine wpAnyH_take (i := 13) (v := undef) rfl (by kernel_rfl) (by kernel_rfl) (by kernel_rfl) (fun _ _ _ h => h) (Or.inr ⟨by rfl, rfl⟩) h0 ?_
              simp only [Act.put, List.getElem_toArray, List.getElem_cons_zero, List.getElem_cons_succ, List.setIfInBounds_toArray, List.set_cons_zero, List.set_cons_succ]
              refine wpAnyH_take (i := 14) (v := undef) rfl (by kernel_rfl) (by kernel_rfl) (by kernel_rfl) (fun _ _ _ h => h) (Or.inr ⟨by rfl, rfl⟩) h0 ?_
              simp only [Act.put, List.getElem_toArray, List.getElem_cons_zero, List.getElem_cons_succ, List.setIfInBounds_toArray, List.set_cons_zero, List.set_cons_succ]
              refine wpAnyH_take (i := 15) (v := undef) rfl (by kernel_rfl) (by kernel_rfl) (by kernel_rfl) (fun _ _ _ h => h) (Or.inr ⟨by rfl, rfl⟩) h0 ?_
              simp only [Act.put, List.getElem_toArray, List.getElem_cons_zero, List.getElem_cons_succ, List.setIfInBounds_toArray, List.set_cons_zero, List.set_cons_succ]
              refine wpAnyH_take (i := 16) (v := undef) rfl (by kernel_rfl) (by kernel_rfl) (by kernel_rfl) (fun _ _ _ h => h) (Or.inr ⟨by rfl, rfl⟩) h0 ?_
              simp only [Act.put, List.getElem_toArray, List.getElem_cons_zero, List.getElem_cons_succ, List.setIfInBounds_toArray, List.set_cons_zero, List.set_cons_succ]
              refine wpAnyH_take (i := 17) (v := undef) rfl (by kernel_rfl) (by kernel_rfl) (by kernel_rfl) (fun _ _ _ h => h) (Or.inr ⟨by rfl, rfl⟩) h0 ?_
              simp only [Act.put, List.getElem_toArray, List.getElem_cons_zero, List.getElem_cons_succ, List.setIfInBounds_toArray, List.set_cons_zero, List.set_cons_succ]
              refine wpAnyH_take (i := 18) (v := undef) rfl (by kernel_rfl) (by kernel_rfl) (by kernel_rfl) (fun _ _ _ h => h) (Or.inr ⟨by rfl, rfl⟩) h0 ?_
              simp only [Act.put, List.getElem_toArray, List.getElem_cons_zero, List.getElem_cons_succ, List.setIfInBounds_toArray, List.set_cons_zero, List.set_cons_succ]
              refine wpAnyH_take (i := 19) (v := undef) rfl (by kernel_rfl) (by kernel_rfl) (by kernel_rfl) (fun _ _ _ h => h) (Or.inr ⟨by rfl, rfl⟩) h0 ?_
              simp only [Act.put, List.getElem_toArray, List.getElem_cons_zero, List.getElem_cons_succ, List.setIfInBounds_toArray, List.set_cons_zero, List.set_cons_succ]
              refine wpAnyH_take (i := 20) (v := undef) rfl (by kernel_rfl) (by kernel_rfl) (by kernel_rfl) (fun _ _ _ h => h) (Or.inr ⟨by rfl, rfl⟩) h0 ?_
              simp only [Act.put, List.getElem_toArray, List.getElem_cons_zero, List.getElem_cons_succ, List.setIfInBounds_toArray, List.set_cons_zero, List.set_cons_succ]
              refine wpAnyH_take (i := 21) (v := ?_) rfl (by kernel_rfl) (by kernel_rfl) (by kernel_rfl) (fun _ _ _ h => h) (Or.inl ⟨by rfl, fun W hW => ?_⟩) h0 ?_
              rotate_left
              · clear hW
                go_simp
                try with_reducible rfl
              simp only [Act.put, List.getElem_toArray, List.getElem_cons_zero, List.getElem_cons_succ, List.setIfInBounds_toArray, List.set_cons_zero, List.set_cons_succ]
              refine wpAnyH_done (by kernel_rfl) ?_ _
              have B3 := hbel.trans (h0.mono hbel.size)
              clear h0 c1 c2 AR
              go_wp2_with fail
              go_roundw
              case rel => exact ⟨k + 1, by omega, by go_num, B3⟩
              case measure => simp [intOf]; omega
            · have hz1 : (zs.toList == key.toList) = false := beq_eq_false_iff_ne.2 fun e => hzk (baEq e)
              have CK : Hid (∀ W, Below wr.heap.size wr W → Calls Try.prog 11 #[.agg #[.slice ao RM.length ac, .slice bo RL.length bc], .string zs] W fun e w' => e = .returned (.int .i64 zk) ∧ Below W.heap.size W w') := fun W h => by
                have := CNG.out zs _ _ W (ENr.out.below h) (RNr.out.below h)
                rwa [HX hzk] at this
              clear HX
              refine wpAnyH_take (i := 0) (v := ?_) rfl (by kernel_rfl) (by kernel_rfl) (by kernel_rfl) (fun _ _ _ h => h) (Or.inl ⟨by rfl, fun W hW => ?_⟩) h0 ?_
              rotate_left
              · clear hW
                go_simp
                try with_reducible rfl
              simp only [Act.put, List.getElem_toArray, List.getElem_cons_zero, List.setIfInBounds_toArray, List.set_cons_zero, List.set_cons_succ]
              refine wpAnyH_take (i := 1) (v := ?_) rfl (by kernel_rfl) (by kernel_rfl) (by kernel_rfl) (fun _ _ _ h => h) (Or.inl ⟨by rfl, fun W hW => ?_⟩) h0 ?_
              rotate_left
              · clear hW
                go_simp
                try with_reducible rfl
              simp only [Act.put, List.getElem_toArray, List.getElem_cons_zero, List.getElem_cons_succ, List.setIfInBounds_toArray, List.set_cons_zero, List.set_cons_succ]
              refine wpAnyH_take (i := 2) (v := ?_) rfl (by kernel_rfl) (by kernel_rfl) (by kernel_rfl) (fun _ _ _ h => h) (Or.inl ⟨by rfl, fun W hW => ?_⟩) h0 ?_
              rotate_left
              · clear hW
                go_simp
                try with_reducible rfl
              simp only [Act.put, List.getElem_toArray, List.getElem_cons_zero, List.getElem_cons_succ, List.setIfInBounds_toArray, List.set_cons_zero, List.set_cons_succ]
              refine wpAnyH_take (i := 3) (v := ?_) rfl (by kernel_rfl) (by kernel_rfl) (by kernel_rfl) (fun _ _ _ h => h) (Or.inl ⟨by rfl, fun W hW => ?_⟩) h0 ?_
              rotate_left
              · clear hW
                go_simp
                try with_reducible rfl
              simp only [Act.put, List.getElem_toArray, List.getElem_cons_zero, List.getElem_cons_succ, List.setIfInBounds_toArray, List.set_cons_zero, List.set_cons_succ]
              refine wpAnyH_take (i := 4) (v := .string zs) rfl (by kernel_rfl) (by kernel_rfl) (by kernel_rfl) (fun _ _ _ h => h) (Or.inl ⟨by rfl, fun W hW => ?_⟩) h0 ?_
              · have q0 := (hW.cell (p := ⟨g, (off + k * 2), none⟩) hgr).trans c1.out
                go_simp
              simp only [Act.put, List.getElem_toArray, List.getElem_cons_zero, List.getElem_cons_succ, List.setIfInBounds_toArray, List.set_cons_zero, List.set_cons_succ]
              refine wpAnyH_take (i := 5) (v := ?_) rfl (by kernel_rfl) (by kernel_rfl) (by kernel_rfl) (fun _ _ _ h => h) (Or.inl ⟨by rfl, fun W hW => ?_⟩) h0 ?_
              rotate_left
              · clear hW
                go_simp
                try with_reducible rfl
              simp only [Act.put, List.getElem_toArray, List.getElem_cons_zero, List.getElem_cons_succ, List.setIfInBounds_toArray, List.set_cons_zero, List.set_cons_succ]
              refine wpAnyH_take (i := 6) (v := ?_) rfl (by kernel_rfl) (by kernel_rfl) (by kernel_rfl) (fun _ _ _ h => h) (Or.inl ⟨by rfl, fun W hW => ?_⟩) h0 ?_
              rotate_left
              · clear hW
                go_simp
                try with_reducible rfl
              simp only [Act.put, List.getElem_toArray, List.getElem_cons_zero, List.getElem_cons_succ, List.setIfInBounds_toArray, List.set_cons_zero, List.set_cons_succ]
              refine wpAnyH_take (i := 7) (v := ?_) rfl (by kernel_rfl) (by kernel_rfl) (by kernel_rfl) (fun _ _ _ h => h) (Or.inl ⟨by rfl, fun W hW => ?_⟩) h0 ?_
              rotate_left
              · clear hW
                go_simp
                try with_reducible rfl
              simp only [Act.put, List.getElem_toArray, List.getElem_cons_zero, List.getElem_cons_succ, List.setIfInBounds_toArray, List.set_cons_zero, List.set_cons_succ]
              refine wpAnyH_take (i := 8) (v := .agg #[(.slice ao RM.length ac), (.slice bo RL.length bc)]) rfl (by kernel_rfl) (by kernel_rfl) (by kernel_rfl) (fun _ _ _ h => h) (Or.inl ⟨by rfl, fun W hW => ?_⟩) h0 ?_
              · have q0 := (AR.below hW).1 0 _ rfl
                have q1 := (AR.below hW).1 1 _ rfl
                go_simp
              simp only [Act.put, List.getElem_toArray, List.getElem_cons_zero, List.getElem_cons_succ, List.setIfInBounds_toArray, List.set_cons_zero, List.set_cons_succ]
              refine wpAnyH_take (i := 9) (v := ?_) rfl (by kernel_rfl) (by kernel_rfl) (by kernel_rfl) (fun _ _ _ h => h) (Or.inl ⟨by rfl, fun W hW => ?_⟩) h0 ?_
              rotate_left
              · clear hW
                go_simp
                try with_reducible rfl
              simp only [Act.put, List.getElem_toArray, List.getElem_cons_zero, List.getElem_cons_succ, List.setIfInBounds_toArray, List.set_cons_zero, List.set_cons_succ]
              refine wpAnyH_take (i := 10) (v := ?_) rfl (by kernel_rfl) (by kernel_rfl) (by kernel_rfl) (fun _ _ _ h => h) (Or.inl ⟨by rfl, fun W hW => ?_⟩) h0 ?_
              rotate_left
              · clear hW
                go_simp
                try with_reducible rfl
              simp only [Act.put, List.getElem_toArray, List.getElem_cons_zero, List.getElem_cons_succ, List.setIfInBounds_toArray, List.set_cons_zero, List.set_cons_succ]
              refine wpAnyH_take (i := 11) (v := ?_) rfl (by kernel_rfl) (by kernel_rfl) (by kernel_rfl) (fun _ _ _ h => h) (Or.inl ⟨by rfl, fun W hW => ?_⟩) h0 ?_
              rotate_left
              · clear hW
                go_simp
                try with_reducible rfl
              simp only [Act.put, List.getElem_toArray, List.getElem_cons_zero, List.getElem_cons_succ, List.setIfInBounds_toArray, List.set_cons_zero, List.set_cons_succ]
              refine wpAnyH_take (i := 12) (v := ?_) rfl (by kernel_rfl) (by kernel_rfl) (by kernel_rfl) (fun _ _ _ h => h) (Or.inl ⟨by rfl, fun W hW => ?_⟩) h0 ?_
              rotate_left
              · clear hW
                go_simp
                try with_reducible rfl
              simp only [Act.put, List.getElem_toArray, List.getElem_cons_zero, List.getElem_cons_succ, List.setIfInBounds_toArray, List.set_cons_zero, List.set_cons_succ]
              refine wpAnyH_take (i := 13) (v := .string zs) rfl (by kernel_rfl) (by kernel_rfl) (by kernel_rfl) (fun _ _ _ h => h) (Or.inl ⟨by rfl, fun W hW => ?_⟩) h0 ?_
              · have q0 := (hW.cell (p := ⟨g, (off + k * 2), none⟩) hgr).trans c1.out
                go_simp
              simp only [Act.put, List.getElem_toArray, List.getElem_cons_zero, List.getElem_cons_succ, List.setIfInBounds_toArray, List.set_cons_zero, List.set_cons_succ]
              refine wpAnyH_take (i := 15) (v := ?_) rfl (by kernel_rfl) (by kernel_rfl) (by kernel_rfl) (fun _ _ _ h => h) (Or.inl ⟨by rfl, fun W hW => ?_⟩) h0 ?_
              rotate_left
              · clear hW
                go_simp
                try with_reducible rfl
              simp only [Act.put, List.getElem_toArray, List.getElem_cons_zero, List.getElem_cons_succ, List.setIfInBounds_toArray, List.set_cons_zero, List.set_cons_succ]
              refine wpAnyH_take (i := 16) (v := ?_) rfl (by kernel_rfl) (by kernel_rfl) (by kernel_rfl) (fun _ _ _ h => h) (Or.inl ⟨by rfl, fun W hW => ?_⟩) h0 ?_
              rotate_left
              · clear hW
                go_simp
                try with_reducible rfl
              simp only [Act.put, List.getElem_toArray, List.getElem_cons_zero, List.getElem_cons_succ, List.setIfInBounds_toArray, List.set_cons_zero, List.set_cons_succ]
              refine wpAnyH_take (i := 17) (v := ?_) rfl (by kernel_rfl) (by kernel_rfl) (by kernel_rfl) (fun _ _ _ h => h) (Or.inl ⟨by rfl, fun W hW => ?_⟩) h0 ?_
              rotate_left
              · clear hW
                go_simp
                try with_reducible rfl
              simp only [Act.put, List.getElem_toArray, List.getElem_cons_zero, List.getElem_cons_succ, List.setIfInBounds_toArray, List.set_cons_zero, List.set_cons_succ]
              refine wpAnyH_take (i := 18) (v := ?_) rfl (by kernel_rfl) (by kernel_rfl) (by kernel_rfl) (fun _ _ _ h => h) (Or.inl ⟨by rfl, fun W hW => ?_⟩) h0 ?_
              rotate_left
              · clear hW
                go_simp
                try with_reducible rfl
              simp only [Act.put, List.getElem_toArray, List.getElem_cons_zero, List.getElem_cons_succ, List.setIfInBounds_toArray, List.set_cons_zero, List.set_cons_succ]
              refine wpAnyH_take (i := 19) (v := .int .i64 zk) rfl (by kernel_rfl) (by kernel_rfl) (by kernel_rfl) (fun _ _ _ h => h) (Or.inl ⟨by rfl, fun W hW => ?_⟩) h0 ?_
              · have q0 := (hW.cell (p := ⟨g, (off + k * 2 + 1), none⟩) hgr).trans c2.out
                go_simp
              simp only [Act.put, List.getElem_toArray, List.getElem_cons_zero, List.getElem_cons_succ, List.setIfInBounds_toArray, List.set_cons_zero, List.set_cons_succ]
              refine wpAnyH_ready (rs := [14]) (by kernel_rfl) (by simp) (AllReadyH.cons rfl (fun K hK => ?_) AllReadyH.nil)
              go_simp
              refine (CK.out _ h0).mono ?_
              rintro e w9 ⟨rfl, bq⟩
              refine hK.out _ _ (h0.trans (bq.mono h0.size)) (fun h1 => ?_)
              clear hK K bq h0
              refine wpAnyH_take (i := 20) (v := ?_) rfl (by kernel_rfl) (by kernel_rfl) (by kernel_rfl) (fun _ _ _ h => h) (Or.inl ⟨by rfl, fun W hW => ?_⟩) h1 ?_
              rotate_left
              · clear hW
                go_simp
                try with_reducible rfl
              simp only [Act.put, List.getElem_toArray, List.getElem_cons_zero, List.getElem_cons_succ, List.setIfInBounds_toArray, List.set_cons_zero, List.set_cons_succ]
              refine wpAnyH_take (i := 21) (v := ?_) rfl (by kernel_rfl) (by kernel_rfl) (by kernel_rfl) (fun _ _ _ h => h) (Or.inl ⟨by rfl, fun W hW => ?_⟩) h1 ?_
              rotate_left
              · clear hW
                go_simp
                try with_reducible rfl
              simp only [Act.put, List.getElem_toArray, List.getElem_cons_zero, List.getElem_cons_succ, List.setIfInBounds_toArray, List.set_cons_zero, List.set_cons_succ]
              refine wpAnyH_done (by kernel_rfl) ?_ _
              have B3 := hbel.trans (h1.mono hbel.size)
              clear h1 c1 c2 CK AR
              go_wp2_with fail
              go_roundw
              case rel => exact ⟨k + 1, by omega, by go_num, B3⟩
              case measure => simp [intOf]; omega
        · have hki : ¬ (k : Int) < (N : Int) := by omega
          have BU := BUb.trans (hbel.mono BUb.size)
          have AS := AUb.below hbel
          have s0 := AS.1 0 _ rfl
          have s1 := AS.1 1 _ rfl
          have ENr := hidM (ENb.out.below hbel)
          have RNr := hidM (RNb.out.below hbel)
          have B3 := hidM (B2.out.trans (hbel.mono B2.out.size))
          clear hbel B2 ENb RNb AUb AVb RLW HG HO hlt hk
          go_wp2_with fail
          refine (CK0.out _ BU).mono ?_
          rintro e wc ⟨rfl, bc'⟩
          have ARc := AR.below bc'
          have ENc := hidM (ENr.out.below bc')
          have RNc := hidM (RNr.out.below bc')
          have B4 := hidM (B3.out.trans (bc'.mono B3.out.size))
          have t0 := ARc.1 0 _ rfl
          have t1 := ARc.1 1 _ rfl
          clear s0 s1 AS AR ENr RNr B3 bc' BU CK0 CG
          have CNG2 := hidM (CNG.out key)
          rw [hself] at CNG2
          clear CNG
          by_cases hz : gk = 0
          · rw [if_pos hz] at hcnt
            go_upto_region 17 with fail
            go_wp2_with fail
            refine (CNG2.out _ _ _ ENc.out RNc.out).mono ?_
            rintro e wd ⟨rfl, bd⟩
            have ARd := ARc.below bd
            have ENd := hidM (ENc.out.below bd)
            have RNd := hidM (RNc.out.below bd)
            have t2 := ARd.1 0 _ rfl
            have t3 := ARd.1 1 _ rfl
            go_wp2_with fail
            refine (CO.out _ _ _ ENd.out RNd.out).mono ?_
            rintro e we ⟨rfl, be⟩
            have ARe := ARd.below be
            have ENe := hidM (ENd.out.below be)
            have RNe := hidM (RNd.out.below be)
            have t4 := ARe.1 0 _ rfl
            have t5 := ARe.1 1 _ rfl
            go_wp2_with fail
            refine (CNA.out _ _ _ ENe.out RNe.out).mono ?_
            rintro e wf ⟨vF, rfl, oF, bf⟩
            obtain ⟨fa, fc, hvF⟩ := (EntRow.of_own' oF).slice
            subst hvF
            have BF : Below w.heap.size w wf := ((B4.out.trans (bd.mono B4.out.size)).trans (be.mono (B4.out.trans (bd.mono B4.out.size)).size)).trans (bf.mono ((B4.out.trans (bd.mono B4.out.size)).trans (be.mono (B4.out.trans (bd.mono B4.out.size)).size)).size)
            go_wp2_with fail
            go_ret
            exact ⟨rfl, BF⟩
          · rw [if_neg hz] at hcnt
            go_upto_region 17 with fail
            go_wp2_with fail
            refine (CNG2.out _ _ _ ENc.out RNc.out).mono ?_
            rintro e wd ⟨rfl, bd⟩
            have ARd := ARc.below bd
            have ENd := hidM (ENc.out.below bd)
            have RNd := hidM (RNc.out.below bd)
            have t2 := ARd.1 0 _ rfl
            have t3 := ARd.1 1 _ rfl
            go_wp2_with fail
            refine (CO.out _ _ _ ENd.out RNd.out).mono ?_
            rintro e we ⟨rfl, be⟩
            have ARe := ARd.below be
            have ENe := hidM (ENd.out.below be)
            have RNe := hidM (RNd.out.below be)
            have t4 := ARe.1 0 _ rfl
            have t5 := ARe.1 1 _ rfl
            go_wp2_with fail
            refine (CNA.out _ _ _ ENe.out RNe.out).mono ?_
            rintro e wf ⟨vF, rfl, oF, bf⟩
            obtain ⟨fa, fc, hvF⟩ := (EntRow.of_own' oF).slice
            subst hvF
            have BF : Below w.heap.size w wf := ((B4.out.trans (bd.mono B4.out.size)).trans (be.mono (B4.out.trans (bd.mono B4.out.size)).size)).trans (bf.mono ((B4.out.trans (bd.mono B4.out.size)).trans (be.mono (B4.out.trans (bd.mono B4.out.size)).size)).size)
            go_wp2_with fail
            go_ret
            exact ⟨rfl, BF⟩

set_option maxRecDepth 100000 in
theorem lifted (os : Os) (started : os.Started) (H : Type) (enc : TypeId × Value → H) :
    ReturnsInHanded {} Try.checked os 3 .any (Rows.fnSeenSpec.pre6 enc Try.prog Try.f3 Rows.fnSeenRow.domain false) (Rows.fnSeenSpec.post enc Try.prog Try.f3 false true false false) := by
  refine returnsInHanded_of_change (C := Try.checked) own started (by kernel_rfl) Try.func3
    (ChangeSpec.witness6 (enc := enc) (C := Try.checked) false ⟨#[], #[.slice none 0 0], []⟩ 8 (by kernel_rfl) (by kernel_rfl) (by kernel_rfl) (by kernel_rfl)) ?_
  intro W base args ds gs before hval0 hW hcnd _
  have hval : ∀ (j : Nat) t v, Try.f3.params[j]? = some t → args[j]? = some v → Value.okWide Try.prog W .any base t v := hval0
  have hW' := hW
  obtain ⟨p, q, hA0, hV, rfl, hfz, hnd⟩ := hW
  have hA : DataW.TrodAll enc Try.prog W 0 (fun _ => true) true Try.f3.params.toList args.toList ds p := hA0
  rw [Try.params3] at hA hval
  obtain ⟨v0, vs0, d0, ds0, p0, q0, hargs, rfl, rfl, h0, r0⟩ := trodAll_cons hA
  obtain ⟨rfl, rfl, rfl⟩ := trodAll_nil r0
  obtain rfl : args = #[v0] := by cases args; simp_all
  obtain ⟨rfl, rfl⟩ := trodVars_none hV
  obtain ⟨a0, len0, cap0, rfl⟩ := okWide_slice Try.underlying22 (hval 0 22 v0 rfl rfl)
  have k0 := h0
  have lt0 : ∀ x ∈ p0, x.block < W.heap.size := by obtain ⟨m, hm⟩ := k0; exact DataW.trod_lt m _ _ _ hm
  obtain ⟨z0, w0⟩ : ∃ zs, IsRow .u8 W a0 len0 cap0 zs := by
    obtain ⟨fuel, hf⟩ := h0
    rcases open_ints Try.underlying22 Try.underlying5 (by kernel_rfl) hf with ⟨hcs, _⟩ | ⟨x, l, c, zs, hcs, _, hl, hm, hz, _, hcell, hwz⟩
    · simp [Value.cells] at hcs
      obtain ⟨rfl, rfl, rfl⟩ := hcs
      exact ⟨[], .inl ⟨rfl, rfl, rfl, rfl⟩⟩
    · simp [Value.cells] at hcs
      obtain ⟨rfl, rfl, rfl⟩ := hcs
      exact ⟨zs, .inr ⟨_, rfl, hl, hm, by simpa using hz, hcell, hwz⟩⟩
  clear hA0 hval0
  refine (walk a0 len0 cap0 z0 W w0).mono fun e W' ⟨he, bel⟩ => ?_
  subst he
  exact ⟨_, rfl, _, _, _, [], _, [], hW', trodAll_mk1 (shut_bool Try.underlying4 _), (trodAll_cons_mk (Below.trod laidOut (by kernel_rfl) (of_decide_eq_true (by kernel_rfl)) k0 bel lt0) trodAll_mk0), rfl, bel.frame _, fun h => by cases h⟩

theorem over : Rows.fnSeenRow.holds Try.pinned (OpenSpec.ofChange Rows.fnSeenSpec) :=
  OpenClaim.holds_of_wide 3 Try.f3 rfl rfl rfl rfl rfl rfl rfl ⟨rfl, rfl, rfl, rfl, rfl⟩ rfl rfl rfl rfl rfl (by kernel_rfl) Try.func3 (by kernel_rfl)
    (of_decide_eq_true (by kernel_rfl)) (by unfold Func.isWrapper; first | (rw [if_pos (by decide +kernel)]; kernel_rfl) | (rw [if_neg (by decide +kernel)]; exact ⟨rfl, rfl⟩))
    (fun os started H enc _ => lifted os started H enc)

theorem proved : Rows.FnSeenSaid := over
end Go.Proofs.Ytdnlaijpgjpplaa.fnSeen

namespace Go.Proofs.Ytdnlaijpgjpplaa
theorem fnSeen_holds : Rows.FnSeenSaid := fnSeen.proved
#print axioms fnSeen_holds
end Go.Proofs.Ytdnlaijpgjpplaa
