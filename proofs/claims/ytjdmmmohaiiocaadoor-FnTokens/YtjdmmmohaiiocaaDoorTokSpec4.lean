/- The contract of the specification's marks that begin. -/
import Derived.Test.YtjdmmmohaiiocaaDoorRows
import Derived.Test.YtjdmmmohaiiocaaDoorTokSpec3
import Derived.Test.YtjdmmmohaiiocaaDoorParseAdd
import Derived.Test.YtjdmmmohaiiocaaDoorLabPlain
namespace Go.Proofs.YtjdmmmohaiiocaaDoor
open Go.RowKit
set_option linter.unusedVariables false

theorem scQ_next {q c : UInt8} {t : List UInt8} (h : ¬ (q = 0 ∧ c = 62)) : scQ q (c :: t) = 1 + scQ (nxQ q c) t := by rw [scQ, if_neg h]
theorem scQ_stop {q c : UInt8} {t : List UInt8} (h : q = 0 ∧ c = 62) : scQ q (c :: t) = 0 := by rw [scQ, if_pos h]
theorem ext_mid (s : ByteArray) (a n j : Nat) : (s.extract (a + n) (a + n + j)).data.toList = ((s.data.toList.drop a).take (n + j)).drop n := by
  rw [extract_list, List.drop_take, List.drop_take, List.drop_drop, show a + n + j - (a + n) = j by omega, show n + j - n = j by omega]
theorem text_ne13 {s : ByteArray} {m : List UInt8} (h : s.data.toList ≠ m) : (s.toList == m) = false := beq_eq_false_iff_ne.2 fun e => h (by rw [← ByteArray.toList_eq]; exact e)
theorem Tryd.infoTk : (Tryd.prog.info? 33).map (fun i => (i.zero, i.size, i.bytes)) = some (some (.agg #[.int .i64 0, .string ⟨#[]⟩]), 2, 24) := by kernel_rfl
set_option maxRecDepth 100000 in
set_option maxHeartbeats 8000000 in
theorem spec13Open (s : ByteArray) (a : Nat) (w : World) (hs : s.size ≤ 16777216) (ha : a ≤ s.size) :
    Calls Tryd.prog 47 #[.string s, .int .i64 (a : Int)] w fun e w' => TokA w a (openR (s.data.toList.drop a)) e w' := by
  have hsl : (s.data.toList.drop a).length = s.size - a := by rw [List.length_drop]; simp
  have CN : Hid (∀ W, Calls Tryd.prog 61 #[.string s, .int .i64 (a : Int)] W fun e w' => e = .returned (.int .i64 ((a + nameN (s.data.toList.drop a) : Nat) : Int)) ∧ W = w') := fun W => spec13Name s a W hs ha
  obtain ⟨hn1, hn2⟩ := nameN_le (s.data.toList.drop a)
  obtain ⟨n, hn⟩ : ∃ n, nameN (s.data.toList.drop a) = n := ⟨_, rfl⟩
  have HN : Hid (nameN (s.data.toList.drop a) = n) := hn
  rw [hn] at CN hn1 hn2
  clear hn
  go_enter Tryd.func47, Tryd.ntmps47
  go_wp2_with fail
  refine (CN.out _).mono ?_
  rintro e w' ⟨rfl, rfl⟩
  go_wp2_with fail
  go_loop [8, 9] (fun i v => ∃ (j : Nat) (q : UInt8) (qd : Nat), a + n + j ≤ s.size ∧ i = .int .i64 ((a + n + j : Nat) : Int) ∧ v = .int .u8 (qd : Int) ∧ Hid (q.toNat = qd) ∧ Hid (scQ 0 ((s.data.toList.drop a).drop n) = j + scQ q (((s.data.toList.drop a).drop n).drop j))) (fun i _ => s.size + 1 - (intOf i).toNat)
  case atStart => exact ⟨0, 0, 0, by omega, by go_num, rfl, rfl, (by show _ = _; rw [List.drop_zero, Nat.zero_add])⟩
  case round =>
    obtain ⟨j, q, qd, hj, rfl, rfl, HQ, HS⟩ := hrel
    by_cases hlt : a + n + j < s.size
    · have hki : (a : Int) + n + j < s.size := by omega
      obtain ⟨d, hd⟩ : ∃ d : Nat, (s[a + n + j]'hlt).toNat = d := ⟨_, rfl⟩
      have ix := run_at Tryd.prog 9 Tryd.underlying9 s ((a : Int) + n + j) (a + n + j) d hlt (by omega) hd
      have hdr : ((s.data.toList.drop a).drop n).drop j = s[a + n + j]'hlt :: ((s.data.toList.drop a).drop n).drop (j + 1) := by
        rw [List.drop_drop, List.drop_drop, List.drop_drop, List.drop_drop, show a + (n + j) = a + n + j by omega, show a + (n + (j + 1)) = a + n + j + 1 by omega]
        exact drop_at s (a + n + j) hlt
      have hd2 : d < 256 := by rw [← hd]; exact (s[a + n + j]'hlt).toNat_lt
      have hq2 : qd < 256 := by rw [← HQ.out]; exact q.toNat_lt
      by_cases hst : qd = 0 ∧ d = 62
      · obtain ⟨h0, h62⟩ := hst
        have HE : Hid (openE (s.data.toList.drop a) = n + j) := by
          show _ = _
          unfold openE
          rw [HN.out, HS.out, hdr, scQ_stop ⟨UInt8.toNat_inj.1 (by rw [HQ.out, h0]; rfl), UInt8.toNat_inj.1 (by rw [hd, h62]; rfl)⟩]
          omega
        have hne : ¬ n + j = (s.data.toList.drop a).length := by omega
        have hks : ((a : Int) + n + j == (s.size : Int)) = false := beq_eq_false_iff_ne.2 (by omega)
        have hMl := ext_mid s a n j
        have HMD : Hid (openM (s.data.toList.drop a) = ((s.data.toList.drop a).take (n + j)).drop n) := by show _ = _; unfold openM; rw [HE.out, HN.out]
        rw [← hMl] at HMD
        have hx : s.extract a (a + n) = bytesV ((s.data.toList.drop a).take n) := by
          unfold bytesV
          rw [← Lib.mk_data (s.extract a (a + n)), extract_list, List.drop_take, show a + n - a = n by omega]
        have HR : Hid (openR (s.data.toList.drop a) = if (decide (n = 0) || badM (s.extract (a + n) (a + n + j)).data.toList) = true then noMR 2 else ⟨⟨1, s.extract a (a + n)⟩ :: (if (s.extract (a + n) (a + n + j)).data.toList.getLast? = some 47 then [⟨2, s.extract a (a + n)⟩] else []), n + j + 1, 0⟩) := by
          show _ = _
          unfold openR
          rw [HE.out, HN.out, if_neg hne, HMD.out, hx]
          by_cases hb : n = 0 ∨ badM (s.extract (a + n) (a + n + j)).data.toList = true
          · rw [if_pos hb, if_pos (by rw [Bool.or_eq_true, decide_eq_true_eq]; exact hb)]
          · have hb2 : ¬ (decide (n = 0) || badM (s.extract (a + n) (a + n + j)).data.toList) = true := by rw [Bool.or_eq_true, decide_eq_true_eq]; exact hb
            rw [if_neg hb, if_neg hb2]
        have hMs : (s.extract (a + n) (a + n + j)).size = j := by simp; omega
        have hNs : (s.extract a (a + n)).size = n := by simp; omega
        subst h0 h62
        clear hd hdr HQ HS HE HMD hMl hx hne
        go_upto_region 13 with fail
        generalize s.extract (a + n) (a + n + j) = MID at *
        generalize hNM : s.extract a (a + n) = NM at *
        obtain ⟨bb, hbb⟩ : ∃ bb, (decide (n = 0) || badM MID.data.toList) = bb := ⟨_, rfl⟩
        rw [hbb] at HR
        have HBB : Hid ((decide (n = 0) || badM MID.data.toList) = bb) := hbb
        clear hbb
        go_cut [81] (fun v wx => v = .bool bb ∧ wx = w)
        case first =>
          by_cases hn0 : n = 0
          · have hns : ((a : Int) + n == (a : Int)) = true := beq_iff_eq.2 (by omega)
            have HT : Hid (bb = true) := by show _ = _; rw [← HBB.out, decide_eq_true hn0]; rfl
            clear hn0
            go_wp2_with fail
            go_meet
            exact ⟨by rw [HT.out], rfl⟩
          · have hns : ((a : Int) + n == (a : Int)) = false := beq_eq_false_iff_ne.2 (by omega)
            have HT : Hid (badM MID.data.toList = bb) := by have := HBB.out; rwa [decide_eq_false hn0, Bool.false_or] at this
            clear hn0
            by_cases hj0 : j = 0
            · have hem := empty_yes (u := MID) (by omega)
              have hMdl : MID.data.toList.length = MID.size := by simp
              have hnil : MID.data.toList = [] := List.eq_nil_of_length_eq_zero (by omega)
              have HB2 : Hid (bb = false) := by show _ = _; rw [← HT.out, hnil]; rfl
              clear hnil hMdl
              clear hj0
              go_wp2_with fail
              go_meet
              exact ⟨by rw [HB2.out], rfl⟩
            · have hem := empty_no (u := MID) (by omega)
              have hm0 : 0 < MID.size := by omega
              obtain ⟨d0, hd0⟩ : ∃ d0 : Nat, (MID[0]'hm0).toNat = d0 := ⟨_, rfl⟩
              have ix0 := run_at Tryd.prog 9 Tryd.underlying9 MID 0 0 d0 hm0 rfl hd0
              have hcons : MID.data.toList = MID[0]'hm0 :: MID.data.toList.drop 1 := by
                have := drop_at MID 0 hm0
                rwa [List.drop_zero] at this
              by_cases h47 : MID.data.toList = [47]
              · have h47i : (MID.toList == [47]) = true := by rw [ByteArray.toList_eq, h47]; rfl
                have HB2 : Hid (bb = false) := by show _ = _; rw [← HT.out, h47]; rfl
                clear h47 hcons hd0
                go_wp2_with fail
                go_meet
                exact ⟨by rw [HB2.out], rfl⟩
              · have h47i : (MID.toList == [47]) = false := text_ne13 h47
                have HB2 : Hid (bb = !blkB (MID[0]'hm0)) := by
                  show _ = _
                  rw [← HT.out]
                  have h48 := h47
                  rw [hcons] at h48 ⊢
                  unfold badM
                  dsimp only
                  rw [decide_eq_true h48]
                  rfl
                cases hbl : blkB (MID[0]'hm0) with
                | true =>
                  have CB : Hid (∀ W, Calls Tryd.prog 62 #[.int .u8 (d0 : Int)] W fun e w' => e = .returned (.bool true) ∧ W = w') := fun W => by rw [← hd0]; exact l1Blank_yes _ W ((blk_is _).1 hbl)
                  rw [hbl] at HB2
                  clear h47 hcons hd0 hbl
                  go_wp2_with fail
                  refine (CB.out _).mono ?_
                  rintro e w' ⟨rfl, rfl⟩
                  go_wp2_with fail
                  go_meet
                  exact ⟨by rw [HB2.out]; rfl, rfl⟩
                | false =>
                  have CB : Hid (∀ W, Calls Tryd.prog 62 #[.int .u8 (d0 : Int)] W fun e w' => e = .returned (.bool false) ∧ W = w') := fun W => by rw [← hd0]; exact l1Blank_no _ W fun h => by rw [(blk_is _).2 h] at hbl; cases hbl
                  rw [hbl] at HB2
                  clear h47 hcons hd0 hbl
                  go_wp2_with fail
                  refine (CB.out _).mono ?_
                  rintro e w' ⟨rfl, rfl⟩
                  go_wp2_with fail
                  go_meet
                  exact ⟨by rw [HB2.out]; rfl, rfl⟩
        case rest =>
          obtain ⟨rfl, hw⟩ := hcut
          obtain rfl := hw.symm
          clear HBB
          cases bb with
          | true =>
            rw [if_pos rfl] at HR
            go_wp2_with fail
            go_ret3
            exact (TokA.none (by decide)).same HR.out.symm
          | false =>
            rw [if_neg (by decide)] at HR
            obtain ⟨lb, hlb⟩ : ∃ lb, decide (MID.data.toList.getLast? = some 47) = lb := ⟨_, rfl⟩
            have HLB : Hid (decide (MID.data.toList.getLast? = some 47) = lb) := hlb
            clear hlb
            obtain ⟨U, hU⟩ : ∃ U, U = w.alloc (.cells #[.int .i64 1, .string NM] 33) := ⟨_, rfl⟩
            have bU : Below w.heap.size w U := by rw [hU]; exact (Below.refl _ _).alloc (Nat.le_refl _) _
            have oU : U.ownsRow w.heap.size 33 2 (.slice (some ⟨w.heap.size, 0, none⟩) 1 1) 1 (tcells [⟨1, NM⟩]) := by rw [hU]; exact World.ownsRow_lit w #[.int .i64 1, .string NM] 1 (Nat.le_refl _) (by decide) rfl
            go_upto_region 16 with fail
            rw [← hU]
            clear hU
            go_cut [98] (fun v wx => v = .bool lb ∧ wx = U)
            case first =>
              by_cases hj0 : j = 0
              · have hem := empty_yes (u := MID) (by omega)
                have hMdl : MID.data.toList.length = MID.size := by simp
                have hnil : MID.data.toList = [] := List.eq_nil_of_length_eq_zero (by omega)
                have HB2 : Hid (lb = false) := by show _ = _; rw [← HLB.out, hnil]; rfl
                clear hnil hMdl hj0
                go_wp2_with fail
                go_meet
                exact ⟨by rw [HB2.out], rfl⟩
              · have hem := empty_no (u := MID) (by omega)
                have hm0 : 0 < MID.size := by omega
                obtain ⟨d0, hd0⟩ : ∃ d0 : Nat, (MID[MID.size - 1]'(by omega)).toNat = d0 := ⟨_, rfl⟩
                have ix0 := run_at Tryd.prog 9 Tryd.underlying9 MID ((j : Int) - 1) (MID.size - 1) d0 (by omega) (by omega) hd0
                have HB2 : Hid (lb = ((d0 : Int) == 47)) := by
                  show _ = _
                  rw [← HLB.out, last_at MID hm0, Bool.eq_iff_iff, decide_eq_true_eq, beq_iff_eq]
                  constructor
                  · intro h; rw [← hd0, Option.some.inj h]; rfl
                  · intro h; exact congrArg some (UInt8.toNat_inj.1 (by rw [hd0]; show d0 = 47; omega))
                clear hd0 hj0
                go_wp2_with fail
                go_meet
                exact ⟨by rw [HB2.out], rfl⟩
            case rest =>
              obtain ⟨rfl, hw⟩ := hcut
              obtain rfl := hw.symm
              cases lb with
              | false =>
                rw [if_neg (of_decide_eq_false HLB.out)] at HR
                clear HLB
                go_wp2_with fail
                go_ret3
                refine TokA.same ?_ HR.out.symm
                exact ⟨_, ret_tok (by show _ = ((a + (n + j + 1) : Nat) : Int); omega), oU, bU⟩
              | true =>
                rw [if_pos (of_decide_eq_true HLB.out)] at HR
                clear HLB
                go_wp2_with (at_builtin; refine wpList_append_rule _ rfl _ _ 28 rfl w.heap.size 33 (.agg #[.int .i64 0, .string ⟨#[]⟩]) 24 Tryd.underlying28 Tryd.infoTk rfl _ _ _ rfl oU (.int .i64 2) (.string NM) rfl rfl rfl (by omega) (by unfold maxLen; omega) bU.size ?_)
                intro v' w1 o1 g1 _
                have B1 : Below w.heap.size w w1 := bU.grown g1 bU.size (fun b hb => (oU.lt b hb).1)
                have O1 : Hid (w1.ownsRow w.heap.size 33 2 v' 2 (tcells [⟨1, NM⟩, ⟨2, NM⟩])) := o1
                clear o1 g1
                go_wp2_with fail
                go_ret3
                refine TokA.same ?_ HR.out.symm
                exact ⟨_, ret_tok (by show _ = ((a + (n + j + 1) : Nat) : Int); omega), O1.out, B1⟩
      · have hst2 : ¬ (q = 0 ∧ s[a + n + j]'hlt = 62) := fun h => hst ⟨by rw [← HQ.out, h.1]; rfl, by rw [← hd, h.2]; rfl⟩
        have HS2 : Hid (scQ 0 ((s.data.toList.drop a).drop n) = (j + 1) + scQ (nxQ q (s[a + n + j]'hlt)) (((s.data.toList.drop a).drop n).drop (j + 1))) := by
          show _ = _
          rw [HS.out, hdr, scQ_next hst2]
          omega
        have HNX : Hid ((nxQ q (s[a + n + j]'hlt)).toNat = if qd = 0 ∧ (d = 34 ∨ d = 39) then d else if qd = d then 0 else qd) := by
          show _ = _
          have e1 : (q = 0) = (qd = 0) := propext ⟨fun h => by rw [← HQ.out, h]; rfl, fun h => UInt8.toNat_inj.1 (by rw [HQ.out, h]; rfl)⟩
          have e2 : (s[a + n + j]'hlt = 34) = (d = 34) := propext ⟨fun h => by rw [← hd, h]; rfl, fun h => UInt8.toNat_inj.1 (by rw [hd, h]; rfl)⟩
          have e3 : (s[a + n + j]'hlt = 39) = (d = 39) := propext ⟨fun h => by rw [← hd, h]; rfl, fun h => UInt8.toNat_inj.1 (by rw [hd, h]; rfl)⟩
          have e4 : (q = s[a + n + j]'hlt) = (qd = d) := propext ⟨fun h => by rw [← HQ.out, h, hd], fun h => UInt8.toNat_inj.1 (by rw [HQ.out, hd, h])⟩
          unfold nxQ
          simp only [e1, e2, e3, e4]
          split
          · exact hd
          · split
            · rfl
            · exact HQ.out
        clear hdr hst2 HS
        generalize nxQ q (s[a + n + j]'hlt) = q' at *
        have hcont : (!(((qd : Int) == 0))) = true ∨ ((d : Int) != 62) = true := by
          by_cases h0 : qd = 0
          · exact .inr (bne_iff_ne.2 (by omega))
          · left
            rw [show ((qd : Int) == 0) = false from beq_eq_false_iff_ne.2 (by omega)]
            rfl
        clear hd HQ
        by_cases h0 : qd = 0
        · subst h0
          have h62 : ((d : Int) != 62) = true := bne_iff_ne.2 (by omega)
          clear hcont
          by_cases h34 : d = 34
          · subst h34
            have HQ2 : Hid (q'.toNat = 34) := HNX.out
            go_wp2_with fail
            go_round
            case rel => exact ⟨j + 1, q', 34, by omega, by go_num, rfl, HQ2, HS2⟩
            case measure => simp [intOf] <;> omega
          · have h34i : ((d : Int) == 34) = false := beq_eq_false_iff_ne.2 (by omega)
            by_cases h39 : d = 39
            · subst h39
              have HQ2 : Hid (q'.toNat = 39) := HNX.out
              go_wp2_with fail
              go_round
              case rel => exact ⟨j + 1, q', 39, by omega, by go_num, rfl, HQ2, HS2⟩
              case measure => simp [intOf] <;> omega
            · have h39i : ((d : Int) == 39) = false := beq_eq_false_iff_ne.2 (by omega)
              have HQ2 : Hid (q'.toNat = 0) := by
                have := HNX.out
                rw [if_neg (by omega)] at this
                rw [this]
                show _ = _
                split <;> rfl
              by_cases hd0 : d = 0
              · subst hd0
                go_wp2_with fail
                go_round
                case rel => exact ⟨j + 1, q', 0, by omega, by go_num, rfl, HQ2, HS2⟩
                case measure => simp [intOf] <;> omega
              · have hd0i : ((0 : Int) == (d : Int)) = false := beq_eq_false_iff_ne.2 (by omega)
                go_wp2_with fail
                go_round
                case rel => exact ⟨j + 1, q', 0, by omega, by go_num, rfl, HQ2, HS2⟩
                case measure => simp [intOf] <;> omega
        · have h0i : ((qd : Int) == 0) = false := beq_eq_false_iff_ne.2 (by omega)
          have h0n : ((qd : Int) != 0) = true := bne_iff_ne.2 (by omega)
          clear hcont
          by_cases hqd : qd = d
          · have hqi : ((qd : Int) == (d : Int)) = true := beq_iff_eq.2 (by omega)
            have HQ2 : Hid (q'.toNat = 0) := by
              have := HNX.out
              rw [if_neg (fun h => h0 h.1), if_pos hqd] at this
              exact this
            clear hqd hst
            go_wp2_with fail
            go_round
            case rel => exact ⟨j + 1, q', 0, by omega, by go_num, rfl, HQ2, HS2⟩
            case measure => simp [intOf] <;> omega
          · have hqi : ((qd : Int) == (d : Int)) = false := beq_eq_false_iff_ne.2 (by omega)
            have HQ2 : Hid (q'.toNat = qd) := by
              have := HNX.out
              rw [if_neg (fun h => h0 h.1), if_neg hqd] at this
              exact this
            clear hqd hst
            go_wp2_with fail
            go_round
            case rel => exact ⟨j + 1, q', qd, by omega, by go_num, rfl, HQ2, HS2⟩
            case measure => simp [intOf] <;> omega
    · have hki : ¬ (a : Int) + n + j < s.size := by omega
      have hks : ((a : Int) + n + j == (s.size : Int)) = true := beq_iff_eq.2 (by omega)
      have HR : Hid (openR (s.data.toList.drop a) = noMR 1) := by
        show _ = _
        have h1 : openE (s.data.toList.drop a) = n + j := by
          unfold openE
          rw [HN.out, HS.out, List.drop_eq_nil_of_le (by rw [List.length_drop]; omega)]
          rfl
        unfold openR
        rw [h1, if_pos (by omega)]
      clear HS HQ
      go_wp2_with fail
      go_ret3
      exact (TokA.none (by decide)).same HR.out.symm
end Go.Proofs.YtjdmmmohaiiocaaDoor
