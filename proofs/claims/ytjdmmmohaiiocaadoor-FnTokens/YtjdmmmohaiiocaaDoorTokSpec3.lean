/- The contract of the specification's marks that end. -/
import Derived.Test.YtjdmmmohaiiocaaDoorRows
import Derived.Test.YtjdmmmohaiiocaaDoorTokSpec2
namespace Go.Proofs.YtjdmmmohaiiocaaDoor
open Go.RowKit
set_option linter.unusedVariables false

theorem ret_tok {v : Value} {x y : Int} (h : x = y) : Ending.returned (.tuple #[v, .int .i64 x, .int .i64 0]) = .returned (.tuple #[v, .int .i64 y, .int .i64 0]) := by rw [h]
theorem blk_is (c : UInt8) : blkB c = true ↔ isBlank c := by
  unfold blkB isBlank
  simp only [Bool.or_eq_true, decide_eq_true_eq, or_assoc]
set_option maxRecDepth 100000 in
set_option maxHeartbeats 4000000 in
theorem spec13Close (s : ByteArray) (a : Nat) (w : World) (hs : s.size ≤ 16777216) (ha : a ≤ s.size) :
    Calls Tryd.prog 46 #[.string s, .int .i64 (a : Int)] w fun e w' => TokA w a (closeR (s.data.toList.drop a)) e w' := by
  have hsl : (s.data.toList.drop a).length = s.size - a := by rw [List.length_drop]; simp
  have CN : Hid (∀ W, Calls Tryd.prog 61 #[.string s, .int .i64 (a : Int)] W fun e w' => e = .returned (.int .i64 ((a + nameN (s.data.toList.drop a) : Nat) : Int)) ∧ W = w') := fun W => spec13Name s a W hs ha
  obtain ⟨hn1, hn2⟩ := nameN_le (s.data.toList.drop a)
  obtain ⟨n, hn⟩ : ∃ n, nameN (s.data.toList.drop a) = n := ⟨_, rfl⟩
  have HN : Hid (nameN (s.data.toList.drop a) = n) := hn
  rw [hn] at CN hn1 hn2
  clear hn
  go_enter Tryd.func46, Tryd.ntmps46
  go_wp2_with fail
  refine (CN.out _).mono ?_
  rintro e w' ⟨rfl, rfl⟩
  go_wp2_with fail
  go_loop [8] (fun i => ∃ j : Nat, a + n + j ≤ s.size ∧ i = .int .i64 ((a + n + j : Nat) : Int) ∧ Hid (∀ c ∈ ((s.data.toList.drop a).drop n).take j, blkB c = true)) (fun i => s.size + 1 - (intOf i).toNat)
  case atStart => exact ⟨0, by omega, by go_num, fun c hc => by cases hc⟩
  case round =>
    obtain ⟨j, hj, rfl, HA⟩ := hrel
    by_cases hlt : a + n + j < s.size
    · have hki : (a : Int) + n + j < s.size := by omega
      obtain ⟨d, hd⟩ : ∃ d : Nat, (s[a + n + j]'hlt).toNat = d := ⟨_, rfl⟩
      have ix := run_at Tryd.prog 9 Tryd.underlying9 s ((a : Int) + n + j) (a + n + j) d hlt (by omega) hd
      have hgj : ((s.data.toList.drop a).drop n)[j]? = some (s[a + n + j]'hlt) := by
        rw [List.getElem?_drop, List.getElem?_drop, show a + (n + j) = a + n + j by omega, List.getElem?_eq_getElem (by simp; omega)]
        rfl
      have hd2 : d < 256 := by rw [← hd]; exact (s[a + n + j]'hlt).toNat_lt
      cases hb : blkB (s[a + n + j]'hlt) with
      | true =>
        have CB : Hid (∀ W, Calls Tryd.prog 62 #[.int .u8 (d : Int)] W fun e w' => e = .returned (.bool true) ∧ W = w') := fun W => by rw [← hd]; exact l1Blank_yes _ W ((blk_is _).1 hb)
        have HA2 : Hid (∀ c ∈ ((s.data.toList.drop a).drop n).take (j + 1), blkB c = true) := fun c hc => by
          rw [List.take_add_one, hgj] at hc
          rcases List.mem_append.1 hc with h | h
          · exact HA.out c h
          · rw [Option.toList_some, List.mem_singleton] at h
            rw [h, hb]
        clear hb hgj hd HA
        go_wp2_with fail
        refine (CB.out _).mono ?_
        rintro e w' ⟨rfl, rfl⟩
        go_wp2_with fail
        go_round
        case rel => exact ⟨j + 1, by omega, by go_num, HA2⟩
        case measure => simp [intOf] <;> omega
      | false =>
        have CB : Hid (∀ W, Calls Tryd.prog 62 #[.int .u8 (d : Int)] W fun e w' => e = .returned (.bool false) ∧ W = w') := fun W => by rw [← hd]; exact l1Blank_no _ W fun h => by rw [(blk_is _).2 h] at hb; cases hb
        have HE : Hid (closeE (s.data.toList.drop a) = n + j) := by
          show _ = _
          unfold closeE
          rw [HN.out, while_len (by rw [List.length_drop]; omega) HA.out (.inr ⟨_, hgj, hb⟩)]
        have hne : (s.data.toList.drop a).length ≠ n + j := by omega
        have hge : (s.data.toList.drop a)[n + j]? = some (s[a + n + j]'hlt) := by
          have h := hgj
          rw [List.getElem?_drop] at h
          exact h
        have hks : ((a : Int) + n + j == (s.size : Int)) = false := beq_eq_false_iff_ne.2 (by omega)
        by_cases hn0 : n = 0
        · have HR : Hid (closeR (s.data.toList.drop a) = noMR 2) := by
            show _ = _
            unfold closeR
            rw [HE.out, HN.out, if_neg (Ne.symm hne), if_pos (.inl hn0)]
          have hns : ((a : Int) + n == (a : Int)) = true := beq_iff_eq.2 (by omega)
          clear hb hgj hd HA hge hne hn0
          go_wp2_with fail
          refine (CB.out _).mono ?_
          rintro e w' ⟨rfl, rfl⟩
          go_wp2_with fail
          go_ret3
          exact (TokA.none (by decide)).same HR.out.symm
        · have hns : ((a : Int) + n == (a : Int)) = false := beq_eq_false_iff_ne.2 (by omega)
          by_cases h62 : d = 62
          · have HR : Hid (closeR (s.data.toList.drop a) = ⟨[⟨2, bytesV ((s.data.toList.drop a).take n)⟩], n + j + 1, 0⟩) := by
              show _ = _
              unfold closeR
              rw [HE.out, HN.out, if_neg (Ne.symm hne), if_neg]
              rintro (h | h)
              · exact hn0 h
              · exact h (by rw [hge]; exact congrArg some (UInt8.toNat_inj.1 (by rw [hd, h62]; rfl)))
            have hx : s.extract a (a + n) = bytesV ((s.data.toList.drop a).take n) := by
              unfold bytesV
              rw [← Lib.mk_data (s.extract a (a + n)), extract_list, List.drop_take, show a + n - a = n by omega]
            subst h62
            clear hb hgj hd HA hge hne hn0
            go_wp2_with fail
            refine (CB.out _).mono ?_
            rintro e w' ⟨rfl, rfl⟩
            go_wp2_with fail
            go_ret3
            refine TokA.same ?_ HR.out.symm
            refine ⟨_, ?_, World.ownsRow_lit w #[.int .i64 2, .string (bytesV ((s.data.toList.drop a).take n))] 1 (Nat.le_refl _) (by decide) rfl, ?_⟩
            · exact ret_tok (by show _ = ((a + (n + j + 1) : Nat) : Int); omega)
            · exact (Below.refl _ _).alloc (Nat.le_refl _) _
          · have h62i : ((d : Int) != 62) = true := bne_iff_ne.2 (by omega)
            have hx62 : (s.data.toList.drop a)[n + j]? ≠ some 62 := fun h => h62 (by
              rw [hge] at h
              rw [← hd, Option.some.inj h]
              rfl)
            have HR : Hid (closeR (s.data.toList.drop a) = noMR 2) := by
              show _ = _
              unfold closeR
              rw [HE.out, HN.out, if_neg (Ne.symm hne), if_pos (.inr hx62)]
            clear hx62
            clear hb hgj hd HA hge hne
            go_wp2_with fail
            refine (CB.out _).mono ?_
            rintro e w' ⟨rfl, rfl⟩
            go_wp2_with fail
            go_ret3
            exact (TokA.none (by decide)).same HR.out.symm
    · have hki : ¬ (a : Int) + n + j < s.size := by omega
      have hks : ((a : Int) + n + j == (s.size : Int)) = true := beq_iff_eq.2 (by omega)
      have HR : Hid (closeR (s.data.toList.drop a) = noMR 1) := by
        show _ = _
        have h1 : closeE (s.data.toList.drop a) = n + j := by
          unfold closeE
          rw [HN.out, while_len (by rw [List.length_drop]; omega) HA.out (.inl (by rw [List.length_drop]; omega))]
        unfold closeR
        rw [h1, if_pos (by omega)]
      clear HA
      go_wp2_with fail
      go_ret3
      exact (TokA.none (by decide)).same HR.out.symm
end Go.Proofs.YtjdmmmohaiiocaaDoor
