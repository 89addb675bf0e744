/- Contracts of ParseIp4, of the specification and of the program. -/
import Derived.Test.YtophgcneckjdjaaDoorRows
import Derived.Test.YtophgcneckjdjaaDoorLoose4Impl
import Derived.Test.YtophgcneckjdjaaDoorIp4Impl
namespace Go.Proofs.YtophgcneckjdjaaDoor
open Go.RowKit

theorem st_end (fs : List ByteArray) (k n : Nat) (h : ¬ k < fs.length) : stF n ((fs.drop k).map toL) = some n := by
  rw [List.drop_of_length_le (by omega)]; rfl
theorem st_step (fs : List ByteArray) (k n : Nat) (h : k < fs.length) : stF n ((fs.drop k).map toL) = match str1 (toL (fs.getD k ByteArray.empty)) with
    | none => none
    | some v => stF (n * 256 + v) ((fs.drop (k + 1)).map toL) := by
  rw [drop_bytes fs k h]
  rfl
theorem str1_nil {y : ByteArray} (h : y.size = 0) : str1 (toL y) = none := by
  have : toL y = [] := List.eq_nil_of_length_eq_zero (by simpa [toL] using h)
  rw [this]; rfl
theorem str1_at {y : ByteArray} (h : 0 < y.size) : str1 (toL y) = match numL 10 3 (toL y) with
    | none => none
    | some v => if 255 < v ∨ 1 < y.size ∧ y[0].toNat = 48 then none else some v := by
  have e := toL_one y h
  unfold str1
  rw [show (toL y).isEmpty = false by unfold toL; rw [e]; rfl]
  simp only [Bool.false_eq_true, if_false]
  cases numL 10 3 (toL y) with
  | none => rfl
  | some v =>
    simp only
    have e1 : (1 < (toL y).length ∧ (toL y).head? = some 48) ↔ (1 < y.size ∧ y[0].toNat = 48) := by
      have e2 : (toL y).head? = some y[0] := by unfold toL; rw [e]; rfl
      have e3 : (toL y).length = y.size := by simp [toL]
      rw [e2, e3]
      constructor
      · rintro ⟨a, b⟩
        exact ⟨a, by injection b with b; rw [b]; rfl⟩
      · rintro ⟨a, b⟩
        exact ⟨a, by rw [u8_is (d := 48) b]⟩
    simp only [e1]


set_option maxRecDepth 20000 in
set_option maxHeartbeats 8000000 in
theorem specParseIp4 (s : ByteArray) (w : World) (hs : s.size ≤ 1048576) :
    Calls Tryd.prog 19 #[.string s] w fun e w' => e = .returned (numA (p4 s.data.toList)) ∧ Below w.heap.size w w' := by
  have CF : Hid (Calls Tryd.prog 40 #[.string s, .int .u8 46] w fun e w' => ∃ v, e = .returned v ∧ w'.ownsRow w.heap.size 9 1 v (fieldsL s 46).length (scells (fieldsL s 46)) ∧ Below w.heap.size w w') := specFields s 46 w hs
  have hpos : 0 < (fieldsL s 46).length := by simp [fieldsL]
  have hlen : (fieldsL s 46).length ≤ 1048577 := by
    have := (fieldsTo_le s 46 s.size).2
    simp [fieldsL]; omega
  have HSZ : Hid (∀ x ∈ fieldsL s 46, x.size ≤ 1048576) := fields_sizes46 s hs
  have HP : Hid (p4 s.data.toList = if (fieldsL s 46).length = 4 then stF 0 ((fieldsL s 46).map toL) else none) := by
    show _ = _
    unfold p4
    rw [← fieldsL_46, List.length_map]
  generalize fieldsL s 46 = fs at CF hpos hlen HSZ HP
  by_cases h4 : fs.length = 4
  · have HF : Hid (p4 s.data.toList = stF 0 (fs.map toL)) := by
      show _ = _
      rw [HP.out, if_pos h4]
    have HM : Hid (fs.length = 4) := h4
    go_enter Tryd.func19, Tryd.ntmps19
    go_wp2_with fail
    refine CF.out.mono ?_
    rintro e wa ⟨va, rfl, OV, ba⟩
    rcases own_shape OV with ⟨h, _⟩ | ⟨_, g, cap, rfl⟩
    · omega
    · rw [h4] at OV ⊢
      clear h4 hpos hlen CF HP
      go_wp2_with fail
      go_loop [5, 6] (fun x i => ∃ (k n : Nat) (a : Int), k ≤ 4 ∧ i = .int .i64 k ∧ x = .int .i64 a ∧ a = (n : Int) ∧ n < 256 ^ k ∧ stF n ((fs.drop k).map toL) = stF 0 (fs.map toL)) (fun _ i => 4 - (intOf i).toNat)
      case atStart => exact ⟨0, 0, 0, by omega, rfl, rfl, rfl, by decide, rfl⟩
      case round =>
        obtain ⟨k, n, a, hk, rfl, rfl, ha, hn, hf⟩ := hrel
        have HR : Hid (stF n ((fs.drop k).map toL) = stF 0 (fs.map toL)) := hf
        have HN : Hid (n < 256 ^ k) := hn
        have HA : Hid (a = (n : Int)) := ha
        clear hf
        by_cases hlt : k < 4
        · have hn2 : n < 16777216 := Nat.lt_of_lt_of_le hn (pow256 (by omega))
          have ha0 : 0 ≤ a := by omega
          have ha1 : a < 16777216 := by omega
          clear hn hn2 ha
          have hc := scell_at OV k (by omega)
          have hsy := HSZ.out _ (mem_getD (k := k) (by have := HM.out; omega))
          have HS : Hid (_ = _) := st_step fs k n (by have := HM.out; omega)
          have CN : Hid (∀ W, Calls Tryd.prog 44 #[.string (fs.getD k ByteArray.empty), .int .i64 10, .int .i64 3] W fun e w' => e = .returned (.int .i64 (numZ (numL 10 3 (toL (fs.getD k ByteArray.empty))))) ∧ W = w') := fun W => spec5Number _ 10 3 W (by omega) (by omega)
          generalize fs.getD k ByteArray.empty = y at hc hsy HS CN
          have hki : (k : Int) < 4 := by omega
          by_cases he : y.size = 0
          · have HZ : Hid (p4 s.data.toList = none) := by
              show _ = _
              rw [HF.out, ← HR.out, HS.out, str1_nil he]
            have hem := empty_yes he
            clear he
            generalize numZ (numL 10 3 (toL y)) = z at CN
            go_wp2_with fail
            refine (CN.out _).mono ?_
            rintro e w' ⟨rfl, rfl⟩
            go_wp2_with fail
            go_ret2
            exact ⟨by rw [HZ.out]; rfl, ba⟩
          · have hpy : 0 < y.size := by omega
            have hem := empty_no hpy
            have HS1 : Hid (_ = _) := str1_at hpy
            clear he
            cases hv : numL 10 3 (toL y) with
            | none =>
              rw [hv] at CN HS1
              have HZ : Hid (p4 s.data.toList = none) := by
                show _ = _
                rw [HF.out, ← HR.out, HS.out, HS1.out]
              clear hv
              go_wp2_with fail
              refine (CN.out _).mono ?_
              rintro e w' ⟨rfl, rfl⟩
              simp only [numZ]
              go_wp2_with fail
              refine (specL1In_no _ _ _ _ (by omega)).mono ?_
              rintro e w' ⟨rfl, rfl⟩
              go_wp2_with fail
              go_ret2
              exact ⟨by rw [HZ.out]; rfl, ba⟩
            | some v =>
              rw [hv] at CN HS1
              clear hv
              obtain ⟨x, hx⟩ : ∃ x : Int, (v : Int) = x := ⟨_, rfl⟩
              have HX : Hid ((v : Int) = x) := hx
              have hx0 : 0 ≤ x := by omega
              by_cases hvr : 255 < v
              · have HZ : Hid (p4 s.data.toList = none) := by
                  show _ = _
                  rw [HF.out, ← HR.out, HS.out, HS1.out]
                  simp only
                  rw [if_pos (.inl hvr)]
                have hx1 : 255 < x := by omega
                clear hvr hx
                go_wp2_with fail
                refine (CN.out _).mono ?_
                rintro e w' ⟨rfl, rfl⟩
                simp only [numZ]
                rw [HX.out]
                go_wp2_with fail
                refine (specL1In_no _ _ _ _ (by omega)).mono ?_
                rintro e w' ⟨rfl, rfl⟩
                go_wp2_with fail
                go_ret2
                exact ⟨by rw [HZ.out]; rfl, ba⟩
              · have hx1 : x ≤ 255 := by omega
                have hx2 : v < 256 := by omega
                have HV : Hid (v < 256) := hx2
                obtain ⟨d, hd⟩ : ∃ d : Nat, y[0].toNat = d := ⟨_, rfl⟩
                by_cases hq : 1 < y.size ∧ d = 48
                · have HZ : Hid (p4 s.data.toList = none) := by
                    show _ = _
                    rw [HF.out, ← HR.out, HS.out, HS1.out]
                    simp only
                    rw [if_pos (.inr ⟨hq.1, hd.trans hq.2⟩)]
                  obtain ⟨hq1, rfl⟩ := hq
                  have hq1' : 1 < (y.size : Int) := by omega
                  clear hvr hx hx2
                  go_wp2_with fail
                  refine (CN.out _).mono ?_
                  rintro e w' ⟨rfl, rfl⟩
                  simp only [numZ]
                  rw [HX.out]
                  go_wp2_with fail
                  refine (specL1In_yes _ _ _ _ (by omega) (by omega)).mono ?_
                  rintro e w' ⟨rfl, rfl⟩
                  go_wp2_with fail
                  go_ret2
                  exact ⟨by rw [HZ.out]; rfl, ba⟩
                · have HG : Hid (stF (n * 256 + v) ((fs.drop (k + 1)).map toL) = stF 0 (fs.map toL)) := by
                    show _ = _
                    rw [← HR.out, HS.out, HS1.out]
                    simp only
                    rw [if_neg]
                    rintro (h | ⟨h, h'⟩)
                    · exact hvr h
                    · exact hq ⟨h, hd.symm.trans h'⟩
                  clear hvr hx hx2
                  by_cases hq1 : 1 < y.size
                  · have hq1' : 1 < (y.size : Int) := by omega
                    have hq2 : ((d : Int) == 48) = false := by simp; omega
                    clear hq
                    go_wp2_with fail
                    refine (CN.out _).mono ?_
                    rintro e w' ⟨rfl, rfl⟩
                    simp only [numZ]
                    rw [HX.out]
                    go_wp2_with fail
                    refine (specL1In_yes _ _ _ _ (by omega) (by omega)).mono ?_
                    rintro e w' ⟨rfl, rfl⟩
                    go_wp2_with fail
                    go_round
                    case rel => exact ⟨k + 1, n * 256 + v, a * 256 + x, by omega, by go_num, by go_num, by have h1 := HA.out; have h2 := HX.out; omega, by have h1 := HN.out; have h2 := HV.out; rw [Nat.pow_succ]; omega, HG.out⟩
                    case measure => simp [intOf]; omega
                  · have hq1' : ¬ 1 < (y.size : Int) := by omega
                    clear hq
                    go_wp2_with fail
                    refine (CN.out _).mono ?_
                    rintro e w' ⟨rfl, rfl⟩
                    simp only [numZ]
                    rw [HX.out]
                    go_wp2_with fail
                    refine (specL1In_yes _ _ _ _ (by omega) (by omega)).mono ?_
                    rintro e w' ⟨rfl, rfl⟩
                    go_wp2_with fail
                    go_round
                    case rel => exact ⟨k + 1, n * 256 + v, a * 256 + x, by omega, by go_num, by go_num, by have h1 := HA.out; have h2 := HX.out; omega, by have h1 := HN.out; have h2 := HV.out; rw [Nat.pow_succ]; omega, HG.out⟩
                    case measure => simp [intOf]; omega
        · have HZ : Hid (p4 s.data.toList = some n) := by
            show _ = _
            rw [HF.out, ← HR.out]
            exact st_end fs k n (by have := HM.out; omega)
          have hki : ¬ (k : Int) < 4 := by omega
          clear hn ha
          go_wp2_with fail
          go_ret2
          exact ⟨by rw [HZ.out]; have h1 := HA.out; simp [numA]; exact h1, ba⟩
  · have HZ : Hid (p4 s.data.toList = none) := by
      show _ = _
      rw [HP.out, if_neg h4]
    have h4' : ((fs.length : Int) == 4) = false := by simp; omega
    clear h4 HP
    go_enter Tryd.func19, Tryd.ntmps19
    go_wp2_with fail
    refine CF.out.mono ?_
    rintro e wa ⟨va, rfl, OV, ba⟩
    rcases own_shape OV with ⟨h, _⟩ | ⟨_, g, cap, rfl⟩
    · omega
    · have h0' : 0 < (fs.length : Int) := by omega
      go_wp2_with fail
      refine wp_loop_rounds 1 ?_
      rw [rounds_succ]
      go_wp2_with fail
      go_ret2
      exact ⟨by rw [HZ.out]; rfl, ba⟩

set_option maxHeartbeats 2000000 in
theorem implParseIp4 (s : ByteArray) (w : World) (hs : s.size ≤ 1048576) (hT : Pow w) :
    Calls Tryd.prog 12 #[.string s] w fun e w' => e = .returned (numA (p4 s.data.toList)) ∧ Below w.heap.size w w' := by
  have CL : Hid (Calls Tryd.prog 13 #[.string s] w fun e w' => e = .returned (numA (loA s)) ∧ Below w.heap.size w w') := implLooseIp4 s w hs
  have HT : Hid (Pow w) := hT
  clear hT
  cases hl : loA s with
  | none =>
    have HZ : Hid (p4 s.data.toList = none) := parse_none hl
    rw [hl] at CL
    clear hl
    go_enter Tryd.func12, Tryd.ntmps12
    go_wp2_with fail
    refine CL.out.mono ?_
    rintro e wa ⟨rfl, ba⟩
    simp only [numA]
    go_wp2_with fail
    go_ret2
    exact ⟨by rw [HZ.out]; rfl, ba⟩
  | some n =>
    have hn := loA_lt hl
    rw [hl] at CL
    have CI : Hid (∀ W, Pow W → Calls Tryd.prog 11 #[.int .i64 (n : Int)] W fun e w' => e = .returned (.string (ip4T n)) ∧ Below W.heap.size W w') := fun W h => implIp4Text n W (by omega) (by omega) h
    by_cases hq : ip4T n = s
    · have HZ : Hid (p4 s.data.toList = some n) := parse_yes hl (by rw [← hq]; simp [ip4T])
      have hst := str_eq hq
      clear hl hq hn
      generalize ip4T n = T at CI hst
      go_enter Tryd.func12, Tryd.ntmps12
      go_wp2_with fail
      refine CL.out.mono ?_
      rintro e wa ⟨rfl, ba⟩
      simp only [numA]
      go_wp2_with fail
      refine (CI.out _ (pow_below HT.out ba)).mono ?_
      rintro e wb ⟨rfl, bb⟩
      go_wp2_with fail
      go_ret2
      exact ⟨by rw [HZ.out]; rfl, ba.trans (bb.mono ba.size)⟩
    · have HZ : Hid (p4 s.data.toList = none) := parse_no hl (fun e => hq (toL_inj (by show (ip4T n).data.toList = s.data.toList; rw [← e]; simp [ip4T])))
      have hst := str_ne hq
      clear hl hq hn
      generalize ip4T n = T at CI hst
      go_enter Tryd.func12, Tryd.ntmps12
      go_wp2_with fail
      refine CL.out.mono ?_
      rintro e wa ⟨rfl, ba⟩
      simp only [numA]
      go_wp2_with fail
      refine (CI.out _ (pow_below HT.out ba)).mono ?_
      rintro e wb ⟨rfl, bb⟩
      go_wp2_with fail
      go_ret2
      exact ⟨by rw [HZ.out]; rfl, ba.trans (bb.mono ba.size)⟩
end Go.Proofs.YtophgcneckjdjaaDoor
