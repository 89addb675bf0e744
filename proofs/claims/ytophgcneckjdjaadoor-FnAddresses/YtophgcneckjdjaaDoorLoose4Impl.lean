/- Contract of the program's LooseIp4. -/
import Derived.Test.YtophgcneckjdjaaDoorRows
import Derived.Test.YtophgcneckjdjaaDoorLoose4Walk
namespace Go.Proofs.YtophgcneckjdjaaDoor
open Go.RowKit

set_option maxRecDepth 20000 in
set_option maxHeartbeats 8000000 in
theorem implLooseIp4 (s : ByteArray) (w : World) (hs : s.size ≤ 1048576) :
    Calls Tryd.prog 13 #[.string s] w fun e w' => e = .returned (numA (loA s)) ∧ Below w.heap.size w w' := by
  have CF : Hid (Calls Tryd.prog 28 #[.string s, .int .u8 46] w fun e w' => ∃ v, e = .returned v ∧ w'.ownsRow w.heap.size 9 1 v (fieldsL s 46).length (scells (fieldsL s 46)) ∧ Below w.heap.size w w') := implFields s 46 w hs
  have hpos : 0 < (fieldsL s 46).length := by simp [fieldsL]
  have hlen : (fieldsL s 46).length ≤ 1048577 := by
    have := (fieldsTo_le s 46 s.size).2
    simp [fieldsL]; omega
  have HSZ : Hid (∀ x ∈ dropE (fieldsL s 46), x.size ≤ 1048576) := dropE_sizes (fields_sizes46 s hs)
  have HNM : Hid (loA s = lo4 ((dropE (fieldsL s 46)).map toL)) := rfl
  have hp2 := dropE_pos hpos
  have hl2 : (dropE (fieldsL s 46)).length ≤ 1048577 := Nat.le_trans (dropE_le _) hlen
  have CW : Hid (∀ (W : World) (v : Value) (B : Nat), W.ownsRow B 9 1 v (fieldsL s 46).length (scells (fieldsL s 46)) → Calls Tryd.prog 29 #[v] W fun e w' => ∃ v', e = .returned v' ∧ W.ownsRow B 9 1 v' (dropE (fieldsL s 46)).length (scells (dropE (fieldsL s 46))) ∧ W = w') :=
    fun W v B h => implWithout _ B v W hpos hlen h
  generalize dropE (fieldsL s 46) = fs at CW HSZ HNM hp2 hl2
  by_cases h5 : 4 < fs.length
  · have HZ : Hid (loA s = none) := by
      show _ = _
      rw [HNM.out, lo_over h5]
    have h5' : 4 < (fs.length : Int) := by omega
    clear h5
    go_enter Tryd.func13, Tryd.ntmps13
    go_wp2_with fail
    refine CF.out.mono ?_
    rintro e wa ⟨va, rfl, oa, ba⟩
    go_wp2_with fail
    refine (CW.out _ _ _ oa).mono ?_
    rintro e wb ⟨vb, rfl, ob, rfl⟩
    clear oa CW CF hpos hlen
    rcases own_shape ob with ⟨h, _⟩ | ⟨_, g, cap, rfl⟩
    · omega
    · go_wp2_with fail
      go_ret2
      exact ⟨by rw [HZ.out]; rfl, ba⟩
  · have HF : Hid (loA s = loF 0 4294967296 (fs.map toL)) := by
      show _ = _
      rw [HNM.out, lo_in (by omega)]
    have h5' : ¬ 4 < (fs.length : Int) := by omega
    go_enter Tryd.func13, Tryd.ntmps13
    go_wp2_with fail
    refine CF.out.mono ?_
    rintro e wa ⟨va, rfl, oa, ba⟩
    go_wp2_with fail
    refine (CW.out _ _ _ oa).mono ?_
    rintro e wb ⟨vb, rfl, ob, rfl⟩
    clear oa CW CF hpos hlen
    rcases own_shape ob with ⟨h, _⟩ | ⟨_, g, cap, rfl⟩
    · omega
    · have hcap := own_cap ob
      have hi : ((fs.length : Int) - 1) = ((fs.length - 1 : Nat) : Int) := by omega
      obtain ⟨m, hm⟩ : ∃ m, fs.length - 1 = m := ⟨_, rfl⟩
      rw [hm] at hi
      have HM : Hid (fs.length = m + 1) := by show _ = _; omega
      clear hm
      go_wp2_with fail
      go_loop [5, 6, 27] (fun x r i => ∃ (k n ρ : Nat) (a b : Int), k ≤ m ∧ i = .int .i64 k ∧ x = .int .i64 a ∧ r = .int .i64 b ∧ ρ = 4294967296 / 256 ^ k ∧ b = (ρ : Int) ∧ a = ((n * ρ : Nat) : Int) ∧ n < 256 ^ k ∧ loF n ρ ((fs.drop k).map toL) = loF 0 4294967296 (fs.map toL)) (fun _ _ i => m - (intOf i).toNat)
      case atStart => exact ⟨0, 0, 4294967296, 0, 4294967296, Nat.zero_le _, rfl, rfl, rfl, by decide, rfl, rfl, by decide, rfl⟩
      case round =>
        obtain ⟨k, n, ρ, a, b, hk, rfl, rfl, rfl, hρ, hb, ha, hn, hf⟩ := hrel
        have HR : Hid (loF n ρ ((fs.drop k).map toL) = loF 0 4294967296 (fs.map toL)) := hf
        have HA : Hid (a = ((n * ρ : Nat) : Int)) := ha
        have HP : Hid (ρ = 4294967296 / 256 ^ k) := hρ
        have HB : Hid (b = (ρ : Int)) := hb
        have HN : Hid (n < 256 ^ k) := hn
        have hρ1 : ρ ≤ 4294967296 := by rw [hρ]; exact Nat.div_le_self _ _
        have hab : n * ρ ≤ 4294967296 := by
          rw [hρ]
          exact Nat.le_trans (Nat.mul_le_mul_right _ (Nat.le_of_lt hn)) (Nat.mul_div_le _ _)
        have hb0 : 0 ≤ b := by omega
        have hb1 : b ≤ 4294967296 := by omega
        have ha0 : 0 ≤ a := by omega
        have ha1 : a ≤ 4294967296 := by omega
        have HKM : Hid (k ≤ m) := hk
        clear hf ha hρ hb hn hρ1 hab
        have hc := scell_at ob k (by have := HM.out; omega)
        have hsy := HSZ.out _ (mem_getD (k := k) (by have := HM.out; omega))
        have CT : Hid (∀ W, Calls Tryd.prog 30 #[.string (fs.getD k ByteArray.empty)] W fun e w' => e = .returned (numA (looseP (toL (fs.getD k ByteArray.empty)))) ∧ W = w') := fun W => implLoose _ W hsy
        clear hsy
        by_cases hlt : k < m
        · have HS : Hid (_ = _) := lo_step fs k n ρ (by have := HM.out; omega)
          generalize fs.getD k ByteArray.empty = y at hc CT HS
          have hki : (k : Int) < (m : Int) := by omega
          cases hv : looseP (toL y) with
          | none =>
            rw [hv] at CT HS
            have HZ : Hid (loA s = none) := by
              show _ = _
              rw [HF.out, ← HR.out, HS.out]
            clear hv
            go_wp2_with fail
            refine (CT.out _).mono ?_
            rintro e w' ⟨rfl, rfl⟩
            simp only [numA]
            go_wp2_with fail
            go_ret2
            exact ⟨by rw [HZ.out]; rfl, ba⟩
          | some v =>
            rw [hv] at CT HS
            clear hv
            obtain ⟨x, hx⟩ : ∃ x : Int, (v : Int) = x := ⟨_, rfl⟩
            have HX : Hid ((v : Int) = x) := hx
            by_cases hvr : v < 256
            · have HG : Hid (loF (n * 256 + v) (ρ / 256) ((fs.drop (k + 1)).map toL) = loF 0 4294967296 (fs.map toL)) := by
                show _ = _
                rw [← HR.out, HS.out]
                exact (if_pos hvr).symm
              have hx1 : ¬ 256 ≤ x := by omega
              have hx0 : 0 ≤ x := by omega
              obtain ⟨b', hb'⟩ : ∃ b' : Int, b / 256 = b' := ⟨_, rfl⟩
              have HB' : Hid (b / 256 = b') := hb'
              have hb'0 : 0 ≤ b' := by omega
              have hb'1 : b' ≤ 16777216 := by omega
              obtain ⟨p, hp⟩ : ∃ p : Int, x * b' = p := ⟨_, rfl⟩
              have HPP : Hid (x * b' = p) := hp
              have hp0 : 0 ≤ p := by rw [← hp]; exact Int.mul_nonneg hx0 hb'0
              have hp1 : p ≤ 4294967296 := by
                rw [← hp]
                have h1 : x * b' ≤ 256 * b' := Int.mul_le_mul_of_nonneg_right (by omega) hb'0
                omega
              have HV : Hid (v < 256) := hvr
              clear hvr hx
              go_wp2_with fail
              refine (CT.out _).mono ?_
              rintro e w' ⟨rfl, rfl⟩
              simp only [numA]
              rw [HX.out]
              go_wp2_with fail
              go_round
              case rel =>
                have h1 := HN.out
                have h2 := HV.out
                have h3 := HB.out
                have h4 := HB'.out
                have h5 : b' = ((ρ / 256 : Nat) : Int) := by rw [← h4, h3]; omega
                have h6 : 256 * (ρ / 256) = ρ := by
                  rw [HP.out]
                  obtain ⟨j, hj⟩ : ∃ j, k + 1 + j = 4 := ⟨4 - (k + 1), by have := HM.out; omega⟩
                  have h7 : 4294967296 = 256 ^ k * (256 ^ j * 256) := by
                    rw [← Nat.pow_succ, ← Nat.pow_add, show k + (j + 1) = 4 by omega]
                  rw [h7, Nat.mul_div_cancel_left _ (Nat.pow_pos (by decide)), Nat.mul_div_cancel _ (by decide), Nat.mul_comm]
                refine ⟨k + 1, n * 256 + v, ρ / 256, a + p, b', by omega, by go_num, by go_num, by go_num, ?_, h5, ?_, ?_, HG.out⟩
                · rw [HP.out, Nat.pow_succ, ← Nat.div_div_eq_div_mul]
                · rw [HA.out, ← HPP.out, ← HX.out, h5, Nat.add_mul, Nat.mul_assoc, h6, ← Int.natCast_mul, ← Int.natCast_add]
                · rw [Nat.pow_succ]; omega
              case measure => simp [intOf]; omega
            · have HZ : Hid (loA s = none) := by
                show _ = _
                rw [HF.out, ← HR.out, HS.out]
                exact if_neg hvr
              have hx1 : 256 ≤ x := by omega
              clear hvr hx
              go_wp2_with fail
              refine (CT.out _).mono ?_
              rintro e w' ⟨rfl, rfl⟩
              simp only [numA]
              rw [HX.out]
              go_wp2_with fail
              go_ret2
              exact ⟨by rw [HZ.out]; rfl, ba⟩
        · have HS : Hid (_ = _) := lo_last fs k n ρ (by have := HM.out; omega)
          generalize fs.getD k ByteArray.empty = y at hc CT HS
          obtain rfl : k = m := by omega
          have hki : ¬ (k : Int) < (k : Int) := by omega
          cases hv : looseP (toL y) with
          | none =>
            rw [hv] at CT HS
            have HZ : Hid (loA s = none) := by
              show _ = _
              rw [HF.out, ← HR.out, HS.out]
            clear hv hlt hki
            go_wp2_with fail
            refine (CT.out _).mono ?_
            rintro e w' ⟨rfl, rfl⟩
            simp only [numA]
            go_wp2_with fail
            go_ret2
            exact ⟨by rw [HZ.out]; rfl, ba⟩
          | some v =>
            rw [hv] at CT HS
            clear hv hlt hki
            obtain ⟨x, hx⟩ : ∃ x : Int, (v : Int) = x := ⟨_, rfl⟩
            have HX : Hid ((v : Int) = x) := hx
            by_cases hvr : v < ρ
            · have HZ : Hid (loA s = some (n * ρ + v)) := by
                show _ = _
                rw [HF.out, ← HR.out, HS.out]
                exact if_pos hvr
              have hx1 : ¬ b ≤ x := by have := HB.out; omega
              have hx0 : 0 ≤ x := by omega
              clear hvr hx
              go_wp2_with fail
              refine (CT.out _).mono ?_
              rintro e w' ⟨rfl, rfl⟩
              simp only [numA]
              rw [HX.out]
              go_wp2_with fail
              go_ret2
              exact ⟨by rw [HZ.out]; have h1 := HA.out; have h2 := HX.out; simp [numA]; rw [h1, ← h2]; simp, ba⟩
            · have HZ : Hid (loA s = none) := by
                show _ = _
                rw [HF.out, ← HR.out, HS.out]
                exact if_neg hvr
              have hx1 : b ≤ x := by have := HB.out; omega
              clear hvr hx
              go_wp2_with fail
              refine (CT.out _).mono ?_
              rintro e w' ⟨rfl, rfl⟩
              simp only [numA]
              rw [HX.out]
              go_wp2_with fail
              go_ret2
              exact ⟨by rw [HZ.out]; rfl, ba⟩
end Go.Proofs.YtophgcneckjdjaaDoor
