/- Contracts of the specification's IsDot, UpTo, Depth. -/
import Derived.Test.YtamnhegianpedaaRows
import Derived.Test.YtamnhegianpedaaPctWalk
import Derived.Test.YtamnhegianpedaaDotPlain
namespace Go.Proofs.Ytamnhegianpedaa
open Go.RowKit

/-- What a count of dots answers. -/
def dotA (n : Int) : Int := if 1 ≤ n ∧ n ≤ 2 then n else 0
theorem dotA_end {s : ByteArray} {k n : Nat} (hk : s.size ≤ k) (he : unL s.data.toList = List.replicate n 46 ++ unL (s.data.toList.drop k)) : (isd s.data.toList : Int) = dotA (n : Int) := by
  rw [dot_end hk he]
  unfold dotA
  by_cases h : 1 ≤ n ∧ n ≤ 2
  · rw [if_pos h, if_pos (by omega)]
  · rw [if_neg h, if_neg (by omega)]; rfl
theorem dotA_out {l : List UInt8} (h : isd l = 0) : (isd l : Int) = dotA (-1) := by rw [h]; rfl

set_option maxHeartbeats 2000000 in
theorem specL7Dots (s : ByteArray) (w : World) (hs : s.size ≤ 1048576) :
    Calls Try.prog 28 #[.string s] w fun e w' => ∃ n : Int, e = .returned (.int .i64 n) ∧ -1 ≤ n ∧ n ≤ 1048576 ∧ (isd s.data.toList : Int) = dotA n ∧ w = w' := by
  go_enter Try.func28, Try.ntmps28
  go_wp2
  go_loop [3, 4] (fun n i => ∃ k m : Nat, k ≤ s.size ∧ i = .int .i64 k ∧ n = .int .i64 m ∧ m ≤ k ∧ unL s.data.toList = List.replicate m 46 ++ unL (s.data.toList.drop k))
    (fun _ i => s.size - (intOf i).toNat)
  case atStart => exact ⟨0, 0, Nat.zero_le _, rfl, rfl, Nat.le_refl _, rfl⟩
  case round =>
    obtain ⟨k, m, hk, rfl, rfl, hm, he⟩ := hrel
    have HE : Hid (unL s.data.toList = List.replicate m 46 ++ unL (s.data.toList.drop k)) := he
    clear he
    by_cases hlt : k < s.size
    · by_cases h46 : s[k].toNat = 46
      · have HN : Hid (unL s.data.toList = List.replicate (m + 1) 46 ++ unL (s.data.toList.drop (k + 1))) := dot_hit hlt h46 HE.out
        go_wp2
        go_round
        case rel => exact ⟨k + 1, m + 1, by omega, by go_num, by go_num, by omega, HN.out⟩
        case measure => simp [intOf]; omega
      · by_cases h2 : k + 2 < s.size
        · obtain ⟨d1, e1⟩ : ∃ d : Nat, s[k + 1].toNat = d := ⟨_, rfl⟩
          obtain ⟨d2, e2⟩ : ∃ d : Nat, s[k + 2].toNat = d := ⟨_, rfl⟩
          have i1 := run_at Try.prog 9 Try.underlying9 s ((k : Int) + 1) (k + 1) d1 (by omega) (by omega) e1
          have i2 := run_at Try.prog 9 Try.underlying9 s ((k : Int) + 2) (k + 2) d2 (by omega) (by omega) e2
          by_cases h37 : s[k].toNat = 37
          · by_cases h50 : d1 = 50
            · by_cases he1 : d2 = 101
              · have HN : Hid (unL s.data.toList = List.replicate (m + 1) 46 ++ unL (s.data.toList.drop (k + 3))) := dot_pct h2 h37 (by omega) (by omega) HE.out
                go_wp2
                go_round
                case rel => exact ⟨k + 3, m + 1, by omega, by go_num, by go_num, by omega, HN.out⟩
                case measure => simp [intOf]; omega
              · by_cases he2 : d2 = 69
                · have HN : Hid (unL s.data.toList = List.replicate (m + 1) 46 ++ unL (s.data.toList.drop (k + 3))) := dot_pct h2 h37 (by omega) (by omega) HE.out
                  go_wp2
                  go_round
                  case rel => exact ⟨k + 3, m + 1, by omega, by go_num, by go_num, by omega, HN.out⟩
                  case measure => simp [intOf]; omega
                · have q1 : ((d2 : Int) == 101) = false := by rw [beq_eq_false_iff_ne]; omega
                  have q2 : ((d2 : Int) == 69) = false := by rw [beq_eq_false_iff_ne]; omega
                  have HO : Hid ((isd s.data.toList : Int) = dotA (-1)) := dotA_out (dot_out hlt (by omega) (fun _ => by omega) HE.out)
                  go_wp2
                  go_ret
                  exact ⟨-1, rfl, by omega, by omega, HO.out, rfl⟩
            · skip
              have HO : Hid ((isd s.data.toList : Int) = dotA (-1)) := dotA_out (dot_out hlt (by omega) (fun _ => by omega) HE.out)
              go_wp2
              go_ret
              exact ⟨-1, rfl, by omega, by omega, HO.out, rfl⟩
          · skip
            have HO : Hid ((isd s.data.toList : Int) = dotA (-1)) := dotA_out (dot_out hlt (by omega) (fun _ => by omega) HE.out)
            go_wp2
            go_ret
            exact ⟨-1, rfl, by omega, by omega, HO.out, rfl⟩
        · skip
          have HO : Hid ((isd s.data.toList : Int) = dotA (-1)) := dotA_out (dot_out hlt (by omega) (fun _ => by omega) HE.out)
          go_wp2
          go_ret
          exact ⟨-1, rfl, by omega, by omega, HO.out, rfl⟩
    · have HO : Hid ((isd s.data.toList : Int) = dotA (m : Int)) := dotA_end (by omega) HE.out
      go_wp2
      go_ret
      exact ⟨m, rfl, by omega, by omega, HO.out, rfl⟩

set_option maxHeartbeats 1000000 in
theorem specIsDot (s : ByteArray) (w : World) (hs : s.size ≤ 1048576) :
    Calls Try.prog 15 #[.string s] w fun e w' => e = .returned (.int .i64 (isd s.data.toList : Int)) ∧ w = w' := by
  go_enter Try.func15, Try.ntmps15
  go_wp2_with fail
  refine (specL7Dots s _ hs).mono ?_
  rintro e w' ⟨n, rfl, hn0, hn1, hi, rfl⟩
  have HI : Hid ((isd s.data.toList : Int) = dotA n) := hi
  clear hi
  by_cases h : 1 ≤ n ∧ n ≤ 2
  · have HA : Hid (dotA n = n) := by show _ = _; unfold dotA; rw [if_pos h]
    go_wp2_with fail
    refine (specL1In_yes _ _ _ _ h.1 h.2).mono ?_
    rintro e w' ⟨rfl, rfl⟩
    go_wp2
    go_ret
    exact ⟨ret_int (by rw [HI.out, HA.out]), rfl⟩
  · have HA : Hid (dotA n = 0) := by show _ = _; unfold dotA; rw [if_neg h]
    go_wp2_with fail
    refine (specL1In_no _ _ _ _ (by omega)).mono ?_
    rintro e w' ⟨rfl, rfl⟩
    go_wp2
    go_ret
    exact ⟨ret_int (by rw [HI.out, HA.out]), rfl⟩

theorem upN_hit {p : ByteArray} {k : Nat} (hk : k < p.size) (h : p[k].toNat = 47) : upN p (k + 1) = k + 1 := by
  unfold upN
  rw [if_pos]
  rw [getD_at p k hk]
  exact UInt8.toNat_inj.1 h
theorem upN_miss {p : ByteArray} {k : Nat} (hk : k < p.size) (h : p[k].toNat ≠ 47) : upN p (k + 1) = upN p k := by
  conv => lhs; unfold upN
  rw [if_neg]
  rw [getD_at p k hk]
  intro e
  exact h (by rw [e]; rfl)
theorem up_here {p : ByteArray} {k : Nat} (h : upN p p.size = k) : p.extract 0 k = upT p := by unfold upT; rw [h]
theorem up_none {p : ByteArray} (h : upN p p.size = 0) : (⟨#[]⟩ : ByteArray) = upT p := by
  unfold upT
  rw [h]
  apply toL_inj
  show _ = (p.extract 0 0).data.toList
  rw [extract_list]
  rfl
theorem ret_bytes {a b : ByteArray} (h : a = b) : Ending.returned (.string a) = .returned (.string b) := by rw [h]

set_option maxHeartbeats 1000000 in
theorem specUpTo (p : ByteArray) (w : World) (hs : p.size ≤ 1048576) :
    Calls Try.prog 17 #[.string p] w fun e w' => e = .returned (.string (upT p)) ∧ w = w' := by
  go_enter Try.func17, Try.ntmps17
  go_wp2
  go_loop [3] (fun i => ∃ k : Nat, k ≤ p.size ∧ i = .int .i64 ((k : Int) - 1) ∧ upN p p.size = upN p k)
    (fun i => (intOf i + 1).toNat)
  case atStart => exact ⟨p.size, Nat.le_refl _, by go_num, rfl⟩
  case round =>
    obtain ⟨k, hk, rfl, he⟩ := hrel
    have HE : Hid (upN p p.size = upN p k) := he
    clear he
    obtain ⟨z, hz⟩ : ∃ z : Int, (k : Int) - 1 = z := ⟨_, rfl⟩
    rw [hz]
    by_cases h0 : k = 0
    · have hz' : z = -1 := by omega
      subst hz'
      have HN : Hid ((⟨#[]⟩ : ByteArray) = upT p) := up_none (by rw [HE.out, h0]; rfl)
      clear hz h0
      go_wp2
      go_ret
      exact ⟨ret_bytes HN.out, rfl⟩
    · obtain ⟨j, hj⟩ : ∃ j : Nat, k = j + 1 := ⟨k - 1, by omega⟩
      have hz' : z = (j : Int) := by omega
      subst hz'
      have hlt : j < p.size := by omega
      rw [hj] at HE
      clear hz h0 hj hk
      by_cases h47 : p[j].toNat = 47
      · have HN : Hid (p.extract 0 (j + 1) = upT p) := up_here (HE.out.trans (upN_hit hlt h47))
        go_wp2
        go_ret
        exact ⟨ret_bytes HN.out, rfl⟩
      · have HN : Hid (upN p p.size = upN p j) := HE.out.trans (upN_miss hlt h47)
        go_wp2
        go_round
        case rel => exact ⟨j, by omega, by go_num, HN.out⟩
        case measure => simp [intOf]

theorem count_take {p : ByteArray} {k : Nat} (hk : k < p.size) : (p.data.toList.take (k + 1)).count 47 = (p.data.toList.take k).count 47 + if p[k].toNat = 47 then 1 else 0 := by
  rw [take_snoc p k hk, List.count_append, List.count_singleton]
  congr 1
  by_cases h : p[k].toNat = 47
  · have : p[k] = 47 := UInt8.toNat_inj.1 h
    rw [if_pos h, if_pos (by rw [this]; rfl)]
  · rw [if_neg h, if_neg]
    intro e
    have : p[k] = 47 := by simpa using e
    exact h (by rw [this]; rfl)

set_option maxHeartbeats 1000000 in
theorem specDepth (p : ByteArray) (w : World) (hs : p.size ≤ 1048576) :
    Calls Try.prog 18 #[.string p] w fun e w' => e = .returned (.int .i64 (depL p : Int)) ∧ w = w' := by
  go_enter Try.func18, Try.ntmps18
  go_wp2
  go_loop [3, 4] (fun n i => ∃ k m : Nat, k ≤ p.size ∧ i = .int .i64 k ∧ n = .int .i64 m ∧ m ≤ k ∧ (p.data.toList.take k).count 47 = m)
    (fun _ i => p.size - (intOf i).toNat)
  case atStart => exact ⟨0, 0, Nat.zero_le _, rfl, rfl, Nat.le_refl _, rfl⟩
  case round =>
    obtain ⟨k, m, hk, rfl, rfl, hm, he⟩ := hrel
    have HE : Hid ((p.data.toList.take k).count 47 = m) := he
    clear he
    by_cases hlt : k < p.size
    · by_cases h47 : p[k].toNat = 47
      · have HN : Hid ((p.data.toList.take (k + 1)).count 47 = m + 1) := by show _ = _; rw [count_take hlt, if_pos h47, HE.out]
        go_wp2
        go_round
        case rel => exact ⟨k + 1, m + 1, by omega, by go_num, by go_num, by omega, HN.out⟩
        case measure => simp [intOf]; omega
      · have HN : Hid ((p.data.toList.take (k + 1)).count 47 = m) := by show _ = _; rw [count_take hlt, if_neg h47, HE.out, Nat.add_zero]
        go_wp2
        go_round
        case rel => exact ⟨k + 1, m, by omega, by go_num, rfl, by omega, HN.out⟩
        case measure => simp [intOf]; omega
    · have HN : Hid (m = depL p) := by
        show _ = _
        rw [← HE.out, take_all p k (by omega)]
        rfl
      go_wp2
      go_ret
      exact ⟨ret_int (by rw [HN.out]), rfl⟩
end Go.Proofs.Ytamnhegianpedaa
