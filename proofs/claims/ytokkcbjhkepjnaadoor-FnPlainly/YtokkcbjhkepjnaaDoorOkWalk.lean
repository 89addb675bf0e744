/- Contracts of spec.PercentOk and impl.PercentOk. -/
import Derived.Test.YtokkcbjhkepjnaaDoorRows
import Derived.Test.YtokkcbjhkepjnaaDoorPercentWalk
namespace Go.Proofs.YtokkcbjhkepjnaaDoor
open Go.RowKit

theorem ok_hit (set : Int) (s : ByteArray) (k : Nat) (h : 0 ≤ pctAt s k) : okL set (s.data.toList.drop k) = okL set (s.data.toList.drop (k + 3)) := by
  unfold okL okT
  rw [tok_hit _ _ s k h]
  rfl
theorem ok_miss (set : Int) (s : ByteArray) (k : Nat) (hk : k < s.size) (h : pctAt s k < 0) : okL set (s.data.toList.drop k) = (keepN set s[k].toNat && okL set (s.data.toList.drop (k + 1))) := by
  unfold okL okT
  rw [tok_miss _ _ s k hk h]
  simp
theorem ok_end (set : Int) (s : ByteArray) (k : Nat) (hk : s.size ≤ k) : okL set (s.data.toList.drop k) = true := by
  unfold okL okT
  rw [tok_end _ _ s k hk]
  rfl
def okS (set : Int) (l : List UInt8) : Bool := decide (1 ≤ set ∧ set ≤ 3) && okL set l
theorem okS_out {set : Int} {l : List UInt8} (h : ¬ (1 ≤ set ∧ set ≤ 3)) : okS set l = false := by unfold okS; rw [decide_eq_false h]; rfl
theorem okS_no {set : Int} {l : List UInt8} (h : okL set l = false) : okS set l = false := by unfold okS; rw [h, Bool.and_false]
theorem okS_yes {set : Int} {l : List UInt8} (h : 1 ≤ set ∧ set ≤ 3) (h1 : okL set l = true) : okS set l = true := by unfold okS; rw [decide_eq_true h, h1]; rfl

set_option maxHeartbeats 2000000 in
theorem implPercentOk (s : ByteArray) (set : Int) (w : World) (hM : Marks w) (hs : s.size ≤ 1099511627776) :
    Calls Tryd.prog 28 #[.string s, .int .i64 set] w fun e w' => e = .returned (.bool (okS set s.data.toList)) ∧ Below w.heap.size w w' := by
  have HM : Hid (Marks w) := hM
  clear hM
  by_cases h1 : set < 1
  · have HV : Hid (okS set s.data.toList = false) := okS_out (by omega)
    go_enter Tryd.func28, Tryd.ntmps28
    go_wp2
    go_ret
    exact ⟨ret_bool (by rw [HV.out]), Below.refl _ _⟩
  by_cases h3 : 3 < set
  · have HV : Hid (okS set s.data.toList = false) := okS_out (by omega)
    go_enter Tryd.func28, Tryd.ntmps28
    go_wp2
    go_ret
    exact ⟨ret_bool (by rw [HV.out]), Below.refl _ _⟩
  have HV : Hid (1 ≤ set ∧ set ≤ 3) := by show _ ∧ _; omega
  go_enter Tryd.func28, Tryd.ntmps28
  go_wp2
  go_loopw [5] (fun i wr => ∃ k : Nat, k ≤ s.size ∧ i = .int .i64 k ∧ okL set (s.data.toList.drop k) = okL set s.data.toList ∧ Below w.heap.size w wr)
    (fun i _ => s.size - (intOf i).toNat)
  case atStart => exact ⟨0, Nat.zero_le _, rfl, rfl, Below.refl _ _⟩
  case round =>
    obtain ⟨k, hk, rfl, he, hbel⟩ := hrel
    have HE : Hid (okL set (s.data.toList.drop k) = okL set s.data.toList) := he
    clear he
    have hsz := hbel.size
    by_cases hlt : k < s.size
    · have hct := fun W => implPctAt s k W hlt hs
      have hcl := pctAt_le s k
      by_cases hc : 0 ≤ pctAt s k
      · have HN : Hid (okL set (s.data.toList.drop (k + 3)) = okL set s.data.toList) := (ok_hit set s k hc).symm.trans HE.out
        have hk3 := pctAt_lt hc
        generalize pctAt s k = c at hct hcl hc
        obtain ⟨hc0, hc1⟩ := hcl
        have HC : Hid (∀ W, Calls Tryd.prog 60 #[.string s, .int .i64 (k : Int)] W fun e w' => e = .returned (.int .i64 c) ∧ Below W.heap.size W w') := hct
        clear hct
        go_wp2_with fail
        refine (HC.out _).mono ?_
        rintro e wb ⟨rfl, bb⟩
        have B1 : Below w.heap.size w wb := hbel.trans (bb.mono hsz)
        clear hbel bb
        go_wp2
        go_roundw
        case rel => exact ⟨k + 3, by omega, by go_num, HN.out, B1⟩
        case measure => simp [intOf]; omega
      · have HX : Hid (okL set (s.data.toList.drop k) = (keepN set s[k].toNat && okL set (s.data.toList.drop (k + 1)))) := ok_miss set s k hlt (by omega)
        obtain ⟨d, hd⟩ : ∃ d : Nat, s[k].toNat = d := ⟨_, rfl⟩
        have hd1 : (d : Int) ≤ 255 := by have := s[k].toNat_lt; omega
        have hd0 : 0 ≤ (d : Int) := by omega
        rw [hd] at HX
        generalize pctAt s k = c at hct hcl hc
        obtain ⟨hc0, hc1⟩ := hcl
        have HC : Hid (∀ W, Calls Tryd.prog 60 #[.string s, .int .i64 (k : Int)] W fun e w' => e = .returned (.int .i64 c) ∧ Below W.heap.size W w') := hct
        clear hct
        have ckk := fun (W : World) (hb : Below w.heap.size w W) => implKeeps set (d : Int) W (HM.out.later hb)
        simp only [keepZ_nat] at ckk
        cases hkp : keepN set d with
        | true =>
          rw [hkp] at ckk HX
          have HN : Hid (okL set (s.data.toList.drop (k + 1)) = okL set s.data.toList) := by
            show _ = _
            rw [← HE.out, HX.out]
            rfl
          have CK : Hid (∀ W, Below w.heap.size w W → Calls Tryd.prog 39 #[.int .i64 set, .int .i64 (d : Int)] W fun e w' => e = .returned (.bool true) ∧ W = w') := ckk
          clear ckk hkp
          go_wp2_with fail
          refine (HC.out _).mono ?_
          rintro e wb ⟨rfl, bb⟩
          have B1 : Below w.heap.size w wb := hbel.trans (bb.mono hsz)
          clear hbel bb
          go_wp2_with fail
          refine (CK.out _ B1).mono ?_
          rintro e w' ⟨rfl, rfl⟩
          go_wp2
          go_roundw
          case rel => exact ⟨k + 1, by omega, by go_num, HN.out, B1⟩
          case measure => simp [intOf]; omega
        | false =>
          rw [hkp] at ckk HX
          have HN : Hid (okL set s.data.toList = false) := by
            show _ = _
            rw [← HE.out, HX.out]
            rfl
          have CK : Hid (∀ W, Below w.heap.size w W → Calls Tryd.prog 39 #[.int .i64 set, .int .i64 (d : Int)] W fun e w' => e = .returned (.bool false) ∧ W = w') := ckk
          clear ckk hkp
          go_wp2_with fail
          refine (HC.out _).mono ?_
          rintro e wb ⟨rfl, bb⟩
          have B1 : Below w.heap.size w wb := hbel.trans (bb.mono hsz)
          clear hbel bb
          go_wp2_with fail
          refine (CK.out _ B1).mono ?_
          rintro e w' ⟨rfl, rfl⟩
          go_wp2
          go_ret
          exact ⟨ret_bool (by rw [okS_no HN.out]), B1⟩
    · have HX : Hid (okL set s.data.toList = true) := by
        show _ = _
        rw [← HE.out, ok_end set s k (by omega)]
      go_wp2
      go_ret
      exact ⟨ret_bool (by rw [okS_yes HV.out HX.out]), hbel⟩

set_option maxHeartbeats 2000000 in
theorem specPercentOk (s : ByteArray) (set : Int) (w : World) (hs : s.size ≤ 1099511627776) :
    Calls Tryd.prog 41 #[.string s, .int .i64 set] w fun e w' => e = .returned (.bool (okS set s.data.toList)) ∧ Below w.heap.size w w' := by
  go_enter Tryd.func41, Tryd.ntmps41
  go_wp2
  go_loopw [5] (fun i wr => ∃ k : Nat, k ≤ s.size ∧ i = .int .i64 k ∧ okL set (s.data.toList.drop k) = okL set s.data.toList ∧ Below w.heap.size w wr)
    (fun i _ => s.size - (intOf i).toNat)
  case atStart => exact ⟨0, Nat.zero_le _, rfl, rfl, Below.refl _ _⟩
  case round =>
    obtain ⟨k, hk, rfl, he, hbel⟩ := hrel
    have HE : Hid (okL set (s.data.toList.drop k) = okL set s.data.toList) := he
    clear he
    have hsz := hbel.size
    by_cases hlt : k < s.size
    · have hct := fun W => specByte s k W hlt hs
      have hcl := pctAt_le s k
      by_cases hc : 0 ≤ pctAt s k
      · have HN : Hid (okL set (s.data.toList.drop (k + 3)) = okL set s.data.toList) := (ok_hit set s k hc).symm.trans HE.out
        have hk3 := pctAt_lt hc
        generalize pctAt s k = c at hct hcl hc
        obtain ⟨hc0, hc1⟩ := hcl
        have HC : Hid (∀ W, Calls Tryd.prog 63 #[.string s, .int .i64 (k : Int)] W fun e w' => e = .returned (.int .i64 c) ∧ Below W.heap.size W w') := hct
        clear hct
        go_wp2_with fail
        refine (HC.out _).mono ?_
        rintro e wb ⟨rfl, bb⟩
        have B1 : Below w.heap.size w wb := hbel.trans (bb.mono hsz)
        clear hbel bb
        go_wp2
        go_roundw
        case rel => exact ⟨k + 3, by omega, by go_num, HN.out, B1⟩
        case measure => simp [intOf]; omega
      · have HX : Hid (okL set (s.data.toList.drop k) = (keepN set s[k].toNat && okL set (s.data.toList.drop (k + 1)))) := ok_miss set s k hlt (by omega)
        obtain ⟨d, hd⟩ : ∃ d : Nat, s[k].toNat = d := ⟨_, rfl⟩
        have hd1 : (d : Int) ≤ 255 := by have := s[k].toNat_lt; omega
        have hd0 : 0 ≤ (d : Int) := by omega
        rw [hd] at HX
        generalize pctAt s k = c at hct hcl hc
        obtain ⟨hc0, hc1⟩ := hcl
        have HC : Hid (∀ W, Calls Tryd.prog 63 #[.string s, .int .i64 (k : Int)] W fun e w' => e = .returned (.int .i64 c) ∧ Below W.heap.size W w') := hct
        clear hct
        have ckk := fun (W : World) (_ : Below w.heap.size w W) => specKeeps set (d : Int) W
        simp only [keepZ_nat] at ckk
        cases hkp : keepN set d with
        | true =>
          rw [hkp] at ckk HX
          have HN : Hid (okL set (s.data.toList.drop (k + 1)) = okL set s.data.toList) := by
            show _ = _
            rw [← HE.out, HX.out]
            rfl
          have CK : Hid (∀ W, Below w.heap.size w W → Calls Tryd.prog 38 #[.int .i64 set, .int .i64 (d : Int)] W fun e w' => e = .returned (.bool true) ∧ W = w') := ckk
          clear ckk hkp
          go_wp2_with fail
          refine (HC.out _).mono ?_
          rintro e wb ⟨rfl, bb⟩
          have B1 : Below w.heap.size w wb := hbel.trans (bb.mono hsz)
          clear hbel bb
          go_wp2_with fail
          refine (CK.out _ B1).mono ?_
          rintro e w' ⟨rfl, rfl⟩
          go_wp2
          go_roundw
          case rel => exact ⟨k + 1, by omega, by go_num, HN.out, B1⟩
          case measure => simp [intOf]; omega
        | false =>
          rw [hkp] at ckk HX
          have HN : Hid (okL set s.data.toList = false) := by
            show _ = _
            rw [← HE.out, HX.out]
            rfl
          have CK : Hid (∀ W, Below w.heap.size w W → Calls Tryd.prog 38 #[.int .i64 set, .int .i64 (d : Int)] W fun e w' => e = .returned (.bool false) ∧ W = w') := ckk
          clear ckk hkp
          go_wp2_with fail
          refine (HC.out _).mono ?_
          rintro e wb ⟨rfl, bb⟩
          have B1 : Below w.heap.size w wb := hbel.trans (bb.mono hsz)
          clear hbel bb
          go_wp2_with fail
          refine (CK.out _ B1).mono ?_
          rintro e w' ⟨rfl, rfl⟩
          go_wp2
          go_ret
          exact ⟨ret_bool (by rw [okS_no HN.out]), B1⟩
    · have HX : Hid (okL set s.data.toList = true) := by
        show _ = _
        rw [← HE.out, ok_end set s k (by omega)]
      by_cases hv : 1 ≤ set ∧ set ≤ 3
      · have HV : Hid (okS set s.data.toList = true) := okS_yes hv HX.out
        have H1 : Hid (1 ≤ set ∧ set ≤ 3) := hv
        clear hv
        go_wp2_with fail
        refine (specL1In_yes _ _ _ _ H1.out.1 H1.out.2).mono ?_
        rintro e w' ⟨rfl, rfl⟩
        go_wp2
        go_ret
        exact ⟨ret_bool (by rw [HV.out]), hbel⟩
      · have HV : Hid (okS set s.data.toList = false) := okS_out hv
        have H1 : Hid (set < 1 ∨ 3 < set) := by show _ ∨ _; omega
        clear hv
        go_wp2_with fail
        refine (specL1In_no _ _ _ _ H1.out).mono ?_
        rintro e w' ⟨rfl, rfl⟩
        go_wp2
        go_ret
        exact ⟨ret_bool (by rw [HV.out]), hbel⟩
end Go.Proofs.YtokkcbjhkepjnaaDoor
