/- The contract of the specification's PatternOf: it is Plainly's, in a query. -/
import Derived.Test.YtbjidcejpdeegaaRows
import Derived.Test.YtbjidcejpdeegaaPlainlyWalk
import Derived.Test.YtbjidcejpdeegaaRobPlain
namespace Go.Proofs.Ytbjidcejpdeegaa
open Go.RowKit
set_option linter.unusedVariables false

set_option maxHeartbeats 4000000 in
theorem specPatternOf (s : ByteArray) (w : World) (hs : s.size ≤ 4294967296) :
    Calls Try.prog 50 #[.string s] w fun e w' => e = .returned (.string ⟨(plL 2 s.data.toList).toArray⟩) ∧ Below w.heap.size w w' := by
  go_enter Try.func50, Try.ntmps50
  go_wp2
  go_loopw [3, 4] (fun v i wr => ∃ (k : Nat) (o : List UInt8), k ≤ s.size ∧ i = .int .i64 k ∧ o.length ≤ 3 * k ∧ wr.ownsRow w.heap.size 5 1 v o.length (bcells o) ∧ o ++ plL 2 (s.data.toList.drop k) = plL 2 s.data.toList ∧ Below w.heap.size w wr)
    (fun _ i _ => s.size - (intOf i).toNat)
  case atStart => exact ⟨0, [], Nat.zero_le _, rfl, Nat.zero_le _, World.ownsRow_lit w #[] 0 (Nat.le_refl _) (by decide) rfl, rfl, (Below.refl _ _).alloc (Nat.le_refl _) _⟩
  case round =>
    obtain ⟨k, o, hk, rfl, hol, hown, he, hbel⟩ := hrel
    have HE : Hid (o ++ plL 2 (s.data.toList.drop k) = plL 2 s.data.toList) := he
    clear he
    have hsz := hbel.size
    by_cases hlt : k < s.size
    · have hct := fun W => specByte s k W hlt (by omega)
      have hcl := pctAt_le s k
      by_cases hc : 0 ≤ pctAt s k
      · obtain ⟨n, hn⟩ := Int.eq_ofNat_of_zero_le hc
        have hk3 := pctAt_lt hc
        have HN : Hid ((o ++ freeB (UInt8.ofNat n)) ++ plL 2 (s.data.toList.drop (k + 3)) = plL 2 s.data.toList) := pl_hit 2 s k n hn o HE.out
        have HT : Hid ((UInt8.ofNat n).toNat = n) := by show _ = _; simp; omega
        have HF : Hid (freeB (UInt8.ofNat n) = if freeN n then [UInt8.ofNat n] else putB (UInt8.ofNat n)) := by show _ = _; unfold freeB; rw [HT.out]
        rw [hn] at hct hcl
        have hn1 : (n : Int) ≤ 255 := hcl.2
        have hn0 : 0 ≤ (n : Int) := by omega
        have HC : Hid (∀ W, Calls Try.prog 53 #[.string s, .int .i64 (k : Int)] W fun e w' => e = .returned (.int .i64 (n : Int)) ∧ Below W.heap.size W w') := hct
        clear hct hcl hc hn
        cases hf : freeN n with
        | true =>
          rw [hf, if_pos rfl] at HF
          rw [HF.out] at HN
          have ckk := fun (W : World) (_ : Below w.heap.size w W) => specFree (n : Int) W
          simp only [freeZ_nat, hf] at ckk
          have CK : Hid (∀ W, Below w.heap.size w W → Calls Try.prog 54 #[.int .i64 (n : Int)] W fun e w' => e = .returned (.bool true) ∧ W = w') := ckk
          have HX : Hid ((n : Int) = ((UInt8.ofNat n).toNat : Int)) := by show _ = _; rw [HT.out]
          clear ckk hf HF
          generalize UInt8.ofNat n = u at HN HT HX
          go_wp2_with fail
          refine (HC.out _).mono ?_
          rintro e wb ⟨rfl, bb⟩
          have ob := own_below hown bb
          have hsb := bb.size
          have Bb : Below w.heap.size w wb := hbel.trans (bb.mono hsz)
          clear bb hbel hown
          go_wp2_with fail
          refine (CK.out _ Bb).mono ?_
          rintro e w' ⟨rfl, rfl⟩
          go_wp2_with (at_builtin; refine wpList_append_new _ rfl _ _ 22 rfl w.heap.size 5 (.int .u8 0) 1 Try.underlying22 Try.info5 rfl _ _ _ rfl ob #[.int .u8 (n : Int)] 1 rfl rfl (byte_one _) (by omega) (by unfold maxLen; omega) (by omega) ?_)
          intro v' w1 hown' hb1
          have R := own_byte u HX.out hown'
          have B1 : Below w.heap.size w w1 := Bb.trans hb1
          clear hown' hb1 ob Bb
          go_wp2
          go_roundw
          case rel => exact ⟨k + 3, _, by omega, by go_num, by simp; omega, R, HN.out, B1⟩
          case measure => simp [intOf]; omega
        | false =>
          rw [hf, if_neg (by decide)] at HF
          rw [HF.out] at HN
          have ckk := fun (W : World) (_ : Below w.heap.size w W) => specFree (n : Int) W
          simp only [freeZ_nat, hf] at ckk
          have CK : Hid (∀ W, Below w.heap.size w W → Calls Try.prog 54 #[.int .i64 (n : Int)] W fun e w' => e = .returned (.bool false) ∧ W = w') := ckk
          clear ckk hf HF
          generalize UInt8.ofNat n = u at HN HT
          go_wp2_with fail
          refine (HC.out _).mono ?_
          rintro e wb ⟨rfl, bb⟩
          have ob := own_below hown bb
          have hsb := bb.size
          have Bb : Below w.heap.size w wb := hbel.trans (bb.mono hsz)
          clear bb hbel hown
          go_wp2_with fail
          refine (CK.out _ Bb).mono ?_
          rintro e w' ⟨rfl, rfl⟩
          go_wp2_with fail
          refine (specPut u n HT.out _ o w.heap.size _ ob (by omega) (by omega)).mono ?_
          rintro e w1 ⟨v', rfl, hown', hb1⟩
          have B1 : Below w.heap.size w w1 := Bb.trans hb1
          clear hb1 ob Bb
          go_wp2
          go_roundw
          case rel => exact ⟨k + 3, _, by omega, by go_num, by simp [putB]; omega, hown', HN.out, B1⟩
          case measure => simp [intOf]; omega
      · have HN : Hid ((o ++ keptB 2 s[k]) ++ plL 2 (s.data.toList.drop (k + 1)) = plL 2 s.data.toList) := pl_miss 2 s k hlt o (by omega) HE.out
        obtain ⟨d, hd⟩ : ∃ d : Nat, s[k].toNat = d := ⟨_, rfl⟩
        have hd1 : (d : Int) ≤ 255 := by have := s[k].toNat_lt; omega
        have hd0 : 0 ≤ (d : Int) := by omega
        have HD : Hid (s[k].toNat = d) := hd
        have hkl := kept_len 2 s[k]
        generalize pctAt s k = c at hct hcl hc
        obtain ⟨hc0, hc1⟩ := hcl
        have HC : Hid (∀ W, Calls Try.prog 53 #[.string s, .int .i64 (k : Int)] W fun e w' => e = .returned (.int .i64 c) ∧ Below W.heap.size W w') := hct
        clear hct
        have ckk := fun W => specKeeps 2 (d : Int) W
        simp only [keepZ_nat] at ckk
        cases hkp : keepN 2 d with
        | true =>
          rw [kept_yes (show keepN 2 s[k].toNat = true by rw [hd]; exact hkp)] at HN hkl
          rw [hkp] at ckk
          have CK : Hid (∀ W, Calls Try.prog 56 #[.int .i64 2, .int .i64 (d : Int)] W fun e w' => e = .returned (.bool true) ∧ W = w') := ckk
          have HX : Hid ((d : Int) = (s[k].toNat : Int)) := by show _ = _; rw [hd]
          clear ckk hkp
          go_wp2_with fail
          refine (HC.out _).mono ?_
          rintro e wb ⟨rfl, bb⟩
          have ob := own_below hown bb
          have hsb := bb.size
          have Bb : Below w.heap.size w wb := hbel.trans (bb.mono hsz)
          clear bb hbel hown
          go_wp2_with fail
          refine (CK.out _).mono ?_
          rintro e w' ⟨rfl, rfl⟩
          go_wp2_with (at_builtin; refine wpList_append_new _ rfl _ _ 22 rfl w.heap.size 5 (.int .u8 0) 1 Try.underlying22 Try.info5 rfl _ _ _ rfl ob #[.int .u8 (d : Int)] 1 rfl rfl (byte_one _) (by omega) (by unfold maxLen; omega) (by omega) ?_)
          intro v' w1 hown' hb1
          have R := own_byte s[k] HX.out hown'
          have B1 : Below w.heap.size w w1 := Bb.trans hb1
          clear hown' hb1 ob Bb
          go_wp2
          go_roundw
          case rel => exact ⟨k + 1, _, by omega, by go_num, by simp; omega, R, HN.out, B1⟩
          case measure => simp [intOf]; omega
        | false =>
          rw [kept_no (show keepN 2 s[k].toNat = false by rw [hd]; exact hkp)] at HN hkl
          rw [hkp] at ckk
          have CK : Hid (∀ W, Calls Try.prog 56 #[.int .i64 2, .int .i64 (d : Int)] W fun e w' => e = .returned (.bool false) ∧ W = w') := ckk
          clear ckk hkp
          go_wp2_with fail
          refine (HC.out _).mono ?_
          rintro e wb ⟨rfl, bb⟩
          have ob := own_below hown bb
          have hsb := bb.size
          have Bb : Below w.heap.size w wb := hbel.trans (bb.mono hsz)
          clear bb hbel hown
          go_wp2_with fail
          refine (CK.out _).mono ?_
          rintro e w' ⟨rfl, rfl⟩
          go_wp2_with fail
          refine (specPut s[k] d HD.out _ o w.heap.size _ ob (by omega) (by omega)).mono ?_
          rintro e w1 ⟨v', rfl, hown', hb1⟩
          have B1 : Below w.heap.size w w1 := Bb.trans hb1
          clear hb1 ob Bb
          go_wp2
          go_roundw
          case rel => exact ⟨k + 1, _, by omega, by go_num, by simp [putB]; omega, hown', HN.out, B1⟩
          case measure => simp [intOf]; omega
    · have HO := run_string_own (P := Try.prog) wr 22 9 5 Try.underlying22 Try.underlying5 Try.underlying9 hown
      go_wp2
      go_ret
      exact ⟨ret_str (pl_end 2 s k (by omega) o HE.out), hbel⟩
end Go.Proofs.Ytbjidcejpdeegaa
