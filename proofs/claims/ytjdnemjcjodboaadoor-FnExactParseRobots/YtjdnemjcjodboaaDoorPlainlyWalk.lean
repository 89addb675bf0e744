/- Contracts of spec.Plainly and impl.Plainly. -/
import Derived.Test.YtjdnemjcjodboaaDoorRows
import Derived.Test.YtjdnemjcjodboaaDoorPercentWalk
namespace Go.Proofs.YtjdnemjcjodboaaDoor
open Go.RowKit

theorem pl_hit (set : Int) (s : ByteArray) (k n : Nat) (h : pctAt s k = (n : Int)) (o : List UInt8) (he : o ++ plL set (s.data.toList.drop k) = plL set s.data.toList) :
    (o ++ freeB (UInt8.ofNat n)) ++ plL set (s.data.toList.drop (k + 3)) = plL set s.data.toList := by
  rw [← he]
  unfold plL
  rw [tok_hit _ _ s k (by omega), h, List.append_assoc]
  rfl
theorem pl_miss (set : Int) (s : ByteArray) (k : Nat) (hk : k < s.size) (o : List UInt8) (h : pctAt s k < 0) (he : o ++ plL set (s.data.toList.drop k) = plL set s.data.toList) :
    (o ++ keptB set s[k]) ++ plL set (s.data.toList.drop (k + 1)) = plL set s.data.toList := by
  rw [← he]
  unfold plL
  rw [tok_miss _ _ s k hk h, List.append_assoc]
theorem pl_end (set : Int) (s : ByteArray) (k : Nat) (hk : s.size ≤ k) (o : List UInt8) (he : o ++ plL set (s.data.toList.drop k) = plL set s.data.toList) : o = plL set s.data.toList := by
  rw [← he]
  unfold plL
  rw [tok_end _ _ s k hk]
  simp
theorem freeZ_nat (n : Nat) : freeZ (n : Int) = freeN n := by simp [freeZ]

set_option maxHeartbeats 4000000 in
theorem implPlainly (s : ByteArray) (set : Int) (w : World) (hM : Marks w) (hs : s.size ≤ 4294967296) :
    Calls Tryd.prog 27 #[.string s, .int .i64 set] w fun e w' => e = .returned (.string ⟨(plL set s.data.toList).toArray⟩) ∧ Below w.heap.size w w' := by
  have HM : Hid (Marks w) := hM
  clear hM
  obtain ⟨i0, hi, hz0, hz1, hz2⟩ := info_parts Tryd.info5
  go_enter Tryd.func27, Tryd.ntmps27
  go_wp2_with (at_make; refine wpList_make_own _ rfl _ _ 22 rfl w.heap.size 5 i0 (.int .u8 0) 1 Tryd.underlying22 hi hz0 hz1 _ _ _ s.size rfl rfl (by omega) (by rw [hz2]; omega) (by unfold maxLen; omega) (Nat.le_refl _) ?_)
  intro wm hmo hgm
  have Bm : Below w.heap.size w wm := (Below.refl _ _).grown hgm (Nat.le_refl _) (fun k hk => by cases hk)
  clear hgm
  go_wp2
  go_loopw [5, 6] (fun v i wr => ∃ (k : Nat) (o : List UInt8), k ≤ s.size ∧ i = .int .i64 k ∧ o.length ≤ 3 * k ∧ wr.ownsRow w.heap.size 5 1 v o.length (bcells o) ∧ o ++ plL set (s.data.toList.drop k) = plL set s.data.toList ∧ Below w.heap.size w wr)
    (fun _ i _ => s.size - (intOf i).toNat)
  case atStart => exact ⟨0, [], Nat.zero_le _, rfl, Nat.zero_le _, hmo, rfl, Bm⟩
  case round =>
    clear hmo Bm hi hz0 hz1 hz2
    obtain ⟨k, o, hk, rfl, hol, hown, he, hbel⟩ := hrel
    have HE : Hid (o ++ plL set (s.data.toList.drop k) = plL set s.data.toList) := he
    clear he
    have hsz := hbel.size
    by_cases hlt : k < s.size
    · have hct := fun W => implPctAt s k W hlt (by omega)
      have hcl := pctAt_le s k
      by_cases hc : 0 ≤ pctAt s k
      · obtain ⟨n, hn⟩ := Int.eq_ofNat_of_zero_le hc
        have hk3 := pctAt_lt hc
        have HN : Hid ((o ++ freeB (UInt8.ofNat n)) ++ plL set (s.data.toList.drop (k + 3)) = plL set s.data.toList) := pl_hit set s k n hn o HE.out
        have HT : Hid ((UInt8.ofNat n).toNat = n) := by show _ = _; simp; omega
        have HF : Hid (freeB (UInt8.ofNat n) = if freeN n then [UInt8.ofNat n] else putB (UInt8.ofNat n)) := by show _ = _; unfold freeB; rw [HT.out]
        rw [hn] at hct hcl
        have hn1 : (n : Int) ≤ 255 := hcl.2
        have hn0 : 0 ≤ (n : Int) := by omega
        have HC : Hid (∀ W, Calls Tryd.prog 51 #[.string s, .int .i64 (k : Int)] W fun e w' => e = .returned (.int .i64 (n : Int)) ∧ Below W.heap.size W w') := hct
        clear hct hcl hc hn
        cases hf : freeN n with
        | true =>
          rw [hf, if_pos rfl] at HF
          rw [HF.out] at HN
          have ckk := fun (W : World) (hb : Below w.heap.size w W) => implIsPlain n W (HM.out.later hb) hn1
          rw [hf] at ckk
          have CK : Hid (∀ W, Below w.heap.size w W → Calls Tryd.prog 53 #[.int .u8 (n : Int)] W fun e w' => e = .returned (.bool true) ∧ W = w') := ckk
          have HX : Hid ((n : Int) = ((UInt8.ofNat n).toNat : Int)) := by show _ = _; rw [HT.out]
          clear ckk hf HF
          generalize UInt8.ofNat n = u at HN HT HX
          go_wp2_with fail
          refine (HC.out _).mono ?_
          rintro e wb ⟨rfl, bb⟩
          have ob := own_below hown bb
          have hsb := bb.size
          have Bb : Below w.heap.size w wb := hbel.trans (bb.mono hsz)
          clear bb hbel hown
          go_wp2_with fail
          refine (CK.out _ Bb).mono ?_
          rintro e w' ⟨rfl, rfl⟩
          go_wp2_with (at_builtin; refine wpList_append_new _ rfl _ _ 22 rfl w.heap.size 5 (.int .u8 0) 1 Tryd.underlying22 Tryd.info5 rfl _ _ _ rfl ob #[.int .u8 (n : Int)] 1 rfl rfl (byte_one _) (by omega) (by unfold maxLen; omega) (by omega) ?_)
          intro v' w1 hown' hb1
          have R := own_byte u HX.out hown'
          have B1 : Below w.heap.size w w1 := Bb.trans hb1
          clear hown' hb1 ob Bb
          go_wp2
          go_roundw
          case rel => exact ⟨k + 3, _, by omega, by go_num, by simp; omega, R, HN.out, B1⟩
          case measure => simp [intOf]; omega
        | false =>
          rw [hf, if_neg (by decide)] at HF
          rw [HF.out] at HN
          have ckk := fun (W : World) (hb : Below w.heap.size w W) => implIsPlain n W (HM.out.later hb) hn1
          rw [hf] at ckk
          have CK : Hid (∀ W, Below w.heap.size w W → Calls Tryd.prog 53 #[.int .u8 (n : Int)] W fun e w' => e = .returned (.bool false) ∧ W = w') := ckk
          clear ckk hf HF
          generalize UInt8.ofNat n = u at HN HT
          go_wp2_with fail
          refine (HC.out _).mono ?_
          rintro e wb ⟨rfl, bb⟩
          have ob := own_below hown bb
          have hsb := bb.size
          have Bb : Below w.heap.size w wb := hbel.trans (bb.mono hsz)
          clear bb hbel hown
          go_wp2_with fail
          refine (CK.out _ Bb).mono ?_
          rintro e w' ⟨rfl, rfl⟩
          go_wp2_with fail
          refine (implAppendPct u n HT.out _ o w.heap.size _ ob (by omega) (by omega)).mono ?_
          rintro e w1 ⟨v', rfl, hown', hb1⟩
          have B1 : Below w.heap.size w w1 := Bb.trans hb1
          clear hb1 ob Bb
          go_wp2
          go_roundw
          case rel => exact ⟨k + 3, _, by omega, by go_num, by simp [putB]; omega, hown', HN.out, B1⟩
          case measure => simp [intOf]; omega
      · have HN : Hid ((o ++ keptB set s[k]) ++ plL set (s.data.toList.drop (k + 1)) = plL set s.data.toList) := pl_miss set s k hlt o (by omega) HE.out
        obtain ⟨d, hd⟩ : ∃ d : Nat, s[k].toNat = d := ⟨_, rfl⟩
        have hd1 : (d : Int) ≤ 255 := by have := s[k].toNat_lt; omega
        have hd0 : 0 ≤ (d : Int) := by omega
        have HD : Hid (s[k].toNat = d) := hd
        have hkl := kept_len set s[k]
        generalize pctAt s k = c at hct hcl hc
        obtain ⟨hc0, hc1⟩ := hcl
        have HC : Hid (∀ W, Calls Tryd.prog 51 #[.string s, .int .i64 (k : Int)] W fun e w' => e = .returned (.int .i64 c) ∧ Below W.heap.size W w') := hct
        clear hct
        go_wp2_with fail
        refine (HC.out _).mono ?_
        rintro e wb ⟨rfl, bb⟩
        have ob := own_below hown bb
        have hsb := bb.size
        have Bb : Below w.heap.size w wb := hbel.trans (bb.mono hsz)
        clear bb hbel hown
        go_wp2_with fail
        refine (implAppendKept s[k] d HD.out set _ o w.heap.size _ (HM.out.later Bb) ob (by omega) (by omega)).mono ?_
        rintro e w1 ⟨v', rfl, hown', hb1⟩
        have B1 : Below w.heap.size w w1 := Bb.trans hb1
        clear hb1 ob Bb
        go_wp2
        go_roundw
        case rel => exact ⟨k + 1, _, by omega, by go_num, by rw [List.length_append]; omega, hown', HN.out, B1⟩
        case measure => simp [intOf]; omega
    · have HO := run_string_own (P := Tryd.prog) wr 22 9 5 Tryd.underlying22 Tryd.underlying5 Tryd.underlying9 hown
      go_wp2
      go_ret
      exact ⟨ret_str (pl_end set s k (by omega) o HE.out), hbel⟩

end Go.Proofs.YtjdnemjcjodboaaDoor
