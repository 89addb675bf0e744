/- Contracts of spec.Percent and impl.Percent. -/
import Derived.Test.YtokkcbjhkepjnaaDoorRows
import Derived.Test.YtokkcbjhkepjnaaDoorPutPct
import Derived.Test.YtokkcbjhkepjnaaDoorKeepSpec
namespace Go.Proofs.YtokkcbjhkepjnaaDoor
open Go.RowKit

theorem kept_yes {set : Int} {c : UInt8} (h : keepN set c.toNat = true) : keptB set c = [c] := by unfold keptB; rw [h]; rfl
theorem kept_no {set : Int} {c : UInt8} (h : keepN set c.toNat = false) : keptB set c = putB c := by unfold keptB; rw [h]; rfl

set_option maxHeartbeats 2000000 in
theorem implAppendKept (c : UInt8) (d : Nat) (hd : c.toNat = d) (set : Int) (v : Value) (o : List UInt8) (B : Nat) (w : World) (hM : Marks w) (hown : w.ownsRow B 5 1 v o.length (bcells o)) (hB : B ≤ w.heap.size) (hl : o.length ≤ 1099511627776) :
    Calls Tryd.prog 59 #[v, .int .u8 (d : Int), .int .i64 set] w fun e w' => ∃ v', e = .returned v' ∧ w'.ownsRow B 5 1 v' (o ++ keptB set c).length (bcells (o ++ keptB set c)) ∧ Below B w w' := by
  have hd1 : (d : Int) ≤ 255 := by have := c.toNat_lt; omega
  have hd0 : 0 ≤ (d : Int) := by omega
  have ck := implKeeps set (d : Int) w hM
  rw [keepZ_nat] at ck
  cases hk : keepN set d with
  | true =>
    have HK : Hid (keptB set c = [c]) := kept_yes (by rw [hd]; exact hk)
    have HD : Hid ((d : Int) = (c.toNat : Int)) := by show _ = _; rw [hd]
    rw [hk] at ck
    have CK : Hid (Calls Tryd.prog 39 #[.int .i64 set, .int .i64 (d : Int)] w fun e w' => e = .returned (.bool true) ∧ w = w') := ck
    clear ck hk hd hM
    go_enter Tryd.func59, Tryd.ntmps59
    go_wp2_with fail
    refine CK.out.mono ?_
    rintro e w' ⟨rfl, rfl⟩
    go_wp2_with (at_builtin; refine wpList_append_new _ rfl _ _ 22 rfl B 5 (.int .u8 0) 1 Tryd.underlying22 Tryd.info5 rfl _ _ _ rfl hown #[.int .u8 (d : Int)] 1 rfl rfl (byte_one _) (by omega) (by unfold maxLen; omega) (by omega) ?_)
    intro v' w1 hown' hb1
    have R := own_byte c HD.out hown'
    clear hown'
    go_wp2
    go_ret
    exact ⟨_, rfl, by rw [HK.out]; exact R, hb1⟩
  | false =>
    have HK : Hid (keptB set c = putB c) := kept_no (by rw [hd]; exact hk)
    have HD : Hid (c.toNat = d) := hd
    rw [hk] at ck
    have CK : Hid (Calls Tryd.prog 39 #[.int .i64 set, .int .i64 (d : Int)] w fun e w' => e = .returned (.bool false) ∧ w = w') := ck
    clear ck hk hd hM
    go_enter Tryd.func59, Tryd.ntmps59
    go_wp2_with fail
    refine CK.out.mono ?_
    rintro e w' ⟨rfl, rfl⟩
    go_wp2_with fail
    refine (implAppendPct c d HD.out _ o B _ hown hB hl).mono ?_
    rintro e w1 ⟨v', rfl, hown', hb1⟩
    go_wp2
    go_ret
    exact ⟨_, rfl, by rw [HK.out]; exact hown', hb1⟩

theorem pc_snoc (set : Int) (s : ByteArray) (k : Nat) (h : k < s.size) : pcL set (s.data.toList.take (k + 1)) = pcL set (s.data.toList.take k) ++ keptB set s[k] := by
  rw [take_snoc s k h]
  unfold pcL
  rw [List.flatMap_append]
  simp
theorem pc_take_len (set : Int) (s : ByteArray) (k : Nat) : (pcL set (s.data.toList.take k)).length ≤ 3 * k := by
  have h1 := (pc_len set (s.data.toList.take k)).2
  have h2 : (s.data.toList.take k).length ≤ k := List.length_take_le _ _
  omega

set_option maxHeartbeats 2000000 in
theorem implPercent (s : ByteArray) (set : Int) (w : World) (hM : Marks w) (hs : s.size ≤ 4294967296) :
    Calls Tryd.prog 27 #[.string s, .int .i64 set] w fun e w' => e = .returned (.string ⟨(pcL set s.data.toList).toArray⟩) ∧ Below w.heap.size w w' := by
  have HM : Hid (Marks w) := hM
  clear hM
  obtain ⟨i0, hi, hz0, hz1, hz2⟩ := info_parts Tryd.info5
  go_enter Tryd.func27, Tryd.ntmps27
  go_wp2_with (at_make; refine wpList_make_own _ rfl _ _ 22 rfl w.heap.size 5 i0 (.int .u8 0) 1 Tryd.underlying22 hi hz0 hz1 _ _ _ s.size rfl rfl (by omega) (by rw [hz2]; omega) (by unfold maxLen; omega) (Nat.le_refl _) ?_)
  intro wm hmo hgm
  have Bm : Below w.heap.size w wm := (Below.refl _ _).grown hgm (Nat.le_refl _) (fun k hk => by cases hk)
  clear hgm
  go_wp2
  go_loopw [5, 12] (fun v i wr => ∃ k : Nat, k ≤ s.size ∧ i = .int .i64 k ∧ wr.ownsRow w.heap.size 5 1 v (pcL set (s.data.toList.take k)).length (bcells (pcL set (s.data.toList.take k))) ∧ Below w.heap.size w wr)
    (fun _ i _ => s.size - (intOf i).toNat)
  case atStart => exact ⟨0, Nat.zero_le _, rfl, hmo, Bm⟩
  case round =>
    clear hmo Bm hi hz0 hz1 hz2
    obtain ⟨k, hk, rfl, hown, hbel⟩ := hrel
    have hsz := hbel.size
    by_cases hlt : k < s.size
    · obtain ⟨d, hd⟩ : ∃ d : Nat, s[k].toNat = d := ⟨_, rfl⟩
      have HS : Hid (pcL set (s.data.toList.take (k + 1)) = pcL set (s.data.toList.take k) ++ keptB set s[k]) := pc_snoc set s k hlt
      have HD : Hid (s[k].toNat = d) := hd
      have hol := pc_take_len set s k
      generalize pcL set (s.data.toList.take k) = o at hown HS hol
      go_wp2_with fail
      refine (implAppendKept s[k] d HD.out set _ o w.heap.size _ (HM.out.later hbel) hown hsz (by omega)).mono ?_
      rintro e w1 ⟨v', rfl, hown', hb1⟩
      have R : w1.ownsRow w.heap.size 5 1 v' (pcL set (s.data.toList.take (k + 1))).length (bcells (pcL set (s.data.toList.take (k + 1)))) := by rw [HS.out]; exact hown'
      have B1 : Below w.heap.size w w1 := hbel.trans hb1
      clear hown' hb1 hown hbel
      go_wp2
      go_roundw
      case rel => exact ⟨k + 1, by omega, by go_num, R, B1⟩
      case measure => simp [intOf]; omega
    · have HO := run_string_own (P := Tryd.prog) wr 22 9 5 Tryd.underlying22 Tryd.underlying5 Tryd.underlying9 hown
      go_wp2
      go_ret
      exact ⟨ret_str (by rw [take_all s k (by omega)]), hbel⟩

set_option maxHeartbeats 2000000 in
theorem specPercent (s : ByteArray) (set : Int) (w : World) (hs : s.size ≤ 4294967296) :
    Calls Tryd.prog 40 #[.string s, .int .i64 set] w fun e w' => e = .returned (.string ⟨(pcL set s.data.toList).toArray⟩) ∧ Below w.heap.size w w' := by
  go_enter Tryd.func40, Tryd.ntmps40
  go_wp2
  go_loopw [5, 6] (fun v i wr => ∃ k : Nat, k ≤ s.size ∧ i = .int .i64 k ∧ wr.ownsRow w.heap.size 5 1 v (pcL set (s.data.toList.take k)).length (bcells (pcL set (s.data.toList.take k))) ∧ Below w.heap.size w wr)
    (fun _ i _ => s.size - (intOf i).toNat)
  case atStart => exact ⟨0, Nat.zero_le _, rfl, World.ownsRow_lit w #[] 0 (Nat.le_refl _) (by decide) rfl, (Below.refl _ _).alloc (Nat.le_refl _) _⟩
  case round =>
    obtain ⟨k, hk, rfl, hown, hbel⟩ := hrel
    have hsz := hbel.size
    by_cases hlt : k < s.size
    · obtain ⟨d, hd⟩ : ∃ d : Nat, s[k].toNat = d := ⟨_, rfl⟩
      have hd1 : (d : Int) ≤ 255 := by have := s[k].toNat_lt; omega
      have hd0 : 0 ≤ (d : Int) := by omega
      have HS : Hid (pcL set (s.data.toList.take (k + 1)) = pcL set (s.data.toList.take k) ++ keptB set s[k]) := pc_snoc set s k hlt
      have HD : Hid (s[k].toNat = d) := hd
      have hol := pc_take_len set s k
      generalize pcL set (s.data.toList.take k) = o at hown HS hol
      have ck := fun W => specKeeps set (d : Int) W
      simp only [keepZ_nat] at ck
      cases hkp : keepN set d with
      | true =>
        have HK : Hid (keptB set s[k] = [s[k]]) := kept_yes (by rw [hd]; exact hkp)
        have HE : Hid ((d : Int) = (s[k].toNat : Int)) := by show _ = _; rw [hd]
        rw [hkp] at ck
        have CK : Hid (∀ W, Calls Tryd.prog 38 #[.int .i64 set, .int .i64 (d : Int)] W fun e w' => e = .returned (.bool true) ∧ W = w') := ck
        clear ck hkp
        go_wp2_with fail
        refine (CK.out _).mono ?_
        rintro e w' ⟨rfl, rfl⟩
        go_wp2_with (at_builtin; refine wpList_append_new _ rfl _ _ 22 rfl w.heap.size 5 (.int .u8 0) 1 Tryd.underlying22 Tryd.info5 rfl _ _ _ rfl hown #[.int .u8 (d : Int)] 1 rfl rfl (byte_one _) (by omega) (by unfold maxLen; omega) (by omega) ?_)
        intro v' w1 hown' hb1
        have R : w1.ownsRow w.heap.size 5 1 v' (pcL set (s.data.toList.take (k + 1))).length (bcells (pcL set (s.data.toList.take (k + 1)))) := by rw [HS.out, HK.out]; exact own_byte s[k] HE.out hown'
        have B1 : Below w.heap.size w w1 := hbel.trans hb1
        clear hown' hb1 hown hbel
        go_wp2
        go_roundw
        case rel => exact ⟨k + 1, by omega, by go_num, R, B1⟩
        case measure => simp [intOf]; omega
      | false =>
        have HK : Hid (keptB set s[k] = putB s[k]) := kept_no (by rw [hd]; exact hkp)
        rw [hkp] at ck
        have CK : Hid (∀ W, Calls Tryd.prog 38 #[.int .i64 set, .int .i64 (d : Int)] W fun e w' => e = .returned (.bool false) ∧ W = w') := ck
        clear ck hkp
        go_wp2_with fail
        refine (CK.out _).mono ?_
        rintro e w' ⟨rfl, rfl⟩
        go_wp2_with fail
        refine (specPut s[k] d HD.out _ o w.heap.size _ hown hsz (by omega)).mono ?_
        rintro e w1 ⟨v', rfl, hown', hb1⟩
        have R : w1.ownsRow w.heap.size 5 1 v' (pcL set (s.data.toList.take (k + 1))).length (bcells (pcL set (s.data.toList.take (k + 1)))) := by rw [HS.out, HK.out]; exact hown'
        have B1 : Below w.heap.size w w1 := hbel.trans hb1
        clear hown' hb1 hown hbel
        go_wp2
        go_roundw
        case rel => exact ⟨k + 1, by omega, by go_num, R, B1⟩
        case measure => simp [intOf]; omega
    · have HO := run_string_own (P := Tryd.prog) wr 22 9 5 Tryd.underlying22 Tryd.underlying5 Tryd.underlying9 hown
      go_wp2
      go_ret
      exact ⟨ret_str (by rw [take_all s k (by omega)]), hbel⟩
end Go.Proofs.YtokkcbjhkepjnaaDoor
