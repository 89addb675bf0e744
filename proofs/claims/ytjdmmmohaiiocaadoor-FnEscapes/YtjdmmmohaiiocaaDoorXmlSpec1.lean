/- The contracts of the specification's Escape and of what comes back. -/
import Derived.Test.YtjdmmmohaiiocaaDoorRows
import Derived.Test.YtjdmmmohaiiocaaDoorXmlPlain
import Derived.Test.YtjdmmmohaiiocaaDoorPctWalk
import Derived.Test.YtjdmmmohaiiocaaDoorPutWalk
import Derived.Test.YtjdmmmohaiiocaaDoorNumWalk
import Derived.Test.YtjdmmmohaiiocaaDoorUntilWalk
import Derived.Test.YtjdmmmohaiiocaaDoorUnWalk
import Derived.Test.YtjdmmmohaiiocaaDoorRowMore
import Derived.Lib.AppendStr
import Derived.Handy
import Derived.Deep.DeepCutAuto
import Derived.Deep.CutBlock
namespace Go.Proofs.YtjdmmmohaiiocaaDoor
open Go.RowKit
set_option linter.unusedVariables false

theorem escL_take {s : ByteArray} {k : Nat} (h : k < s.size) : escL (s.data.toList.take (k + 1)) = escL (s.data.toList.take k) ++ escC (s[k]'h) := by
  unfold escL
  rw [take_snoc s k h, List.flatMap_append]
  simp
theorem own_text {w1 : World} {B : Nat} {e : TypeId} {v : Value} {o : List UInt8} (x : ByteArray) {m : List UInt8} (hm : x.data.toList = m) (h : w1.ownsRow B e 1 v (o.length + x.size) (bcells o ++ Lib.strCells x)) : w1.ownsRow B e 1 v (o ++ m).length (bcells (o ++ m)) := by
  subst hm
  rw [bcells_append, List.length_append]
  have : x.data.toList.length = x.size := by simp
  rw [this]
  exact h
set_option maxHeartbeats 4000000 in
theorem specEscape (s : ByteArray) (w : World) (hs : s.size ≤ 16777216) :
    Calls Tryd.prog 19 #[.string s] w fun e w' => e = .returned (.string ⟨(escL s.data.toList).toArray⟩) ∧ Below w.heap.size w w' := by
  obtain ⟨i0, hi, hz0, hz1, hz2⟩ := info_parts Tryd.info5
  go_enter Tryd.func19, Tryd.ntmps19
  go_wp2
  go_loopw [3, 4] (fun v i wr => ∃ (k : Nat) (o : List UInt8), k ≤ s.size ∧ i = .int .i64 k ∧ o.length ≤ 6 * k ∧ wr.ownsRow w.heap.size 5 1 v o.length (bcells o) ∧ Hid (o = escL (s.data.toList.take k)) ∧ Below w.heap.size w wr)
    (fun _ i _ => s.size - (intOf i).toNat)
  case atStart => exact ⟨0, [], Nat.zero_le _, rfl, Nat.zero_le _, World.ownsRow_lit w #[] 0 (Nat.le_refl _) (by decide) rfl, rfl, (Below.refl _ _).alloc (Nat.le_refl _) _⟩
  case round =>
    obtain ⟨k, o, hk, rfl, hol, hown, HE, hbel⟩ := hrel
    have hsz := hbel.size
    by_cases hlt : k < s.size
    · have hki : (k : Int) < s.size := by omega
      obtain ⟨d, hd⟩ : ∃ d : Nat, (s[k]'hlt).toNat = d := ⟨_, rfl⟩
      have ix := run_at Tryd.prog 9 Tryd.underlying9 s (k : Int) k d hlt rfl hd
      by_cases h1 : d = 38
      · subst h1
        have HO : Hid (o ++ [38, 97, 109, 112, 59] = escL (s.data.toList.take (k + 1))) := by show _ = _; rw [escL_take hlt, show s[k]'hlt = (38 : UInt8) from UInt8.toNat_inj.1 hd, HE.out]; rfl
        clear hd
        go_wp2_with (at_builtin; refine Lib.wpList_append_own_string _ rfl _ _ 22 9 rfl w.heap.size 5 i0 Tryd.underlying22 Tryd.underlying9 hi hz0 hz1 hz2 _ _ _ rfl hown ⟨#[38, 97, 109, 112, 59]⟩ rfl (by unfold maxLen; show o.length + 5 ≤ _; omega) (by show o.length + 5 ≤ _; omega) hbel.size ?_)
        intro v' w1 o1 g1 _
        have O1 : Hid (w1.ownsRow w.heap.size 5 1 v' (o ++ [38, 97, 109, 112, 59]).length (bcells (o ++ [38, 97, 109, 112, 59]))) := own_text ⟨#[38, 97, 109, 112, 59]⟩ rfl o1
        have B1 : Below w.heap.size w w1 := hbel.grown g1 hbel.size (fun b hb => (hown.lt b hb).1)
        have hl1 : (o ++ [38, 97, 109, 112, 59]).length ≤ 6 * (k + 1) := by rw [List.length_append]; show o.length + 5 ≤ _; omega
        clear o1 g1 hbel hown
        go_wp2_with fail
        go_roundw
        case rel => exact ⟨k + 1, _, by omega, by go_num, hl1, O1.out, HO, B1⟩
        case measure => simp [intOf]; omega
      by_cases h2 : d = 60
      · subst h2
        have HO : Hid (o ++ [38, 108, 116, 59] = escL (s.data.toList.take (k + 1))) := by show _ = _; rw [escL_take hlt, show s[k]'hlt = (60 : UInt8) from UInt8.toNat_inj.1 hd, HE.out]; rfl
        clear hd
        go_wp2_with (at_builtin; refine Lib.wpList_append_own_string _ rfl _ _ 22 9 rfl w.heap.size 5 i0 Tryd.underlying22 Tryd.underlying9 hi hz0 hz1 hz2 _ _ _ rfl hown ⟨#[38, 108, 116, 59]⟩ rfl (by unfold maxLen; show o.length + 4 ≤ _; omega) (by show o.length + 4 ≤ _; omega) hbel.size ?_)
        intro v' w1 o1 g1 _
        have O1 : Hid (w1.ownsRow w.heap.size 5 1 v' (o ++ [38, 108, 116, 59]).length (bcells (o ++ [38, 108, 116, 59]))) := own_text ⟨#[38, 108, 116, 59]⟩ rfl o1
        have B1 : Below w.heap.size w w1 := hbel.grown g1 hbel.size (fun b hb => (hown.lt b hb).1)
        have hl1 : (o ++ [38, 108, 116, 59]).length ≤ 6 * (k + 1) := by rw [List.length_append]; show o.length + 4 ≤ _; omega
        clear o1 g1 hbel hown
        go_wp2_with fail
        go_roundw
        case rel => exact ⟨k + 1, _, by omega, by go_num, hl1, O1.out, HO, B1⟩
        case measure => simp [intOf]; omega
      by_cases h3 : d = 62
      · subst h3
        have HO : Hid (o ++ [38, 103, 116, 59] = escL (s.data.toList.take (k + 1))) := by show _ = _; rw [escL_take hlt, show s[k]'hlt = (62 : UInt8) from UInt8.toNat_inj.1 hd, HE.out]; rfl
        clear hd
        go_wp2_with (at_builtin; refine Lib.wpList_append_own_string _ rfl _ _ 22 9 rfl w.heap.size 5 i0 Tryd.underlying22 Tryd.underlying9 hi hz0 hz1 hz2 _ _ _ rfl hown ⟨#[38, 103, 116, 59]⟩ rfl (by unfold maxLen; show o.length + 4 ≤ _; omega) (by show o.length + 4 ≤ _; omega) hbel.size ?_)
        intro v' w1 o1 g1 _
        have O1 : Hid (w1.ownsRow w.heap.size 5 1 v' (o ++ [38, 103, 116, 59]).length (bcells (o ++ [38, 103, 116, 59]))) := own_text ⟨#[38, 103, 116, 59]⟩ rfl o1
        have B1 : Below w.heap.size w w1 := hbel.grown g1 hbel.size (fun b hb => (hown.lt b hb).1)
        have hl1 : (o ++ [38, 103, 116, 59]).length ≤ 6 * (k + 1) := by rw [List.length_append]; show o.length + 4 ≤ _; omega
        clear o1 g1 hbel hown
        go_wp2_with fail
        go_roundw
        case rel => exact ⟨k + 1, _, by omega, by go_num, hl1, O1.out, HO, B1⟩
        case measure => simp [intOf]; omega
      by_cases h4 : d = 34
      · subst h4
        have HO : Hid (o ++ [38, 113, 117, 111, 116, 59] = escL (s.data.toList.take (k + 1))) := by show _ = _; rw [escL_take hlt, show s[k]'hlt = (34 : UInt8) from UInt8.toNat_inj.1 hd, HE.out]; rfl
        clear hd
        go_wp2_with (at_builtin; refine Lib.wpList_append_own_string _ rfl _ _ 22 9 rfl w.heap.size 5 i0 Tryd.underlying22 Tryd.underlying9 hi hz0 hz1 hz2 _ _ _ rfl hown ⟨#[38, 113, 117, 111, 116, 59]⟩ rfl (by unfold maxLen; show o.length + 6 ≤ _; omega) (by show o.length + 6 ≤ _; omega) hbel.size ?_)
        intro v' w1 o1 g1 _
        have O1 : Hid (w1.ownsRow w.heap.size 5 1 v' (o ++ [38, 113, 117, 111, 116, 59]).length (bcells (o ++ [38, 113, 117, 111, 116, 59]))) := own_text ⟨#[38, 113, 117, 111, 116, 59]⟩ rfl o1
        have B1 : Below w.heap.size w w1 := hbel.grown g1 hbel.size (fun b hb => (hown.lt b hb).1)
        have hl1 : (o ++ [38, 113, 117, 111, 116, 59]).length ≤ 6 * (k + 1) := by rw [List.length_append]; show o.length + 6 ≤ _; omega
        clear o1 g1 hbel hown
        go_wp2_with fail
        go_roundw
        case rel => exact ⟨k + 1, _, by omega, by go_num, hl1, O1.out, HO, B1⟩
        case measure => simp [intOf]; omega
      by_cases h5 : d = 39
      · subst h5
        have HO : Hid (o ++ [38, 97, 112, 111, 115, 59] = escL (s.data.toList.take (k + 1))) := by show _ = _; rw [escL_take hlt, show s[k]'hlt = (39 : UInt8) from UInt8.toNat_inj.1 hd, HE.out]; rfl
        clear hd
        go_wp2_with (at_builtin; refine Lib.wpList_append_own_string _ rfl _ _ 22 9 rfl w.heap.size 5 i0 Tryd.underlying22 Tryd.underlying9 hi hz0 hz1 hz2 _ _ _ rfl hown ⟨#[38, 97, 112, 111, 115, 59]⟩ rfl (by unfold maxLen; show o.length + 6 ≤ _; omega) (by show o.length + 6 ≤ _; omega) hbel.size ?_)
        intro v' w1 o1 g1 _
        have O1 : Hid (w1.ownsRow w.heap.size 5 1 v' (o ++ [38, 97, 112, 111, 115, 59]).length (bcells (o ++ [38, 97, 112, 111, 115, 59]))) := own_text ⟨#[38, 97, 112, 111, 115, 59]⟩ rfl o1
        have B1 : Below w.heap.size w w1 := hbel.grown g1 hbel.size (fun b hb => (hown.lt b hb).1)
        have hl1 : (o ++ [38, 97, 112, 111, 115, 59]).length ≤ 6 * (k + 1) := by rw [List.length_append]; show o.length + 6 ≤ _; omega
        clear o1 g1 hbel hown
        go_wp2_with fail
        go_roundw
        case rel => exact ⟨k + 1, _, by omega, by go_num, hl1, O1.out, HO, B1⟩
        case measure => simp [intOf]; omega
      have g1 : ((d : Int) == 38) = false := beq_eq_false_iff_ne.2 (by omega)
      have g2 : ((d : Int) == 60) = false := beq_eq_false_iff_ne.2 (by omega)
      have g3 : ((d : Int) == 62) = false := beq_eq_false_iff_ne.2 (by omega)
      have g4 : ((d : Int) == 34) = false := beq_eq_false_iff_ne.2 (by omega)
      have g5 : ((d : Int) == 39) = false := beq_eq_false_iff_ne.2 (by omega)
      have HO : Hid (o ++ [s[k]'hlt] = escL (s.data.toList.take (k + 1))) := by
        show _ = _
        rw [escL_take hlt, HE.out]
        have n1 : s[k]'hlt ≠ 38 := fun e => h1 (by rw [← hd, e]; rfl)
        have n2 : s[k]'hlt ≠ 60 := fun e => h2 (by rw [← hd, e]; rfl)
        have n3 : s[k]'hlt ≠ 62 := fun e => h3 (by rw [← hd, e]; rfl)
        have n4 : s[k]'hlt ≠ 34 := fun e => h4 (by rw [← hd, e]; rfl)
        have n5 : s[k]'hlt ≠ 39 := fun e => h5 (by rw [← hd, e]; rfl)
        unfold escC
        rw [if_neg n1, if_neg n2, if_neg n3, if_neg n4, if_neg n5]
      have HX : Hid ((d : Int) = ((s[k]'hlt).toNat : Int)) := by show _ = _; rw [hd]
      clear hd h1 h2 h3 h4 h5
      generalize s[k]'hlt = u at HO HX
      go_wp2_with (at_builtin; refine wpList_append_new _ rfl _ _ 22 rfl w.heap.size 5 (.int .u8 0) 1 Tryd.underlying22 Tryd.info5 rfl _ _ _ rfl hown #[.int .u8 (d : Int)] 1 rfl rfl (byte_one _) (by omega) (by unfold maxLen; omega) (by omega) ?_)
      intro v' w1 hown' hb1
      have R := own_byte u HX.out hown'
      have B1 : Below w.heap.size w w1 := hbel.trans hb1
      clear hown' hb1 hown hbel
      go_wp2_with fail
      go_roundw
      case rel => exact ⟨k + 1, _, by omega, by go_num, by simp; omega, R, HO, B1⟩
      case measure => simp [intOf]; omega
    · have hki : ¬ (k : Int) < s.size := by omega
      have HO := run_string_own (P := Tryd.prog) wr 22 9 5 Tryd.underlying22 Tryd.underlying5 Tryd.underlying9 hown
      have HF : Hid (o = escL s.data.toList) := by
        have := HE.out
        rwa [take_all s k (by omega)] at this
      clear HE
      go_wp2
      go_ret
      exact ⟨by rw [HF.out]; rfl, hbel⟩
theorem text_eq {s t : ByteArray} (h : s.data.toList = t.data.toList) : s = t := by
  cases s with
  | mk a =>
    cases t with
    | mk b => exact congrArg ByteArray.mk (Array.toList_inj.1 h)
theorem text_ne {s : ByteArray} {m : List UInt8} (h : s.data.toList ≠ m) : (s.toList == m) = false := beq_eq_false_iff_ne.2 fun e => h (by rw [← ByteArray.toList_eq]; exact e)
theorem hash_x {l : List UInt8} (h : 2 < l.length) (h2 : l.take 2 = [35, 120]) : hashN l = numL 16 6 (l.drop 2) := by
  match l, h, h2 with
  | a :: b :: c :: r, _, h2 =>
    simp only [List.take_succ_cons, List.take_zero, List.cons.injEq, and_true] at h2
    obtain ⟨rfl, rfl⟩ := h2
    rfl
theorem hash_d {l : List UInt8} (h : 1 < l.length) (h2 : l.head? = some 35) (h3 : ¬ (2 < l.length ∧ l.take 2 = [35, 120])) : hashN l = numL 10 7 (l.drop 1) := by
  match l, h, h2, h3 with
  | [a, b], _, h2, h3 =>
    simp only [List.head?_cons, Option.some.injEq] at h2
    subst h2
    unfold hashN
    split
    · rename_i he; cases he
    · rename_i he; cases he; rfl
    · rename_i h4 h5; exact absurd rfl (h5 _ _)
  | a :: b :: c :: r, _, h2, h3 =>
    simp only [List.head?_cons, Option.some.injEq] at h2
    subst h2
    have hb : b ≠ 120 := fun e => h3 ⟨by simp, by rw [e]; rfl⟩
    unfold hashN
    split
    · rename_i he; injection he with _ he; injection he with he _; exact absurd he hb
    · rename_i he; injection he with _ he; injection he with e1 e2; subst e1 e2; rfl
    · rename_i h4 h5; exact absurd rfl (h5 _ _)
theorem hash_no {l : List UInt8} (h : ¬ (1 < l.length ∧ l.head? = some 35)) : hashN l = none := by
  unfold hashN
  split
  · exact absurd ⟨by simp, rfl⟩ h
  · exact absurd ⟨by simp, rfl⟩ h
  · rfl
theorem name_hash {l : List UInt8} (h1 : l ≠ nAmp) (h2 : l ≠ nLt) (h3 : l ≠ nGt) (h4 : l ≠ nQuot) (h5 : l ≠ nApos) : nameR l = match hashN l with
    | some r => if 0 < r ∧ r ≤ 1114111 ∧ (r < 55296 ∨ 57343 < r) then some r else none
    | none => none := by
  unfold nameR
  rw [if_neg h1, if_neg h2, if_neg h3, if_neg h4, if_neg h5]
  cases hashN l <;> rfl
/-- What a name stands for, as two results. -/
def NameA (l : List UInt8) (e : Ending) : Prop := ∃ z : Int, e = .returned (.tuple #[.int .i64 z, .bool (nameR l).isSome]) ∧ ∀ r, nameR l = some r → z = (r : Int)
set_option maxRecDepth 100000 in
set_option maxHeartbeats 4000000 in
theorem spec13Rune (n : ByteArray) (w : World) (hn : n.size ≤ 16777216) :
    Calls Tryd.prog 34 #[.string n] w fun e w' => NameA n.data.toList e ∧ Below w.heap.size w w' := by
  by_cases h1 : n.data.toList = nAmp
  · obtain rfl : n = ⟨#[97, 109, 112]⟩ := text_eq h1
    clear h1
    go_enter Tryd.func34, Tryd.ntmps34
    go_wp2_with fail
    go_ret2
    exact ⟨⟨_, rfl, fun r hr => by cases hr; rfl⟩, Below.refl _ _⟩
  by_cases h2 : n.data.toList = nLt
  · obtain rfl : n = ⟨#[108, 116]⟩ := text_eq h2
    clear h2
    go_enter Tryd.func34, Tryd.ntmps34
    go_wp2_with fail
    go_ret2
    exact ⟨⟨_, rfl, fun r hr => by cases hr; rfl⟩, Below.refl _ _⟩
  by_cases h3 : n.data.toList = nGt
  · obtain rfl : n = ⟨#[103, 116]⟩ := text_eq h3
    clear h3
    go_enter Tryd.func34, Tryd.ntmps34
    go_wp2_with fail
    go_ret2
    exact ⟨⟨_, rfl, fun r hr => by cases hr; rfl⟩, Below.refl _ _⟩
  by_cases h4 : n.data.toList = nQuot
  · obtain rfl : n = ⟨#[113, 117, 111, 116]⟩ := text_eq h4
    clear h4
    go_enter Tryd.func34, Tryd.ntmps34
    go_wp2_with fail
    go_ret2
    exact ⟨⟨_, rfl, fun r hr => by cases hr; rfl⟩, Below.refl _ _⟩
  by_cases h5 : n.data.toList = nApos
  · obtain rfl : n = ⟨#[97, 112, 111, 115]⟩ := text_eq h5
    clear h5
    go_enter Tryd.func34, Tryd.ntmps34
    go_wp2_with fail
    go_ret2
    exact ⟨⟨_, rfl, fun r hr => by cases hr; rfl⟩, Below.refl _ _⟩
  have HN : Hid (nameR n.data.toList = match hashN n.data.toList with
    | some r => if 0 < r ∧ r ≤ 1114111 ∧ (r < 55296 ∨ 57343 < r) then some r else none
    | none => none) := name_hash h1 h2 h3 h4 h5
  have g1 : (n.toList == [97, 109, 112]) = false := text_ne h1
  have g2 : (n.toList == [108, 116]) = false := text_ne h2
  have g3 : (n.toList == [103, 116]) = false := text_ne h3
  have g4 : (n.toList == [113, 117, 111, 116]) = false := text_ne h4
  have g5 : (n.toList == [97, 112, 111, 115]) = false := text_ne h5
  have hnl : n.data.toList.length = n.size := by simp
  clear h1 h2 h3 h4 h5
  obtain ⟨h, hh⟩ : ∃ h, hashN n.data.toList = h := ⟨_, rfl⟩
  have HH : Hid (hashN n.data.toList = h) := hh
  rw [hh] at HN
  clear hh
  go_enter Tryd.func34, Tryd.ntmps34
  go_upto_block 1 with fail
  go_cut [4] (fun v wx => v = .int .i64 (numZ h) ∧ wx = w)
  case first =>
    have C16 : Hid (∀ W, Calls Tryd.prog 49 #[.string (n.extract 2 n.size), .int .i64 16, .int .i64 6] W fun e w' => e = .returned (.int .i64 (numZ (numL 16 6 (n.data.toList.drop 2)))) ∧ W = w') := fun W => by
      have := spec5Number (n.extract 2 n.size) 16 6 W (by decide) (by decide)
      rw [drop_data] at this
      exact this
    have C10 : Hid (∀ W, Calls Tryd.prog 49 #[.string (n.extract 1 n.size), .int .i64 10, .int .i64 7] W fun e w' => e = .returned (.int .i64 (numZ (numL 10 7 (n.data.toList.drop 1)))) ∧ W = w') := fun W => by
      have := spec5Number (n.extract 1 n.size) 10 7 W (by decide) (by decide)
      rw [drop_data] at this
      exact this
    by_cases hx : 2 < n.size ∧ n.data.toList.take 2 = [35, 120]
    · have HX : Hid (h = numL 16 6 (n.data.toList.drop 2)) := HH.out.symm.trans (hash_x (by omega) hx.2)
      have hxs : 2 < (n.size : Int) := by omega
      have hxe : ((n.extract 0 2).toList == [35, 120]) = true := by
        rw [ByteArray.toList_eq, take_data, hx.2]
        rfl
      clear hx
      go_wp2_with fail
      refine (C16.out _).mono ?_
      rintro e w' ⟨rfl, rfl⟩
      go_wp2_with fail
      go_meet
      exact ⟨by rw [HX.out], rfl⟩
    · by_cases hd : 1 < n.size ∧ n.data.toList.head? = some 35
      · have HX : Hid (h = numL 10 7 (n.data.toList.drop 1)) := HH.out.symm.trans (hash_d (by omega) hd.2 (by rw [hnl]; exact hx))
        have hds : 1 < (n.size : Int) := by omega
        have hn0 : (n[0]'(by omega)).toNat = 35 := by
          have := hd.2
          rw [List.head?_eq_getElem?, List.getElem?_eq_getElem (by omega)] at this
          have h1 : n[0]'(by omega) = 35 := by injection this
          rw [h1]; rfl
        have ix := run_at Tryd.prog 9 Tryd.underlying9 n 0 0 35 (by omega) rfl hn0
        by_cases h2 : 2 < n.size
        · have hxs : 2 < (n.size : Int) := by omega
          have hxe : ((n.extract 0 2).toList == [35, 120]) = false := text_ne (by rw [take_data]; exact fun e => hx ⟨h2, e⟩)
          clear hn0
          clear hx hd
          go_wp2_with fail
          refine (C10.out _).mono ?_
          rintro e w' ⟨rfl, rfl⟩
          go_wp2_with fail
          go_meet
          exact ⟨by rw [HX.out, List.drop_one], rfl⟩
        · have hxs : ¬ 2 < (n.size : Int) := by omega
          clear hn0
          clear hx hd
          go_wp2_with fail
          refine (C10.out _).mono ?_
          rintro e w' ⟨rfl, rfl⟩
          go_wp2_with fail
          go_meet
          exact ⟨by rw [HX.out, List.drop_one], rfl⟩
      · have HX : Hid (h = none) := HH.out.symm.trans (hash_no (by rw [hnl]; exact hd))
        by_cases h1 : 1 < n.size
        · have hds : 1 < (n.size : Int) := by omega
          obtain ⟨d, hdd⟩ : ∃ d : Nat, (n[0]'(by omega)).toNat = d := ⟨_, rfl⟩
          have ix := run_at Tryd.prog 9 Tryd.underlying9 n 0 0 d (by omega) rfl hdd
          have h35 : ((d : Int) == 35) = false := beq_eq_false_iff_ne.2 fun e => hd ⟨h1, by
            rw [List.head?_eq_getElem?, List.getElem?_eq_getElem (by omega)]
            exact congrArg some (UInt8.toNat_inj.1 (show (n[0]'(by omega)).toNat = 35 by omega))⟩
          by_cases h2 : 2 < n.size
          · have hxs : 2 < (n.size : Int) := by omega
            have hxe : ((n.extract 0 2).toList == [35, 120]) = false := text_ne (by rw [take_data]; exact fun e => hx ⟨h2, e⟩)
            clear hx hd hdd
            go_wp2_with fail
            go_meet
            exact ⟨by rw [HX.out]; rfl, rfl⟩
          · have hxs : ¬ 2 < (n.size : Int) := by omega
            clear hx hd hdd
            go_wp2_with fail
            go_meet
            exact ⟨by rw [HX.out]; rfl, rfl⟩
        · have hds : ¬ 1 < (n.size : Int) := by omega
          have hxs : ¬ 2 < (n.size : Int) := by omega
          clear hx hd
          go_wp2_with fail
          go_meet
          exact ⟨by rw [HX.out]; rfl, rfl⟩
  case rest =>
    obtain ⟨rfl, hw⟩ := hcut
    obtain rfl := hw.symm
    clear g1 g2 g3 g4 g5
    cases h with
    | none =>
      rw [show numZ none = -1 from rfl]
      have HN2 : Hid (nameR n.data.toList = none) := HN.out
      go_wp2_with fail
      go_ret2
      exact ⟨⟨-1, by rw [HN2.out]; rfl, fun r hr => by rw [HN2.out] at hr; cases hr⟩, Below.refl _ _⟩
    | some r =>
      rw [show numZ (some r) = (r : Int) from rfl]
      by_cases h0 : 0 < r
      · have h0i : 0 < (r : Int) := by omega
        by_cases hr : runeOk (r : Int)
        · have HN2 : Hid (nameR n.data.toList = some r) := by
            have := HN.out
            dsimp only at this
            rw [if_pos (by unfold runeOk at hr; omega)] at this
            exact this
          have CR : Hid (∀ W, Calls Tryd.prog 50 #[.int .i64 (r : Int)] W fun e w' => e = .returned (.bool true) ∧ W = w') := fun W => specL1IsRune_yes _ W hr
          clear hr
          go_wp2_with fail
          refine (CR.out _).mono ?_
          rintro e w' ⟨rfl, rfl⟩
          go_wp2_with fail
          go_ret2
          exact ⟨⟨(r : Int), by rw [HN2.out]; rfl, fun r' hr' => by rw [HN2.out] at hr'; cases hr'; rfl⟩, Below.refl _ _⟩
        · have HN2 : Hid (nameR n.data.toList = none) := by
            have := HN.out
            dsimp only at this
            rw [if_neg (by unfold runeOk at hr; omega)] at this
            exact this
          have CR : Hid (∀ W, Calls Tryd.prog 50 #[.int .i64 (r : Int)] W fun e w' => e = .returned (.bool false) ∧ W = w') := fun W => specL1IsRune_no _ W hr
          clear hr
          go_wp2_with fail
          refine (CR.out _).mono ?_
          rintro e w' ⟨rfl, rfl⟩
          go_wp2_with fail
          go_ret2
          exact ⟨⟨(r : Int), by rw [HN2.out]; rfl, fun r' hr' => by rw [HN2.out] at hr'; cases hr'⟩, Below.refl _ _⟩
      · have h0i : ¬ 0 < (r : Int) := by omega
        have HN2 : Hid (nameR n.data.toList = none) := by
          have := HN.out
          dsimp only at this
          rw [if_neg (by omega)] at this
          exact this
        go_wp2_with fail
        go_ret2
        exact ⟨⟨(r : Int), by rw [HN2.out]; rfl, fun r' hr' => by rw [HN2.out] at hr'; cases hr'⟩, Below.refl _ _⟩
/-- What comes back, as two results. -/
def unA (r : Option (List UInt8)) : Value := match r with
  | some t => .tuple #[.string ⟨t.toArray⟩, .bool true]
  | none => .tuple #[.string ⟨#[]⟩, .bool false]
theorem map_map_app (o p : List UInt8) (x : Option (List UInt8)) : ((x.map fun t => p ++ t).map fun t => o ++ t) = x.map fun t => (o ++ p) ++ t := by cases x <;> simp
theorem une_len : ∀ (n : Nat) (l t : List UInt8), unE n l = some t → t.length ≤ 4 * l.length
  | 0, l, t, h => by cases h; exact Nat.zero_le _
  | n + 1, [], t, h => by cases h; exact Nat.zero_le _
  | n + 1, c :: r, t, h => by
    rw [unE] at h
    split at h
    · split at h
      · split at h
        · rename_i x hx
          cases hu : unE n (behB 59 r) with
          | none => rw [hu] at h; cases h
          | some t' =>
            rw [hu] at h
            have h1 := une_len n (behB 59 r) t' hu
            have h2 := beh_len r
            have h3 := (enc_length (x : Int)).2
            cases h
            rw [List.length_append, List.length_cons]
            omega
        · cases h
      · cases h
    · cases hu : unE n r with
      | none => rw [hu] at h; cases h
      | some t' =>
        rw [hu] at h
        have h1 := une_len n r t' hu
        cases h
        rw [List.length_cons, List.length_cons]
        omega
theorem among_one (m c : UInt8) : amongL [m] (c.toNat : Int) = !(c != m) := by
  by_cases h : c = m
  · subst h
    simp [amongL]
  · have h1 : (c != m) = true := bne_iff_ne.2 h
    have h2 : ¬ (m.toNat : Int) = (c.toNat : Int) := fun e => h (UInt8.toNat_inj.1 (by omega))
    rw [h1]
    simp [amongL, h2]
theorem until59 (c : UInt8) : amongL (⟨#[59]⟩ : ByteArray).data.toList (c.toNat : Int) = !(c != 59) := among_one 59 c
set_option maxRecDepth 100000 in
set_option maxHeartbeats 4000000 in
theorem specUnescape (s : ByteArray) (w : World) (hs : s.size ≤ 16777216) :
    Calls Tryd.prog 20 #[.string s] w fun e w' => e = .returned (unA (unF s.data.toList)) ∧ Below w.heap.size w w' := by
  have hsl : s.data.toList.length = s.size := by simp
  go_enter Tryd.func20, Tryd.ntmps20
  go_wp2
  go_loopw [4, 5] (fun v i wr => ∃ (k : Nat) (o : List UInt8), k ≤ s.size ∧ i = .int .i64 k ∧ o.length ≤ 4 * k ∧ Hid (wr.ownsRow w.heap.size 5 1 v o.length (bcells o)) ∧ Hid ((unF (s.data.toList.drop k)).map (fun t => o ++ t) = unF s.data.toList) ∧ Below w.heap.size w wr)
    (fun _ i _ => s.size - (intOf i).toNat)
  case atStart => exact ⟨0, [], Nat.zero_le _, rfl, Nat.zero_le _, World.ownsRow_lit w #[] 0 (Nat.le_refl _) (by decide) rfl, (by show _ = _; rw [List.drop_zero]; cases unF s.data.toList <;> rfl), (Below.refl _ _).alloc (Nat.le_refl _) _⟩
  case round =>
    obtain ⟨k, o, hk, rfl, hol, HO, HE, hbel⟩ := hrel
    have hsz := hbel.size
    by_cases hlt : k < s.size
    · have hki : (k : Int) < s.size := by omega
      obtain ⟨d, hd⟩ : ∃ d : Nat, (s[k]'hlt).toNat = d := ⟨_, rfl⟩
      have ix := run_at Tryd.prog 9 Tryd.underlying9 s (k : Int) k d hlt rfl hd
      have hdr : s.data.toList.drop k = s[k]'hlt :: s.data.toList.drop (k + 1) := drop_at s k hlt
      by_cases h38 : d = 38
      · subst h38
        have hc : s[k]'hlt = 38 := UInt8.toNat_inj.1 hd
        rw [hdr, hc, unF_amp] at HE
        have hdd : (s.extract (k + 1) s.size).data.toList = s.data.toList.drop (k + 1) := drop_data s (k + 1)
        have hes : (s.extract (k + 1) s.size).size ≤ 16777216 := by simp; omega
        have CU := fun W => specUntil (fun c => c != 59) ⟨#[59]⟩ (s.extract (k + 1) s.size) W (by decide) until59 hes
        rw [hdd] at CU
        obtain ⟨R, hR⟩ : ∃ R, s.data.toList.drop (k + 1) = R := ⟨_, rfl⟩
        have hRl : R.length + (k + 1) = s.size := by rw [← hR, List.length_drop]; omega
        rw [hR] at HE CU
        obtain ⟨nm, hnm⟩ : ∃ nm : ByteArray, (⟨(R.takeWhile fun c => c != 59).toArray⟩ : ByteArray) = nm := ⟨_, rfl⟩
        obtain ⟨rs, hrs⟩ : ∃ rs : ByteArray, (⟨(R.dropWhile fun c => c != 59).toArray⟩ : ByteArray) = rs := ⟨_, rfl⟩
        rw [hnm, hrs] at CU
        have HCU : Hid (∀ W, Calls Tryd.prog 31 #[.string (s.extract (k + 1) s.size), .string ⟨#[59]⟩] W fun e w' => e = .returned (.tuple #[.string nm, .string rs]) ∧ Below W.heap.size W w') := CU
        have hnd : nm.data.toList = upB 59 R := by rw [← hnm]; rfl
        have hrd : rs.data.toList = R.dropWhile fun c => c != 59 := by rw [← hrs]
        have hns : nm.size = (upB 59 R).length := by rw [← hnd]; simp
        have hnle : nm.size ≤ R.length := by rw [hns]; exact (List.takeWhile_sublist _).length_le
        rw [← hnd] at HE
        have HR : Hid (R.contains 59 = true → 0 < rs.size ∧ nm.size < R.length ∧ s.data.toList.drop (k + nm.size + 2) = behB 59 R) := fun hc => by
          have h1 := (up_beh 59 R).1 hc
          have h2 := congrArg List.length h1
          rw [List.length_append, List.length_cons, ← hns] at h2
          refine ⟨?_, by omega, ?_⟩
          · have h3 : rs.size = (R.dropWhile fun c => c != 59).length := by rw [← hrd]; simp
            have h4 : R = (R.takeWhile fun c => c != 59) ++ R.dropWhile fun c => c != 59 := (List.takeWhile_append_dropWhile).symm
            have h5 := congrArg List.length h4
            rw [List.length_append] at h5
            have h6 : (R.takeWhile fun c => c != 59).length = nm.size := hns.symm
            omega
          · rw [show k + nm.size + 2 = k + 1 + (nm.size + 1) by omega, ← List.drop_drop, hR, hns]
            conv => lhs; arg 2; rw [h1]
            rw [show (upB 59 R).length + 1 = (upB 59 R ++ [59]).length by simp, show upB 59 R ++ 59 :: behB 59 R = (upB 59 R ++ [59]) ++ behB 59 R by simp, List.drop_left' rfl]
        have HRn : Hid (R.contains 59 = false → rs.size = 0) := fun hc => by
          have h1 := ((up_beh 59 R).2.1 hc).1
          have h3 : rs.size = (R.dropWhile fun c => c != 59).length := by rw [← hrd]; simp
          have h5 := congrArg List.length (List.takeWhile_append_dropWhile (p := fun c : UInt8 => c != 59) (l := R))
          rw [List.length_append] at h5
          have h6 : (R.takeWhile fun c => c != 59).length = R.length := congrArg List.length h1
          omega
        have CN : Hid (∀ W, Calls Tryd.prog 34 #[.string nm] W fun e w' => NameA nm.data.toList e ∧ Below W.heap.size W w') := fun W => spec13Rune nm W (by omega)
        clear hdr hd hc hdd CU hR hnm hrs hnd hrd hns
        go_wp2_with fail
        refine (HCU.out _).mono ?_
        rintro e w1 ⟨rfl, b1⟩
        have B1 := hbel.trans (b1.mono hbel.size)
        have O1 : Hid (w1.ownsRow w.heap.size 5 1 u4 o.length (bcells o)) := own_below HO.out b1
        clear b1 hbel HO HCU
        go_wp2_with fail
        refine (CN.out _).mono ?_
        rintro e w2 ⟨⟨z, rfl, hzr⟩, b2⟩
        have HZR : Hid (∀ r, nameR nm.data.toList = some r → z = (r : Int)) := hzr
        have B2 := B1.trans (b2.mono B1.size)
        have O2 : Hid (w2.ownsRow w.heap.size 5 1 u4 o.length (bcells o)) := own_below O1.out b2
        clear b2 B1 O1 CN hzr
        cases hx : nameR nm.data.toList with
        | none =>
          have HF : Hid (unF s.data.toList = none) := by
            have := HE.out
            rw [hx] at this
            rw [← this]
            show _ = _
            cases R.contains 59 <;> rfl
          clear HE hx
          rw [show (none : Option Nat).isSome = false from rfl]
          go_wp2_with fail
          go_ret2
          exact ⟨by rw [HF.out]; rfl, B2⟩
        | some x =>
          rw [show (some x : Option Nat).isSome = true from rfl]
          obtain rfl := HZR.out x hx
          cases hc : R.contains 59 with
          | false =>
            have HF : Hid (unF s.data.toList = none) := by
              have := HE.out
              rw [hx, hc] at this
              rw [← this]
              rfl
            have hem := empty_yes (HRn.out hc)
            clear HE hx hc HRn HR HZR
            go_wp2_with fail
            go_ret2
            exact ⟨by rw [HF.out]; rfl, B2⟩
          | true =>
            obtain ⟨q1, q2, q3⟩ := HR.out hc
            have hem := empty_no q1
            have HN : Hid ((unF (s.data.toList.drop (k + nm.size + 2))).map (fun t => (o ++ Lib.encodeRune (x : Int)) ++ t) = unF s.data.toList) := by
              have := HE.out
              rw [hx, hc, if_pos rfl] at this
              show _ = _
              rw [← this, q3]
              dsimp only
              rw [map_map_app]
            have CP : Hid (∀ W, Below w.heap.size w W → W.ownsRow w.heap.size 5 1 u4 o.length (bcells o) → Calls Tryd.prog 35 #[u4, .int .i64 (x : Int)] W fun e w' => ∃ v', e = .returned v' ∧ w'.ownsRow w.heap.size 5 1 v' (o.length + (Lib.encodeRune (x : Int)).length) (bcells (o ++ Lib.encodeRune (x : Int))) ∧ Below w.heap.size W w') := fun W hW hO => specL1Put (x : Int) _ o.length w.heap.size o W (name_ok hx).2 (by omega) hW.size hO
            have hel := (enc_length (x : Int)).2
            clear HE hx hc HRn HR HZR q3
            go_wp2_with fail
            refine (CP.out _ B2 O2.out).mono ?_
            rintro e w3 ⟨v3, rfl, o3, b3⟩
            have B3 := B2.trans b3
            have O3 : Hid (w3.ownsRow w.heap.size 5 1 v3 (o ++ Lib.encodeRune (x : Int)).length (bcells (o ++ Lib.encodeRune (x : Int)))) := by
              show World.ownsRow _ _ _ _ _ _ _
              rw [List.length_append]
              exact o3
            have hl3 : (o ++ Lib.encodeRune (x : Int)).length ≤ 4 * (k + nm.size + 2) := by rw [List.length_append]; omega
            clear o3 b3 B2 O2 CP
            go_wp2_with fail
            go_roundw
            case rel => exact ⟨k + nm.size + 2, _, by omega, by go_num, hl3, O3, HN, B3⟩
            case measure => simp [intOf]; omega
      · have h38i : ((d : Int) != 38) = true := bne_iff_ne.2 (by omega)
        have hc : s[k]'hlt ≠ 38 := fun e => h38 (by rw [← hd, e]; rfl)
        have HN : Hid ((unF (s.data.toList.drop (k + 1))).map (fun t => (o ++ [s[k]'hlt]) ++ t) = unF s.data.toList) := by
          have := HE.out
          rw [hdr, unF_byte hc] at this
          show _ = _
          rw [← this]
          cases unF (s.data.toList.drop (k + 1)) <;> simp
        have HX : Hid ((d : Int) = ((s[k]'hlt).toNat : Int)) := by show _ = _; rw [hd]
        have hown := HO.out
        clear hd hc hdr h38 HE HO
        generalize s[k]'hlt = u at HN HX
        go_wp2_with (at_builtin; refine wpList_append_new _ rfl _ _ 22 rfl w.heap.size 5 (.int .u8 0) 1 Tryd.underlying22 Tryd.info5 rfl _ _ _ rfl hown #[.int .u8 (d : Int)] 1 rfl rfl (byte_one _) (by omega) (by unfold maxLen; omega) (by omega) ?_)
        intro v' w1 hown' hb1
        have R := own_byte u HX.out hown'
        have B1 : Below w.heap.size w w1 := hbel.trans hb1
        clear hown' hb1 hown hbel
        go_wp2_with fail
        go_roundw
        case rel => exact ⟨k + 1, _, by omega, by go_num, by simp; omega, R, HN, B1⟩
        case measure => simp [intOf]; omega
    · have hki : ¬ (k : Int) < s.size := by omega
      have hown := HO.out
      have HF : Hid (unF s.data.toList = some o) := by
        have := HE.out
        rw [List.drop_eq_nil_of_le (by omega)] at this
        rw [← this]
        show _ = _
        simp [unF_nil]
      have HV := run_string_own (P := Tryd.prog) wr 22 9 5 Tryd.underlying22 Tryd.underlying5 Tryd.underlying9 hown
      clear HE HO
      go_wp2
      go_ret2
      exact ⟨by rw [HF.out]; rfl, hbel⟩
end Go.Proofs.YtjdmmmohaiiocaaDoor
