/- The contracts of the specification's Escape and of what comes back. -/
import Derived.Test.YtfdgehlobbeomaaDoorRows
import Derived.Test.YtfdgehlobbeomaaDoorXmlPlain
import Derived.Test.YtfdgehlobbeomaaDoorPctWalk
import Derived.Test.YtfdgehlobbeomaaDoorPutWalk
import Derived.Test.YtfdgehlobbeomaaDoorNumWalk
import Derived.Test.YtfdgehlobbeomaaDoorUntilWalk
import Derived.Test.YtfdgehlobbeomaaDoorUnWalk
import Derived.Test.YtfdgehlobbeomaaDoorRowMore
import Derived.Lib.AppendStr
import Derived.Handy
import Derived.Deep.DeepCutAuto
import Derived.Deep.CutBlock
namespace Go.Proofs.YtfdgehlobbeomaaDoor
open Go.RowKit
set_option linter.unusedVariables false

theorem escL_take {s : ByteArray} {k : Nat} (h : k < s.size) : escL (s.data.toList.take (k + 1)) = escL (s.data.toList.take k) ++ escC (s[k]'h) := by
  unfold escL
  rw [take_snoc s k h, List.flatMap_append]
  simp
theorem own_text {w1 : World} {B : Nat} {e : TypeId} {v : Value} {o : List UInt8} (x : ByteArray) {m : List UInt8} (hm : x.data.toList = m) (h : w1.ownsRow B e 1 v (o.length + x.size) (bcells o ++ Lib.strCells x)) : w1.ownsRow B e 1 v (o ++ m).length (bcells (o ++ m)) := by
  subst hm
  rw [bcells_append, List.length_append]
  have : x.data.toList.length = x.size := by simp
  rw [this]
  exact h
set_option maxHeartbeats 4000000 in
theorem specEscape (s : ByteArray) (w : World) (hs : s.size ≤ 16777216) :
    Calls Tryd.prog 10 #[.string s] w fun e w' => e = .returned (.string ⟨(escL s.data.toList).toArray⟩) ∧ Below w.heap.size w w' := by
  obtain ⟨i0, hi, hz0, hz1, hz2⟩ := info_parts Tryd.info5
  go_enter Tryd.func10, Tryd.ntmps10
  go_wp2
  go_loopw [3, 4] (fun v i wr => ∃ (k : Nat) (o : List UInt8), k ≤ s.size ∧ i = .int .i64 k ∧ o.length ≤ 6 * k ∧ wr.ownsRow w.heap.size 5 1 v o.length (bcells o) ∧ Hid (o = escL (s.data.toList.take k)) ∧ Below w.heap.size w wr)
    (fun _ i _ => s.size - (intOf i).toNat)
  case atStart => exact ⟨0, [], Nat.zero_le _, rfl, Nat.zero_le _, World.ownsRow_lit w #[] 0 (Nat.le_refl _) (by decide) rfl, rfl, (Below.refl _ _).alloc (Nat.le_refl _) _⟩
  case round =>
    obtain ⟨k, o, hk, rfl, hol, hown, HE, hbel⟩ := hrel
    have hsz := hbel.size
    by_cases hlt : k < s.size
    · have hki : (k : Int) < s.size := by omega
      obtain ⟨d, hd⟩ : ∃ d : Nat, (s[k]'hlt).toNat = d := ⟨_, rfl⟩
      have ix := run_at Tryd.prog 9 Tryd.underlying9 s (k : Int) k d hlt rfl hd
      by_cases h1 : d = 38
      · subst h1
        have HO : Hid (o ++ [38, 97, 109, 112, 59] = escL (s.data.toList.take (k + 1))) := by show _ = _; rw [escL_take hlt, show s[k]'hlt = (38 : UInt8) from UInt8.toNat_inj.1 hd, HE.out]; rfl
        clear hd
        go_wp2_with (at_builtin; refine Lib.wpList_append_own_string _ rfl _ _ 42 9 rfl w.heap.size 5 i0 Tryd.underlying42 Tryd.underlying9 hi hz0 hz1 hz2 _ _ _ rfl hown ⟨#[38, 97, 109, 112, 59]⟩ rfl (by unfold maxLen; show o.length + 5 ≤ _; omega) (by show o.length + 5 ≤ _; omega) hbel.size ?_)
        intro v' w1 o1 g1 _
        have O1 : Hid (w1.ownsRow w.heap.size 5 1 v' (o ++ [38, 97, 109, 112, 59]).length (bcells (o ++ [38, 97, 109, 112, 59]))) := own_text ⟨#[38, 97, 109, 112, 59]⟩ rfl o1
        have B1 : Below w.heap.size w w1 := hbel.grown g1 hbel.size (fun b hb => (hown.lt b hb).1)
        have hl1 : (o ++ [38, 97, 109, 112, 59]).length ≤ 6 * (k + 1) := by rw [List.length_append]; show o.length + 5 ≤ _; omega
        clear o1 g1 hbel hown
        go_wp2_with fail
        go_roundw
        case rel => exact ⟨k + 1, _, by omega, by go_num, hl1, O1.out, HO, B1⟩
        case measure => simp [intOf]; omega
      by_cases h2 : d = 60
      · subst h2
        have HO : Hid (o ++ [38, 108, 116, 59] = escL (s.data.toList.take (k + 1))) := by show _ = _; rw [escL_take hlt, show s[k]'hlt = (60 : UInt8) from UInt8.toNat_inj.1 hd, HE.out]; rfl
        clear hd
        go_wp2_with (at_builtin; refine Lib.wpList_append_own_string _ rfl _ _ 42 9 rfl w.heap.size 5 i0 Tryd.underlying42 Tryd.underlying9 hi hz0 hz1 hz2 _ _ _ rfl hown ⟨#[38, 108, 116, 59]⟩ rfl (by unfold maxLen; show o.length + 4 ≤ _; omega) (by show o.length + 4 ≤ _; omega) hbel.size ?_)
        intro v' w1 o1 g1 _
        have O1 : Hid (w1.ownsRow w.heap.size 5 1 v' (o ++ [38, 108, 116, 59]).length (bcells (o ++ [38, 108, 116, 59]))) := own_text ⟨#[38, 108, 116, 59]⟩ rfl o1
        have B1 : Below w.heap.size w w1 := hbel.grown g1 hbel.size (fun b hb => (hown.lt b hb).1)
        have hl1 : (o ++ [38, 108, 116, 59]).length ≤ 6 * (k + 1) := by rw [List.length_append]; show o.length + 4 ≤ _; omega
        clear o1 g1 hbel hown
        go_wp2_with fail
        go_roundw
        case rel => exact ⟨k + 1, _, by omega, by go_num, hl1, O1.out, HO, B1⟩
        case measure => simp [intOf]; omega
      by_cases h3 : d = 62
      · subst h3
        have HO : Hid (o ++ [38, 103, 116, 59] = escL (s.data.toList.take (k + 1))) := by show _ = _; rw [escL_take hlt, show s[k]'hlt = (62 : UInt8) from UInt8.toNat_inj.1 hd, HE.out]; rfl
        clear hd
        go_wp2_with (at_builtin; refine Lib.wpList_append_own_string _ rfl _ _ 42 9 rfl w.heap.size 5 i0 Tryd.underlying42 Tryd.underlying9 hi hz0 hz1 hz2 _ _ _ rfl hown ⟨#[38, 103, 116, 59]⟩ rfl (by unfold maxLen; show o.length + 4 ≤ _; omega) (by show o.length + 4 ≤ _; omega) hbel.size ?_)
        intro v' w1 o1 g1 _
        have O1 : Hid (w1.ownsRow w.heap.size 5 1 v' (o ++ [38, 103, 116, 59]).length (bcells (o ++ [38, 103, 116, 59]))) := own_text ⟨#[38, 103, 116, 59]⟩ rfl o1
        have B1 : Below w.heap.size w w1 := hbel.grown g1 hbel.size (fun b hb => (hown.lt b hb).1)
        have hl1 : (o ++ [38, 103, 116, 59]).length ≤ 6 * (k + 1) := by rw [List.length_append]; show o.length + 4 ≤ _; omega
        clear o1 g1 hbel hown
        go_wp2_with fail
        go_roundw
        case rel => exact ⟨k + 1, _, by omega, by go_num, hl1, O1.out, HO, B1⟩
        case measure => simp [intOf]; omega
      by_cases h4 : d = 34
      · subst h4
        have HO : Hid (o ++ [38, 113, 117, 111, 116, 59] = escL (s.data.toList.take (k + 1))) := by show _ = _; rw [escL_take hlt, show s[k]'hlt = (34 : UInt8) from UInt8.toNat_inj.1 hd, HE.out]; rfl
        clear hd
        go_wp2_with (at_builtin; refine Lib.wpList_append_own_string _ rfl _ _ 42 9 rfl w.heap.size 5 i0 Tryd.underlying42 Tryd.underlying9 hi hz0 hz1 hz2 _ _ _ rfl hown ⟨#[38, 113, 117, 111, 116, 59]⟩ rfl (by unfold maxLen; show o.length + 6 ≤ _; omega) (by show o.length + 6 ≤ _; omega) hbel.size ?_)
        intro v' w1 o1 g1 _
        have O1 : Hid (w1.ownsRow w.heap.size 5 1 v' (o ++ [38, 113, 117, 111, 116, 59]).length (bcells (o ++ [38, 113, 117, 111, 116, 59]))) := own_text ⟨#[38, 113, 117, 111, 116, 59]⟩ rfl o1
        have B1 : Below w.heap.size w w1 := hbel.grown g1 hbel.size (fun b hb => (hown.lt b hb).1)
        have hl1 : (o ++ [38, 113, 117, 111, 116, 59]).length ≤ 6 * (k + 1) := by rw [List.length_append]; show o.length + 6 ≤ _; omega
        clear o1 g1 hbel hown
        go_wp2_with fail
        go_roundw
        case rel => exact ⟨k + 1, _, by omega, by go_num, hl1, O1.out, HO, B1⟩
        case measure => simp [intOf]; omega
      by_cases h5 : d = 39
      · subst h5
        have HO : Hid (o ++ [38, 97, 112, 111, 115, 59] = escL (s.data.toList.take (k + 1))) := by show _ = _; rw [escL_take hlt, show s[k]'hlt = (39 : UInt8) from UInt8.toNat_inj.1 hd, HE.out]; rfl
        clear hd
        go_wp2_with (at_builtin; refine Lib.wpList_append_own_string _ rfl _ _ 42 9 rfl w.heap.size 5 i0 Tryd.underlying42 Tryd.underlying9 hi hz0 hz1 hz2 _ _ _ rfl hown ⟨#[38, 97, 112, 111, 115, 59]⟩ rfl (by unfold maxLen; show o.length + 6 ≤ _; omega) (by show o.length + 6 ≤ _; omega) hbel.size ?_)
        intro v' w1 o1 g1 _
        have O1 : Hid (w1.ownsRow w.heap.size 5 1 v' (o ++ [38, 97, 112, 111, 115, 59]).length (bcells (o ++ [38, 97, 112, 111, 115, 59]))) := own_text ⟨#[38, 97, 112, 111, 115, 59]⟩ rfl o1
        have B1 : Below w.heap.size w w1 := hbel.grown g1 hbel.size (fun b hb => (hown.lt b hb).1)
        have hl1 : (o ++ [38, 97, 112, 111, 115, 59]).length ≤ 6 * (k + 1) := by rw [List.length_append]; show o.length + 6 ≤ _; omega
        clear o1 g1 hbel hown
        go_wp2_with fail
        go_roundw
        case rel => exact ⟨k + 1, _, by omega, by go_num, hl1, O1.out, HO, B1⟩
        case measure => simp [intOf]; omega
      have g1 : ((d : Int) == 38) = false := beq_eq_false_iff_ne.2 (by omega)
      have g2 : ((d : Int) == 60) = false := beq_eq_false_iff_ne.2 (by omega)
      have g3 : ((d : Int) == 62) = false := beq_eq_false_iff_ne.2 (by omega)
      have g4 : ((d : Int) == 34) = false := beq_eq_false_iff_ne.2 (by omega)
      have g5 : ((d : Int) == 39) = false := beq_eq_false_iff_ne.2 (by omega)
      have HO : Hid (o ++ [s[k]'hlt] = escL (s.data.toList.take (k + 1))) := by
        show _ = _
        rw [escL_take hlt, HE.out]
        have n1 : s[k]'hlt ≠ 38 := fun e => h1 (by rw [← hd, e]; rfl)
        have n2 : s[k]'hlt ≠ 60 := fun e => h2 (by rw [← hd, e]; rfl)
        have n3 : s[k]'hlt ≠ 62 := fun e => h3 (by rw [← hd, e]; rfl)
        have n4 : s[k]'hlt ≠ 34 := fun e => h4 (by rw [← hd, e]; rfl)
        have n5 : s[k]'hlt ≠ 39 := fun e => h5 (by rw [← hd, e]; rfl)
        unfold escC
        rw [if_neg n1, if_neg n2, if_neg n3, if_neg n4, if_neg n5]
      have HX : Hid ((d : Int) = ((s[k]'hlt).toNat : Int)) := by show _ = _; rw [hd]
      clear hd h1 h2 h3 h4 h5
      generalize s[k]'hlt = u at HO HX
      go_wp2_with (at_builtin; refine wpList_append_new _ rfl _ _ 42 rfl w.heap.size 5 (.int .u8 0) 1 Tryd.underlying42 Tryd.info5 rfl _ _ _ rfl hown #[.int .u8 (d : Int)] 1 rfl rfl (byte_one _) (by omega) (by unfold maxLen; omega) (by omega) ?_)
      intro v' w1 hown' hb1
      have R := own_byte u HX.out hown'
      have B1 : Below w.heap.size w w1 := hbel.trans hb1
      clear hown' hb1 hown hbel
      go_wp2_with fail
      go_roundw
      case rel => exact ⟨k + 1, _, by omega, by go_num, by simp; omega, R, HO, B1⟩
      case measure => simp [intOf]; omega
    · have hki : ¬ (k : Int) < s.size := by omega
      have HO := run_string_own (P := Tryd.prog) wr 42 9 5 Tryd.underlying42 Tryd.underlying5 Tryd.underlying9 hown
      have HF : Hid (o = escL s.data.toList) := by
        have := HE.out
        rwa [take_all s k (by omega)] at this
      clear HE
      go_wp2
      go_ret
      exact ⟨by rw [HF.out]; rfl, hbel⟩
theorem text_eq {s t : ByteArray} (h : s.data.toList = t.data.toList) : s = t := by
  cases s with
  | mk a =>
    cases t with
    | mk b => exact congrArg ByteArray.mk (Array.toList_inj.1 h)
theorem text_ne {s : ByteArray} {m : List UInt8} (h : s.data.toList ≠ m) : (s.toList == m) = false := beq_eq_false_iff_ne.2 fun e => h (by rw [← ByteArray.toList_eq]; exact e)
theorem hash_x {l : List UInt8} (h : 2 < l.length) (h2 : l.take 2 = [35, 120]) : hashN l = numL 16 6 (l.drop 2) := by
  match l, h, h2 with
  | a :: b :: c :: r, _, h2 =>
    simp only [List.take_succ_cons, List.take_zero, List.cons.injEq, and_true] at h2
    obtain ⟨rfl, rfl⟩ := h2
    rfl
theorem hash_d {l : List UInt8} (h : 1 < l.length) (h2 : l.head? = some 35) (h3 : ¬ (2 < l.length ∧ l.take 2 = [35, 120])) : hashN l = numL 10 7 (l.drop 1) := by
  match l, h, h2, h3 with
  | [a, b], _, h2, h3 =>
    simp only [List.head?_cons, Option.some.injEq] at h2
    subst h2
    unfold hashN
    split
    · rename_i he; cases he
    · rename_i he; cases he; rfl
    · rename_i h4 h5; exact absurd rfl (h5 _ _)
  | a :: b :: c :: r, _, h2, h3 =>
    simp only [List.head?_cons, Option.some.injEq] at h2
    subst h2
    have hb : b ≠ 120 := fun e => h3 ⟨by simp, by rw [e]; rfl⟩
    unfold hashN
    split
    · rename_i he; injection he with _ he; injection he with he _; exact absurd he hb
    · rename_i he; injection he with _ he; injection he with e1 e2; subst e1 e2; rfl
    · rename_i h4 h5; exact absurd rfl (h5 _ _)
theorem hash_no {l : List UInt8} (h : ¬ (1 < l.length ∧ l.head? = some 35)) : hashN l = none := by
  unfold hashN
  split
  · exact absurd ⟨by simp, rfl⟩ h
  · exact absurd ⟨by simp, rfl⟩ h
  · rfl
theorem name_hash {l : List UInt8} (h1 : l ≠ nAmp) (h2 : l ≠ nLt) (h3 : l ≠ nGt) (h4 : l ≠ nQuot) (h5 : l ≠ nApos) : nameR l = match hashN l with
    | some r => if 0 < r ∧ r ≤ 1114111 ∧ (r < 55296 ∨ 57343 < r) then some r else none
    | none => none := by
  unfold nameR
  rw [if_neg h1, if_neg h2, if_neg h3, if_neg h4, if_neg h5]
  cases hashN l <;> rfl
/-- What comes back, as two results. -/
def unA (r : Option (List UInt8)) : Value := match r with
  | some t => .tuple #[.string ⟨t.toArray⟩, .bool true]
  | none => .tuple #[.string ⟨#[]⟩, .bool false]
theorem map_map_app (o p : List UInt8) (x : Option (List UInt8)) : ((x.map fun t => p ++ t).map fun t => o ++ t) = x.map fun t => (o ++ p) ++ t := by cases x <;> simp
theorem une_len : ∀ (n : Nat) (l t : List UInt8), unE n l = some t → t.length ≤ 4 * l.length
  | 0, l, t, h => by cases h; exact Nat.zero_le _
  | n + 1, [], t, h => by cases h; exact Nat.zero_le _
  | n + 1, c :: r, t, h => by
    rw [unE] at h
    split at h
    · split at h
      · split at h
        · rename_i x hx
          cases hu : unE n (behB 59 r) with
          | none => rw [hu] at h; cases h
          | some t' =>
            rw [hu] at h
            have h1 := une_len n (behB 59 r) t' hu
            have h2 := beh_len r
            have h3 := (enc_length (x : Int)).2
            cases h
            rw [List.length_append, List.length_cons]
            omega
        · cases h
      · cases h
    · cases hu : unE n r with
      | none => rw [hu] at h; cases h
      | some t' =>
        rw [hu] at h
        have h1 := une_len n r t' hu
        cases h
        rw [List.length_cons, List.length_cons]
        omega
theorem among_one (m c : UInt8) : amongL [m] (c.toNat : Int) = !(c != m) := by
  by_cases h : c = m
  · subst h
    simp [amongL]
  · have h1 : (c != m) = true := bne_iff_ne.2 h
    have h2 : ¬ (m.toNat : Int) = (c.toNat : Int) := fun e => h (UInt8.toNat_inj.1 (by omega))
    rw [h1]
    simp [amongL, h2]
theorem until59 (c : UInt8) : amongL (⟨#[59]⟩ : ByteArray).data.toList (c.toNat : Int) = !(c != 59) := among_one 59 c
end Go.Proofs.YtfdgehlobbeomaaDoor
