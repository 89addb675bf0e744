/- Contracts of spec.Fields and impl.Fields: a new row with the texts between the bytes 'by'. -/
import Derived.Test.YtjdnemjcjodboaaDoorRows
import Derived.Test.YtjdnemjcjodboaaDoorCloneWalk
namespace Go.Proofs.YtjdnemjcjodboaaDoor
open Go.RowKit

def fieldsTo (s : ByteArray) (b : Int) : Nat → List ByteArray × Nat
  | 0 => ([], 0)
  | k + 1 => if ((s.data.toList.getD k 0).toNat : Int) = b then ((fieldsTo s b k).1 ++ [s.extract (fieldsTo s b k).2 k], k + 1) else fieldsTo s b k

def fieldsL (s : ByteArray) (b : Int) : List ByteArray := (fieldsTo s b s.size).1 ++ [s.extract (fieldsTo s b s.size).2 s.size]

theorem fieldsTo_le (s : ByteArray) (b : Int) (k : Nat) : (fieldsTo s b k).2 ≤ k ∧ (fieldsTo s b k).1.length ≤ k := by
  induction k with
  | zero => simp [fieldsTo]
  | succ k ih =>
    unfold fieldsTo
    split
    · simp; omega
    · omega

theorem getD_at (s : ByteArray) (k : Nat) (h : k < s.size) : s.data.toList.getD k 0 = s[k] := by
  have hk : k < s.data.toList.length := by simpa using h
  rw [List.getD_eq_getElem?_getD, List.getElem?_eq_getElem hk]
  rfl

theorem fieldsTo_hit (s : ByteArray) (b : Int) (k : Nat) (h : k < s.size) (e : (s[k].toNat : Int) = b) : fieldsTo s b (k + 1) = ((fieldsTo s b k).1 ++ [s.extract (fieldsTo s b k).2 k], k + 1) := by
  rw [fieldsTo, getD_at s k h, if_pos e]

theorem fieldsTo_miss (s : ByteArray) (b : Int) (k : Nat) (h : k < s.size) (e : ¬ (s[k].toNat : Int) = b) : fieldsTo s b (k + 1) = fieldsTo s b k := by
  rw [fieldsTo, getD_at s k h, if_neg e]

theorem Tryd.infoStr : (Tryd.prog.info? 9).map (fun i => (i.zero, i.size, i.bytes)) = some (some (.string ⟨#[]⟩), 1, 16) := by kernel_rfl

theorem str_one (s : ByteArray) : ∀ u ∈ #[Value.string s].toList, u.oneCell' = true := by
  intro u hu; simp at hu; subst hu; rfl

theorem fields_end (s : ByteArray) (b : Int) (k : Nat) (hk : k = s.size) {w1 : World} {B : Nat} {v : Value} {e : TypeId}
    (hown : w1.ownsRow B e 1 v ((fieldsTo s b k).1.length + 1) (scells (fieldsTo s b k).1 ++ [.string (s.extract (fieldsTo s b k).2 k)])) :
    w1.ownsRow B e 1 v (fieldsL s b).length (scells (fieldsL s b)) := by
  subst hk
  unfold fieldsL
  rw [scells_snoc, List.length_append]
  exact hown

theorem fields_hit (s : ByteArray) (b : Int) (k : Nat) (hk : k < s.size) (h : (s[k].toNat : Int) = b) {w1 : World} {B : Nat} {v : Value} {e : TypeId}
    (hown : w1.ownsRow B e 1 v ((fieldsTo s b k).1.length + 1) (scells (fieldsTo s b k).1 ++ [.string (s.extract (fieldsTo s b k).2 k)])) :
    w1.ownsRow B e 1 v (fieldsTo s b (k + 1)).1.length (scells (fieldsTo s b (k + 1)).1) := by
  rw [fieldsTo_hit s b k hk h]
  simp only
  rw [scells_snoc, List.length_append]
  exact hown

set_option maxHeartbeats 1000000 in
theorem specFieldsB (s : ByteArray) (b : Int) (w : World) (hs : s.size ≤ 16777216) :
    Calls Tryd.prog 57 #[.string s, .int .u8 b] w fun e w' => ∃ v, e = .returned v ∧ w'.ownsRow w.heap.size 9 1 v (fieldsL s b).length (scells (fieldsL s b)) ∧ Below w.heap.size w w' := by
  go_enter Tryd.func57, Tryd.ntmps57
  go_wp2
  go_loopw [5, 6, 7] (fun v f i wr => ∃ k : Nat, k ≤ s.size + 1 ∧ i = .int .i64 k ∧ (k ≤ s.size → f = .int .i64 (fieldsTo s b k).2 ∧ wr.ownsRow w.heap.size 9 1 v (fieldsTo s b k).1.length (scells (fieldsTo s b k).1)) ∧
      (k = s.size + 1 → wr.ownsRow w.heap.size 9 1 v (fieldsL s b).length (scells (fieldsL s b))) ∧ Below w.heap.size w wr)
    (fun _ _ i _ => s.size + 1 - (intOf i).toNat)
  case atStart => exact ⟨0, Nat.zero_le _, rfl, fun _ => ⟨rfl, World.ownsRow_lit w #[] 0 (Nat.le_refl _) (by decide) rfl⟩, fun h => by omega, (Below.refl _ _).alloc (Nat.le_refl _) _⟩
  case round =>
    obtain ⟨k, hk, rfl, hin, hend, hbel⟩ := hrel
    by_cases hle : k ≤ s.size
    · obtain ⟨rfl, hown⟩ := hin hle
      clear hend
      have hsz := hbel.size
      obtain ⟨hf1, hf2⟩ := fieldsTo_le s b k
      by_cases heq : k = s.size
      · have hkk : ((k : Int) == (s.size : Int)) = true := by simp [heq]
        have HE : Hid (k = s.size) := heq
        clear heq
        go_wp2_with (at_builtin; refine wpList_append_new _ rfl _ _ 30 rfl w.heap.size 9 (.string ⟨#[]⟩) 16 Tryd.underlying30 Tryd.infoStr rfl _ _ _ rfl hown #[.string (s.extract (fieldsTo s b k).2 k)] 1 rfl rfl (str_one _) (by omega) (by unfold maxLen; omega) (by omega) ?_)
        intro v' w1 hown' hb1
        have R := fields_end s b k HE.out hown'
        have B1 : Below w.heap.size w w1 := hbel.trans hb1
        clear hown' hb1 hown hbel hin
        go_wp2
        go_roundw
        case rel => exact ⟨k + 1, by omega, by go_num, fun h => by have := HE.out; omega, fun _ => R, B1⟩
        case measure => simp [intOf]; omega
      · have hkk : ((k : Int) == (s.size : Int)) = false := by simp; omega
        have hlt : k < s.size := by omega
        clear heq
        by_cases hb : (s[k].toNat : Int) = b
        · have hbb : ((s[k].toNat : Int) == b) = true := by simp [hb]
          have HB : Hid ((s[k].toNat : Int) = b) := hb
          clear hb
          go_wp2_with (at_builtin; refine wpList_append_new _ rfl _ _ 30 rfl w.heap.size 9 (.string ⟨#[]⟩) 16 Tryd.underlying30 Tryd.infoStr rfl _ _ _ rfl hown #[.string (s.extract (fieldsTo s b k).2 k)] 1 rfl rfl (str_one _) (by omega) (by unfold maxLen; omega) (by omega) ?_)
          intro v' w1 hown' hb1
          have R := fields_hit s b k hlt HB.out hown'
          have B1 : Below w.heap.size w w1 := hbel.trans hb1
          clear hown' hb1 hown hbel hin
          go_wp2
          go_roundw
          case rel => exact ⟨k + 1, by omega, by go_num, fun _ => ⟨by rw [fieldsTo_hit s b k hlt HB.out]; go_num, R⟩, fun h => by omega, B1⟩
          case measure => simp [intOf]; omega
        · have hbb : ((s[k].toNat : Int) == b) = false := by simp [hb]
          have HB : Hid (¬ (s[k].toNat : Int) = b) := hb
          clear hb hin
          go_wp2
          go_roundw
          case rel => exact ⟨k + 1, by omega, by go_num, fun _ => ⟨by rw [fieldsTo_miss s b k hlt HB.out], by rw [fieldsTo_miss s b k hlt HB.out]; exact hown⟩, fun h => by omega, hbel⟩
          case measure => simp [intOf]; omega
    · have hown := hend (by omega)
      clear hin hend
      go_wp2
      go_ret
      exact ⟨_, rfl, hown, hbel⟩

set_option maxHeartbeats 1000000 in
theorem implFieldsB (s : ByteArray) (b : Int) (w : World) (hs : s.size ≤ 16777216) :
    Calls Tryd.prog 41 #[.string s, .int .u8 b] w fun e w' => ∃ v, e = .returned v ∧ w'.ownsRow w.heap.size 9 1 v (fieldsL s b).length (scells (fieldsL s b)) ∧ Below w.heap.size w w' := by
  go_enter Tryd.func41, Tryd.ntmps41
  go_wp2
  go_loopw [5, 6, 11] (fun v f i wr => ∃ k : Nat, k ≤ s.size ∧ i = .int .i64 k ∧ f = .int .i64 (fieldsTo s b k).2 ∧ wr.ownsRow w.heap.size 9 1 v (fieldsTo s b k).1.length (scells (fieldsTo s b k).1) ∧ Below w.heap.size w wr)
    (fun _ _ i _ => s.size - (intOf i).toNat)
  case atStart => exact ⟨0, Nat.zero_le _, rfl, rfl, World.ownsRow_lit w #[] 0 (Nat.le_refl _) (by decide) rfl, (Below.refl _ _).alloc (Nat.le_refl _) _⟩
  case round =>
    obtain ⟨k, hk, rfl, rfl, hown, hbel⟩ := hrel
    have hsz := hbel.size
    obtain ⟨hf1, hf2⟩ := fieldsTo_le s b k
    have hes : (s.extract (fieldsTo s b k).2 k).size ≤ 281474976710656 := by rw [ByteArray.size_extract]; omega
    by_cases hlt : k < s.size
    · by_cases hb : (s[k].toNat : Int) = b
      · have hbb : ((s[k].toNat : Int) == b) = true := by simp [hb]
        have HB : Hid ((s[k].toNat : Int) = b) := hb
        clear hb
        go_wp2_with (first | (go_at_call 70; refine (strClone _ _ hes).mono ?_; rintro e wc ⟨rfl, hbc⟩; have hown2 := own_below hown hbc; have hsc := hbc.size) | (at_builtin; refine wpList_append_new _ rfl _ _ 30 rfl w.heap.size 9 (.string ⟨#[]⟩) 16 Tryd.underlying30 Tryd.infoStr rfl _ _ _ rfl hown2 #[.string (s.extract (fieldsTo s b k).2 k)] 1 rfl rfl (str_one _) (by omega) (by unfold maxLen; omega) (by omega) ?_))
        intro v' w1 hown' hb1
        have R := fields_hit s b k hlt HB.out hown'
        have B1 : Below w.heap.size w w1 := (hbel.trans (hbc.mono hsz)).trans hb1
        clear hown' hb1 hown hbel hown2 hbc
        go_wp2
        go_roundw
        case rel => exact ⟨k + 1, by omega, by go_num, by rw [fieldsTo_hit s b k hlt HB.out]; go_num, R, B1⟩
        case measure => simp [intOf]; omega
      · have hbb : ((s[k].toNat : Int) == b) = false := by simp [hb]
        have HB : Hid (¬ (s[k].toNat : Int) = b) := hb
        clear hb
        go_wp2
        go_roundw
        case rel => exact ⟨k + 1, by omega, by go_num, by rw [fieldsTo_miss s b k hlt HB.out], by rw [fieldsTo_miss s b k hlt HB.out]; exact hown, hbel⟩
        case measure => simp [intOf]; omega
    · have he : k = s.size := by omega
      have hes2 : (s.extract (fieldsTo s b k).2 s.size).size ≤ 281474976710656 := by rw [ByteArray.size_extract]; omega
      have HE : Hid (k = s.size) := he
      clear he
      go_wp2_with (first | (go_at_call 70; refine (strClone _ _ hes2).mono ?_; rintro e wc ⟨rfl, hbc⟩; have hown2 := own_below hown hbc; have hsc := hbc.size) | (at_builtin; refine wpList_append_new _ rfl _ _ 30 rfl w.heap.size 9 (.string ⟨#[]⟩) 16 Tryd.underlying30 Tryd.infoStr rfl _ _ _ rfl hown2 #[.string (s.extract (fieldsTo s b k).2 s.size)] 1 rfl rfl (str_one _) (by omega) (by unfold maxLen; omega) (by omega) ?_))
      intro v' w1 hown' hb1
      have R := fields_end s b k HE.out (by rw [HE.out] at hown' ⊢; exact hown')
      have B1 : Below w.heap.size w w1 := (hbel.trans (hbc.mono hsz)).trans hb1
      clear hown' hb1 hown hbel hown2 hbc
      go_wp2
      go_ret
      exact ⟨_, rfl, R, B1⟩
theorem specFields (s : ByteArray) (b : Int) (w : World) (hs : s.size ≤ 1048576) :
    Calls Tryd.prog 57 #[.string s, .int .u8 b] w fun e w' => ∃ v, e = .returned v ∧ w'.ownsRow w.heap.size 9 1 v (fieldsL s b).length (scells (fieldsL s b)) ∧ Below w.heap.size w w' :=
  specFieldsB s b w (by omega)
theorem implFields (s : ByteArray) (b : Int) (w : World) (hs : s.size ≤ 1048576) :
    Calls Tryd.prog 41 #[.string s, .int .u8 b] w fun e w' => ∃ v, e = .returned v ∧ w'.ownsRow w.heap.size 9 1 v (fieldsL s b).length (scells (fieldsL s b)) ∧ Below w.heap.size w w' :=
  implFieldsB s b w (by omega)
end Go.Proofs.YtjdnemjcjodboaaDoor
