/- Contracts of spec.l1In, spec.Lower and impl.Lower. -/
import Derived.Test.YtjdnemjcjodboaaDoorRows
import Derived.Test.YtjdnemjcjodboaaDoorBase
namespace Go.Proofs.YtjdnemjcjodboaaDoor
open Go.RowKit

theorem specL1In_yes (x a b : Int) (w : World) (h1 : a ≤ x) (h2 : x ≤ b) :
    Calls Tryd.prog 68 #[.int .i64 x, .int .i64 a, .int .i64 b] w fun e w' => e = .returned (.bool true) ∧ w = w' := by
  go_enter Tryd.func68, Tryd.ntmps68
  go_wp2
  go_ret
  exact ⟨rfl, rfl⟩

theorem specL1In_no (x a b : Int) (w : World) (h : x < a ∨ b < x) :
    Calls Tryd.prog 68 #[.int .i64 x, .int .i64 a, .int .i64 b] w fun e w' => e = .returned (.bool false) ∧ w = w' := by
  rcases Int.lt_or_le x a with h1 | h1
  · clear h
    go_enter Tryd.func68, Tryd.ntmps68
    go_wp2
    go_ret
    exact ⟨rfl, rfl⟩
  · have h2 : b < x := by omega
    clear h
    go_enter Tryd.func68, Tryd.ntmps68
    go_wp2
    go_ret
    exact ⟨ret_bool (by simp; omega), rfl⟩

def lowerC (c : UInt8) : UInt8 := if 65 ≤ c.toNat ∧ c.toNat ≤ 90 then c + 32 else c
def lowerL (l : List UInt8) : List UInt8 := l.map lowerC

theorem Tryd.info5 : (Tryd.prog.info? 5).map (fun i => (i.zero, i.size, i.bytes)) = some (some (.int .u8 0), 1, 1) := by kernel_rfl

theorem lowerC_toNat (c : UInt8) : ((lowerC c).toNat : Int) = if 65 ≤ (c.toNat : Int) ∧ (c.toNat : Int) ≤ 90 then (c.toNat : Int) + 32 else c.toNat := by
  unfold lowerC
  split
  · rw [if_pos (by omega)]
    have : (c + 32).toNat = (c.toNat + 32) % 256 := by rw [UInt8.toNat_add]; rfl
    omega
  · rw [if_neg (by omega)]

theorem lower_step (s : ByteArray) (k : Nat) (h : k < s.size) {w1 : World} {B : Nat} {v : Value} {x : Int}
    (hown : w1.ownsRow B 5 1 v (k + 1) (bcells (lowerL (s.data.toList.take k)) ++ [.int .u8 x]))
    (hx : x = if 65 ≤ (s[k].toNat : Int) ∧ (s[k].toNat : Int) ≤ 90 then (s[k].toNat : Int) + 32 else s[k].toNat) :
    w1.ownsRow B 5 1 v (k + 1) (bcells (lowerL (s.data.toList.take (k + 1)))) := by
  have e : bcells (lowerL (s.data.toList.take (k + 1))) = bcells (lowerL (s.data.toList.take k)) ++ [.int .u8 x] := by
    rw [take_snoc s k h, hx, ← lowerC_toNat]
    simp [lowerL, bcells]
  rw [e]; exact hown

set_option maxHeartbeats 1000000 in
theorem specLower (s : ByteArray) (w : World) (hs : s.size ≤ 1048576) :
    Calls Tryd.prog 59 #[.string s] w fun e w' => e = .returned (.string ⟨(lowerL s.data.toList).toArray⟩) ∧ Below w.heap.size w w' := by
  obtain ⟨i0, hi, hz0, hz1, hz2⟩ := info_parts Tryd.info5
  go_enter Tryd.func59, Tryd.ntmps59
  go_wp2
  go_loopw [3, 4] (fun v i wr => ∃ k : Nat, k ≤ s.size ∧ i = .int .i64 k ∧ wr.ownsRow w.heap.size 5 1 v k (bcells (lowerL (s.data.toList.take k))) ∧ Below w.heap.size w wr)
    (fun _ i _ => s.size - (intOf i).toNat)
  case atStart => exact ⟨0, Nat.zero_le _, rfl, World.ownsRow_lit w #[] 0 (Nat.le_refl _) (by decide) rfl, (Below.refl _ _).alloc (Nat.le_refl _) _⟩
  case round =>
    obtain ⟨k, hk, rfl, hown, hbel⟩ := hrel
    by_cases hlt : k < s.size
    · have hsz := hbel.size
      by_cases hc : 65 ≤ (s[k].toNat : Int) ∧ (s[k].toNat : Int) ≤ 90
      · obtain ⟨hc1, hc2⟩ := hc
        go_wp2_with (first
          | (at_builtin; refine wpList_append_own _ rfl _ _ 22 rfl w.heap.size 5 i0 (.int .u8 0) 1 1 Tryd.underlying22 hi hz0 hz1 hz2 rfl (by decide) _ _ _ rfl (hown.alloc _) ⟨wr.heap.size, 0, none⟩ 1 1 [.int .u8 ((s[k].toNat : Int) + 32)] rfl rfl ?c1A ?c2A ?c3A ?c4A ?c5A ?_)
          | (go_at_call 68; refine (specL1In_yes (s[k].toNat : Int) 65 90 _ hc1 hc2).mono ?_; rintro e w' ⟨rfl, rfl⟩))
        case c1A => exact cell_one_new _ _ _
        case c2A => intro u hu; simp at hu; subst hu; rfl
        case c3A => unfold maxLen; omega
        case c4A => omega
        case c5A => simp; omega
        · intro v' w1 hown' hgrow _
          have R := lower_step s k hlt hown' (by rw [if_pos ⟨hc1, hc2⟩])
          have B1 : Below w.heap.size w w1 := (hbel.alloc hsz _).grown hgrow (by simp; omega) (fun k hk => (hown.lt k hk).1)
          clear hown' hgrow hown hbel
          go_wp2
          go_roundw
          case rel => exact ⟨k + 1, by omega, by go_num, R, B1⟩
          case measure => simp [intOf]; omega
      · have hc' : (s[k].toNat : Int) < 65 ∨ 90 < (s[k].toNat : Int) := by omega
        have HC : Hid ((s[k].toNat : Int) < 65 ∨ 90 < (s[k].toNat : Int)) := hc'
        clear hc hc'
        have hb : (s[k].toNat : Int) ≤ 255 := by have := s[k].toNat_lt; omega
        go_wp2_with (first
          | (at_builtin; refine wpList_append_own _ rfl _ _ 22 rfl w.heap.size 5 i0 (.int .u8 0) 1 1 Tryd.underlying22 hi hz0 hz1 hz2 rfl (by decide) _ _ _ rfl (hown.alloc _) ⟨wr.heap.size, 0, none⟩ 1 1 [.int .u8 ((s[k].toNat : Int))] rfl rfl ?c1B ?c2B ?c3B ?c4B ?c5B ?_)
          | (go_at_call 68; refine (specL1In_no (s[k].toNat : Int) 65 90 _ HC.out).mono ?_; rintro e w' ⟨rfl, rfl⟩))
        case c1B => exact cell_one_new _ _ _
        case c2B => intro u hu; simp at hu; subst hu; rfl
        case c3B => unfold maxLen; omega
        case c4B => omega
        case c5B => simp; omega
        · intro v' w1 hown' hgrow _
          have R := lower_step s k hlt hown' (by rw [if_neg (by rcases HC.out with h | h <;> omega)])
          have B1 : Below w.heap.size w w1 := (hbel.alloc hsz _).grown hgrow (by simp; omega) (fun k hk => (hown.lt k hk).1)
          clear hown' hgrow hown hbel
          go_wp2
          go_roundw
          case rel => exact ⟨k + 1, by omega, by go_num, R, B1⟩
          case measure => simp [intOf]; omega
    · have HO : (convert 22 9 u3).run Tryd.prog wr = .ok (.string ⟨(lowerL (s.data.toList.take k)).toArray⟩) wr := run_string_own wr 22 9 5 Tryd.underlying22 Tryd.underlying5 Tryd.underlying9 hown
      go_wp2
      go_ret
      exact ⟨ret_str (by rw [take_all s k (by omega)]), hbel⟩

def lowerTo (l : List UInt8) (k : Nat) : List UInt8 := lowerL (l.take k) ++ l.drop k
theorem lowerTo_zero (l : List UInt8) : lowerTo l 0 = l := by simp [lowerTo, lowerL]
theorem lowerTo_length (l : List UInt8) (k : Nat) : (lowerTo l k).length = l.length := by simp [lowerTo, lowerL]; omega
theorem lowerTo_at (s : ByteArray) (k : Nat) (h : k < s.size) (h' : k < (lowerTo s.data.toList k).length) : (lowerTo s.data.toList k)[k] = s[k] := by
  have hk : k < s.data.toList.length := by simpa using h
  have e : (lowerTo s.data.toList k)[k]? = some s[k] := by
    unfold lowerTo
    rw [List.getElem?_append_right (by simp [lowerL]; omega)]
    simp only [lowerL, List.length_map, List.length_take, Nat.min_eq_left (Nat.le_of_lt hk), Nat.sub_self, List.getElem?_drop, Nat.add_zero]
    rw [List.getElem?_eq_getElem hk]
    rfl
  rw [List.getElem?_eq_getElem h'] at e
  exact Option.some.inj e
theorem lowerTo_succ (s : ByteArray) (k : Nat) (h : k < s.size) : (lowerTo s.data.toList k).set k (lowerC s[k]) = lowerTo s.data.toList (k + 1) := by
  have hk : k < s.data.toList.length := by simpa using h
  unfold lowerTo
  rw [List.set_append_right _ _ (by simp [lowerL]; omega)]
  rw [take_snoc s k h, List.drop_eq_getElem_cons hk]
  simp [lowerL, Nat.min_eq_left (Nat.le_of_lt h)]
theorem lowerTo_keep (s : ByteArray) (k : Nat) (h : k < s.size) (hc : lowerC s[k] = s[k]) : lowerTo s.data.toList k = lowerTo s.data.toList (k + 1) := by
  rw [← lowerTo_succ s k h, hc]
  have h' : k < (lowerTo s.data.toList k).length := by rw [lowerTo_length]; simpa using h
  rw [← lowerTo_at s k h h', List.set_getElem_self]

set_option maxHeartbeats 1000000 in
theorem implLower (s : ByteArray) (w : World) (hs : s.size ≤ 1048576) :
    Calls Tryd.prog 30 #[.string s] w fun e w' => e = .returned (.string ⟨(lowerL s.data.toList).toArray⟩) ∧ Below w.heap.size w w' := by
  obtain ⟨cap, hcap⟩ : ∃ cap, grownCap w s.size 0 5 = cap := ⟨_, rfl⟩
  have hconv := run_bytes_of_string w 9 22 5 s Tryd.underlying9 Tryd.underlying22 Tryd.underlying5
  rw [hcap] at hconv
  have hmade := bytesAt_made w s cap 5
  generalize hC : bytesRow s cap = C at hconv hmade
  clear hC hcap
  go_enter Tryd.func30, Tryd.ntmps30
  go_wp2
  go_loopw [10] (fun i wr => ∃ k : Nat, k ≤ s.size ∧ i = .int .i64 k ∧ bytesAt wr w.heap.size (lowerTo s.data.toList k) ∧ Below w.heap.size w wr)
    (fun i _ => s.size - (intOf i).toNat)
  case atStart => exact ⟨0, Nat.zero_le _, rfl, by rw [lowerTo_zero]; exact hmade, ((Below.refl _ _).alloc (Nat.le_refl _) _).drew⟩
  case round =>
    obtain ⟨k, hk, rfl, hat, hbel⟩ := hrel
    clear hmade hconv
    by_cases hlt : k < s.size
    · have hl : k < (lowerTo s.data.toList k).length := by rw [lowerTo_length]; simpa using hlt
      obtain ⟨hc, hf⟩ := hat k hl
      rw [lowerTo_at s k hlt hl] at hc
      by_cases hcc : 65 ≤ (s[k].toNat : Int) ∧ (s[k].toNat : Int) ≤ 90
      · obtain ⟨hc1, hc2⟩ := hcc
        go_wp2
        go_roundw
        case rel =>
          refine ⟨k + 1, by omega, by go_num, ?_, hbel.setCell (Nat.le_refl _) _⟩
          rw [← lowerTo_succ s k hlt]
          exact hat.set k hl (lowerC s[k]) (by rw [lowerC_toNat, if_pos ⟨hc1, hc2⟩]; omega)
        case measure => simp [intOf]; omega
      · have hcc' : lowerC s[k] = s[k] := by unfold lowerC; rw [if_neg (by omega)]
        have HC : Hid (lowerC s[k] = s[k]) := hcc'
        clear hcc'
        by_cases h65 : 65 ≤ (s[k].toNat : Int)
        all_goals
          go_wp2
          go_roundw
          case rel => exact ⟨k + 1, by omega, by go_num, by rw [← lowerTo_keep s k hlt HC.out]; exact hat, hbel⟩
          case measure => simp [intOf]; omega
    · have e : lowerTo s.data.toList k = lowerL s.data.toList := by
        unfold lowerTo
        rw [take_all s k (by omega), List.drop_eq_nil_of_le (by simp; omega), List.append_nil]
      rw [e] at hat
      have HO := run_string_at (P := Tryd.prog) wr 22 9 5 Tryd.underlying22 Tryd.underlying5 Tryd.underlying9 (n := s.size) (cap := cap) (by simp [lowerL]) hat
      clear e
      go_wp2
      go_ret
      exact ⟨rfl, hbel⟩
end Go.Proofs.YtjdnemjcjodboaaDoor
