/- Contracts of spec.l1IsRune, spec.l1Put, impl.isRune. -/
import Derived.Test.YtamnhegianpedaaGreatDoorRows
import Derived.Test.YtamnhegianpedaaGreatDoorLowerWalk
import Derived.Test.YtamnhegianpedaaGreatDoorShelf
import Derived.Test.YtamnhegianpedaaGreatDoorBits
import Derived.Lib.RuneBytes
import Derived.BigQuiet
import Derived.Deep.QuietTactic
import Derived.Test.YtamnhegianpedaaGreatDoorRuneOk
namespace Go.Proofs.YtamnhegianpedaaGreatDoor
open Go.RowKit

theorem enc_cells (r : Int) : Lib.runeCells r = bcells (Lib.encodeRune r) := by
  rw [← Lib.byteCells_encodeRune]
  rfl

theorem enc_length (r : Int) : 1 ≤ (Lib.encodeRune r).length ∧ (Lib.encodeRune r).length ≤ 4 := by
  have := Lib.runeCells_le r
  rw [Lib.runeCells_length] at this
  exact this

theorem put_step {w1 : World} {B : Nat} {e : TypeId} {v : Value} {n m : Nat} {l : List UInt8} {cs : List Value} (r : Int) (hcs : cs = Lib.runeCells r) (hm : cs.length = m)
    (h : w1.ownsRow B e 1 v (n + m) (bcells l ++ cs)) : w1.ownsRow B e 1 v (n + (Lib.encodeRune r).length) (bcells (l ++ Lib.encodeRune r)) := by
  subst hcs
  rw [Lib.runeCells_length] at hm
  rw [bcells_append, ← enc_cells, hm]
  exact h

theorem ints_one (cs : List Int) : ∀ u ∈ (cs.map (Value.int .u8)), u.oneCell' = true := by
  intro u hu
  obtain ⟨_, _, rfl⟩ := List.mem_map.1 hu
  rfl

set_option maxHeartbeats 400000 in
theorem implIsRune_yes (r : Int) (w : World) (h : runeOk r) :
    Calls Tryz.prog 166 #[.int .i64 r] w fun e w' => e = .returned (.bool true) ∧ w = w' := by
  obtain ⟨h0, h1, h2⟩ := h
  by_cases a : r < 55296
  · clear h2
    go_enter Tryz.func166, Tryz.ntmps166
    go_wp2
    go_ret
    exact ⟨rfl, rfl⟩
  · have b : 57343 < r := by omega
    clear h2
    go_enter Tryz.func166, Tryz.ntmps166
    go_wp2
    go_ret
    exact ⟨ret_bool (by simp <;> omega), rfl⟩

set_option maxHeartbeats 400000 in
theorem implIsRune_no (r : Int) (w : World) (h : ¬ runeOk r) :
    Calls Tryz.prog 166 #[.int .i64 r] w fun e w' => e = .returned (.bool false) ∧ w = w' := by
  unfold runeOk at h
  by_cases a : r < 0
  · clear h
    go_enter Tryz.func166, Tryz.ntmps166
    go_wp2
    go_ret
    exact ⟨rfl, rfl⟩
  · by_cases b : 1114111 < r
    · clear h
      go_enter Tryz.func166, Tryz.ntmps166
      go_wp2
      go_ret
      exact ⟨rfl, rfl⟩
    · have c : 55296 ≤ r := by omega
      have d : r ≤ 57343 := by omega
      clear h
      go_enter Tryz.func166, Tryz.ntmps166
      go_wp2
      go_ret
      exact ⟨ret_bool (by simp <;> omega), rfl⟩
end Go.Proofs.YtamnhegianpedaaGreatDoor
