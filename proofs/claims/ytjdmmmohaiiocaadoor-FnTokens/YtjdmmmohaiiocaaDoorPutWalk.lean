/- Contracts of spec.l1IsRune, spec.l1Put, impl.isRune. -/
import Derived.Test.YtjdmmmohaiiocaaDoorRows
import Derived.Test.YtjdmmmohaiiocaaDoorLowerWalk
import Derived.Test.YtjdmmmohaiiocaaDoorShelf
import Derived.Test.YtjdmmmohaiiocaaDoorBits
import Derived.Lib.RuneBytes
import Derived.BigQuiet
import Derived.Deep.QuietTactic
import Derived.Test.YtjdmmmohaiiocaaDoorRuneOk
namespace Go.Proofs.YtjdmmmohaiiocaaDoor
open Go.RowKit

theorem enc_cells (r : Int) : Lib.runeCells r = bcells (Lib.encodeRune r) := by
  rw [← Lib.byteCells_encodeRune]
  rfl

theorem enc_length (r : Int) : 1 ≤ (Lib.encodeRune r).length ∧ (Lib.encodeRune r).length ≤ 4 := by
  have := Lib.runeCells_le r
  rw [Lib.runeCells_length] at this
  exact this

theorem put_step {w1 : World} {B : Nat} {e : TypeId} {v : Value} {n m : Nat} {l : List UInt8} {cs : List Value} (r : Int) (hcs : cs = Lib.runeCells r) (hm : cs.length = m)
    (h : w1.ownsRow B e 1 v (n + m) (bcells l ++ cs)) : w1.ownsRow B e 1 v (n + (Lib.encodeRune r).length) (bcells (l ++ Lib.encodeRune r)) := by
  subst hcs
  rw [Lib.runeCells_length] at hm
  rw [bcells_append, ← enc_cells, hm]
  exact h

theorem ints_one (cs : List Int) : ∀ u ∈ (cs.map (Value.int .u8)), u.oneCell' = true := by
  intro u hu
  obtain ⟨_, _, rfl⟩ := List.mem_map.1 hu
  rfl

set_option maxHeartbeats 1000000 in
theorem specL1Put1 (r : Int) (v : Value) (n B : Nat) (l : List UInt8) (w : World) (h0 : 0 ≤ r) (h1 : r < 128) (hn : n ≤ 1099511627776) (hB : B ≤ w.heap.size) (hown : w.ownsRow B 5 1 v n (bcells l)) :
    Calls Tryd.prog 35 #[v, .int .i64 r] w fun e w' => ∃ v', e = .returned v' ∧ w'.ownsRow B 5 1 v' (n + (Lib.encodeRune r).length) (bcells (l ++ Lib.encodeRune r)) ∧ Below B w w' := by
  have hcs : [r] = Lib.encodeRuneZ r := by
    rw [Lib.encodeRuneZ_one h0 (by omega)]
  go_enter Tryd.func35, Tryd.ntmps35
  go_wp2_with (at_builtin; refine wpList_append_new _ rfl _ _ 22 rfl B 5 (.int .u8 0) 1 Tryd.underlying22 Tryd.info5 rfl _ _ _ rfl hown #[.int .u8 (r)] 1 rfl rfl (ints_one [r]) (by omega) (by unfold maxLen; omega) hB ?_)
  intro v' w1 hown' hb1
  have R := put_step r (congrArg (fun z : List Int => z.map (Value.int .u8)) hcs) rfl hown'
  clear hown' hown
  go_wp2
  go_ret
  exact ⟨_, rfl, R, hb1⟩

set_option maxHeartbeats 1000000 in
theorem specL1Put2 (r : Int) (v : Value) (n B : Nat) (l : List UInt8) (w : World) (h0 : 128 ≤ r) (h1 : r < 2048) (hn : n ≤ 1099511627776) (hB : B ≤ w.heap.size) (hown : w.ownsRow B 5 1 v n (bcells l)) :
    Calls Tryd.prog 35 #[v, .int .i64 r] w fun e w' => ∃ v', e = .returned v' ∧ w'.ownsRow B 5 1 v' (n + (Lib.encodeRune r).length) (bcells (l ++ Lib.encodeRune r)) ∧ Below B w w' := by
  have hcs : [bits .or .i64 192 (r / 64) % 256, bits .or .i64 128 (bits .and .i64 r 63) % 256] = Lib.encodeRuneZ r := by
    rw [Lib.encodeRuneZ_two h0 (by omega)]
    rw [i64_or192 _ (by omega) (by omega)]
    rw [i64_and63 (r) (by omega) (by omega)]
    rw [i64_or128 (r % 64) (by omega) (by omega)]
    congr 1 <;> first | omega | (congr 1 <;> omega)
  go_enter Tryd.func35, Tryd.ntmps35
  go_wp2_with (at_builtin; refine wpList_append_new _ rfl _ _ 22 rfl B 5 (.int .u8 0) 1 Tryd.underlying22 Tryd.info5 rfl _ _ _ rfl hown #[.int .u8 (bits .or .i64 192 (r / 64) % 256), .int .u8 (bits .or .i64 128 (bits .and .i64 r 63) % 256)] 2 rfl rfl (ints_one [bits .or .i64 192 (r / 64) % 256, bits .or .i64 128 (bits .and .i64 r 63) % 256]) (by omega) (by unfold maxLen; omega) hB ?_)
  intro v' w1 hown' hb1
  have R := put_step r (congrArg (fun z : List Int => z.map (Value.int .u8)) hcs) rfl hown'
  clear hown' hown
  go_wp2
  go_ret
  exact ⟨_, rfl, R, hb1⟩

set_option maxHeartbeats 1000000 in
theorem specL1Put3 (r : Int) (v : Value) (n B : Nat) (l : List UInt8) (w : World) (h0 : 2048 ≤ r) (h1 : r < 65536) (hx : r < 55296 ∨ 57343 < r) (hn : n ≤ 1099511627776) (hB : B ≤ w.heap.size) (hown : w.ownsRow B 5 1 v n (bcells l)) :
    Calls Tryd.prog 35 #[v, .int .i64 r] w fun e w' => ∃ v', e = .returned v' ∧ w'.ownsRow B 5 1 v' (n + (Lib.encodeRune r).length) (bcells (l ++ Lib.encodeRune r)) ∧ Below B w w' := by
  have hcs : [bits .or .i64 224 (r / 4096) % 256, bits .or .i64 128 (bits .and .i64 (r / 64) 63) % 256, bits .or .i64 128 (bits .and .i64 r 63) % 256] = Lib.encodeRuneZ r := by
    rw [Lib.encodeRuneZ_three (by omega)]
    rw [i64_or224 _ (by omega) (by omega)]
    rw [i64_and63 (r / 64) (by omega) (by omega)]
    rw [i64_and63 (r) (by omega) (by omega)]
    rw [i64_or128 (r / 64 % 64) (by omega) (by omega)]
    rw [i64_or128 (r % 64) (by omega) (by omega)]
    congr 1 <;> first | omega | (congr 1 <;> first | omega | (congr 1 <;> omega))
  go_enter Tryd.func35, Tryd.ntmps35
  go_wp2_with (at_builtin; refine wpList_append_new _ rfl _ _ 22 rfl B 5 (.int .u8 0) 1 Tryd.underlying22 Tryd.info5 rfl _ _ _ rfl hown #[.int .u8 (bits .or .i64 224 (r / 4096) % 256), .int .u8 (bits .or .i64 128 (bits .and .i64 (r / 64) 63) % 256), .int .u8 (bits .or .i64 128 (bits .and .i64 r 63) % 256)] 3 rfl rfl (ints_one [bits .or .i64 224 (r / 4096) % 256, bits .or .i64 128 (bits .and .i64 (r / 64) 63) % 256, bits .or .i64 128 (bits .and .i64 r 63) % 256]) (by omega) (by unfold maxLen; omega) hB ?_)
  intro v' w1 hown' hb1
  have R := put_step r (congrArg (fun z : List Int => z.map (Value.int .u8)) hcs) rfl hown'
  clear hown' hown
  go_wp2
  go_ret
  exact ⟨_, rfl, R, hb1⟩

set_option maxHeartbeats 1000000 in
theorem specL1Put4 (r : Int) (v : Value) (n B : Nat) (l : List UInt8) (w : World) (h0 : 65536 ≤ r) (h1 : r ≤ 1114111) (hn : n ≤ 1099511627776) (hB : B ≤ w.heap.size) (hown : w.ownsRow B 5 1 v n (bcells l)) :
    Calls Tryd.prog 35 #[v, .int .i64 r] w fun e w' => ∃ v', e = .returned v' ∧ w'.ownsRow B 5 1 v' (n + (Lib.encodeRune r).length) (bcells (l ++ Lib.encodeRune r)) ∧ Below B w w' := by
  have hcs : [bits .or .i64 240 (r / 262144) % 256, bits .or .i64 128 (bits .and .i64 (r / 4096) 63) % 256, bits .or .i64 128 (bits .and .i64 (r / 64) 63) % 256, bits .or .i64 128 (bits .and .i64 r 63) % 256] = Lib.encodeRuneZ r := by
    rw [Lib.encodeRuneZ_four h0 h1]
    rw [i64_or240 _ (by omega) (by omega)]
    rw [i64_and63 (r / 4096) (by omega) (by omega)]
    rw [i64_and63 (r / 64) (by omega) (by omega)]
    rw [i64_and63 (r) (by omega) (by omega)]
    rw [i64_or128 (r / 4096 % 64) (by omega) (by omega)]
    rw [i64_or128 (r / 64 % 64) (by omega) (by omega)]
    rw [i64_or128 (r % 64) (by omega) (by omega)]
    congr 1 <;> first | omega | (congr 1 <;> first | omega | (congr 1 <;> first | omega | (congr 1 <;> omega)))
  go_enter Tryd.func35, Tryd.ntmps35
  go_wp2_with (at_builtin; refine wpList_append_new _ rfl _ _ 22 rfl B 5 (.int .u8 0) 1 Tryd.underlying22 Tryd.info5 rfl _ _ _ rfl hown #[.int .u8 (bits .or .i64 240 (r / 262144) % 256), .int .u8 (bits .or .i64 128 (bits .and .i64 (r / 4096) 63) % 256), .int .u8 (bits .or .i64 128 (bits .and .i64 (r / 64) 63) % 256), .int .u8 (bits .or .i64 128 (bits .and .i64 r 63) % 256)] 4 rfl rfl (ints_one [bits .or .i64 240 (r / 262144) % 256, bits .or .i64 128 (bits .and .i64 (r / 4096) 63) % 256, bits .or .i64 128 (bits .and .i64 (r / 64) 63) % 256, bits .or .i64 128 (bits .and .i64 r 63) % 256]) (by omega) (by unfold maxLen; omega) hB ?_)
  intro v' w1 hown' hb1
  have R := put_step r (congrArg (fun z : List Int => z.map (Value.int .u8)) hcs) rfl hown'
  clear hown' hown
  go_wp2
  go_ret
  exact ⟨_, rfl, R, hb1⟩


theorem specL1Put (r : Int) (v : Value) (n B : Nat) (l : List UInt8) (w : World) (h : runeOk r) (hn : n ≤ 1099511627776) (hB : B ≤ w.heap.size) (hown : w.ownsRow B 5 1 v n (bcells l)) :
    Calls Tryd.prog 35 #[v, .int .i64 r] w fun e w' => ∃ v', e = .returned v' ∧ w'.ownsRow B 5 1 v' (n + (Lib.encodeRune r).length) (bcells (l ++ Lib.encodeRune r)) ∧ Below B w w' := by
  obtain ⟨h0, h1, h2⟩ := h
  by_cases a : r < 128
  · exact specL1Put1 r v n B l w h0 a hn hB hown
  · by_cases b : r < 2048
    · exact specL1Put2 r v n B l w (by omega) b hn hB hown
    · by_cases c : r < 65536
      · exact specL1Put3 r v n B l w (by omega) c h2 hn hB hown
      · exact specL1Put4 r v n B l w (by omega) h1 hn hB hown

set_option maxHeartbeats 400000 in
theorem implIsRune_yes (r : Int) (w : World) (h : runeOk r) :
    Calls Tryd.prog 54 #[.int .i64 r] w fun e w' => e = .returned (.bool true) ∧ w = w' := by
  obtain ⟨h0, h1, h2⟩ := h
  by_cases a : r < 55296
  · clear h2
    go_enter Tryd.func54, Tryd.ntmps54
    go_wp2
    go_ret
    exact ⟨rfl, rfl⟩
  · have b : 57343 < r := by omega
    clear h2
    go_enter Tryd.func54, Tryd.ntmps54
    go_wp2
    go_ret
    exact ⟨ret_bool (by simp <;> omega), rfl⟩

set_option maxHeartbeats 400000 in
theorem implIsRune_no (r : Int) (w : World) (h : ¬ runeOk r) :
    Calls Tryd.prog 54 #[.int .i64 r] w fun e w' => e = .returned (.bool false) ∧ w = w' := by
  unfold runeOk at h
  by_cases a : r < 0
  · clear h
    go_enter Tryd.func54, Tryd.ntmps54
    go_wp2
    go_ret
    exact ⟨rfl, rfl⟩
  · by_cases b : 1114111 < r
    · clear h
      go_enter Tryd.func54, Tryd.ntmps54
      go_wp2
      go_ret
      exact ⟨rfl, rfl⟩
    · have c : 55296 ≤ r := by omega
      have d : r ≤ 57343 := by omega
      clear h
      go_enter Tryd.func54, Tryd.ntmps54
      go_wp2
      go_ret
      exact ⟨ret_bool (by simp <;> omega), rfl⟩
end Go.Proofs.YtjdmmmohaiiocaaDoor
