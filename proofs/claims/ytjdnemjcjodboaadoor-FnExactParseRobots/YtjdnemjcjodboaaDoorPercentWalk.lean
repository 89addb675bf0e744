/- Contracts of spec.Percent and impl.Percent. -/
import Derived.Test.YtjdnemjcjodboaaDoorRows
import Derived.Test.YtjdnemjcjodboaaDoorPutPct
import Derived.Test.YtjdnemjcjodboaaDoorKeepSpec
namespace Go.Proofs.YtjdnemjcjodboaaDoor
open Go.RowKit

theorem kept_yes {set : Int} {c : UInt8} (h : keepN set c.toNat = true) : keptB set c = [c] := by unfold keptB; rw [h]; rfl
theorem kept_no {set : Int} {c : UInt8} (h : keepN set c.toNat = false) : keptB set c = putB c := by unfold keptB; rw [h]; rfl

set_option maxHeartbeats 2000000 in
theorem implAppendKept (c : UInt8) (d : Nat) (hd : c.toNat = d) (set : Int) (v : Value) (o : List UInt8) (B : Nat) (w : World) (hM : Marks w) (hown : w.ownsRow B 5 1 v o.length (bcells o)) (hB : B ≤ w.heap.size) (hl : o.length ≤ 1099511627776) :
    Calls Tryd.prog 52 #[v, .int .u8 (d : Int), .int .i64 set] w fun e w' => ∃ v', e = .returned v' ∧ w'.ownsRow B 5 1 v' (o ++ keptB set c).length (bcells (o ++ keptB set c)) ∧ Below B w w' := by
  have hd1 : (d : Int) ≤ 255 := by have := c.toNat_lt; omega
  have hd0 : 0 ≤ (d : Int) := by omega
  have ck := implKeeps set (d : Int) w hM
  rw [keepZ_nat] at ck
  cases hk : keepN set d with
  | true =>
    have HK : Hid (keptB set c = [c]) := kept_yes (by rw [hd]; exact hk)
    have HD : Hid ((d : Int) = (c.toNat : Int)) := by show _ = _; rw [hd]
    rw [hk] at ck
    have CK : Hid (Calls Tryd.prog 77 #[.int .i64 set, .int .i64 (d : Int)] w fun e w' => e = .returned (.bool true) ∧ w = w') := ck
    clear ck hk hd hM
    go_enter Tryd.func52, Tryd.ntmps52
    go_wp2_with fail
    refine CK.out.mono ?_
    rintro e w' ⟨rfl, rfl⟩
    go_wp2_with (at_builtin; refine wpList_append_new _ rfl _ _ 22 rfl B 5 (.int .u8 0) 1 Tryd.underlying22 Tryd.info5 rfl _ _ _ rfl hown #[.int .u8 (d : Int)] 1 rfl rfl (byte_one _) (by omega) (by unfold maxLen; omega) (by omega) ?_)
    intro v' w1 hown' hb1
    have R := own_byte c HD.out hown'
    clear hown'
    go_wp2
    go_ret
    exact ⟨_, rfl, by rw [HK.out]; exact R, hb1⟩
  | false =>
    have HK : Hid (keptB set c = putB c) := kept_no (by rw [hd]; exact hk)
    have HD : Hid (c.toNat = d) := hd
    rw [hk] at ck
    have CK : Hid (Calls Tryd.prog 77 #[.int .i64 set, .int .i64 (d : Int)] w fun e w' => e = .returned (.bool false) ∧ w = w') := ck
    clear ck hk hd hM
    go_enter Tryd.func52, Tryd.ntmps52
    go_wp2_with fail
    refine CK.out.mono ?_
    rintro e w' ⟨rfl, rfl⟩
    go_wp2_with fail
    refine (implAppendPct c d HD.out _ o B _ hown hB hl).mono ?_
    rintro e w1 ⟨v', rfl, hown', hb1⟩
    go_wp2
    go_ret
    exact ⟨_, rfl, by rw [HK.out]; exact hown', hb1⟩

theorem pc_snoc (set : Int) (s : ByteArray) (k : Nat) (h : k < s.size) : pcL set (s.data.toList.take (k + 1)) = pcL set (s.data.toList.take k) ++ keptB set s[k] := by
  rw [take_snoc s k h]
  unfold pcL
  rw [List.flatMap_append]
  simp
theorem pc_take_len (set : Int) (s : ByteArray) (k : Nat) : (pcL set (s.data.toList.take k)).length ≤ 3 * k := by
  have h1 := (pc_len set (s.data.toList.take k)).2
  have h2 : (s.data.toList.take k).length ≤ k := List.length_take_le _ _
  omega


end Go.Proofs.YtjdnemjcjodboaaDoor
