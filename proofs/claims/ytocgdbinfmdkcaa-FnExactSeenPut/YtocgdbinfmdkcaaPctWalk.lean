/- Contracts of the byte that a percent at a place tells. -/
import Derived.Test.YtocgdbinfmdkcaaRows
import Derived.Test.YtocgdbinfmdkcaaHexWalk
namespace Go.Proofs.Ytocgdbinfmdkcaa
open Go.RowKit

theorem below_drewN {B : Nat} {w w' : World} (h : Below B w w') (n : Nat) : Below B w (w'.drewN n) := ⟨h.os, h.tape, h.output, h.size, h.block⟩

theorem pctAt_not {s : ByteArray} {k : Nat} (h : k + 2 < s.size) (h1 : s[k].toNat ≠ 37) : pctAt s k = -1 := by
  rw [pctAt_in s k h]
  unfold pctV
  rw [if_neg (fun h => h1 h.1)]
theorem pctAt_hex {s : ByteArray} {k d1 d2 : Nat} (h : k + 2 < s.size) (h1 : s[k].toNat = 37) (e1 : s[k + 1].toNat = d1) (e2 : s[k + 2].toNat = d2) : pctAt s k = if 0 ≤ hexN d1 ∧ 0 ≤ hexN d2 then hexN d1 * 16 + hexN d2 else -1 := by
  rw [pctAt_in s k h, e1, e2]
  unfold pctV
  simp [h1]

theorem run_at (P : Program) (t : TypeId) (h : P.underlying t = some .string) (s : ByteArray) (i : Int) (j d : Nat) (hj : j < s.size) (hi : i = (j : Int)) (hd : s[j].toNat = d) (W : World) :
    (Instr.index t (.string s) (.int .i64 i)).run P W = .ok (.int .u8 (d : Int)) W := by
  subst hi
  rw [run_index_string W t s .i64 _ h, dif_pos (by omega)]
  simp [hd]


end Go.Proofs.Ytocgdbinfmdkcaa
