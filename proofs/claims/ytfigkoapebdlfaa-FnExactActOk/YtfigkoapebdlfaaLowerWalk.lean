/- Contracts of spec.l1In, spec.Lower and impl.Lower. -/
import Derived.Test.YtfigkoapebdlfaaRows
import Derived.Test.YtfigkoapebdlfaaBase
namespace Go.Proofs.Ytfigkoapebdlfaa
open Go.RowKit

theorem specL1In_yes (x a b : Int) (w : World) (h1 : a ≤ x) (h2 : x ≤ b) :
    Calls Try.prog 30 #[.int .i64 x, .int .i64 a, .int .i64 b] w fun e w' => e = .returned (.bool true) ∧ w = w' := by
  go_enter Try.func30, Try.ntmps30
  go_wp2
  go_ret
  exact ⟨rfl, rfl⟩

theorem specL1In_no (x a b : Int) (w : World) (h : x < a ∨ b < x) :
    Calls Try.prog 30 #[.int .i64 x, .int .i64 a, .int .i64 b] w fun e w' => e = .returned (.bool false) ∧ w = w' := by
  rcases Int.lt_or_le x a with h1 | h1
  · clear h
    go_enter Try.func30, Try.ntmps30
    go_wp2
    go_ret
    exact ⟨rfl, rfl⟩
  · have h2 : b < x := by omega
    clear h
    go_enter Try.func30, Try.ntmps30
    go_wp2
    go_ret
    exact ⟨ret_bool (by simp; omega), rfl⟩

def lowerC (c : UInt8) : UInt8 := if 65 ≤ c.toNat ∧ c.toNat ≤ 90 then c + 32 else c
def lowerL (l : List UInt8) : List UInt8 := l.map lowerC

theorem Try.info5 : (Try.prog.info? 5).map (fun i => (i.zero, i.size, i.bytes)) = some (some (.int .u8 0), 1, 1) := by kernel_rfl

theorem lowerC_toNat (c : UInt8) : ((lowerC c).toNat : Int) = if 65 ≤ (c.toNat : Int) ∧ (c.toNat : Int) ≤ 90 then (c.toNat : Int) + 32 else c.toNat := by
  unfold lowerC
  split
  · rw [if_pos (by omega)]
    have : (c + 32).toNat = (c.toNat + 32) % 256 := by rw [UInt8.toNat_add]; rfl
    omega
  · rw [if_neg (by omega)]

theorem lower_step (s : ByteArray) (k : Nat) (h : k < s.size) {w1 : World} {B : Nat} {v : Value} {x : Int}
    (hown : w1.ownsRow B 5 1 v (k + 1) (bcells (lowerL (s.data.toList.take k)) ++ [.int .u8 x]))
    (hx : x = if 65 ≤ (s[k].toNat : Int) ∧ (s[k].toNat : Int) ≤ 90 then (s[k].toNat : Int) + 32 else s[k].toNat) :
    w1.ownsRow B 5 1 v (k + 1) (bcells (lowerL (s.data.toList.take (k + 1)))) := by
  have e : bcells (lowerL (s.data.toList.take (k + 1))) = bcells (lowerL (s.data.toList.take k)) ++ [.int .u8 x] := by
    rw [take_snoc s k h, hx, ← lowerC_toNat]
    simp [lowerL, bcells]
  rw [e]; exact hown


def lowerTo (l : List UInt8) (k : Nat) : List UInt8 := lowerL (l.take k) ++ l.drop k
theorem lowerTo_zero (l : List UInt8) : lowerTo l 0 = l := by simp [lowerTo, lowerL]
theorem lowerTo_length (l : List UInt8) (k : Nat) : (lowerTo l k).length = l.length := by simp [lowerTo, lowerL]; omega
theorem lowerTo_at (s : ByteArray) (k : Nat) (h : k < s.size) (h' : k < (lowerTo s.data.toList k).length) : (lowerTo s.data.toList k)[k] = s[k] := by
  have hk : k < s.data.toList.length := by simpa using h
  have e : (lowerTo s.data.toList k)[k]? = some s[k] := by
    unfold lowerTo
    rw [List.getElem?_append_right (by simp [lowerL]; omega)]
    simp only [lowerL, List.length_map, List.length_take, Nat.min_eq_left (Nat.le_of_lt hk), Nat.sub_self, List.getElem?_drop, Nat.add_zero]
    rw [List.getElem?_eq_getElem hk]
    rfl
  rw [List.getElem?_eq_getElem h'] at e
  exact Option.some.inj e
theorem lowerTo_succ (s : ByteArray) (k : Nat) (h : k < s.size) : (lowerTo s.data.toList k).set k (lowerC s[k]) = lowerTo s.data.toList (k + 1) := by
  have hk : k < s.data.toList.length := by simpa using h
  unfold lowerTo
  rw [List.set_append_right _ _ (by simp [lowerL]; omega)]
  rw [take_snoc s k h, List.drop_eq_getElem_cons hk]
  simp [lowerL, Nat.min_eq_left (Nat.le_of_lt h)]
theorem lowerTo_keep (s : ByteArray) (k : Nat) (h : k < s.size) (hc : lowerC s[k] = s[k]) : lowerTo s.data.toList k = lowerTo s.data.toList (k + 1) := by
  rw [← lowerTo_succ s k h, hc]
  have h' : k < (lowerTo s.data.toList k).length := by rw [lowerTo_length]; simpa using h
  rw [← lowerTo_at s k h h', List.set_getElem_self]

end Go.Proofs.Ytfigkoapebdlfaa
