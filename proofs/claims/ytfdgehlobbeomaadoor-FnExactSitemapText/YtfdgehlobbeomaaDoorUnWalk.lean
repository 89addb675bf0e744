/- Contracts of spec.Unpercent and impl.Unpercent. -/
import Derived.Test.YtfdgehlobbeomaaDoorRows
import Derived.Test.YtfdgehlobbeomaaDoorPctWalk
namespace Go.Proofs.YtfdgehlobbeomaaDoor
open Go.RowKit

theorem own_byte {w1 : World} {B : Nat} {e : TypeId} {v : Value} {o : List UInt8} {x : Int} (c : UInt8) (hx : x = (c.toNat : Int))
    (h : w1.ownsRow B e 1 v (o.length + 1) (bcells o ++ #[Value.int .u8 x].toList)) : w1.ownsRow B e 1 v (o ++ [c]).length (bcells (o ++ [c])) := by
  subst hx
  rw [bcells_snoc, List.length_append]
  exact h
theorem byte_one (x : Int) : ∀ u ∈ #[Value.int .u8 x].toList, u.oneCell' = true := by
  intro u hu; simp at hu; subst hu; rfl
theorem ofNat_pct {c : Int} (h0 : 0 ≤ c) (h1 : c ≤ 255) : c = ((UInt8.ofNat c.toNat).toNat : Int) := by
  have : (UInt8.ofNat c.toNat).toNat = c.toNat % 256 := by simp
  omega

theorem un_hit (s : ByteArray) (k : Nat) (o : List UInt8) (h : 0 ≤ pctAt s k) (he : o ++ unL (s.data.toList.drop k) = unL s.data.toList) :
    (o ++ [UInt8.ofNat (pctAt s k).toNat]) ++ unL (s.data.toList.drop (k + 3)) = unL s.data.toList := by
  rw [← he]
  unfold unL
  rw [tok_hit _ _ s k h]
  simp
theorem un_miss (s : ByteArray) (k : Nat) (hk : k < s.size) (o : List UInt8) (h : pctAt s k < 0) (he : o ++ unL (s.data.toList.drop k) = unL s.data.toList) :
    (o ++ [s[k]]) ++ unL (s.data.toList.drop (k + 1)) = unL s.data.toList := by
  rw [← he]
  unfold unL
  rw [tok_miss _ _ s k hk h]
  simp
theorem un_end (s : ByteArray) (k : Nat) (hk : s.size ≤ k) (o : List UInt8) (he : o ++ unL (s.data.toList.drop k) = unL s.data.toList) : o = unL s.data.toList := by
  rw [← he]
  unfold unL
  rw [tok_end _ _ s k hk]
  simp


end Go.Proofs.YtfdgehlobbeomaaDoor
