/- Contracts of spec.Plainly and impl.Plainly. -/
import Derived.Test.YtbjidcejpdeegaaRows
import Derived.Test.YtbjidcejpdeegaaPercentWalk
namespace Go.Proofs.Ytbjidcejpdeegaa
open Go.RowKit

theorem pl_hit (set : Int) (s : ByteArray) (k n : Nat) (h : pctAt s k = (n : Int)) (o : List UInt8) (he : o ++ plL set (s.data.toList.drop k) = plL set s.data.toList) :
    (o ++ freeB (UInt8.ofNat n)) ++ plL set (s.data.toList.drop (k + 3)) = plL set s.data.toList := by
  rw [← he]
  unfold plL
  rw [tok_hit _ _ s k (by omega), h, List.append_assoc]
  rfl
theorem pl_miss (set : Int) (s : ByteArray) (k : Nat) (hk : k < s.size) (o : List UInt8) (h : pctAt s k < 0) (he : o ++ plL set (s.data.toList.drop k) = plL set s.data.toList) :
    (o ++ keptB set s[k]) ++ plL set (s.data.toList.drop (k + 1)) = plL set s.data.toList := by
  rw [← he]
  unfold plL
  rw [tok_miss _ _ s k hk h, List.append_assoc]
theorem pl_end (set : Int) (s : ByteArray) (k : Nat) (hk : s.size ≤ k) (o : List UInt8) (he : o ++ plL set (s.data.toList.drop k) = plL set s.data.toList) : o = plL set s.data.toList := by
  rw [← he]
  unfold plL
  rw [tok_end _ _ s k hk]
  simp
theorem freeZ_nat (n : Nat) : freeZ (n : Int) = freeN n := by simp [freeZ]

end Go.Proofs.Ytbjidcejpdeegaa
