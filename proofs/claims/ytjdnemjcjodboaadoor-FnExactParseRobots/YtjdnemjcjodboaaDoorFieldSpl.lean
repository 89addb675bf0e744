/- Fields of a text are the texts between its bytes; addresses of four of a text, strictly and loosely. -/
import Derived.Test.YtjdnemjcjodboaaDoorDropWalk
import Derived.Test.YtjdnemjcjodboaaDoorSplPlain
namespace Go.Proofs.YtjdnemjcjodboaaDoor
open Go.RowKit

def toL (x : ByteArray) : List UInt8 := x.data.toList

theorem fieldsTo_spl (s : ByteArray) (b : UInt8) : ∀ k, k ≤ s.size → (fieldsTo s (b.toNat : Int) k).2 ≤ k ∧ spl b (s.data.toList.take k) = (fieldsTo s (b.toNat : Int) k).1.map toL ++ [(s.data.toList.take k).drop (fieldsTo s (b.toNat : Int) k).2]
  | 0, _ => by simp [fieldsTo, spl]
  | k + 1, hk => by
    obtain ⟨h0, h1⟩ := fieldsTo_spl s b k (by omega)
    rw [take_snoc s k (by omega), spl_cut b h1 s[k]]
    by_cases e : s[k] = b
    · rw [if_pos e, fieldsTo_hit s _ k (by omega) (by rw [e])]
      refine ⟨Nat.le_refl _, ?_⟩
      simp only [List.map_append, List.map_cons, List.map_nil, toL, extract_list]
      rw [List.drop_of_length_le (i := k + 1) (by simp; omega)]
      simp
    · have e' : ¬ (s[k].toNat : Int) = (b.toNat : Int) := fun h => e (UInt8.toNat_inj.1 (by omega))
      rw [if_neg e, fieldsTo_miss s _ k (by omega) e']
      refine ⟨by omega, ?_⟩
      rw [List.drop_append_of_le_length (by simp; omega)]

theorem fieldsL_spl (s : ByteArray) (b : UInt8) : (fieldsL s (b.toNat : Int)).map toL = spl b s.data.toList := by
  obtain ⟨_, h⟩ := fieldsTo_spl s b s.size (Nat.le_refl _)
  rw [take_all s s.size (Nat.le_refl _)] at h
  rw [h]
  unfold fieldsL
  rw [List.map_append]
  simp only [List.map_cons, List.map_nil, toL, extract_list, take_all s s.size (Nat.le_refl _)]
theorem fieldsL_46 (s : ByteArray) : (fieldsL s 46).map toL = spl 46 s.data.toList := fieldsL_spl s 46
theorem fieldsL_58 (s : ByteArray) : (fieldsL s 58).map toL = spl 58 s.data.toList := fieldsL_spl s 58

/-- What is read loosely of a text. -/
def loA (s : ByteArray) : Option Nat := lo4 ((dropE (fieldsL s 46)).map toL)
theorem loA_lt {s : ByteArray} {n : Nat} (h : loA s = some n) : n < 4294967296 := lo4_lt h

theorem toL_inj {a b : ByteArray} (h : toL a = toL b) : a = b := by
  apply ByteArray.ext
  exact Array.toList_inj.1 h

theorem loA_ip4 {s : ByteArray} {n : Nat} (hn : n < 4294967296) (h : s.data.toList = ip4L n) : loA s = some n := by
  have h1 := fieldsL_46 s
  rw [h, ip4_spl hn] at h1
  have hd : dropE (fieldsL s 46) = fieldsL s 46 := by
    unfold dropE
    rw [if_neg]
    rintro ⟨_, h2⟩
    have hl : (fieldsL s 46).length = 4 := by
      have := congrArg List.length h1
      simpa using this
    rw [hl] at h2
    have h3 : toL ((fieldsL s 46).getD (4 - 1) ByteArray.empty) = dec3 (n % 256) := by
      have := congrArg (fun l => l.getD 3 []) h1
      simp only [List.getD_eq_getElem?_getD, List.getElem?_map] at this ⊢
      rw [List.getElem?_eq_getElem (by omega)] at this ⊢
      simpa using this
    have h4 := dec3_ne (n % 256) (by omega)
    apply h4
    rw [← h3]
    exact List.eq_nil_of_length_eq_zero (by simpa [toL] using h2)
  unfold loA
  rw [hd, h1, ← ip4_spl hn]
  exact lo4_ip4 hn

theorem parse_yes {s : ByteArray} {n : Nat} (h : loA s = some n) (h2 : ip4L n = s.data.toList) : p4 s.data.toList = some n := by
  rw [← h2]
  exact p4_ip4 (loA_lt h)
theorem parse_no {s : ByteArray} {n : Nat} (h : loA s = some n) (h2 : ¬ ip4L n = s.data.toList) : p4 s.data.toList = none := by
  cases hp : p4 s.data.toList with
  | none => rfl
  | some m =>
    obtain ⟨h3, h4⟩ := p4_some hp
    rw [loA_ip4 h3 h4] at h
    cases h
    exact absurd h4.symm h2
theorem parse_none {s : ByteArray} (h : loA s = none) : p4 s.data.toList = none := by
  cases hp : p4 s.data.toList with
  | none => rfl
  | some m =>
    obtain ⟨h3, h4⟩ := p4_some hp
    rw [loA_ip4 h3 h4] at h
    cases h
theorem strict_loose {s : ByteArray} {n : Nat} (h : p4 s.data.toList = some n) : loA s = some n := by
  obtain ⟨h3, h4⟩ := p4_some h
  exact loA_ip4 h3 h4
end Go.Proofs.YtjdnemjcjodboaaDoor
