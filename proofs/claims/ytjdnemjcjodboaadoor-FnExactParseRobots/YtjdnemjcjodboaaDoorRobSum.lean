/- How much is read of a text, at most. -/
import Derived.Test.YtjdnemjcjodboaaDoorRows
import Derived.Test.YtjdnemjcjodboaaDoorRobStep
import Derived.Test.YtjdnemjcjodboaaDoorPctPlain
import Derived.Test.YtjdnemjcjodboaaDoorRobSz
namespace Go.Proofs.YtjdnemjcjodboaaDoor
open Go.RowKit
set_option linter.unusedVariables false

theorem psum_take {α : Type} (f : α → Nat) (d : α) (l : List α) : ∀ k, k ≤ l.length → psum (fun i => f (l.getD i d)) k = ((l.take k).map f).sum
  | 0, _ => by simp [psum]
  | k + 1, hk => by
    show psum _ k + f (l.getD k d) = _
    rw [psum_take f d l k (by omega), List.take_succ_eq_append_getElem (by omega), List.map_append, List.sum_append, List.getD_eq_getElem?_getD, List.getElem?_eq_getElem (by omega)]
    simp
theorem psum_map {α : Type} (f : α → Nat) (d : α) (l : List α) : psum (fun i => f (l.getD i d)) l.length = (l.map f).sum := by
  rw [psum_take f d l l.length (Nat.le_refl _), List.take_length]
theorem sumS_eq (l : List ByteArray) : sumS l = l.length + (l.map ByteArray.size).sum := by
  unfold sumS
  rw [psum_map ByteArray.size ByteArray.empty]
theorem sumL_eq (l : List LV) : sumL l = l.length + (l.map fun x => x.pa.size).sum := by
  unfold sumL
  rw [psum_map (fun x : LV => x.pa.size) lv0]
theorem sumP_eq (l : List PT) : sumP l = l.length + (l.map sumT).sum := by
  unfold sumP
  rw [psum_map sumT pt0]
theorem sumS_snoc (l : List ByteArray) (a : ByteArray) : sumS (l ++ [a]) = sumS l + 1 + a.size := by
  rw [sumS_eq, sumS_eq, List.length_append, List.map_append, List.sum_append]
  simp
  omega
theorem sumL_snoc (l : List LV) (a : LV) : sumL (l ++ [a]) = sumL l + 1 + a.pa.size := by
  rw [sumL_eq, sumL_eq, List.length_append, List.map_append, List.sum_append]
  simp
  omega
theorem sumP_snoc (l : List PT) (a : PT) : sumP (l ++ [a]) = sumP l + 1 + sumT a := by
  rw [sumP_eq, sumP_eq, List.length_append, List.map_append, List.sum_append]
  simp
  omega
theorem pl_most (l : List UInt8) : (plL 2 l).length ≤ 3 * l.length := by
  refine tok_ind (fun l => (plL 2 l).length ≤ 3 * l.length) (Nat.zero_le _) ?_ ?_ l
  · intro a b c r h ih
    rw [pl_pct _ _ _ _ _ h, List.length_append]
    have := free_len (UInt8.ofNat (pctV a.toNat b.toNat c.toNat).toNat)
    simp only [List.length_cons]
    omega
  · intro a r h ih
    rw [pl_byte _ _ _ h, List.length_append]
    have := kept_len 2 a
    simp only [List.length_cons]
    omega
theorem agL_most (l : List UInt8) : (agL l).length ≤ l.length + 1 := by
  unfold agL
  split
  · simp
  · unfold lowerL
    rw [List.length_map]
    have h1 := (List.takeWhile_prefix agB (l := l)).length_le
    omega
theorem mkb_size (l : List UInt8) : (⟨l.toArray⟩ : ByteArray).size = l.length := List.size_toArray
theorem sum_addAg (ps : List PT) (a : List UInt8) : sumP (addAg ps a) ≤ sumP ps + 2 + a.length := by
  have one : sumT ⟨[⟨a.toArray⟩], []⟩ = 1 + a.length := by
    show sumS [⟨a.toArray⟩] + sumL [] = _
    rw [sumS_eq, sumL_eq]
    simp [mkb_size]
  unfold addAg
  cases hp : ps.getLast? with
  | none =>
    have := List.getLast?_eq_none_iff.1 hp
    subst this
    show sumP ([] ++ [⟨[⟨a.toArray⟩], []⟩]) ≤ _
    rw [sumP_snoc, one]
    omega
  | some p =>
    show sumP (if p.ln.isEmpty = true then _ else _) ≤ _
    split
    · have e := ps_last hp
      have h1 : sumP ps = sumP ps.dropLast + 1 + sumT p := by conv => lhs; rw [e, sumP_snoc]
      have h2 : sumT ⟨p.ag ++ [⟨a.toArray⟩], p.ln⟩ = sumT p + 1 + a.length := by
        show sumS (p.ag ++ [⟨a.toArray⟩]) + sumL p.ln = sumS p.ag + sumL p.ln + 1 + a.length
        rw [sumS_snoc, mkb_size]
        omega
      rw [sumP_snoc, h2]
      omega
    · rw [sumP_snoc, one]
      omega
theorem sum_addLn (ps : List PT) (b : Bool) (v : List UInt8) : sumP (addLn ps b v) ≤ sumP ps + 1 + 3 * v.length := by
  unfold addLn
  cases hp : ps.getLast? with
  | none => show sumP ps ≤ _; omega
  | some p =>
    show sumP (if v.isEmpty = true then _ else _) ≤ _
    split
    · omega
    · have e := ps_last hp
      have h1 : sumP ps = sumP ps.dropLast + 1 + sumT p := by conv => lhs; rw [e, sumP_snoc]
      have h2 : sumT ⟨p.ag, p.ln ++ [⟨b, ⟨(patL v).toArray⟩⟩]⟩ = sumT p + 1 + (patL v).length := by
        show sumS p.ag + sumL (p.ln ++ [⟨b, ⟨(patL v).toArray⟩⟩]) = sumS p.ag + sumL p.ln + 1 + (patL v).length
        rw [sumL_snoc]
        show _ + (_ + 1 + (⟨(patL v).toArray⟩ : ByteArray).size) = _
        rw [mkb_size]
        omega
      rw [sumP_snoc, h2]
      have := pl_most v
      have e2 : patL v = plL 2 v := rfl
      rw [e2]
      omega
theorem valL_most (x : ByteArray) : (valL x.data.toList).length ≤ x.size := by
  have := valV_size x
  unfold valV at this
  rwa [mkb_size] at this
theorem sum_step (ps : List PT) (x : ByteArray) : sumP (stepV ps x) ≤ sumP ps + 3 + 3 * x.size := by
  have hv := valL_most x
  unfold stepV stepP
  split
  · omega
  · split
    · have h1 := sum_addAg ps (agL (valL x.data.toList))
      have h2 := agL_most (valL x.data.toList)
      omega
    · split
      · have := sum_addLn ps true (valL x.data.toList); omega
      · split
        · have := sum_addLn ps false (valL x.data.toList); omega
        · omega
theorem sum_fold : ∀ (fs : List ByteArray) (ps : List PT), sumP (fs.foldl stepV ps) ≤ sumP ps + 3 * fs.length + 3 * (fs.map ByteArray.size).sum
  | [], ps => by simp
  | x :: fs, ps => by
    have h1 := sum_fold fs (stepV ps x)
    have h2 := sum_step ps x
    simp only [List.foldl_cons, List.length_cons, List.map_cons, List.sum_cons]
    omega
theorem spl_total (b : UInt8) : ∀ l, ((spl b l).map List.length).sum + (spl b l).length = l.length + 1
  | [] => rfl
  | c :: l => by
    have ih := spl_total b l
    unfold spl
    by_cases h : c = b
    · rw [if_pos h]
      simp only [List.map_cons, List.sum_cons, List.length_cons, List.length_nil]
      omega
    · rw [if_neg h]
      cases hs : spl b l with
      | nil =>
        rw [hs] at ih
        simp at ih
      | cons x xs =>
        rw [hs] at ih
        simp only [List.map_cons, List.sum_cons, List.length_cons] at ih ⊢
        omega
theorem rob_sum (s : ByteArray) : sumP (robV s) ≤ 200000 := by
  have h := sum_fold (fieldsL (crS (cutS s)) 10) []
  have h1 := fieldsL_spl (crS (cutS s)) 10
  rw [show ((10 : UInt8).toNat : Int) = 10 from rfl] at h1
  have h2 := spl_total 10 (crS (cutS s)).data.toList
  rw [← h1] at h2
  have h3 : (((fieldsL (crS (cutS s)) 10).map toL).map List.length).sum = ((fieldsL (crS (cutS s)) 10).map ByteArray.size).sum := by
    rw [List.map_map]
    congr 1
  rw [h3, List.length_map] at h2
  have h4 : (crS (cutS s)).data.toList.length = (crS (cutS s)).size := by simp
  rw [h4, crS_size] at h2
  have h5 := cutS_size s
  have h6 : sumP [] = 0 := rfl
  unfold robV
  omega
end Go.Proofs.YtjdnemjcjodboaaDoor
