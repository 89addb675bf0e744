/- What is read of a text, line by line. -/
import Derived.Test.YtjdnemjcjodboaaDoorRows
import Derived.Test.YtjdnemjcjodboaaDoorRobPut
import Derived.Test.YtjdnemjcjodboaaDoorRobLines
import Derived.Test.YtjdnemjcjodboaaDoorJoinPlain
import Derived.Test.YtjdnemjcjodboaaDoorExtPlain
namespace Go.Proofs.YtjdnemjcjodboaaDoor
open Go.RowKit
set_option linter.unusedVariables false

def cutS (s : ByteArray) : ByteArray := s.extract 0 20000
def robV (s : ByteArray) : List PT := (fieldsL (crS (cutS s)) 10).foldl stepV []
theorem robV_eq (s : ByteArray) : robV s = robL s.data.toList := by
  unfold robV robL
  have h := fieldsL_spl (crS (cutS s)) 10
  rw [show ((10 : UInt8).toNat : Int) = 10 from rfl] at h
  have h2 : (crS (cutS s)).data.toList = noCr (s.data.toList.take 20000) := by
    unfold crS cutS
    rw [extract_list, List.drop_zero]
  rw [h2] at h
  rw [← h, List.foldl_map]
  rfl
theorem cutS_small {s : ByteArray} (h : s.size ≤ 20000) : cutS s = s := by
  refine ba_eq.2 ?_
  unfold cutS
  rw [extract_list, List.drop_zero, take_all s 20000 h]
theorem cutS_size (s : ByteArray) : (cutS s).size ≤ 20000 := by
  unfold cutS
  rw [ByteArray.size_extract]
  omega
theorem fieldsN_pos (s : ByteArray) (b : Int) : 0 < (fieldsL s b).length := by simp [fieldsL]
theorem fieldsN_le (s : ByteArray) (b : Int) : (fieldsL s b).length ≤ s.size + 1 := by
  have := (fieldsTo_le s b s.size).2
  simp [fieldsL]
  omega
theorem field_size (s : ByteArray) (b : Int) {k : Nat} (h : k < (fieldsL s b).length) : ((fieldsL s b).getD k ByteArray.empty).size ≤ s.size := by
  refine fieldsL_sizes s b _ ?_
  rw [List.getD_eq_getElem?_getD, List.getElem?_eq_getElem h]
  exact List.getElem_mem _
def kU : ByteArray := ⟨#[117, 115, 101, 114, 45, 97, 103, 101, 110, 116]⟩
def kA : ByteArray := ⟨#[97, 108, 108, 111, 119]⟩
def kD : ByteArray := ⟨#[100, 105, 115, 97, 108, 108, 111, 119]⟩
theorem key_is {x : ByteArray} {l : List UInt8} (K : ByteArray) (hK : K.data.toList = l) : keyL x.data.toList = l ↔ keyV x = K := by
  rw [ba_eq, hK]
  rfl
theorem txt_eq {a : ByteArray} {l : List UInt8} (h : a.data.toList = l) : (a.toList == l) = true := by rw [ByteArray.toList_eq, h]; exact beq_self_eq_true _
theorem txt_ne {a : ByteArray} {l : List UInt8} (h : a.data.toList ≠ l) : (a.toList == l) = false := by rw [ByteArray.toList_eq]; exact beq_eq_false_iff_ne.2 h
theorem stepV_none {ps : List PT} {x : ByteArray} (h : hasK x.data.toList = false) : stepV ps x = ps := by unfold stepV stepP; rw [if_pos h]
theorem stepV_ag {ps : List PT} {x : ByteArray} (h : hasK x.data.toList = true) (hk : keyL x.data.toList = keyU) : stepV ps x = setAg (openP ps) ⟨(agL (valV x).data.toList).toArray⟩ := by
  unfold stepV stepP
  rw [if_neg (by rw [h]; decide), if_pos hk, addAg_eq]
  rfl
theorem stepV_ln {ps : List PT} {x : ByteArray} (h : hasK x.data.toList = true) (b : Bool) (hk : keyL x.data.toList = if b = true then keyA else keyD) :
    stepV ps x = if ps.length = 0 ∨ (valV x).size = 0 then ps else setLn ps ⟨b, ⟨(plL 2 (valV x).data.toList).toArray⟩⟩ := by
  have hu : keyL x.data.toList ≠ keyU := by rw [hk]; cases b <;> decide
  have hv : (valL x.data.toList).isEmpty = true ↔ (valV x).size = 0 := by
    have e : (valV x).size = (valL x.data.toList).length := List.size_toArray
    rw [e, List.isEmpty_iff, List.length_eq_zero_iff]
  have main : addLn ps b (valL x.data.toList) = if ps.length = 0 ∨ (valV x).size = 0 then ps else setLn ps ⟨b, ⟨(plL 2 (valV x).data.toList).toArray⟩⟩ := by
    rw [addLn_eq]
    by_cases hc : ps.length = 0 ∨ (valV x).size = 0
    · rw [if_pos hc, if_pos (hc.imp id hv.2)]
    · rw [if_neg hc, if_neg fun h => hc (h.imp id hv.1)]
      rfl
  unfold stepV stepP
  rw [if_neg (by rw [h]; decide), if_neg hu]
  cases b with
  | true => rw [if_pos (show keyL x.data.toList = keyA from hk)]; exact main
  | false => rw [if_neg (by rw [hk]; decide), if_pos (show keyL x.data.toList = keyD from hk)]; exact main
theorem stepV_other {ps : List PT} {x : ByteArray} (h1 : keyL x.data.toList ≠ keyU) (h2 : keyL x.data.toList ≠ keyA) (h3 : keyL x.data.toList ≠ keyD) : stepV ps x = ps := by
  unfold stepV stepP
  rw [if_neg h1, if_neg h2, if_neg h3, ite_self]
theorem fold_next {fs : List ByteArray} {k : Nat} (h : k < fs.length) (acc : List PT) : (fs.drop k).foldl stepV acc = (fs.drop (k + 1)).foldl stepV (stepV acc (fs.getD k ByteArray.empty)) := by
  rw [List.drop_eq_getElem_cons h, List.foldl_cons, List.getD_eq_getElem?_getD, List.getElem?_eq_getElem h]
  rfl
theorem valV_size (x : ByteArray) : (valV x).size ≤ x.size := by
  have e : (valV x).size = (valL x.data.toList).length := List.size_toArray
  have h1 := trimS_le (restC 58 (headC 35 x.data.toList)).tail blanks4
  have h2 : (restC 58 (headC 35 x.data.toList)).tail.length ≤ (restC 58 (headC 35 x.data.toList)).length := by rw [List.length_tail]; omega
  have h3 := (List.dropWhile_suffix (notB 58) (l := headC 35 x.data.toList)).length_le
  have h4 := (List.takeWhile_prefix (notB 35) (l := x.data.toList)).length_le
  have h5 : x.data.toList.length = x.size := by simp
  unfold restC headC at h2
  unfold headC at h3
  rw [e]
  unfold valL
  unfold restC headC at h1 ⊢
  omega
theorem newP_last {ps : List PT} (h : 0 < ps.length) : newP ps = !decide ((lastG ps).ln.length = 0) := by
  unfold newP
  cases hp : ps.getLast? with
  | none => rw [List.getLast?_eq_none_iff.1 hp] at h; simp at h
  | some p =>
    rw [(last_getD hp).1]
    show (!p.ln.isEmpty) = _
    cases p.ln <;> simp
end Go.Proofs.YtjdnemjcjodboaaDoor
