/- The text of parts, part by part, and how long it may be. -/
import Derived.Test.YtjdnemjcjodboaaDoorRows
import Derived.Test.YtjdnemjcjodboaaDoorRobSz
namespace Go.Proofs.YtjdnemjcjodboaaDoor
open Go.RowKit
set_option linter.unusedVariables false

def agLn (a : ByteArray) : List UInt8 := agT a ++ [10]
def lnLn (x : LV) : List UInt8 := lnT x ++ [10]
def partT (p : PT) : List UInt8 := p.ag.flatMap agLn ++ p.ln.flatMap lnLn
theorem robT_parts (ps : List PT) : robT ps = ps.flatMap partT := by
  unfold robT
  rw [List.flatMap_assoc]
  congr 1
  funext p
  unfold linesP partT
  rw [List.flatMap_append, List.flatMap_map, List.flatMap_map]
  rfl
theorem flat_next {α : Type} (f : α → List UInt8) (d : α) (l : List α) {k : Nat} (h : k < l.length) : (l.take (k + 1)).flatMap f = (l.take k).flatMap f ++ f (l.getD k d) := by
  rw [List.take_succ_eq_append_getElem h, List.flatMap_append, List.getD_eq_getElem?_getD, List.getElem?_eq_getElem h]
  simp
theorem flat_len {α : Type} {f : α → List UInt8} {F : Nat → Nat} (d : α) {l : List α} (h : ∀ i, i < l.length → (f (l.getD i d)).length ≤ F i) : ∀ k, k ≤ l.length → ((l.take k).flatMap f).length ≤ psum F k
  | 0, _ => by simp [psum]
  | k + 1, hk => by
    have h1 := flat_len d h k (by omega)
    have h2 := h k (by omega)
    rw [flat_next f d l (by omega), List.length_append]
    show _ ≤ psum F k + F k
    omega
theorem psum_lin (F : Nat → Nat) (c : Nat) : ∀ n, psum (fun i => c + F i) n = c * n + psum F n
  | 0 => by simp [psum]
  | n + 1 => by
    show psum (fun i => c + F i) n + (c + F n) = _ + (psum F n + F n)
    rw [psum_lin F c n, Nat.mul_add]
    omega
theorem psum_mul (F : Nat → Nat) (c : Nat) : ∀ n, psum (fun i => c * F i) n = c * psum F n
  | 0 => by simp [psum]
  | n + 1 => by
    show psum (fun i => c * F i) n + c * F n = c * (psum F n + F n)
    rw [psum_mul F c n, Nat.mul_add]
theorem agLn_len (a : ByteArray) : (agLn a).length = 13 + a.size := by
  unfold agLn agT keyU
  have : a.data.toList.length = a.size := by simp
  simp only [List.length_append, List.length_cons, List.length_nil, this]
  omega
theorem lnLn_len (x : LV) : (lnLn x).length ≤ 13 + x.pa.size := by
  unfold lnLn lnT keyA keyD
  have : x.pa.data.toList.length = x.pa.size := by simp
  split <;> simp only [List.length_append, List.length_cons, List.length_nil, this] <;> omega
theorem ags_len (l : List ByteArray) (k : Nat) (hk : k ≤ l.length) : ((l.take k).flatMap agLn).length ≤ 13 * sumS l := by
  have h := flat_len (f := agLn) (F := fun i => 13 + (l.getD i ByteArray.empty).size) ByteArray.empty (l := l) (fun i _ => Nat.le_of_eq (agLn_len _)) k hk
  rw [psum_lin (fun i => (l.getD i ByteArray.empty).size)] at h
  have h2 := psum_le (fun i => (l.getD i ByteArray.empty).size) hk
  unfold sumS
  omega
theorem lns_len (l : List LV) (k : Nat) (hk : k ≤ l.length) : ((l.take k).flatMap lnLn).length ≤ 13 * sumL l := by
  have h := flat_len (f := lnLn) (F := fun i => 13 + (l.getD i lv0).pa.size) lv0 (l := l) (fun i _ => lnLn_len _) k hk
  rw [psum_lin (fun i => (l.getD i lv0).pa.size)] at h
  have h2 := psum_le (fun i => (l.getD i lv0).pa.size) hk
  unfold sumL
  omega
theorem partT_len (p : PT) : (partT p).length ≤ 13 * sumT p := by
  have h1 := ags_len p.ag p.ag.length (Nat.le_refl _)
  have h2 := lns_len p.ln p.ln.length (Nat.le_refl _)
  rw [List.take_length] at h1 h2
  unfold partT sumT
  rw [List.length_append]
  omega
theorem parts_len (ps : List PT) (k : Nat) (hk : k ≤ ps.length) : ((ps.take k).flatMap partT).length ≤ 13 * psum (fun i => sumT (ps.getD i pt0)) k := by
  have h := flat_len (f := partT) (F := fun i => 13 * sumT (ps.getD i pt0)) pt0 (l := ps) (fun i _ => partT_len _) k hk
  rwa [psum_mul (fun i => sumT (ps.getD i pt0))] at h
/-- While names of a part are written. -/
theorem pre_ag {ps : List PT} {k : Nat} (hk : k < ps.length) (hN : sumP ps ≤ 1048576) (j : Nat) (hj : j ≤ (ps.getD k pt0).ag.length) : ((ps.take k).flatMap partT ++ ((ps.getD k pt0).ag.take j).flatMap agLn).length ≤ 13631488 := by
  have h1 := parts_len ps k (by omega)
  have h2 := ags_len (ps.getD k pt0).ag j hj
  have h3 := psum_le (fun i => sumT (ps.getD i pt0)) (show k + 1 ≤ ps.length from hk)
  have e : psum (fun i => sumT (ps.getD i pt0)) (k + 1) = psum (fun i => sumT (ps.getD i pt0)) k + sumT (ps.getD k pt0) := rfl
  unfold sumP at hN
  rw [List.length_append]
  have e2 : sumT (ps.getD k pt0) = sumS (ps.getD k pt0).ag + sumL (ps.getD k pt0).ln := rfl
  omega
theorem pre_ln {ps : List PT} {k : Nat} (hk : k < ps.length) (hN : sumP ps ≤ 1048576) (j : Nat) (hj : j ≤ (ps.getD k pt0).ln.length) : ((ps.take k).flatMap partT ++ (ps.getD k pt0).ag.flatMap agLn ++ ((ps.getD k pt0).ln.take j).flatMap lnLn).length ≤ 13631488 := by
  have h1 := parts_len ps k (by omega)
  have h2 := ags_len (ps.getD k pt0).ag _ (Nat.le_refl _)
  rw [List.take_length] at h2
  have h4 := lns_len (ps.getD k pt0).ln j hj
  have h3 := psum_le (fun i => sumT (ps.getD i pt0)) (show k + 1 ≤ ps.length from hk)
  have e : psum (fun i => sumT (ps.getD i pt0)) (k + 1) = psum (fun i => sumT (ps.getD i pt0)) k + sumT (ps.getD k pt0) := rfl
  unfold sumP at hN
  rw [List.length_append, List.length_append]
  have e2 : sumT (ps.getD k pt0) = sumS (ps.getD k pt0).ag + sumL (ps.getD k pt0).ln := rfl
  omega
theorem ag_size {ps : List PT} {k j : Nat} (hN : sumP ps ≤ 1048576) (hk : k < ps.length) (hj : j < (ps.getD k pt0).ag.length) : ((ps.getD k pt0).ag.getD j ByteArray.empty).size ≤ 1048576 := by
  have h1 : sumT (ps.getD k pt0) ≤ psum (fun i => sumT (ps.getD i pt0)) ps.length := psum_at (fun i => sumT (ps.getD i pt0)) hk
  have h2 : ((ps.getD k pt0).ag.getD j ByteArray.empty).size ≤ psum (fun i => ((ps.getD k pt0).ag.getD i ByteArray.empty).size) (ps.getD k pt0).ag.length := psum_at (fun i => ((ps.getD k pt0).ag.getD i ByteArray.empty).size) hj
  have e2 : sumT (ps.getD k pt0) = sumS (ps.getD k pt0).ag + sumL (ps.getD k pt0).ln := rfl
  have e3 : sumS (ps.getD k pt0).ag = (ps.getD k pt0).ag.length + psum (fun i => ((ps.getD k pt0).ag.getD i ByteArray.empty).size) (ps.getD k pt0).ag.length := rfl
  unfold sumP at hN
  omega
theorem ln_size {ps : List PT} {k j : Nat} (hN : sumP ps ≤ 1048576) (hk : k < ps.length) (hj : j < (ps.getD k pt0).ln.length) : ((ps.getD k pt0).ln.getD j lv0).pa.size ≤ 1048576 := by
  have h1 : sumT (ps.getD k pt0) ≤ psum (fun i => sumT (ps.getD i pt0)) ps.length := psum_at (fun i => sumT (ps.getD i pt0)) hk
  have h2 : ((ps.getD k pt0).ln.getD j lv0).pa.size ≤ psum (fun i => ((ps.getD k pt0).ln.getD i lv0).pa.size) (ps.getD k pt0).ln.length := psum_at (fun i => ((ps.getD k pt0).ln.getD i lv0).pa.size) hj
  have e2 : sumT (ps.getD k pt0) = sumS (ps.getD k pt0).ag + sumL (ps.getD k pt0).ln := rfl
  have e3 : sumL (ps.getD k pt0).ln = (ps.getD k pt0).ln.length + psum (fun i => ((ps.getD k pt0).ln.getD i lv0).pa.size) (ps.getD k pt0).ln.length := rfl
  unfold sumP at hN
  omega
theorem part_lens {ps : List PT} {k : Nat} (hN : sumP ps ≤ 1048576) (hk : k < ps.length) : ps.length ≤ 1048576 ∧ (ps.getD k pt0).ag.length ≤ 1048576 ∧ (ps.getD k pt0).ln.length ≤ 1048576 := by
  have h1 : sumT (ps.getD k pt0) ≤ psum (fun i => sumT (ps.getD i pt0)) ps.length := psum_at (fun i => sumT (ps.getD i pt0)) hk
  have e2 : sumT (ps.getD k pt0) = sumS (ps.getD k pt0).ag + sumL (ps.getD k pt0).ln := rfl
  have e3 : sumL (ps.getD k pt0).ln = (ps.getD k pt0).ln.length + psum (fun i => ((ps.getD k pt0).ln.getD i lv0).pa.size) (ps.getD k pt0).ln.length := rfl
  have e4 : sumS (ps.getD k pt0).ag = (ps.getD k pt0).ag.length + psum (fun i => ((ps.getD k pt0).ag.getD i ByteArray.empty).size) (ps.getD k pt0).ag.length := rfl
  unfold sumP at hN
  omega
theorem text_app (a b : ByteArray) : (a ++ b).data.toList = a.data.toList ++ b.data.toList := by rw [ByteArray.data_append, Array.toList_append]
theorem text_size {a : ByteArray} {l : List UInt8} (h : a.data.toList = l) : a.size = l.length := by rw [← h]; simp
theorem ret_txt {S : ByteArray} {l : List UInt8} (h : S.data.toList = l) : Ending.returned (.string S) = .returned (.string ⟨l.toArray⟩) := by
  rw [show S = ⟨l.toArray⟩ from ba_eq.2 h]
end Go.Proofs.YtjdnemjcjodboaaDoor
