/- Labels, plainly: what a right one is; the specification's 'between'. -/
import Derived.Test.YtjdmmmohaiiocaaDoorRows
import Derived.Test.YtjdmmmohaiiocaaDoorBase
namespace Go.Proofs.YtjdmmmohaiiocaaDoor
open Go.RowKit

def labB (c : UInt8) : Bool := decide (97 ≤ c.toNat ∧ c.toNat ≤ 122) || decide (48 ≤ c.toNat ∧ c.toNat ≤ 57) || decide (c.toNat = 45)
def labL (l : List UInt8) : Bool := decide (1 ≤ l.length) && decide (l.length ≤ 63) && decide (l.head? ≠ some 45) && decide (l.getLast? ≠ some 45) && l.all labB

theorem labL_parts {l : List UInt8} (h : labL l = true) : 1 ≤ l.length ∧ l.length ≤ 63 ∧ l.head? ≠ some 45 ∧ l.getLast? ≠ some 45 ∧ ∀ c ∈ l, labB c = true := by
  unfold labL at h
  simp only [Bool.and_eq_true, decide_eq_true_eq, List.all_eq_true] at h
  exact ⟨h.1.1.1.1, h.1.1.1.2, h.1.1.2, h.1.2, h.2⟩
theorem labL_of {l : List UInt8} (h1 : 1 ≤ l.length) (h2 : l.length ≤ 63) (h3 : l.head? ≠ some 45) (h4 : l.getLast? ≠ some 45) (h5 : ∀ c ∈ l, labB c = true) : labL l = true := by
  unfold labL
  simp only [Bool.and_eq_true, decide_eq_true_eq, List.all_eq_true]
  exact ⟨⟨⟨⟨h1, h2⟩, h3⟩, h4⟩, h5⟩

theorem labB_parts {c : UInt8} (h : labB c = true) : (97 ≤ c.toNat ∧ c.toNat ≤ 122) ∨ (48 ≤ c.toNat ∧ c.toNat ≤ 57) ∨ c.toNat = 45 := by
  unfold labB at h
  simp only [Bool.or_eq_true, decide_eq_true_eq] at h
  omega
theorem labB_yes {c : UInt8} {d : Nat} (hd : c.toNat = d) (h : (97 ≤ d ∧ d ≤ 122) ∨ (48 ≤ d ∧ d ≤ 57) ∨ d = 45) : labB c = true := by
  unfold labB
  simp only [Bool.or_eq_true, decide_eq_true_eq]
  omega

theorem head_at (s : ByteArray) (h : 0 < s.size) : s.data.toList.head? = some s[0] := by
  have hk : 0 < s.data.toList.length := by simpa using h
  rw [List.head?_eq_getElem?, List.getElem?_eq_getElem hk]
  rfl
theorem last_at (s : ByteArray) (h : 0 < s.size) : s.data.toList.getLast? = some (s[s.size - 1]'(by omega)) := by
  have hk : 0 < s.data.toList.length := by simpa using h
  rw [List.getLast?_eq_getElem?, List.getElem?_eq_getElem (by omega)]
  rfl

theorem lab_size (s : ByteArray) (h : ¬ (1 ≤ s.size ∧ s.size ≤ 63)) : labL s.data.toList = false := by
  refine Bool.eq_false_iff.2 fun hl => h ?_
  obtain ⟨h1, h2, _⟩ := labL_parts hl
  have e : s.data.toList.length = s.size := by simp
  omega
theorem lab_head (s : ByteArray) (h : 0 < s.size) (h0 : s[0].toNat = 45) : labL s.data.toList = false := by
  refine Bool.eq_false_iff.2 fun hl => ?_
  obtain ⟨_, _, h3, _⟩ := labL_parts hl
  exact h3 ((head_at s h).trans (congrArg some (UInt8.toNat_inj.1 (by simpa using h0))))
theorem lab_last (s : ByteArray) (h : 0 < s.size) (h0 : (s[s.size - 1]'(by omega)).toNat = 45) : labL s.data.toList = false := by
  refine Bool.eq_false_iff.2 fun hl => ?_
  obtain ⟨_, _, _, h3, _⟩ := labL_parts hl
  exact h3 ((last_at s h).trans (congrArg some (UInt8.toNat_inj.1 (by simpa using h0))))
theorem lab_byte (s : ByteArray) (k : Nat) (h : k < s.size) (h0 : ¬ ((97 ≤ s[k].toNat ∧ s[k].toNat ≤ 122) ∨ (48 ≤ s[k].toNat ∧ s[k].toNat ≤ 57) ∨ s[k].toNat = 45)) : labL s.data.toList = false := by
  refine Bool.eq_false_iff.2 fun hl => ?_
  obtain ⟨_, _, _, _, h3⟩ := labL_parts hl
  have hm : s[k] ∈ s.data.toList := by
    have : s[k] ∈ s.data := Array.getElem_mem _
    simpa using this
  exact h0 (labB_parts (h3 _ hm))
theorem lab_yes (s : ByteArray) (hr : 1 ≤ s.size ∧ s.size ≤ 63) (h0 : ¬ (s[0]'(by omega)).toNat = 45) (h1 : ¬ (s[s.size - 1]'(by omega)).toNat = 45) (h : ∀ c ∈ s.data.toList.take s.size, labB c = true) : labL s.data.toList = true := by
  have e : s.data.toList.length = s.size := by simp
  rw [take_all s s.size (Nat.le_refl _)] at h
  refine labL_of (by omega) (by omega) (fun hh => h0 ?_) (fun hh => h1 ?_) h
  · rw [head_at s (by omega)] at hh
    have := Option.some.inj hh
    rw [this]; rfl
  · rw [last_at s (by omega)] at hh
    have := Option.some.inj hh
    rw [this]; rfl
theorem lab_take (s : ByteArray) (k : Nat) (h : k < s.size) (d : Nat) (hd : s[k].toNat = d) (hc : (97 ≤ d ∧ d ≤ 122) ∨ (48 ≤ d ∧ d ≤ 57) ∨ d = 45) (h0 : ∀ c ∈ s.data.toList.take k, labB c = true) : ∀ c ∈ s.data.toList.take (k + 1), labB c = true := by
  intro c hm
  rw [take_snoc s k h] at hm
  rcases List.mem_append.1 hm with h2 | h2
  · exact h0 c h2
  · rw [List.mem_singleton.1 h2]
    exact labB_yes hd hc

theorem labIn_yes (x a b : Int) (w : World) (h1 : a ≤ x) (h2 : x ≤ b) :
    Calls Tryd.prog 64 #[.int .i64 x, .int .i64 a, .int .i64 b] w fun e w' => e = .returned (.bool true) ∧ w = w' := by
  go_enter Tryd.func64, Tryd.ntmps64
  go_wp2
  go_ret
  exact ⟨rfl, rfl⟩
theorem labIn_no (x a b : Int) (w : World) (h : x < a ∨ b < x) :
    Calls Tryd.prog 64 #[.int .i64 x, .int .i64 a, .int .i64 b] w fun e w' => e = .returned (.bool false) ∧ w = w' := by
  by_cases h1 : a ≤ x
  · have h2 : ¬ x ≤ b := by omega
    clear h
    go_enter Tryd.func64, Tryd.ntmps64
    go_wp2
    go_ret
    exact ⟨ret_bool (by simp), rfl⟩
  · have h2 : x < a := by omega
    clear h h1
    go_enter Tryd.func64, Tryd.ntmps64
    go_wp2
    go_ret
    exact ⟨rfl, rfl⟩
end Go.Proofs.YtjdmmmohaiiocaaDoor
