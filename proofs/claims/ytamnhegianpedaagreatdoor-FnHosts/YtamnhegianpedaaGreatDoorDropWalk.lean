/- Fields without an empty one at the end: the plain function, and the code's own method. -/
import Derived.Test.YtamnhegianpedaaGreatDoorRows
import Derived.Test.YtamnhegianpedaaGreatDoorJoinPlain
import Derived.Test.YtamnhegianpedaaGreatDoorRowMore
namespace Go.Proofs.YtamnhegianpedaaGreatDoor
open Go.RowKit

def dropE (fs : List ByteArray) : List ByteArray := if 1 < fs.length ∧ (fs.getD (fs.length - 1) ByteArray.empty).size = 0 then fs.take (fs.length - 1) else fs

theorem dropE_pos {fs : List ByteArray} (h : 0 < fs.length) : 0 < (dropE fs).length := by
  unfold dropE
  split
  · rw [List.length_take]; omega
  · exact h
theorem dropE_le (fs : List ByteArray) : (dropE fs).length ≤ fs.length := by
  unfold dropE
  split
  · rw [List.length_take]; omega
  · exact Nat.le_refl _
theorem dropE_sizes {fs : List ByteArray} {n : Nat} (h : ∀ x ∈ fs, x.size ≤ n) : ∀ x ∈ dropE fs, x.size ≤ n := by
  intro x hx
  unfold dropE at hx
  split at hx
  · exact h x (List.mem_of_mem_take hx)
  · exact h x hx

theorem fields_sizes46 (s : ByteArray) (hs : s.size ≤ 1048576) : ∀ x ∈ fieldsL s 46, x.size ≤ 1048576 := fun x hx => Nat.le_trans (fieldsL_sizes s 46 x hx) hs

set_option maxHeartbeats 1000000 in
theorem implWithout (f0 : List ByteArray) (B : Nat) (v : Value) (w : World) (hpos : 0 < f0.length) (hlen : f0.length ≤ 1048577) (hown : w.ownsRow B 9 1 v f0.length (scells f0)) :
    Calls Tryz.prog 96 #[v] w fun e w' => ∃ v', e = .returned v' ∧ w.ownsRow B 9 1 v' (dropE f0).length (scells (dropE f0)) ∧ w = w' := by
  rcases own_shape hown with ⟨h, _⟩ | ⟨_, g, cap, rfl⟩
  · omega
  · have hcap := own_cap hown
    by_cases hd : 1 < f0.length ∧ (f0.getD (f0.length - 1) ByteArray.empty).size = 0
    · have OV := own_take hown (f0.length - 1) (by omega)
      rw [scells_take] at OV
      have HD : Hid (dropE f0 = f0.take (f0.length - 1)) := by show _ = _; unfold dropE; rw [if_pos hd]
      have HL : Hid ((f0.take (f0.length - 1)).length = f0.length - 1) := by show _ = _; rw [List.length_take]; omega
      have hl1 : 0 < (f0.length : Int) - 1 := by omega
      have hem := empty_yes hd.2
      have hc := scell_at hown (f0.length - 1) (by omega)
      have hi : ((f0.length : Int) - 1) = ((f0.length - 1 : Nat) : Int) := by omega
      generalize f0.getD (f0.length - 1) ByteArray.empty = q at hc hem
      have HOV : Hid (w.ownsRow B 9 1 (.slice (some ⟨g, 0, none⟩) (f0.length - 1) cap) (f0.length - 1) (scells (f0.take (f0.length - 1)))) := OV
      clear OV hown hd
      go_enter Tryz.func96, Tryz.ntmps96
      go_wp2_with fail
      go_ret
      rw [HD.out, HL.out]
      exact ⟨_, rfl, HOV.out, rfl⟩
    · have HD : Hid (dropE f0 = f0) := by show _ = _; unfold dropE; rw [if_neg hd]
      have HOV : Hid (w.ownsRow B 9 1 (.slice (some ⟨g, 0, none⟩) f0.length cap) f0.length (scells f0)) := hown
      by_cases hl1 : 1 < f0.length
      · have hl1' : 0 < (f0.length : Int) - 1 := by omega
        have hem := empty_no (u := f0.getD (f0.length - 1) ByteArray.empty) (by apply Nat.pos_of_ne_zero; intro h; exact hd ⟨hl1, h⟩)
        have hc := scell_at hown (f0.length - 1) (by omega)
        have hi : ((f0.length : Int) - 1) = ((f0.length - 1 : Nat) : Int) := by omega
        generalize f0.getD (f0.length - 1) ByteArray.empty = q at hc hem
        clear hown hd
        go_enter Tryz.func96, Tryz.ntmps96
        go_wp2_with fail
        go_ret
        rw [HD.out]
        exact ⟨_, rfl, HOV.out, rfl⟩
      · have hl1' : ¬ 0 < (f0.length : Int) - 1 := by omega
        clear hown hd
        go_enter Tryz.func96, Tryz.ntmps96
        go_wp2_with fail
        go_ret
        rw [HD.out]
        exact ⟨_, rfl, HOV.out, rfl⟩
end Go.Proofs.YtamnhegianpedaaGreatDoor
