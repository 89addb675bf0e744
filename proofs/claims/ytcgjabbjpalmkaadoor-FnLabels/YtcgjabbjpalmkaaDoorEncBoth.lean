/- PunyEncode of the specification and of the program at whatever row of ints: the same answer. -/
import Derived.Test.YtcgjabbjpalmkaaDoorRows
import Derived.Test.YtcgjabbjpalmkaaDoorPunyEncWalk
import Derived.Test.YtcgjabbjpalmkaaDoorEncImpl
import Derived.Test.YtcgjabbjpalmkaaDoorPunyDecWalk
import Derived.Test.YtcgjabbjpalmkaaDoorIntMarks
import Derived.Test.YtcgjabbjpalmkaaDoorPunyLen
namespace Go.Proofs.YtcgjabbjpalmkaaDoor
open Go.RowKit

theorem nats_of {zl : List Int} (h : encOkZ zl) : ∃ l : List Nat, zl = l.map (fun (c : Nat) => (c : Int)) ∧ encOk l = true := by
  have e : zl = (zl.map Int.toNat).map (fun (c : Nat) => (c : Int)) := by
    rw [List.map_map]
    refine (List.map_id zl).symm.trans (List.map_congr_left fun z hz => ?_)
    have := (h.2 z hz).1
    show z = ((z.toNat : Nat) : Int)
    omega
  refine ⟨zl.map Int.toNat, e, encOk_Z.2 ?_⟩
  rw [← e]
  exact h

theorem encBoth (zl : List Int) (hl : zl.length ≤ 1048576) : ∃ (t : ByteArray) (b : Bool), t.size ≤ 600 ∧
    (∀ (v : Value) (B : Nat) (w : World), w.ownsRow B 3 1 v zl.length (icells zl) → Calls Tryd.prog 28 #[v] w fun e w' => e = .returned (.tuple #[.string t, .bool b]) ∧ Below w.heap.size w w') ∧
    (∀ (v : Value) (B : Nat) (w : World), w.ownsRow B 3 1 v zl.length (icells zl) → Calls Tryd.prog 48 #[v] w fun e w' => e = .returned (.tuple #[.string t, .bool b]) ∧ Below w.heap.size w w') := by
  by_cases hok : encOkZ zl
  · obtain ⟨l, rfl, hk⟩ := nats_of hok
    have hlen : (l.map (fun (c : Nat) => (c : Int))).length = l.length := by simp
    refine ⟨⟨(b8 (encC l)).toArray⟩, true, by have := encC_600 hk; simpa [ByteArray.size, b8] using this, fun v B w h => ?_, fun v B w h => ?_⟩
    · rcases own_shape h with ⟨h0, _, ao, cap, rfl⟩ | ⟨_, g, cap, rfl⟩
      · have hl0 : l = [] := List.eq_nil_of_length_eq_zero (hlen.symm.trans h0)
        subst hl0
        exact specPunyEncode_nil ao cap w
      · rw [hlen] at h ⊢
        exact specPunyEncode_yes l l.length g cap B w hk rfl h
    · rcases own_shape h with ⟨h0, _, ao, cap, rfl⟩ | ⟨_, g, cap, rfl⟩
      · have hl0 : l = [] := List.eq_nil_of_length_eq_zero (hlen.symm.trans h0)
        subst hl0
        exact implPunyEncode_nil ao cap w
      · rw [hlen] at h ⊢
        exact implPunyEncode_yes l l.length g cap B w hk rfl h
  · have hne : zl ≠ [] := fun h => hok (by rw [h]; exact ⟨by decide, fun z hz => by simp at hz⟩)
    have hpos : zl.length ≠ 0 := fun h => hne (List.eq_nil_of_length_eq_zero h)
    refine ⟨⟨#[]⟩, false, by decide, fun v B w h => ?_, fun v B w h => ?_⟩
    · rcases own_shape h with ⟨h0, _⟩ | ⟨_, g, cap, rfl⟩
      · exact absurd h0 hpos
      · exact specPunyEncode_no zl zl.length g cap B w hok rfl hl h
    · rcases own_shape h with ⟨h0, _⟩ | ⟨_, g, cap, rfl⟩
      · exact absurd h0 hpos
      · exact implPunyEncode_no zl zl.length g cap B w hok rfl hl h

theorem specEncAll (l : List Nat) (v : Value) (B : Nat) (w : World) (hk : encOk l = true) (h : w.ownsRow B 3 1 v l.length (icN l)) :
    Calls Tryd.prog 28 #[v] w fun e w' => e = .returned (.tuple #[.string ⟨(b8 (encC l)).toArray⟩, .bool true]) ∧ Below w.heap.size w w' := by
  rcases own_shape h with ⟨h0, _, ao, cap, rfl⟩ | ⟨_, g, cap, rfl⟩
  · have hl0 : l = [] := List.eq_nil_of_length_eq_zero h0
    subst hl0
    exact specPunyEncode_nil ao cap w
  · exact specPunyEncode_yes l l.length g cap B w hk rfl h
end Go.Proofs.YtcgjabbjpalmkaaDoor
