/- strings.Cut at one byte. -/
import Derived.Test.YtjdmmmohaiiocaaDoorRows
import Derived.Test.YtjdmmmohaiiocaaDoorCutWay
import Derived.Test.YtjdmmmohaiiocaaDoorExtPlain
import Derived.Test.YtjdmmmohaiiocaaDoorShelf
import Derived.Lib.IndexBytes
namespace Go.Proofs.YtjdmmmohaiiocaaDoor
open Go.RowKit

set_option maxHeartbeats 1000000 in
theorem liteCut (c : UInt8) (s : ByteArray) (w : World) (hs : s.size ≤ 16777216) :
    Calls Tryd.prog 37 #[.string s, .string ⟨#[c]⟩] w fun e w' => e = .returned (.tuple #[.string ⟨(upB c s.data.toList).toArray⟩, .string ⟨(behB c s.data.toList).toArray⟩, .bool (s.data.toList.contains c)]) ∧ Below w.heap.size w w' := by
  have hi : Lib.indexByte s.data.toList c = if s.data.toList.contains c then ((upB c s.data.toList).length : Int) else -1 := by rw [← Lib.index_one, index_while]
  have CI : Hid (∀ W, Calls Tryd.prog 51 #[.string s, .string ⟨#[c]⟩] W fun e w' => e = .returned (.int .i64 (Lib.indexByte s.data.toList c)) ∧ W = w') := fun W => (Tryd.stringslite_Index_one s c W).mono fun e w' h => ⟨h.1, h.2.symm⟩
  obtain ⟨h1, h2, _⟩ := up_beh c s.data.toList
  have hsl : s.data.toList.length = s.size := by simp
  cases hc : s.data.toList.contains c with
  | false =>
    obtain ⟨e1, e2⟩ := h2 hc
    rw [hi, hc] at CI
    rw [e1, e2, mk_data]
    clear hi h1 h2 e1 e2 hc hsl
    go_enter Tryd.func37, Tryd.ntmps37
    go_wp2_with fail
    refine (CI.out _).mono ?_
    rintro e w' ⟨rfl, rfl⟩
    go_wp2
    go_ret3
    exact ⟨rfl, Below.refl _ _⟩
  | true =>
    have e := h1 hc
    rw [hi, hc] at CI
    obtain ⟨k, hk⟩ : ∃ k, (upB c s.data.toList).length = k := ⟨_, rfl⟩
    have hlt : k + 1 ≤ s.size := by
      have := congrArg List.length e
      rw [List.length_append, List.length_cons, hk] at this
      omega
    have H1 : Hid (s.extract 0 k = ⟨(upB c s.data.toList).toArray⟩) := by
      show _ = _
      have : s.data.toList.take k = upB c s.data.toList := by
        conv => lhs; arg 2; rw [e]
        rw [← hk, List.take_left']
        rfl
      rw [← this, ← take_data, mk_data]
    have H2 : Hid (s.extract (k + 1) s.size = ⟨(behB c s.data.toList).toArray⟩) := by
      show _ = _
      have : s.data.toList.drop (k + 1) = behB c s.data.toList := by
        conv => lhs; arg 2; rw [e]
        have h3 : k + 1 = (upB c s.data.toList ++ [c]).length := by simp [hk]
        rw [h3, show upB c s.data.toList ++ c :: behB c s.data.toList = (upB c s.data.toList ++ [c]) ++ behB c s.data.toList by simp, List.drop_left']
        rfl
      rw [← this, ← drop_data, mk_data]
    rw [if_pos rfl, hk] at CI
    clear hi h1 h2 e hk hc hsl
    go_enter Tryd.func37, Tryd.ntmps37
    go_wp2_with fail
    refine (CI.out _).mono ?_
    rintro e w' ⟨rfl, rfl⟩
    go_wp2
    go_region
    all_goals (try go_wp2)
    all_goals go_ret3
    all_goals exact ⟨by rw [← H1.out, ← H2.out]; rfl, (Below.refl _ _).drew⟩
theorem implCutFree (c : UInt8) (s : ByteArray) (w : World) (hs : s.size ≤ 16777216) :
    Calls Tryd.prog 24 #[.string s, .string ⟨#[c]⟩] w fun e w' => e = .returned (.tuple #[.string ⟨(upB c s.data.toList).toArray⟩, .string ⟨(behB c s.data.toList).toArray⟩, .bool (s.data.toList.contains c)]) ∧ Below w.heap.size w w' := by
  have CC : Hid (∀ W, Calls Tryd.prog 37 #[.string s, .string ⟨#[c]⟩] W fun e w' => e = .returned (.tuple #[.string ⟨(upB c s.data.toList).toArray⟩, .string ⟨(behB c s.data.toList).toArray⟩, .bool (s.data.toList.contains c)]) ∧ Below W.heap.size W w') := fun W => liteCut c s W hs
  generalize (⟨(upB c s.data.toList).toArray⟩ : ByteArray) = A at CC ⊢
  generalize (⟨(behB c s.data.toList).toArray⟩ : ByteArray) = B at CC ⊢
  generalize s.data.toList.contains c = t at CC ⊢
  go_enter Tryd.func24, Tryd.ntmps24
  go_wp2_with fail
  refine (CC.out _).mono ?_
  rintro e w1 ⟨rfl, b1⟩
  go_wp2
  go_ret3
  exact ⟨rfl, b1⟩
end Go.Proofs.YtjdmmmohaiiocaaDoor
