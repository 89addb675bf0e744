/- Contracts of the code's noTwoAlike, at texts and at numbers: the list that it is handed is sorted. -/
import Derived.Test.YtcjblhiihgdljaaGreatRows
import Derived.Test.YtcjblhiihgdljaaGreatSchKas
import Derived.Test.YtcjblhiihgdljaaGreatShelf
import Derived.Sort.OwnSortedInts
import Derived.Sort.KeysCollected
namespace Go.Proofs.YtcjblhiihgdljaaGreat
open Go.RowKit
set_option linter.unusedVariables false
set_option linter.unusedSimpArgs false

/-- A list that rises: it is as long with its doubles cut out just if there are none. -/
theorem compact_nodup {α : Type} [Inhabited α] [DecidableEq α] (le : α → α → Bool) (tr : ∀ a b c, le a b = true → le b c = true → le a c = true) (tt : ∀ a b, (le a b || le b a) = true) (an : ∀ a b, le a b = true → le b a = true → a = b) (l : List α) :
    (Lib.compact (l.mergeSort le)).length = (l.mergeSort le).length ↔ l.Nodup := by
  rw [← (List.mergeSort_perm l le).nodup_iff]
  have hp := List.pairwise_mergeSort tr tt l
  generalize l.mergeSort le = s at *
  have e : (Lib.compact s).length = s.length ↔ ∀ j, j < s.length → Lib.keeps s.toArray j = true := by
    unfold Lib.compact Lib.compactUpTo
    rw [List.length_map]
    have h := @List.length_filter_eq_length_iff Nat (Lib.keeps s.toArray) (List.range s.length)
    rw [List.length_range] at h
    rw [h]
    exact ⟨fun h j hj => h j (List.mem_range.2 hj), fun h j hj => h j (List.mem_range.1 hj)⟩
  rw [e]
  have hg : ∀ j, j < s.length → s.toArray[j]! = s.getD j default := fun j hj => by
    rw [getElem!_pos s.toArray j (by simpa using hj), List.getElem_toArray, List.getD_eq_getElem?_getD, List.getElem?_eq_getElem hj]
    rfl
  constructor
  · intro h
    rw [List.Nodup, List.pairwise_iff_getElem]
    intro i j hi hj hij hne
    have hk := h (i + 1) (by omega)
    unfold Lib.keeps at hk
    simp only [decide_eq_true_eq, Nat.add_sub_cancel] at hk
    rcases hk with hk | hk
    · omega
    · apply hk
      rw [hg (i + 1) (by omega), hg i hi]
      have h1 : le (s.getD i default) (s.getD (i + 1) default) = true := pair_at (R := fun a b => le a b = true) default hp (Nat.lt_succ_self i) (by omega)
      have h2 : le (s.getD (i + 1) default) (s.getD i default) = true := by
        have e2 : s.getD i default = s.getD j default := by
          rw [List.getD_eq_getElem?_getD, List.getD_eq_getElem?_getD, List.getElem?_eq_getElem hi, List.getElem?_eq_getElem hj]
          exact hne
        by_cases e3 : i + 1 = j
        · rw [e3, e2]
          have := tt (s.getD j default) (s.getD j default)
          simpa using this
        · rw [e2]
          exact pair_at (R := fun a b => le a b = true) default hp (show i + 1 < j by omega) hj
      exact an _ _ h2 h1
  · intro h j hj
    unfold Lib.keeps
    simp only [decide_eq_true_eq]
    by_cases h0 : j = 0
    · exact .inl h0
    · refine .inr fun e2 => ?_
      rw [hg j hj, hg (j - 1) (by omega)] at e2
      have := pair_at (R := fun a b => a ≠ b) default h (show j - 1 < j by omega) hj
      exact this e2.symm
theorem compact_le {α : Type} [Inhabited α] [DecidableEq α] (l : List α) : (Lib.compact l).length ≤ l.length := by
  unfold Lib.compact Lib.compactUpTo
  rw [List.length_map]
  have := List.length_filter_le (Lib.keeps l.toArray) (List.range l.length)
  rwa [List.length_range] at this
theorem leS_tr : ∀ a b c : List UInt8, decide (a ≤ b) = true → decide (b ≤ c) = true → decide (a ≤ c) = true := fun a b c h1 h2 => by simp only [decide_eq_true_eq] at *; exact List.le_trans h1 h2
theorem leS_to : ∀ a b : List UInt8, (decide (a ≤ b) || decide (b ≤ a)) = true := fun a b => by simp only [Bool.or_eq_true, decide_eq_true_eq]; exact List.le_total a b
theorem leS_an : ∀ a b : List UInt8, decide (a ≤ b) = true → decide (b ≤ a) = true → a = b := fun a b h1 h2 => by simp only [decide_eq_true_eq] at *; exact List.le_antisymm h1 h2
theorem leI_tr : ∀ a b c : Int, decide (a ≤ b) = true → decide (b ≤ c) = true → decide (a ≤ c) = true := fun a b c h1 h2 => by simp only [decide_eq_true_eq] at *; omega
theorem leI_to : ∀ a b : Int, (decide (a ≤ b) || decide (b ≤ a)) = true := fun a b => by simp only [Bool.or_eq_true, decide_eq_true_eq]; omega
theorem leI_an : ∀ a b : Int, decide (a ≤ b) = true → decide (b ≤ a) = true → a = b := fun a b h1 h2 => by simp only [decide_eq_true_eq] at *; omega
theorem scells_enc (ks : List ByteArray) : scells ks = (ks.map fun b => b.data.toList).map encStr := by
  unfold scells
  rw [List.map_map]
  refine List.map_congr_left fun b _ => ?_
  show Value.string b = Value.string ⟨b.data.toList.toArray⟩
  rw [Array.toArray_toList]
theorem bytes_nodup (ks : List ByteArray) : (ks.map fun b => b.data.toList).Nodup ↔ ks.Nodup := by
  unfold List.Nodup
  rw [List.pairwise_map]
  refine ⟨fun h => h.imp fun hne e => hne (by rw [e]), fun h => h.imp fun hne e => hne (ByteArray.ext (by rw [← Array.toList_inj]; exact e))⟩
/-- A truth that tells whether p is answered; nothing but the row of v has turned. -/
def AnsG (v : Value) (p : Prop) (w : World) (e : Ending) (w' : World) : Prop := ∃ b, e = .returned (.bool b) ∧ BIs b p ∧ w.grownBy w' v.ownBlock
theorem AnsG.mk {v : Value} {p : Prop} {w w' : World} {b : Bool} (h : BIs b p) (hb : w.grownBy w' v.ownBlock) : AnsG v p w (.returned (.bool b)) w' := ⟨b, rfl, h, hb⟩
theorem putS_grown (w : World) (k g : Nat) (d : Array (List UInt8)) (x : Nat) : w.grownBy (Sort.putRow encStr (Sort.ahead w k) g x d) (some g) := by
  refine ⟨rfl, rfl, rfl, by simp [Sort.putRow, Sort.mapBlock, Sort.ahead], fun j hj hne => ?_⟩
  have : g ≠ j := fun e => hne (by rw [e])
  simp [Sort.putRow, Sort.mapBlock, Sort.ahead, Array.getElem?_modify, this]
theorem putI_grown (w : World) (k g : Nat) (d : Array Int) (x : Nat) : w.grownBy (Sort.putRow (Value.int .i64) (Sort.ahead w k) g x d) (some g) := by
  refine ⟨rfl, rfl, rfl, by simp [Sort.putRow, Sort.mapBlock, Sort.ahead], fun j hj hne => ?_⟩
  have : g ≠ j := fun e => hne (by rw [e])
  simp [Sort.putRow, Sort.mapBlock, Sort.ahead, Array.getElem?_modify, this]
set_option maxHeartbeats 8000000 in
theorem implTwoS (v : Value) (n : Nat) (ks : List ByteArray) (B : Nat) (w : World) (hl : ks.length = n) (hn : n ≤ 200) (h : w.ownsRow B 9 1 v n (scells ks)) :
    Calls Tryz.prog 58 #[v] w fun e w' => AnsG v ks.Nodup w e w' := by
  have hxl : (ks.map fun b => b.data.toList).length = n := by rw [List.length_map, hl]
  have hce : scells ks = (ks.map fun b => b.data.toList).map encStr := scells_enc ks
  by_cases h0 : n = 0
  · subst h0
    have hk0 : ks = [] := List.eq_nil_of_length_eq_zero hl
    subst hk0
    obtain ⟨ao, ac, hv⟩ : ∃ a c, v = .slice a 0 c := by
      rcases own_shape h with ⟨_, _, a, c, e⟩ | ⟨h1, _⟩
      · exact ⟨a, c, e⟩
      · exact absurd h1 (Nat.lt_irrefl _)
    subst hv
    have C1 : Hid (∀ W, Calls Tryz.prog 114 #[.slice ao 0 ac] W fun e w' => e = .returned (.tuple #[]) ∧ w' = W) := fun W => Tryz.slices_Sort_string_none ao ac W
    have C2 : Hid (∀ W, Calls Tryz.prog 115 #[.slice ao 0 ac] W fun e w' => e = .returned (.slice ao 0 ac) ∧ w' = W) := fun W => Tryz.slices_Compact_string_empty ao ac W
    have HE : Hid (BIs true (([] : List ByteArray).Nodup)) := BIs.yes List.nodup_nil
    clear h
    go_enter Tryz.func58, Tryz.ntmps58
    go_wp2_with fail
    refine (C1.out _).mono ?_
    rintro e w1 ⟨rfl, rfl⟩
    go_wp2_with fail
    refine (C2.out _).mono ?_
    rintro e w2 ⟨rfl, rfl⟩
    go_wp2_with fail
    go_ret
    exact AnsG.mk HE.out (World.grownBy.refl _ _)
  · rcases h.2 with ⟨_, h1⟩ | ⟨g, cap, cur, rfl, hb, hgg, h1, h2, h3, h4⟩
    · exact absurd h1 h0
    · have hg : g < w.heap.size := (h.lt g rfl).2
      have HH := holds_of_block hgg (by rw [hxl]; simpa [hce] using h4)
      obtain ⟨ts, hts⟩ : ∃ ts, ((ks.map fun b => b.data.toList).mergeSort fun x y => decide (x ≤ y)) = ts := ⟨_, rfl⟩
      have htl : ts.length = n := by rw [← hts, (List.mergeSort_perm _ _).length_eq, hxl]
      have HND : Hid ((Lib.compact ts).length = n ↔ ks.Nodup) := hidM (by
        have := compact_nodup (fun x y => decide (x ≤ y)) leS_tr leS_to leS_an ((ks.map fun b => b.data.toList))
        rw [hts, htl] at this
        rw [this]
        exact bytes_nodup ks)
      have C1 : Hid (Calls Tryz.prog 114 #[.slice (some ⟨g, 0, none⟩) n cap] w fun e w' => e = .returned (.tuple #[]) ∧ w'.ownsRow B 9 1 (.slice (some ⟨g, 0, none⟩) n cap) n (ts.map encStr) ∧ w.grownBy w' (some g)) := by
        have := Tryz.slices_Sort_string g 0 cap ((ks.map fun b => b.data.toList)) w HH hg (by rw [hxl]; omega)
        rw [hxl, hts] at this
        refine this.mono ?_
        rintro e w' ⟨rfl, k, os, rfl⟩
        have o := ownsRow_sorted (ss := (ks.map fun b => b.data.toList)) (os := os) (n := k) (ts := ts) (by rw [htl, hxl]) hb hgg (by rw [hxl]; exact h1) h2 h3
        rw [hxl] at o
        exact ⟨rfl, o, grownBy_sorted _⟩
      have C2 : Hid (∀ W, W.ownsRow B 9 1 (.slice (some ⟨g, 0, none⟩) n cap) n (ts.map encStr) → Calls Tryz.prog 115 #[.slice (some ⟨g, 0, none⟩) n cap] W fun e w' => e = .returned (.slice (some ⟨g, 0, none⟩) (Lib.compact ts).length cap) ∧ W.grownBy w' (some g)) := fun W hW => by
        rcases hW.2 with ⟨hv, _⟩ | ⟨g', cap', cur', e, hb', hgg', h1', h2', h3', h4'⟩
        · cases hv
        · cases e
          have HH' := holds_of_block hgg' (by rw [htl]; simpa using h4')
          have := Tryz.slices_Compact_string g 0 cap ts W HH' (by rw [htl]; omega) (by rw [htl]; exact h1')
          rw [htl] at this
          refine this.mono ?_
          rintro e w' ⟨rfl, k, rfl⟩
          exact ⟨rfl, putS_grown _ _ _ _ _⟩
      have HB1 : Hid (∀ W W', w.grownBy W (some g) → W.grownBy W' (some g) → w.grownBy W' (Value.ownBlock (.slice (some ⟨g, 0, none⟩) n cap))) := fun W W' a b => grow_trans a b
      have hcl : (Lib.compact ts).length ≤ n := by rw [← htl]; exact compact_le ts
      generalize (Lib.compact ts).length = M at *
      clear HH hgg h1 h3 h4 h hts htl
      go_enter Tryz.func58, Tryz.ntmps58
      go_wp2_with fail
      refine C1.out.mono ?_
      rintro e w1 ⟨rfl, o1, g1⟩
      have C3 := hidM (C2.out w1 o1)
      have HB2 := hidM (fun W' h => HB1.out w1 W' g1 h)
      clear o1 g1 C1 C2 HB1
      go_wp2_with fail
      refine C3.out.mono ?_
      rintro e w2 ⟨rfl, g2⟩
      have B2 := HB2.out w2 g2
      clear g2 C3 HB2
      by_cases hm : M = n
      · have HZ : Hid (BIs true (ks.Nodup)) := BIs.yes (HND.out.1 hm)
        have hmz : ((M : Int) == (n : Int)) = true := by simp [hm]
        clear HND hm
        go_wp2_with fail
        go_ret
        exact AnsG.mk HZ.out B2
      · have HZ : Hid (BIs false (ks.Nodup)) := BIs.no fun h => hm (HND.out.2 h)
        have hmz : ((M : Int) == (n : Int)) = false := by simp; omega
        clear HND
        go_wp2_with fail
        go_ret
        exact AnsG.mk HZ.out B2
set_option maxHeartbeats 8000000 in
theorem implTwoI (v : Value) (n : Nat) (ks : List Int) (B : Nat) (w : World) (hl : ks.length = n) (hn : n ≤ 200) (h : w.ownsRow B 3 1 v n (icells ks)) :
    Calls Tryz.prog 59 #[v] w fun e w' => AnsG v ks.Nodup w e w' := by
  have hce : icells ks = ks.map (Value.int .i64) := rfl
  by_cases h0 : n = 0
  · subst h0
    have hk0 : ks = [] := List.eq_nil_of_length_eq_zero hl
    subst hk0
    obtain ⟨ao, ac, hv⟩ : ∃ a c, v = .slice a 0 c := by
      rcases own_shape h with ⟨_, _, a, c, e⟩ | ⟨h1, _⟩
      · exact ⟨a, c, e⟩
      · exact absurd h1 (Nat.lt_irrefl _)
    subst hv
    have C1 : Hid (∀ W, Calls Tryz.prog 116 #[.slice ao 0 ac] W fun e w' => e = .returned (.tuple #[]) ∧ w' = W) := fun W => Tryz.slices_Sort_int_none ao ac W
    have C2 : Hid (∀ W, Calls Tryz.prog 117 #[.slice ao 0 ac] W fun e w' => e = .returned (.slice ao 0 ac) ∧ w' = W) := fun W => Tryz.slices_Compact_int_empty ao ac W
    have HE : Hid (BIs true (([] : List Int).Nodup)) := BIs.yes List.nodup_nil
    clear h
    go_enter Tryz.func59, Tryz.ntmps59
    go_wp2_with fail
    refine (C1.out _).mono ?_
    rintro e w1 ⟨rfl, rfl⟩
    go_wp2_with fail
    refine (C2.out _).mono ?_
    rintro e w2 ⟨rfl, rfl⟩
    go_wp2_with fail
    go_ret
    exact AnsG.mk HE.out (World.grownBy.refl _ _)
  · rcases h.2 with ⟨_, h1⟩ | ⟨g, cap, cur, rfl, hb, hgg, h1, h2, h3, h4⟩
    · exact absurd h1 h0
    · have hg : g < w.heap.size := (h.lt g rfl).2
      have HH := holds_of_blockI hgg (by rw [hl]; simpa [hce] using h4)
      obtain ⟨ts, hts⟩ : ∃ ts, (ks.mergeSort fun x y => decide (x ≤ y)) = ts := ⟨_, rfl⟩
      have htl : ts.length = n := by rw [← hts, (List.mergeSort_perm _ _).length_eq, hl]
      have HND : Hid ((Lib.compact ts).length = n ↔ ks.Nodup) := hidM (by
        have := compact_nodup (fun x y => decide (x ≤ y)) leI_tr leI_to leI_an (ks)
        rw [hts, htl] at this
        rw [this]
        try exact Iff.rfl)
      have C1 : Hid (Calls Tryz.prog 116 #[.slice (some ⟨g, 0, none⟩) n cap] w fun e w' => e = .returned (.tuple #[]) ∧ w'.ownsRow B 3 1 (.slice (some ⟨g, 0, none⟩) n cap) n (ts.map (Value.int .i64)) ∧ w.grownBy w' (some g)) := by
        have := Tryz.slices_Sort_int g 0 cap (ks) w HH hg (by rw [hl]; omega)
        rw [hl, hts] at this
        refine this.mono ?_
        rintro e w' ⟨rfl, k, os, rfl⟩
        have o := ownsRow_sortedI (ss := ks) (os := os) (n := k) (ts := ts) (by rw [htl, hl]) hb hgg (by rw [hl]; exact h1) h2 h3
        rw [hl] at o
        exact ⟨rfl, o, grownBy_sortedI _⟩
      have C2 : Hid (∀ W, W.ownsRow B 3 1 (.slice (some ⟨g, 0, none⟩) n cap) n (ts.map (Value.int .i64)) → Calls Tryz.prog 117 #[.slice (some ⟨g, 0, none⟩) n cap] W fun e w' => e = .returned (.slice (some ⟨g, 0, none⟩) (Lib.compact ts).length cap) ∧ W.grownBy w' (some g)) := fun W hW => by
        rcases hW.2 with ⟨hv, _⟩ | ⟨g', cap', cur', e, hb', hgg', h1', h2', h3', h4'⟩
        · cases hv
        · cases e
          have HH' := holds_of_blockI hgg' (by rw [htl]; simpa using h4')
          have := Tryz.slices_Compact_int g 0 cap ts W HH' (by rw [htl]; omega) (by rw [htl]; exact h1')
          rw [htl] at this
          refine this.mono ?_
          rintro e w' ⟨rfl, k, rfl⟩
          exact ⟨rfl, putI_grown _ _ _ _ _⟩
      have HB1 : Hid (∀ W W', w.grownBy W (some g) → W.grownBy W' (some g) → w.grownBy W' (Value.ownBlock (.slice (some ⟨g, 0, none⟩) n cap))) := fun W W' a b => grow_trans a b
      have hcl : (Lib.compact ts).length ≤ n := by rw [← htl]; exact compact_le ts
      generalize (Lib.compact ts).length = M at *
      clear HH hgg h1 h3 h4 h hts htl
      go_enter Tryz.func59, Tryz.ntmps59
      go_wp2_with fail
      refine C1.out.mono ?_
      rintro e w1 ⟨rfl, o1, g1⟩
      have C3 := hidM (C2.out w1 o1)
      have HB2 := hidM (fun W' h => HB1.out w1 W' g1 h)
      clear o1 g1 C1 C2 HB1
      go_wp2_with fail
      refine C3.out.mono ?_
      rintro e w2 ⟨rfl, g2⟩
      have B2 := HB2.out w2 g2
      clear g2 C3 HB2
      by_cases hm : M = n
      · have HZ : Hid (BIs true (ks.Nodup)) := BIs.yes (HND.out.1 hm)
        have hmz : ((M : Int) == (n : Int)) = true := by simp [hm]
        clear HND hm
        go_wp2_with fail
        go_ret
        exact AnsG.mk HZ.out B2
      · have HZ : Hid (BIs false (ks.Nodup)) := BIs.no fun h => hm (HND.out.2 h)
        have hmz : ((M : Int) == (n : Int)) = false := by simp; omega
        clear HND
        go_wp2_with fail
        go_ret
        exact AnsG.mk HZ.out B2
end Go.Proofs.YtcjblhiihgdljaaGreat
