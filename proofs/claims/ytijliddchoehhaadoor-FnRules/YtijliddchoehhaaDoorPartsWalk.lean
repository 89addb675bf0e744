/- Contracts of Parts, of the specification and of the program: the fields by the dot, the last one first. -/
import Derived.Test.YtijliddchoehhaaDoorRows
import Derived.Test.YtijliddchoehhaaDoorFieldsWalk
import Derived.Test.YtijliddchoehhaaDoorShelf
import Derived.Test.YtijliddchoehhaaDoorAppAt
import Derived.Sort.OwnSorted
namespace Go.Proofs.YtijliddchoehhaaDoor
open Go.RowKit

def partsL (s : ByteArray) : List ByteArray := if s.size = 0 then [] else (fieldsL s 46).reverse

theorem scells_enc (fs : List ByteArray) : scells fs = (fs.map (·.data.toList)).map Go.Proofs.encStr := by
  unfold scells
  rw [List.map_map]
  exact List.map_congr_left fun b _ => rfl

theorem enc_one : OneCell Go.Proofs.encStr := fun _ => rfl

theorem fieldsL_pos (s : ByteArray) (b : Int) : 0 < (fieldsL s b).length := by simp [fieldsL]

set_option maxHeartbeats 1000000 in
theorem implLastFirst (fs : List ByteArray) (B : Nat) (v : Value) (w : World) (h0 : 0 < fs.length) (h1 : fs.length ≤ 2097152) (hown : w.ownsRow B 9 1 v fs.length (scells fs)) :
    Calls Tryd.prog 46 #[v] w fun e w' => ∃ v', e = .returned v' ∧ w'.ownsRow w.heap.size 9 1 v' fs.length (scells fs.reverse) ∧ Below w.heap.size w w' := by
  obtain ⟨i0, hi, hz0, hz1, hz2⟩ := info_parts Tryd.infoStr
  rcases own_shape hown with ⟨h, _⟩ | ⟨_, g, cap, rfl⟩
  · omega
  · have HC : Hid (Calls Tryd.prog 62 #[.slice (some ⟨g, 0, none⟩) fs.length cap] w fun e w' => ∃ v', e = .returned v' ∧ w'.ownsRow w.heap.size 9 1 v' fs.length (scells fs) ∧ Below w.heap.size w w') := by
      refine (AnyE.slices_Clone Tryd.laysSlgn41 i0 _ 1 16 hi hz0 hz1 hz2 rfl (by decide) Tryd.sizeOf9 g 0 fs.length cap (scells fs) w (by rw [scells_length, Nat.mul_one]) (by unfold maxLen; omega) (by omega) ?_ ?_).mono ?_
      · intro j u hj
        have hjl : j < fs.length := by
          have := (List.getElem?_eq_some_iff.1 hj).1
          rwa [scells_length] at this
        rw [Nat.zero_add, scell_at hown j hjl]
        unfold scells at hj
        rw [List.getElem?_map, List.getElem?_eq_getElem hjl] at hj
        rw [← hj, List.getD_eq_getElem?_getD, List.getElem?_eq_getElem hjl]
        rfl
      · intro u hu
        unfold scells at hu
        obtain ⟨b, _, rfl⟩ := List.mem_map.1 hu
        rfl
      · rintro e w' ⟨v', he, ho, _, hb⟩
        exact ⟨v', he, ho, hb⟩
    clear hown
    go_enter Tryd.func46, Tryd.ntmps46
    go_wp2_with fail
    refine HC.out.mono ?_
    rintro e wa ⟨va, rfl, oa, ba⟩
    rcases oa.2 with ⟨_, hx⟩ | ⟨q, cq, cur, rfl, hbase, hb, p1, p2, p3, p4⟩
    · exact absurd hx (by omega)
    · have hH : Sort.Holds Go.Proofs.encStr wa q 0 (fs.map (·.data.toList)).toArray := holds_of_block hb (by rw [List.length_map, ← scells_enc]; simpa using p4)
      have HR : Hid (Calls Tryd.prog 63 #[.slice (some ⟨q, 0, none⟩) fs.length cq] wa fun e w' => e = .returned (.tuple #[]) ∧ w'.ownsRow w.heap.size 9 1 (.slice (some ⟨q, 0, none⟩) fs.length cq) fs.length (scells fs.reverse) ∧ wa.grownBy w' (some q)) := by
        have hr := AnyE.slices_Reverse Tryd.laysSlgn35 Go.Proofs.encStr enc_one q 0 cq (fs.map (·.data.toList)) wa hH (by rw [List.length_map]; omega)
        rw [List.length_map] at hr
        refine hr.mono ?_
        rintro e w' ⟨he, n, hw⟩
        refine ⟨he, ?_, ?_⟩
        · have := ownsRow_sorted (n := n) (os := #[]) (ss := fs.map (·.data.toList)) (ts := (fs.map (·.data.toList)).reverse) (by simp) hbase hb (by rw [List.length_map]; exact p1) p2 p3
          rw [Sort.grow_empty, ← hw, List.length_map, ← List.map_reverse, ← scells_enc] at this
          exact this
        · have := grownBy_sorted (w := wa) (g := q) (n := n) (os := #[]) (fs.map (·.data.toList)).reverse.toArray
          rw [Sort.grow_empty, ← hw] at this
          exact this
      clear hH hb p4 p3 p2 p1 oa
      go_wp2_with fail
      refine HR.out.mono ?_
      rintro e wb ⟨rfl, ob, gb⟩
      have B2 : Below w.heap.size w wb := ba.grown gb ba.size (fun k hk => by cases hk; exact hbase)
      clear gb ba
      go_wp2_with fail
      go_ret
      exact ⟨_, rfl, ob, B2⟩

theorem fields_le (s : ByteArray) (b : Int) : (fieldsL s b).length ≤ s.size + 1 := by
  have := (fieldsTo_le s b s.size).2
  simp [fieldsL]; omega

theorem parts_empty_yes {u : ByteArray} (h : u.size = 0) : u.toList.isEmpty = true := by
  rw [ByteArray.toList_eq, List.isEmpty_iff_length_eq_zero]
  simpa using h
theorem parts_empty_no {u : ByteArray} (h : 0 < u.size) : u.toList.isEmpty = false := by
  cases he : u.toList.isEmpty with
  | false => rfl
  | true =>
    rw [ByteArray.toList_eq, List.isEmpty_iff_length_eq_zero] at he
    have : u.size = 0 := by simpa using he
    omega

set_option maxHeartbeats 1000000 in
theorem implParts (s : ByteArray) (w : World) (hs : s.size ≤ 1048576) :
    Calls Tryd.prog 55 #[.string s] w fun e w' => ∃ v, e = .returned v ∧ w'.ownsRow w.heap.size 9 1 v (partsL s).length (scells (partsL s)) ∧ Below w.heap.size w w' := by
  by_cases h0 : s.size = 0
  · have hem := parts_empty_yes h0
    have HP : Hid (partsL s = []) := by show _ = _; unfold partsL; rw [if_pos h0]
    have HO : (w.alloc (.cells #[] 9)).ownsRow w.heap.size 9 1 (.slice (some ⟨w.heap.size, 0, none⟩) 0 0) 0 [] := World.ownsRow_lit w #[] 0 (Nat.le_refl _) (by decide) rfl
    go_enter Tryd.func55, Tryd.ntmps55
    go_wp2_with fail
    go_ret
    rw [HP.out]
    exact ⟨_, rfl, HO, (Below.refl _ _).alloc (Nat.le_refl _) _⟩
  · have hp : 0 < s.size := by omega
    have hem := parts_empty_no hp
    have HP : Hid (partsL s = (fieldsL s 46).reverse) := by show _ = _; unfold partsL; rw [if_neg h0]
    have hn := fieldsL_pos s 46
    have hn2 := fields_le s 46
    have CF : Hid (Calls Tryd.prog 26 #[.string s, .int .u8 46] w fun e w' => ∃ v, e = .returned v ∧ w'.ownsRow w.heap.size 9 1 v (fieldsL s 46).length (scells (fieldsL s 46)) ∧ Below w.heap.size w w') := implFields s 46 w hs
    go_enter Tryd.func55, Tryd.ntmps55
    go_wp2_with fail
    refine CF.out.mono ?_
    rintro e wa ⟨va, rfl, oa, ba⟩
    go_wp2_with fail
    refine (implLastFirst (fieldsL s 46) _ va wa hn (by omega) oa).mono ?_
    rintro e wb ⟨vb, rfl, ob, bb⟩
    have B := ba.trans (bb.mono ba.size)
    have O := own_base ob ba.size
    clear oa ba bb ob
    go_wp2_with fail
    go_ret
    rw [HP.out, List.length_reverse]
    exact ⟨_, rfl, O, B⟩

theorem rev_step (l : List ByteArray) (k : Nat) (h : k < l.length) : l.reverse.take (l.length - k) = l.reverse.take (l.length - (k + 1)) ++ [l.getD k ByteArray.empty] := by
  have e : l.length - k = l.length - (k + 1) + 1 := by omega
  have hk : l.length - (k + 1) < l.reverse.length := by rw [List.length_reverse]; omega
  rw [e, List.take_succ_eq_append_getElem hk, List.getElem_reverse]
  have e2 : l.length - 1 - (l.length - (k + 1)) = k := by omega
  simp only [e2]
  rw [List.getD_eq_getElem?_getD, List.getElem?_eq_getElem h]
  rfl

set_option maxHeartbeats 2000000 in
theorem specParts (s : ByteArray) (w : World) (hs : s.size ≤ 1048576) :
    Calls Tryd.prog 39 #[.string s] w fun e w' => ∃ v, e = .returned v ∧ w'.ownsRow w.heap.size 9 1 v (partsL s).length (scells (partsL s)) ∧ Below w.heap.size w w' := by
  have HO : (w.alloc (.cells #[] 9)).ownsRow w.heap.size 9 1 (.slice (some ⟨w.heap.size, 0, none⟩) 0 0) 0 [] := World.ownsRow_lit w #[] 0 (Nat.le_refl _) (by decide) rfl
  by_cases h0 : s.size = 0
  · have hem := parts_empty_yes h0
    have HP : Hid (partsL s = []) := by show _ = _; unfold partsL; rw [if_pos h0]
    go_enter Tryd.func39, Tryd.ntmps39
    go_wp2_with fail
    go_ret
    rw [HP.out]
    exact ⟨_, rfl, HO, (Below.refl _ _).alloc (Nat.le_refl _) _⟩
  · have hp : 0 < s.size := by omega
    have hem := parts_empty_no hp
    have HP : Hid (partsL s = (fieldsL s 46).reverse) := by show _ = _; unfold partsL; rw [if_neg h0]
    have hn := fieldsL_pos s 46
    have hn2 := fields_le s 46
    have CF : Hid (∀ W, Calls Tryd.prog 36 #[.string s, .int .u8 46] W fun e w' => ∃ v, e = .returned v ∧ w'.ownsRow W.heap.size 9 1 v (fieldsL s 46).length (scells (fieldsL s 46)) ∧ Below W.heap.size W w') := fun W => specFields s 46 W hs
    go_enter Tryd.func39, Tryd.ntmps39
    go_wp2_with fail
    refine (CF.out _).mono ?_
    rintro e wa ⟨va, rfl, oa, ba⟩
    have OA := own_below HO ba
    rcases own_shape oa with ⟨h, _⟩ | ⟨_, g, cap, rfl⟩
    · omega
    · have hg := (oa.lt g rfl).1
      have hg2 := (oa.lt g rfl).2
      have B0 : Below w.heap.size w wa := ((Below.refl _ w).alloc (Nat.le_refl _) _).trans (ba.mono (by simp))
      generalize fieldsL s 46 = fs at *
      obtain ⟨n, hnn⟩ : ∃ n, fs.length = n := ⟨_, rfl⟩
      clear ba HO
      have HC0 : Hid (∀ j, j < n → wa.cell? ⟨g, j, none⟩ = some (.string (fs.getD j ByteArray.empty))) := fun j hj => by
        subst hnn
        exact scell_at oa j hj
      subst hnn
      clear oa
      go_wp2_with fail
      go_loopw [3, 5] (fun v i wr => ∃ k : Nat, k ≤ fs.length ∧ i = .int .i64 ((k : Int) - 1) ∧ wr.ownsRow w.heap.size 9 1 v (fs.length - k) (scells (fs.reverse.take (fs.length - k))) ∧ (∀ j, j < fs.length → wr.cell? ⟨g, j, none⟩ = some (.string (fs.getD j ByteArray.empty))) ∧ some g ≠ v.ownBlock ∧ g < wr.heap.size ∧ Below w.heap.size w wr)
        (fun _ i _ => (intOf i + 1).toNat)
      case atStart =>
        refine ⟨fs.length, Nat.le_refl _, rfl, ?_, HC0.out, ?_, hg2, B0⟩
        · rw [Nat.sub_self]
          exact OA
        · simp [Value.ownBlock]
          simp at hg
          omega
      case round =>
        obtain ⟨k, hk, rfl, ow, hcell, hne, hgl, hbel⟩ := hrel
        have HCL : Hid (∀ j, j < fs.length → wr.cell? ⟨g, j, none⟩ = some (.string (fs.getD j ByteArray.empty))) := hcell
        have hsz := hbel.size
        cases k with
        | zero =>
          rw [Nat.sub_zero, List.take_of_length_le (by simp)] at ow
          clear hcell
          go_wp2_with fail
          go_ret
          rw [HP.out, List.length_reverse]
          exact ⟨_, rfl, ow, hbel⟩
        | succ q =>
          have hq : ((q + 1 : Nat) : Int) - 1 = (q : Int) := by omega
          have hc := hcell q (by omega)
          have hlen : (fs.length - (q + 1) + 1 : Nat) = fs.length - q := by omega
          have HS : Hid (fs.reverse.take (fs.length - q) = fs.reverse.take (fs.length - (q + 1)) ++ [fs.getD q ByteArray.empty]) := rev_step fs q (by omega)
          rw [hq]
          obtain ⟨y, hy⟩ : ∃ y, fs.getD q ByteArray.empty = y := ⟨_, rfl⟩
          rw [hy] at hc HS
          clear hcell hq hy
          have hql : (q : Int) < fs.length := by omega
          go_wp2_with (at_builtin; refine wpList_append_newAt _ rfl _ _ 30 rfl w.heap.size 9 (.string ⟨#[]⟩) 16 Tryd.underlying30 Tryd.infoStr rfl _ _ _ rfl ow #[.string y] 1 rfl rfl (str_one _) (by omega) (by unfold maxLen; omega) hsz ?_)
          intro v' w1 ow' gr hat
          have R : w1.ownsRow w.heap.size 9 1 v' (fs.length - q) (scells (fs.reverse.take (fs.length - q))) := by
            rw [HS.out, scells_snoc]
            exact ow'
          have B1 : Below w.heap.size w w1 := hbel.grown gr hsz (fun k hk => (ow.lt k hk).1)
          have hgw : w1.heap[g]? = wr.heap[g]? := gr.block g hgl hne
          have C1 : Hid (∀ j, j < fs.length → w1.cell? ⟨g, j, none⟩ = some (.string (fs.getD j ByteArray.empty))) := fun j hj =>
            (World.cell?_of_block (w := wr) (a := ⟨g, j, none⟩) hgw).trans (HCL.out j hj)
          have hne1 : some g ≠ v'.ownBlock := by
            rcases hat with h | h
            · rw [h]; exact hne
            · rw [h]; intro h2; cases h2; omega
          have hgl1 : g < w1.heap.size := Nat.lt_of_lt_of_le hgl gr.size
          clear ow ow' gr hat hbel hc HCL hgw
          go_wp2_with fail
          go_roundw
          case rel => exact ⟨q, by omega, by go_num, R, C1.out, hne1, hgl1, B1⟩
          case measure => simp [intOf]
end Go.Proofs.YtijliddchoehhaaDoor
