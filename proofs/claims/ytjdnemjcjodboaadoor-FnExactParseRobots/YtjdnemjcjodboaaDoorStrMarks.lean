/- Contracts of the laws' own helpers over rows of texts: markText, eqStringS, markStringS, heldStringS. -/
import Derived.Test.YtjdnemjcjodboaaDoorRows
import Derived.Test.YtjdnemjcjodboaaDoorBase
import Derived.BigQuiet
import Derived.Deep.QuietTactic
import Derived.Deep.RegionWith
namespace Go.Proofs.YtjdnemjcjodboaaDoor
open Go.RowKit

def mtF : Nat → Nat → List UInt8 → List UInt8
  | 0, _, l => l
  | f + 1, k, l => if k = 0 then l else mtF f (k / 10) (UInt8.ofNat (48 + k % 10) :: l)

theorem mtF_fuel : ∀ (f g k : Nat) (l : List UInt8), k ≤ f → k ≤ g → mtF f k l = mtF g k l
  | 0, g, k, l, hf, _ => by
    have : k = 0 := by omega
    subst this
    cases g <;> simp [mtF]
  | f + 1, 0, k, l, _, hg => by
    have : k = 0 := by omega
    subst this
    simp [mtF]
  | f + 1, g + 1, k, l, hf, hg => by
    simp only [mtF]
    by_cases h : k = 0
    · rw [if_pos h, if_pos h]
    · rw [if_neg h, if_neg h]
      exact mtF_fuel f g (k / 10) _ (by omega) (by omega)

def mt (k : Nat) (l : List UInt8) : List UInt8 := mtF k k l

theorem mt_zero (l : List UInt8) : mt 0 l = l := rfl

theorem mt_step (k : Nat) (l : List UInt8) (h : ¬ k = 0) : mt k l = mt (k / 10) (UInt8.ofNat (48 + k % 10) :: l) := by
  unfold mt
  cases k with
  | zero => exact absurd rfl h
  | succ f =>
    rw [mtF, if_neg h]
    exact mtF_fuel f _ _ _ (by omega) (Nat.le_refl _)

def markS (k : Nat) : ByteArray := ⟨(if k = 0 then [109, 48] else 109 :: mt k []).toArray⟩

set_option maxHeartbeats 1000000 in
theorem markText (k0 : Nat) (w : World) (hk0 : 0 < k0) (hk : k0 ≤ 1099511627776) :
    Calls Tryd.prog 82 #[.int .i64 (k0 : Int)] w fun e w' => e = .returned (.string (markS k0)) ∧ Below w.heap.size w w' := by
  go_enter Tryd.func82, Tryd.ntmps82
  go_wp2
  go_loopw [0, 3] (fun a o wr => ∃ (k : Nat) (l : List UInt8), a = .int .i64 k ∧ o = .string ⟨l.toArray⟩ ∧ mt k l = mt k0 [] ∧ l.length + k ≤ k0 ∧ Below w.heap.size w wr)
    (fun a _ _ => (intOf a).toNat)
  case atStart => exact ⟨k0, [], rfl, rfl, rfl, by simp, Below.refl _ _⟩
  case round =>
    obtain ⟨k, l, rfl, rfl, hm, hle, hbel⟩ := hrel
    have HM : Hid (mt k l = mt k0 []) := hm
    clear hm
    have hsz := hbel.size
    by_cases hp : 0 < k
    · have hdig := run_digit (P := Tryd.prog) wr 22 9 5 Tryd.underlying22 Tryd.underlying5 Tryd.underlying9 (48 + k % 10) (by omega) (48 + (k : Int) % 10) (by omega)
      obtain ⟨d, hd⟩ : ∃ d, d = UInt8.ofNat (48 + k % 10) := ⟨_, rfl⟩
      rw [← hd] at hdig
      have HD : Hid (d = UInt8.ofNat (48 + k % 10)) := hd
      clear hd
      go_wp2
      go_roundw
      case rel => exact ⟨k / 10, d :: l, by go_num, by rw [bytes_cons], by rw [← HM.out, mt_step k l (by omega), HD.out], by simp; omega, hbel.alloc hsz _⟩
      case measure => simp [intOf]; omega
    · have hz : k = 0 := by omega
      have hl : l = mt k0 [] := by rw [← HM.out, hz, mt_zero]
      have HL : Hid (l = mt k0 []) := hl
      clear hl hz
      go_wp2
      go_ret
      refine ⟨?_, hbel⟩
      unfold markS
      rw [if_neg (by omega), ← HL.out, ← bytes_cons]
      rfl

set_option maxHeartbeats 1000000 in
theorem eqStringS (fs : List ByteArray) (va vb : Value) (Ba Bb : Nat) (w : World) (hn : fs.length ≤ 1099511627776)
    (ha : w.ownsRow Ba 9 1 va fs.length (scells fs)) (hb : w.ownsRow Bb 9 1 vb fs.length (scells fs)) :
    Calls Tryd.prog 80 #[va, vb] w fun e w' => e = .returned (.bool true) ∧ Below w.heap.size w w' := by
  rcases own_shape ha with ⟨hz, _, ao, cap, rfl⟩ | ⟨hp, g, cap, rfl⟩
  · rw [hz] at hb
    rcases own_shape hb with ⟨_, _, bo, cap', rfl⟩ | ⟨hp, _⟩
    · clear ha hb
      go_enter Tryd.func80, Tryd.ntmps80
      go_wp2
      refine wp_loop_rounds 1 ?_
      rw [rounds_succ]
      go_wp2
      go_ret
      exact ⟨rfl, Below.refl _ _⟩
    · omega
  · rcases own_shape hb with ⟨hz, _⟩ | ⟨_, g', cap', rfl⟩
    · omega
    · generalize hN : fs.length = n at *
      clear hN
      go_enter Tryd.func80, Tryd.ntmps80
      go_wp2
      go_loopw [5] (fun i wr => ∃ k : Nat, k ≤ n ∧ i = .int .i64 k ∧ Below w.heap.size w wr) (fun i _ => n - (intOf i).toNat)
      case atStart => exact ⟨0, Nat.zero_le _, rfl, Below.refl _ _⟩
      case round =>
        obtain ⟨k, hk, rfl, hbel⟩ := hrel
        by_cases hlt : k < n
        · have ca := scell_at (own_below ha hbel) k hlt
          have cb := scell_at (own_below hb hbel) k hlt
          generalize fs.getD k ByteArray.empty = x at ca cb
          go_wp2
          go_quiet (fail)
          go_wp2
          go_roundw
          case rel => exact ⟨k + 1, by omega, by go_num, below_drewN hbel _⟩
          case measure => simp [intOf]; omega
        · go_wp2
          go_ret
          exact ⟨rfl, hbel⟩

theorem markTextI (x : Int) (w : World) (h0 : 0 < x) (h1 : x ≤ 1099511627776) :
    Calls Tryd.prog 82 #[.int .i64 x] w fun e w' => e = .returned (.string (markS x.toNat)) ∧ Below w.heap.size w w' := by
  obtain ⟨k, rfl⟩ := Int.eq_ofNat_of_zero_le (Int.le_of_lt h0)
  exact markText k w (by omega) (by omega)

def marks (k0 n : Nat) : List ByteArray := (List.range n).map fun i => markS (k0 + i)

theorem marks_succ (k0 n : Nat) : marks k0 (n + 1) = marks k0 n ++ [markS (k0 + n)] := by simp [marks, List.range_succ]

theorem marks_length (k0 n : Nat) : (marks k0 n).length = n := by simp [marks]

theorem marks_at (k0 n k : Nat) (h : k < n) : (marks k0 n).getD k ByteArray.empty = markS (k0 + k) := by simp [marks, List.getD, h]

theorem marks_set (k0 : Nat) (xs : List Value) (k : Nat) (h : k < xs.length) :
    (scells (marks k0 k) ++ xs.drop k).set k (.string (markS (k0 + k))) = scells (marks k0 (k + 1)) ++ xs.drop (k + 1) := by
  rw [List.set_append_right _ _ (by simp [scells_length, marks_length])]
  rw [marks_succ, scells_snoc]
  simp only [scells_length, marks_length, Nat.sub_self, List.append_assoc, List.append_cancel_left_eq]
  rw [List.drop_eq_getElem_cons h]
  rfl

set_option maxHeartbeats 1000000 in
theorem markStringS (k0 n : Nat) (v : Value) (B : Nat) (xs : List Value) (w : World) (hk0 : 0 < k0) (hn : k0 + n ≤ 1099511627776) (hown0 : w.ownsRow B 9 1 v n xs) :
    Calls Tryd.prog 63 #[v, .int .i64 (k0 : Int)] w fun e w' => e = .returned (.int .i64 ((k0 + n : Nat) : Int)) ∧ w'.ownsRow B 9 1 v n (scells (marks k0 n)) ∧ w.grownBy w' v.ownBlock := by
  rcases own_shape hown0 with ⟨hz, hxs, ao, cap, rfl⟩ | ⟨hp, g, cap, rfl⟩
  · subst hz
    subst hxs
    go_enter Tryd.func63, Tryd.ntmps63
    go_wp2
    refine wp_loop_rounds 1 ?_
    rw [rounds_succ]
    go_wp2
    go_ret
    exact ⟨rfl, hown0, World.grownBy.refl _ _⟩
  · have hxl : xs.length = n := by simpa using hown0.1
    have HX : Hid (xs.length = n) := hxl
    clear hxl
    go_enter Tryd.func63, Tryd.ntmps63
    go_wp2
    go_loopw [1, 5] (fun a i wr => ∃ k : Nat, k ≤ n ∧ i = .int .i64 k ∧ a = .int .i64 ((k0 : Int) + k) ∧ wr.ownsRow B 9 1 (.slice (some ⟨g, 0, none⟩) n cap) n (scells (marks k0 k) ++ xs.drop k) ∧ w.grownBy wr (some g)) (fun _ i _ => n - (intOf i).toNat)
    case atStart => exact ⟨0, Nat.zero_le _, rfl, by simp, by simpa [marks, scells] using hown0, World.grownBy.refl _ _⟩
    case round =>
      obtain ⟨k, hk, rfl, rfl, hown, hgr⟩ := hrel
      by_cases hlt : k < n
      · go_wp2_with (go_at_call 82; refine (markTextI _ _ (by omega) (by omega)).mono ?_; rintro e wc ⟨rfl, hbc⟩; have hown2 := own_below hown hbc; have hfz := hown2.frozenAt k; obtain ⟨u, hcl⟩ := own_some hown2 k hlt)
        have R := hown2.stored k (.string (markS (k0 + k)))
        rw [marks_set k0 xs k (by have := HX.out; omega)] at R
        have G := grow_trans (grow_below hgr hbc) R.2
        have R1 := R.1
        clear R hown hown2 hbc hgr hown0
        go_roundw
        case rel => exact ⟨k + 1, by omega, by go_num, by go_num, R1, G⟩
        case measure => simp [intOf]; omega
      · have hkn : k = n := by omega
        have HK : Hid (k = n) := hkn
        clear hkn
        go_wp2
        go_ret
        refine ⟨ret_int (by have := HK.out; omega), ?_, hgr⟩
        have := HX.out
        rw [List.drop_eq_nil_of_le (by have := HK.out; omega), List.append_nil] at hown
        rw [HK.out] at hown
        exact hown

set_option maxHeartbeats 1000000 in
theorem heldStringS (k0 n : Nat) (v : Value) (B : Nat) (w : World) (hk0 : 0 < k0) (hn : k0 + n ≤ 1099511627776) (hown0 : w.ownsRow B 9 1 v n (scells (marks k0 n))) :
    Calls Tryd.prog 65 #[v, .int .i64 (k0 : Int)] w fun e w' => e = .returned (.int .i64 ((k0 + n : Nat) : Int)) ∧ Below w.heap.size w w' := by
  rcases own_shape hown0 with ⟨hz, _, ao, cap, rfl⟩ | ⟨hp, g, cap, rfl⟩
  · subst hz
    clear hown0
    go_enter Tryd.func65, Tryd.ntmps65
    go_wp2
    refine wp_loop_rounds 1 ?_
    rw [rounds_succ]
    go_wp2
    go_ret
    exact ⟨rfl, Below.refl _ _⟩
  · go_enter Tryd.func65, Tryd.ntmps65
    go_wp2
    go_loopw [1, 5] (fun a i wr => ∃ k : Nat, k ≤ n ∧ i = .int .i64 k ∧ a = .int .i64 ((k0 : Int) + k) ∧ Below w.heap.size w wr) (fun _ i _ => n - (intOf i).toNat)
    case atStart => exact ⟨0, Nat.zero_le _, rfl, by simp, Below.refl _ _⟩
    case round =>
      obtain ⟨k, hk, rfl, rfl, hbel⟩ := hrel
      by_cases hlt : k < n
      · have ca := scell_at (own_below hown0 hbel) k hlt
        rw [marks_at k0 n k hlt] at ca
        have hg : g < wr.heap.size := World.block_lt_of_cell? wr ⟨g, k, none⟩ ca
        have hsz := hbel.size
        have hkk : ((k0 : Int) + (k : Int)).toNat = k0 + k := by omega
        go_wp2_with fail
        go_region_with (go_at_call 82; refine (markTextI _ _ (by omega) (by omega)).mono ?_; rintro e wc ⟨rfl, hbc⟩; have cc := cell_later hbc ca)
        all_goals
          go_wp2
          go_roundw
          case rel => exact ⟨k + 1, by omega, by go_num, by go_num, hbel.trans ((Below.drew (Below.refl _ wr)).trans (hbc.mono (by simp; omega)))⟩
          case measure => simp [intOf]; omega
      · go_wp2
        go_ret
        exact ⟨ret_int (by omega), hbel⟩
end Go.Proofs.YtjdnemjcjodboaaDoor
