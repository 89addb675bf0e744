/- Contract of the program's groupsText: groups as a text. -/
import Derived.Test.YtophgcneckjdjaaDoorRows
import Derived.Test.YtophgcneckjdjaaDoorHexImpl
namespace Go.Proofs.YtophgcneckjdjaaDoor
open Go.RowKit

theorem jl_snoc (b : UInt8) : ∀ {l : List (List UInt8)} {x : List UInt8}, l ≠ [] → jl b (l ++ [x]) = jl b l ++ b :: x
  | [], _, h => absurd rfl h
  | [y], x, _ => rfl
  | y :: z :: r, x, _ => by
    have ih := jl_snoc b (l := z :: r) (x := x) (by simp)
    rw [List.cons_append, List.cons_append, jl, jl, ← List.cons_append, ih]
    simp
theorem gt_zero (gs : List Nat) (h : 0 < gs.length) : gtL (gs.take 1) = hex4 (gs.getD 0 0) := by
  cases gs with
  | nil => simp at h
  | cons g r => rfl
theorem gt_succ (gs : List Nat) (k : Nat) (h : k < gs.length) (hk : 0 < k) : gtL (gs.take (k + 1)) = gtL (gs.take k) ++ [58] ++ hex4 (gs.getD k 0) := by
  unfold gtL
  rw [List.take_succ_eq_append_getElem h, List.map_append, List.map_cons, List.map_nil, jl_snoc]
  · simp [List.getD, h]
  · intro e
    have h1 : ((gs.take k).map hex4).length = 0 := by rw [e]; rfl
    rw [List.length_map, List.length_take] at h1
    omega

/-- A slice's elements are these groups. -/
def GrpAt (w : World) (g off : Nat) (gs : List Nat) : Prop := ∀ j, j < gs.length → w.cell? ⟨g, off + j, none⟩ = some (.int .i64 ((gs.getD j 0 : Nat) : Int))
theorem GrpAt.later {w w' : World} {g off : Nat} {gs : List Nat} (h : GrpAt w g off gs) (hb : Below w.heap.size w w') : GrpAt w' g off gs := fun j hj => cell_later hb (h j hj)

set_option maxRecDepth 20000 in
set_option maxHeartbeats 4000000 in
theorem implGroupsText (g off cap : Nat) (gs : List Nat) (w : World) (hl : gs.length ≤ 8) (hg : ∀ x ∈ gs, x < 65536) (hc : GrpAt w g off gs) (hT : Bruijn w) :
    Calls Tryd.prog 33 #[.slice (some ⟨g, off, none⟩) gs.length cap] w fun e w' => e = .returned (.string ⟨(gtL gs).toArray⟩) ∧ Below w.heap.size w w' := by
  have HT : Hid (Bruijn w) := hT
  have HC : Hid (GrpAt w g off gs) := hc
  have HG : Hid (∀ x ∈ gs, x < 65536) := hg
  clear hT hc hg
  go_enter Tryd.func33, Tryd.ntmps33
  go_wp2
  go_loopw [3, 9] (fun b i wr => ∃ k : Nat, k ≤ gs.length ∧ i = .int .i64 k ∧ wr.ownsRow w.heap.size 5 1 b (gtL (gs.take k)).length (bcells (gtL (gs.take k))) ∧ Below w.heap.size w wr)
    (fun _ i _ => gs.length - (intOf i).toNat)
  case atStart => exact ⟨0, Nat.zero_le _, rfl, World.ownsRow_lit w #[] 0 (Nat.le_refl _) (by decide) rfl, (Below.refl _ _).alloc (Nat.le_refl _) _⟩
  case round =>
    obtain ⟨k, hk, rfl, hown, hbel⟩ := hrel
    have hsz := hbel.size
    have HTW : Hid (Bruijn wr) := bruijn_below HT.out hbel
    have hlen : (gtL (gs.take k)).length ≤ 100 := by
      have := (gt_len (gs.take k)).1
      rw [List.length_take] at this
      omega
    by_cases hlt : k < gs.length
    · have hce := (HC.out.later hbel) k hlt
      have hm : gs.getD k 0 < 65536 := HG.out _ (by
        rw [List.getD_eq_getElem?_getD, List.getElem?_eq_getElem hlt]
        exact List.getElem_mem hlt)
      have HS : Hid (0 < k → gtL (gs.take (k + 1)) = gtL (gs.take k) ++ [58] ++ hex4 (gs.getD k 0)) := fun h => gt_succ gs k hlt h
      have HZ : Hid (k = 0 → gtL (gs.take (k + 1)) = gtL (gs.take k) ++ hex4 (gs.getD k 0)) := fun h => by
        subst h
        rw [gt_zero gs hlt]
        rfl
      have CA : Hid (∀ (v : Value) (l : List UInt8) (W : World), Bruijn W → W.ownsRow w.heap.size 5 1 v l.length (bcells l) → w.heap.size ≤ W.heap.size → l.length ≤ 1000 → Calls Tryd.prog 27 #[v, .int .i64 ((gs.getD k 0 : Nat) : Int), .int .i64 16] W fun e w' => ∃ v', e = .returned v' ∧ w'.ownsRow w.heap.size 5 1 v' (l ++ hex4 (gs.getD k 0)).length (bcells (l ++ hex4 (gs.getD k 0))) ∧ Below w.heap.size W w') := fun v l W a b c d => implAppHex _ _ v l W (by omega) (by omega) a b c d
      obtain ⟨x, hx⟩ : ∃ x : Int, ((gs.getD k 0 : Nat) : Int) = x := ⟨_, rfl⟩
      rw [hx] at hce CA
      have hx0 : 0 ≤ x := by omega
      have hx1 : x < 65536 := by omega
      generalize gs.getD k 0 = y at hx CA HS HZ hm
      clear hx hm
      by_cases h0 : k = 0
      · subst h0
        rw [Nat.add_zero] at hce
        go_wp2_with fail
        refine (CA.out _ _ _ HTW.out hown hsz (by omega)).mono ?_
        rintro e wb ⟨vb, rfl, o2, b2⟩
        have B2 := hbel.trans b2
        clear hown hbel b2
        go_wp2_with fail
        go_roundw
        case rel =>
          refine ⟨1, by omega, by go_num, ?_, B2⟩
          rw [show gtL (gs.take 1) = gtL (gs.take 0) ++ hex4 y from HZ.out (by trivial)]
          exact o2
        case measure => simp [intOf]; omega
      · have hki : 0 < (k : Int) := by omega
        have HS2 : Hid (gtL (gs.take (k + 1)) = gtL (gs.take k) ++ [58] ++ hex4 y) := HS.out (by omega)
        clear HS HZ h0
        go_wp2_with (at_builtin; refine wpList_append_new _ rfl _ _ 22 rfl w.heap.size 5 (.int .u8 0) 1 Tryd.underlying22 Tryd.info5 rfl _ _ _ rfl hown #[.int .u8 58] 1 rfl rfl (by intro u hu; simp at hu; subst hu; rfl) (by omega) (by unfold maxLen; omega) hsz ?_)
        intro v' w1 o3 b3
        have R : w1.ownsRow w.heap.size 5 1 v' (gtL (gs.take k) ++ [58]).length (bcells (gtL (gs.take k) ++ [58])) := by
          rw [bcells_snoc, List.length_append]
          exact o3
        have B3 := hbel.trans b3
        have HT3 : Hid (Bruijn w1) := bruijn_below HT.out B3
        have z3 := B3.size
        have hl3 : (gtL (gs.take k) ++ [58]).length ≤ 1000 := by rw [List.length_append]; simp; omega
        clear o3 b3 hown hbel
        go_wp2_with fail
        refine (CA.out _ _ _ HT3.out R z3 hl3).mono ?_
        rintro e wb ⟨vb, rfl, o2, b2⟩
        have B2 := B3.trans b2
        clear R b2 B3
        go_wp2_with fail
        go_roundw
        case rel =>
          refine ⟨k + 1, by omega, by go_num, ?_, B2⟩
          rw [HS2.out]
          exact o2
        case measure => simp [intOf]; omega
    · have he : gs.take k = gs := List.take_of_length_le (by omega)
      rw [he] at hown
      have hcv := run_string_own (P := Tryd.prog) wr 22 9 5 Tryd.underlying22 Tryd.underlying5 Tryd.underlying9 hown
      clear he hlen
      have hki : ¬ (k : Int) < (gs.length : Int) := by omega
      go_wp2_with fail
      go_ret
      exact ⟨rfl, hbel⟩
end Go.Proofs.YtophgcneckjdjaaDoor
