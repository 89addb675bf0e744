/- Contracts and plain laws: Ip6Spec, Ip6Both, Parse6Spec, Par6Impl, LaidPow, Parse6Impl, Par6Eight, LaidBru, ArrEq. -/
import Derived.Test.YtamnhegianpedaaGreatDoorRows
import Derived.Test.YtamnhegianpedaaGreatDoorPackA
import Derived.Test.YtamnhegianpedaaGreatDoorShelf
import Derived.Lib.LaidIn
import Derived.Lib.LaidTab
import Derived.Lib.LaidU8
import Derived.Deep.DeepHandedRow
import Derived.Deep.DeepWitnessRowRef
import Derived.ProofKit
import Derived.Laws.CopyOwn
import Derived.ChangeKeysEq
import Derived.Laws.StructEq
namespace Go.Proofs.YtamnhegianpedaaGreatDoor
open Go.RowKit

def hexT (x : Int) : ByteArray := ⟨(hex4 x.toNat).toArray⟩
def hxT (n : Nat) : ByteArray := ⟨#[hxU n]⟩
theorem hexT_1 {x : Int} (h0 : 0 ≤ x) (h : x < 16) : hexT x = hxT x.toNat := by
  unfold hexT hxT hex4
  rw [if_pos (by omega)]
theorem hexT_2 {x : Int} (h0 : 16 ≤ x) (h : x < 65536) : hexT x = hexT (x / 16) ++ hxT (x % 16).toNat := by
  have e0 : (x % 16).toNat = x.toNat % 16 := by omega
  have e1 : (x / 16).toNat = x.toNat / 16 := by omega
  unfold hexT hxT
  rw [show (⟨#[hxU (x % 16).toNat]⟩ : ByteArray) = ⟨[hxU (x % 16).toNat].toArray⟩ from rfl, cat_bytes, e0, e1]
  generalize hn : x.toNat = n
  have hn0 : 16 ≤ n := by omega
  have hn1 : n < 65536 := by omega
  unfold hex4
  by_cases c2 : n < 256
  · rw [if_neg (by omega), if_pos c2, if_pos (by omega)]; rfl
  · by_cases c3 : n < 4096
    · rw [if_neg (by omega), if_neg c2, if_pos c3, if_neg (by omega), if_pos (by omega), show n / 16 / 16 = n / 256 by omega]; rfl
    · rw [if_neg (by omega), if_neg c2, if_neg c3, if_neg (by omega), if_neg (by omega), if_pos (by omega), show n / 16 / 256 = n / 4096 by omega, show n / 16 / 16 % 16 = n / 256 % 16 by omega]; rfl
theorem hexT_size (x : Int) : (hexT x).size ≤ 4 := by
  unfold hexT
  show (hex4 x.toNat).toArray.size ≤ 4
  rw [List.size_toArray]
  exact (hex4_len _).2

theorem small16 : ∀ k, k < 16 → ((#[48, 49, 50, 51, 52, 53, 54, 55, 56, 57, 97, 98, 99, 100, 101, 102] : Array UInt8).getD k 0) = hxU k := by decide +kernel
theorem small_at (x : Int) (h0 : 0 ≤ x) (h : x < 16) (W : World) :
    (Instr.index 9 (.string ⟨#[48, 49, 50, 51, 52, 53, 54, 55, 56, 57, 97, 98, 99, 100, 101, 102]⟩) (.int .i64 x)).run Tryz.prog W = .ok (.int .u8 ((hxU x.toNat).toNat : Int)) W := by
  rw [run_index_string W 9 _ .i64 _ Tryz.underlying9, dif_pos ⟨h0, by show x < 16; exact h⟩]
  congr 3
  rw [← small16 x.toNat (by omega)]
  rw [Array.getD_eq_getD_getElem?, Array.getElem?_eq_getElem (by show x.toNat < 16; omega)]
  rfl

theorem conv_hx (W : World) (B n : Nat) (x : Int) (hx : x = ((hxU n).toNat : Int)) (h : W.cell? ⟨B, 0, none⟩ = some (.int .u8 x)) :
    (convert 22 9 (.slice (some ⟨B, 0, none⟩) 1 1)).run Tryz.prog W = .ok (.string (hxT n)) W := by
  have := conv_at W B (hxU n).toNat (hxU n).toNat_lt x hx h
  rw [UInt8.ofNat_toNat] at this
  exact this

set_option maxHeartbeats 1000000 in
theorem specGroup1 (x : Int) (w : World) (h0 : 0 ≤ x) (h1 : x < 16) :
    Calls Tryz.prog 46 #[.int .i64 x] w fun e w' => e = .returned (.string (hexT x)) ∧ Below w.heap.size w w' := by
  rw [hexT_1 h0 h1]
  have hix := small_at x h0 h1
  obtain ⟨d, hd⟩ : ∃ d : Int, ((hxU x.toNat).toNat : Int) = d := ⟨_, rfl⟩
  have hcv : (convert 22 9 (.slice (some ⟨w.heap.size, 0, none⟩) 1 1)).run Tryz.prog (w.alloc (.cells #[.int .u8 d] 5)) = .ok (.string (hxT x.toNat)) (w.alloc (.cells #[.int .u8 d] 5)) := conv_hx _ _ _ d hd.symm (by rw [World.cell?_alloc_at _ _ _ _ rfl]; rfl)
  rw [hd] at hix
  clear hd
  generalize hxT x.toNat = T at hcv ⊢
  go_enter Tryz.func46, Tryz.ntmps46
  go_wp2
  go_ret
  exact ⟨rfl, (Below.refl _ _).alloc (Nat.le_refl _) _⟩

set_option maxRecDepth 20000 in
set_option maxHeartbeats 2000000 in
theorem specGroup2 (x : Int) (w : World) (h0 : 16 ≤ x) (h1 : x < 65536) (CT : Hid (∀ W, Calls Tryz.prog 46 #[.int .i64 (x / 16)] W fun e w' => e = .returned (.string (hexT (x / 16))) ∧ Below W.heap.size W w')) :
    Calls Tryz.prog 46 #[.int .i64 x] w fun e w' => e = .returned (.string (hexT x)) ∧ Below w.heap.size w w' := by
  have HD : Hid (hexT x = hexT (x / 16) ++ hxT (x % 16).toNat) := hexT_2 h0 h1
  have hs1 := hexT_size (x / 16)
  have hs2 : (hxT (x % 16).toNat).size = 1 := rfl
  have hix := small_at (x % 16) (by omega) (by omega)
  obtain ⟨d, hd⟩ : ∃ d : Int, ((hxU (x % 16).toNat).toNat : Int) = d := ⟨_, rfl⟩
  rw [hd] at hix
  have ho : Hid (∀ (W' : World) (B : Nat), W'.cell? ⟨B, 0, none⟩ = some (.int .u8 d) → (convert 22 9 (.slice (some ⟨B, 0, none⟩) 1 1)).run Tryz.prog W' = .ok (.string (hxT (x % 16).toNat)) W') := fun W' B h => conv_hx W' B _ d hd.symm h
  clear hd
  have hn : Hid (∀ W : World, (convert 22 9 (.slice (some ⟨W.heap.size, 0, none⟩) 1 1)).run Tryz.prog (W.alloc (.cells #[.int .u8 d] 5)) = .ok (.string (hxT (x % 16).toNat)) (W.alloc (.cells #[.int .u8 d] 5))) := fun W => ho.out _ _ (by rw [World.cell?_alloc_at _ _ _ _ rfl]; rfl)
  obtain ⟨z, hz⟩ : ∃ z : Int, x % 16 = z := ⟨_, rfl⟩
  obtain ⟨y, hy⟩ : ∃ y : Int, x / 16 = y := ⟨_, rfl⟩
  rw [hz] at hn ho hs2 HD hix
  rw [hy] at CT hs1 HD
  have hz0 : 0 ≤ z := by omega
  have hz1 : z < 16 := by omega
  have hy0 : 0 ≤ y := by omega
  have hy1 : y < 4096 := by omega
  generalize hxT z.toNat = T2 at hn ho hs2 HD
  generalize hexT y = T1 at CT hs1 HD
  rw [HD.out]
  clear HD
  have hn2 := hn.out
  have hce : (w.alloc (.cells #[.int .u8 d] 5)).drew.cell? ⟨w.heap.size, 0, none⟩ = some (.int .u8 d) := by
    show (w.alloc (.cells #[.int .u8 d] 5)).cell? ⟨w.heap.size, 0, none⟩ = _
    rw [World.cell?_alloc_at _ _ _ _ rfl]; rfl
  have hn3 := ho.out _ _ hce
  have HCE : Hid ((w.alloc (.cells #[.int .u8 d] 5)).drew.cell? ⟨w.heap.size, 0, none⟩ = some (.int .u8 d)) := hce
  clear hce
  have t1 : IntKind.i64.wrap (x.tdiv 16) = y := by rw [Int.tdiv_eq_ediv_of_nonneg (by omega), hy]; exact i64_wrap_small _ (by omega) (by omega)
  have t2 : x.tmod 16 = z := by rw [Int.tmod_eq_emod_of_nonneg (by omega), hz]
  clear hy hz
  go_enter Tryz.func46, Tryz.ntmps46
  go_wp2_with fail
  go_region_with (go_at_call 46; refine (CT.out _).mono ?_; rintro e wc ⟨rfl, hbc⟩; first | have hcc := ho.out _ _ (cell_later hbc HCE.out) | skip)
  all_goals
    go_wp2
    go_ret
    refine ⟨rfl, ?_⟩
    first
      | exact ((Below.drew (Below.refl _ w)).trans hbc).alloc (Nat.le_trans (Nat.le_refl _) hbc.size) _
      | exact (((Below.refl w.heap.size w).alloc (Nat.le_refl _) _).drew).trans (hbc.mono (by simp))

theorem specGroup (x : Int) (w : World) (h0 : 0 ≤ x) (h1 : x < 65536) :
    Calls Tryz.prog 46 #[.int .i64 x] w fun e w' => e = .returned (.string (hexT x)) ∧ Below w.heap.size w w' := by
  have g1 : ∀ (x : Int) (w : World), 0 ≤ x → x < 256 → Calls Tryz.prog 46 #[.int .i64 x] w fun e w' => e = .returned (.string (hexT x)) ∧ Below w.heap.size w w' := fun x w h0 h1 => by
    by_cases c : x < 16
    · exact specGroup1 x w h0 c
    · exact specGroup2 x w (by omega) (by omega) fun W => specGroup1 _ W (by omega) (by omega)
  have g2 : ∀ (x : Int) (w : World), 0 ≤ x → x < 4096 → Calls Tryz.prog 46 #[.int .i64 x] w fun e w' => e = .returned (.string (hexT x)) ∧ Below w.heap.size w w' := fun x w h0 h1 => by
    by_cases c : x < 256
    · exact g1 x w h0 c
    · exact specGroup2 x w (by omega) (by omega) fun W => g1 _ W (by omega) (by omega)
  by_cases c : x < 4096
  · exact g2 x w h0 c
  · exact specGroup2 x w (by omega) (by omega) fun W => g2 _ W (by omega) (by omega)
end Go.Proofs.YtamnhegianpedaaGreatDoor

namespace Go.Proofs.YtamnhegianpedaaGreatDoor
open Go.RowKit

/-- The text ahead of the group k. -/
def tx (gs : List Nat) (f t k : Nat) : List UInt8 := if k ≤ f then gtL (gs.take k) else gtL (gs.take f) ++ 58 :: 58 :: gtL ((gs.drop t).take (k - t))

theorem tx_low0 {gs : List Nat} {f t : Nat} (hl : gs.length = 8) (h : 0 < f) : tx gs f t (0 + 1) = tx gs f t 0 ++ hex4 (gs.getD 0 0) := by
  unfold tx
  rw [if_pos (by omega), if_pos (by omega), gt_zero gs (by omega)]
  rfl
theorem tx_low {gs : List Nat} {f t k : Nat} (hl : gs.length = 8) (hk : 0 < k) (h : k < f) (h8 : k < 8) : tx gs f t (k + 1) = tx gs f t k ++ [58] ++ hex4 (gs.getD k 0) := by
  unfold tx
  rw [if_pos (by omega), if_pos (by omega), gt_succ gs k (by omega) hk]
theorem tx_cut {gs : List Nat} {f t : Nat} (h : f < t) : tx gs f t t = tx gs f t f ++ [58, 58] := by
  unfold tx
  rw [if_neg (by omega), if_pos (by omega), Nat.sub_self, List.take_zero]
  rfl
theorem tx_hi0 {gs : List Nat} {f t : Nat} (hl : gs.length = 8) (h : f < t) (h8 : t < 8) : tx gs f t (t + 1) = tx gs f t t ++ hex4 (gs.getD t 0) := by
  unfold tx
  rw [if_neg (by omega), if_neg (by omega), Nat.sub_self, List.take_zero, show t + 1 - t = 1 by omega, gt_zero _ (by rw [List.length_drop]; omega)]
  rw [show (gs.drop t).getD 0 0 = gs.getD t 0 by simp [List.getD]]
  simp [gtL, jl]
theorem tx_hi {gs : List Nat} {f t k : Nat} (hl : gs.length = 8) (h : f < t) (hk : t < k) (h8 : k < 8) : tx gs f t (k + 1) = tx gs f t k ++ [58] ++ hex4 (gs.getD k 0) := by
  unfold tx
  rw [if_neg (by omega), if_neg (by omega), show k + 1 - t = (k - t) + 1 by omega, gt_succ _ (k - t) (by rw [List.length_drop]; omega) (by omega)]
  rw [show (gs.drop t).getD (k - t) 0 = gs.getD k 0 by simp [List.getD, show t + (k - t) = k by omega]]
  simp
theorem tx_len {gs : List Nat} {f t k : Nat} (hl : gs.length = 8) : (tx gs f t k).length ≤ 100 := by
  unfold tx
  have g1 := (gt_len (gs.take k)).1
  have g2 := (gt_len (gs.take f)).1
  have g3 := (gt_len ((gs.drop t).take (k - t))).1
  simp only [List.length_take, List.length_drop] at g1 g2 g3
  split
  · omega
  · simp only [List.length_append, List.length_cons]
    omega

theorem tx_end (x0 x1 x2 x3 x4 x5 x6 x7 : Int) (hok : okG [x0, x1, x2, x3, x4, x5, x6, x7] = true) :
    tx ([x0, x1, x2, x3, x4, x5, x6, x7].map Int.toNat) (rowS 0 (8, 8) (zb [x0, x1, x2, x3, x4, x5, x6, x7])).1 (rowS 0 (8, 8) (zb [x0, x1, x2, x3, x4, x5, x6, x7])).2 8 = ip6L [x0, x1, x2, x3, x4, x5, x6, x7] := by
  have h := row_ok x0 x1 x2 x3 x4 x5 x6 x7
  unfold ip6L
  rw [if_pos hok]
  have hl : ([x0, x1, x2, x3, x4, x5, x6, x7].map Int.toNat).length = 8 := rfl
  generalize [x0, x1, x2, x3, x4, x5, x6, x7].map Int.toNat = gs at hl
  unfold rowOkB at h
  generalize rowI 0 (0, 0, 0) (zb [x0, x1, x2, x3, x4, x5, x6, x7]) = p at h
  generalize rowS 0 (8, 8) (zb [x0, x1, x2, x3, x4, x5, x6, x7]) = q at h
  simp only [Bool.and_eq_true, decide_eq_true_eq] at h
  obtain ⟨⟨h1, h2⟩, h3⟩ := h
  by_cases c : p.2.1 - p.1 < 2
  · rw [if_pos c] at h3
    simp only [decide_eq_true_eq] at h3
    subst h3
    unfold tx ip6T
    rw [if_pos (by simp), if_pos c, List.take_of_length_le (by omega)]
  · rw [if_neg c] at h3
    simp only [Bool.and_eq_true, decide_eq_true_eq] at h3
    rw [h3.1]
    unfold tx ip6T
    simp only
    rw [if_neg (by omega), if_neg c, List.take_of_length_le (l := gs.drop p.2.1) (by rw [List.length_drop]; omega)]

/-- The row that the specification finds: none, or two or more. -/
theorem rowS_ok (x0 x1 x2 x3 x4 x5 x6 x7 : Int) : ((rowS 0 (8, 8) (zb [x0, x1, x2, x3, x4, x5, x6, x7])).1 = 8 ∧ (rowS 0 (8, 8) (zb [x0, x1, x2, x3, x4, x5, x6, x7])).2 = 8) ∨ ((rowS 0 (8, 8) (zb [x0, x1, x2, x3, x4, x5, x6, x7])).1 < (rowS 0 (8, 8) (zb [x0, x1, x2, x3, x4, x5, x6, x7])).2 ∧ (rowS 0 (8, 8) (zb [x0, x1, x2, x3, x4, x5, x6, x7])).2 ≤ 8) := by
  have h := row_ok x0 x1 x2 x3 x4 x5 x6 x7
  unfold rowOkB at h
  generalize rowI 0 (0, 0, 0) (zb [x0, x1, x2, x3, x4, x5, x6, x7]) = p at h
  generalize rowS 0 (8, 8) (zb [x0, x1, x2, x3, x4, x5, x6, x7]) = q at h
  simp only [Bool.and_eq_true, decide_eq_true_eq] at h
  obtain ⟨⟨h1, h2⟩, h3⟩ := h
  by_cases c : p.2.1 - p.1 < 2
  · rw [if_pos c] at h3
    simp only [decide_eq_true_eq] at h3
    subst h3
    exact .inl ⟨rfl, rfl⟩
  · rw [if_neg c] at h3
    simp only [Bool.and_eq_true, decide_eq_true_eq] at h3
    rw [h3.1]
    exact .inr ⟨by simp only; omega, h2⟩

theorem ip6L_no {z : List Int} (h : okG z = false) : ip6L z = [] := by unfold ip6L; rw [h]; rfl




set_option maxRecDepth 20000 in
set_option maxHeartbeats 8000000 in
theorem specIp6Text (x0 x1 x2 x3 x4 x5 x6 x7 : Int) (w : World) :
    Calls Tryz.prog 25 #[.agg #[.int .i64 x0, .int .i64 x1, .int .i64 x2, .int .i64 x3, .int .i64 x4, .int .i64 x5, .int .i64 x6, .int .i64 x7]] w fun e w' => e = .returned (.string ⟨(ip6L [x0, x1, x2, x3, x4, x5, x6, x7]).toArray⟩) ∧ Below w.heap.size w w' := by
  have HC : Hid (∀ k, k < 8 → (w.alloc (.cells #[.int .i64 x0, .int .i64 x1, .int .i64 x2, .int .i64 x3, .int .i64 x4, .int .i64 x5, .int .i64 x6, .int .i64 x7] 24)).cell? ⟨w.heap.size, k, none⟩ = some (.int .i64 ([x0, x1, x2, x3, x4, x5, x6, x7].getD k 0))) := fun k hk => cell8 w x0 x1 x2 x3 x4 x5 x6 x7 k hk
  have CR : Hid (∀ W, Calls Tryz.prog 45 #[.agg #[.int .i64 x0, .int .i64 x1, .int .i64 x2, .int .i64 x3, .int .i64 x4, .int .i64 x5, .int .i64 x6, .int .i64 x7]] W fun e w' => e = .returned (rowW (rowS 0 (8, 8) (zb [x0, x1, x2, x3, x4, x5, x6, x7]))) ∧ Below W.heap.size W w') := fun W => specRow x0 x1 x2 x3 x4 x5 x6 x7 W
  have HE : Hid (okG [x0, x1, x2, x3, x4, x5, x6, x7] = true → tx ([x0, x1, x2, x3, x4, x5, x6, x7].map Int.toNat) (rowS 0 (8, 8) (zb [x0, x1, x2, x3, x4, x5, x6, x7])).1 (rowS 0 (8, 8) (zb [x0, x1, x2, x3, x4, x5, x6, x7])).2 8 = ip6L [x0, x1, x2, x3, x4, x5, x6, x7]) := tx_end x0 x1 x2 x3 x4 x5 x6 x7
  have HRO : Hid (((rowS 0 (8, 8) (zb [x0, x1, x2, x3, x4, x5, x6, x7])).1 = 8 ∧ (rowS 0 (8, 8) (zb [x0, x1, x2, x3, x4, x5, x6, x7])).2 = 8) ∨ ((rowS 0 (8, 8) (zb [x0, x1, x2, x3, x4, x5, x6, x7])).1 < (rowS 0 (8, 8) (zb [x0, x1, x2, x3, x4, x5, x6, x7])).2 ∧ (rowS 0 (8, 8) (zb [x0, x1, x2, x3, x4, x5, x6, x7])).2 ≤ 8)) := rowS_ok x0 x1 x2 x3 x4 x5 x6 x7
  generalize rowS 0 (8, 8) (zb [x0, x1, x2, x3, x4, x5, x6, x7]) = r at CR HE HRO
  obtain ⟨f, t⟩ := r
  simp only [rowW] at CR HE HRO
  generalize hz : [x0, x1, x2, x3, x4, x5, x6, x7] = z at HC HE ⊢
  have HZL : Hid (z.length = 8) := by show _ = _; rw [← hz]; rfl
  have HZZ : Hid ([x0, x1, x2, x3, x4, x5, x6, x7] = z) := hz
  clear hz
  go_enter Tryz.func25, Tryz.ntmps25
  go_wp2
  go_loop [3] (fun i => ∃ k : Nat, k ≤ 8 ∧ i = .int .i64 k ∧ ∀ x ∈ z.take k, 0 ≤ x ∧ x ≤ 65535) (fun i => 8 - (intOf i).toNat)
  case atStart => exact ⟨0, by omega, rfl, fun x hx => by simp at hx⟩
  case round =>
    obtain ⟨k, hk, rfl, hall⟩ := hrel
    have HA0 : Hid (∀ x ∈ z.take k, 0 ≤ x ∧ x ≤ 65535) := hall
    clear hall
    by_cases hlt : k < 8
    · have hce := HC.out k hlt
      have HT : Hid (z.take (k + 1) = z.take k ++ [z.getD k 0]) := ztake_snoc z k (by have := HZL.out; omega)
      have HM : Hid (z.getD k 0 ∈ z) := by
        show _ ∈ _
        rw [List.getD_eq_getElem?_getD, List.getElem?_eq_getElem (by have := HZL.out; omega)]
        exact List.getElem_mem _
      have hki : (k : Int) < 8 := by omega
      generalize z.getD k 0 = y at hce HT HM
      by_cases hy : 0 ≤ y ∧ y ≤ 65535
      · obtain ⟨hy0, hy1⟩ := hy
        go_wp2_with fail
        refine (specL1In_yes _ _ _ _ hy0 hy1).mono ?_
        rintro e w' ⟨rfl, rfl⟩
        go_wp2_with fail
        go_round
        case rel =>
          refine ⟨k + 1, by omega, by go_num, fun x hx => ?_⟩
          rw [HT.out] at hx
          rcases List.mem_append.1 hx with h | h
          · exact HA0.out x h
          · rw [List.mem_singleton.1 h]; exact ⟨hy0, hy1⟩
        case measure => simp [intOf]; omega
      · have HF : Hid (ip6L z = []) := ip6L_no (okG_no HM.out hy)
        have HY : Hid (y < 0 ∨ 65535 < y) := by show _ ∨ _; omega
        clear hy
        go_wp2_with fail
        refine (specL1In_no _ _ _ _ HY.out).mono ?_
        rintro e w' ⟨rfl, rfl⟩
        go_wp2_with fail
        go_ret
        exact ⟨by rw [HF.out]; rfl, (Below.refl _ _).alloc (Nat.le_refl _) _⟩
    · have HA : Hid (∀ x ∈ z, 0 ≤ x ∧ x ≤ 65535) := fun x hx => HA0.out x (by rw [List.take_of_length_le (by have := HZL.out; omega)]; exact hx)
      have HEE : Hid (tx (z.map Int.toNat) f t 8 = ip6L z) := HE.out (okG_yes HA.out)
      have hki : ¬ (k : Int) < 8 := by omega
      have hfl : f ≤ 8 ∧ t ≤ 8 := by have := HRO.out; omega
      obtain ⟨hf8, ht8⟩ := hfl
      have HGL : Hid ((z.map Int.toNat).length = 8) := by show _ = _; rw [List.length_map]; exact HZL.out
      clear HA0 HE hk hlt
      have hcs : True := trivial
      have HC0 : Hid (∀ k, k < 8 → (w.alloc (.cells #[.int .i64 x0, .int .i64 x1, .int .i64 x2, .int .i64 x3, .int .i64 x4, .int .i64 x5, .int .i64 x6, .int .i64 x7] 24)).cell? ⟨w.heap.size, k, none⟩ = some (.int .i64 ([x0, x1, x2, x3, x4, x5, x6, x7].getD k 0))) := fun k hk => cell8 w x0 x1 x2 x3 x4 x5 x6 x7 k hk
      have a0 : (w.alloc (.cells #[.int .i64 x0, .int .i64 x1, .int .i64 x2, .int .i64 x3, .int .i64 x4, .int .i64 x5, .int .i64 x6, .int .i64 x7] 24)).cell? ⟨w.heap.size, 0, none⟩ = some (.int .i64 x0) := HC0.out 0 (by decide)
      have a1 : (w.alloc (.cells #[.int .i64 x0, .int .i64 x1, .int .i64 x2, .int .i64 x3, .int .i64 x4, .int .i64 x5, .int .i64 x6, .int .i64 x7] 24)).cell? ⟨w.heap.size, 1, none⟩ = some (.int .i64 x1) := HC0.out 1 (by decide)
      have a2 : (w.alloc (.cells #[.int .i64 x0, .int .i64 x1, .int .i64 x2, .int .i64 x3, .int .i64 x4, .int .i64 x5, .int .i64 x6, .int .i64 x7] 24)).cell? ⟨w.heap.size, 2, none⟩ = some (.int .i64 x2) := HC0.out 2 (by decide)
      have a3 : (w.alloc (.cells #[.int .i64 x0, .int .i64 x1, .int .i64 x2, .int .i64 x3, .int .i64 x4, .int .i64 x5, .int .i64 x6, .int .i64 x7] 24)).cell? ⟨w.heap.size, 3, none⟩ = some (.int .i64 x3) := HC0.out 3 (by decide)
      have a4 : (w.alloc (.cells #[.int .i64 x0, .int .i64 x1, .int .i64 x2, .int .i64 x3, .int .i64 x4, .int .i64 x5, .int .i64 x6, .int .i64 x7] 24)).cell? ⟨w.heap.size, 4, none⟩ = some (.int .i64 x4) := HC0.out 4 (by decide)
      have a5 : (w.alloc (.cells #[.int .i64 x0, .int .i64 x1, .int .i64 x2, .int .i64 x3, .int .i64 x4, .int .i64 x5, .int .i64 x6, .int .i64 x7] 24)).cell? ⟨w.heap.size, 5, none⟩ = some (.int .i64 x5) := HC0.out 5 (by decide)
      have a6 : (w.alloc (.cells #[.int .i64 x0, .int .i64 x1, .int .i64 x2, .int .i64 x3, .int .i64 x4, .int .i64 x5, .int .i64 x6, .int .i64 x7] 24)).cell? ⟨w.heap.size, 6, none⟩ = some (.int .i64 x6) := HC0.out 6 (by decide)
      have a7 : (w.alloc (.cells #[.int .i64 x0, .int .i64 x1, .int .i64 x2, .int .i64 x3, .int .i64 x4, .int .i64 x5, .int .i64 x6, .int .i64 x7] 24)).cell? ⟨w.heap.size, 7, none⟩ = some (.int .i64 x7) := HC0.out 7 (by decide)
      go_wp2_with fail
      refine (CR.out _).mono ?_
      rintro e w1 ⟨rfl, b1⟩
      have HB1 : Hid (Below (w.alloc (.cells #[.int .i64 x0, .int .i64 x1, .int .i64 x2, .int .i64 x3, .int .i64 x4, .int .i64 x5, .int .i64 x6, .int .i64 x7] 24)).heap.size (w.alloc (.cells #[.int .i64 x0, .int .i64 x1, .int .i64 x2, .int .i64 x3, .int .i64 x4, .int .i64 x5, .int .i64 x6, .int .i64 x7] 24)) w1) := b1
      clear b1 a0 a1 a2 a3 a4 a5 a6 a7 HC0 hcs CR
      go_wp2_with fail
      go_loopw [6, 7] (fun S i wr => ∃ (k : Nat) (T : ByteArray), (k ≤ f ∨ t ≤ k) ∧ k ≤ 8 ∧ i = .int .i64 k ∧ S = .string T ∧ T.size ≤ 100 ∧ T = ⟨(tx (z.map Int.toNat) f t k).toArray⟩ ∧ Below (w.alloc (.cells #[.int .i64 x0, .int .i64 x1, .int .i64 x2, .int .i64 x3, .int .i64 x4, .int .i64 x5, .int .i64 x6, .int .i64 x7] 24)).heap.size (w.alloc (.cells #[.int .i64 x0, .int .i64 x1, .int .i64 x2, .int .i64 x3, .int .i64 x4, .int .i64 x5, .int .i64 x6, .int .i64 x7] 24)) wr) (fun _ i _ => 8 - (intOf i).toNat)
      case atStart => exact ⟨0, ⟨#[]⟩, .inl (Nat.zero_le _), by omega, rfl, rfl, by decide, rfl, HB1.out⟩
      case round =>
        obtain ⟨k, T, hkr, hk, rfl, rfl, hTs, hTe, hb1⟩ := hrel
        have HTE : Hid (T = ⟨(tx (z.map Int.toNat) f t k).toArray⟩) := hTe
        have HBW : Hid (Below w.heap.size w wr) := ((Below.refl _ w).alloc (Nat.le_refl _) _).trans (hb1.mono (by simp))
        have HKR : Hid (k ≤ f ∨ t ≤ k) := hkr
        clear hTe hkr
        by_cases hlt : k < 8
        · have hki : (k : Int) < 8 := by omega
          by_cases hkf : k = f
          · have hft : f < t := by have := HRO.out; omega
            have hkq : ((k : Int) == (f : Int)) = true := by simp; omega
            have HKF : Hid (k = f) := hkf
            have HT2 : Hid (tx (z.map Int.toNat) f t t = tx (z.map Int.toNat) f t f ++ [58, 58]) := tx_cut hft
            have ht0 : 0 < (t : Int) := by omega
            clear hkf
            have zc : (⟨#[58, 58]⟩ : ByteArray).size = 2 := rfl
            go_wp2_with fail
            go_roundw
            case rel =>
              refine ⟨t, T ++ ⟨#[58, 58]⟩, .inr (Nat.le_refl _), ht8, by go_num, rfl, ?_, ?_, hb1⟩
              · have h1 := HT2.out
                have h2 := tx_len (f := f) (t := t) (k := t) HGL.out
                have h3 := HTE.out
                rw [HKF.out] at h3
                rw [show (T ++ ⟨#[58, 58]⟩ : ByteArray) = ⟨(tx (z.map Int.toNat) f t t).toArray⟩ by rw [h1, h3, show (⟨#[58, 58]⟩ : ByteArray) = ⟨[58, 58].toArray⟩ from rfl, cat_bytes]]
                show (tx (z.map Int.toNat) f t t).toArray.size ≤ 100
                rw [List.size_toArray]
                exact h2
              · have h3 := HTE.out
                rw [HKF.out] at h3
                rw [HT2.out, h3, show (⟨#[58, 58]⟩ : ByteArray) = ⟨[58, 58].toArray⟩ from rfl, cat_bytes]
            case measure => simp [intOf]; have := HKF.out; omega
          · have hkq : ((k : Int) == (f : Int)) = false := by simp; omega
            have hce := cell_later hb1 (HC.out k (by omega))
            have hgr := HA.out (z.getD k 0) (by
              rw [List.getD_eq_getElem?_getD, List.getElem?_eq_getElem (by have := HZL.out; omega)]
              exact List.getElem_mem _)
            have CT : Hid (∀ W, Calls Tryz.prog 46 #[.int .i64 (z.getD k 0)] W fun e w' => e = .returned (.string (hexT (z.getD k 0))) ∧ Below W.heap.size W w') := fun W => specGroup _ W (by omega) (by omega)
            have HX : Hid (hexT (z.getD k 0) = ⟨(hex4 ((z.map Int.toNat).getD k 0)).toArray⟩) := by
              show _ = _
              unfold hexT
              simp only [List.getD_eq_getElem?_getD]
              rw [List.getElem?_eq_getElem (by have := HZL.out; omega), List.getElem?_eq_getElem (by rw [List.length_map]; have := HZL.out; omega), List.getElem_map]
              rfl
            have hs2 := hexT_size (z.getD k 0)
            generalize hexT (z.getD k 0) = T2 at CT HX hs2
            generalize z.getD k 0 = y at hce CT hgr
            clear hgr
            by_cases hcol : k = 0 ∨ k = t
            · have HS : Hid (tx (z.map Int.toNat) f t (k + 1) = tx (z.map Int.toNat) f t k ++ hex4 ((z.map Int.toNat).getD k 0)) := by
                show _ = _
                have h1 := HKR.out
                have h2 := HRO.out
                by_cases h0 : k = 0
                · subst h0
                  exact tx_low0 HGL.out (by omega)
                · have h3 : k = t := by omega
                  subst h3
                  exact tx_hi0 HGL.out (by omega) hlt
              by_cases hk0 : 0 < k
              · have hk0' : 0 < (k : Int) := by omega
                have hkt : ((k : Int) == (t : Int)) = true := by simp; omega
                clear hcol hk0
                clear hkf
                go_wp2_with fail
                refine (CT.out _).mono ?_
                rintro e w2 ⟨rfl, b2⟩
                have B2 := hb1.trans (b2.mono hb1.size)
                clear b2 hb1 hce
                go_wp2_with fail
                go_roundw
                case rel =>
                  have e1 : (T ++ T2 : ByteArray) = ⟨(tx (z.map Int.toNat) f t (k + 1)).toArray⟩ := by
                    rw [HS.out, HTE.out, HX.out, cat_bytes]
                  refine ⟨k + 1, T ++ T2, ?_, by omega, by go_num, rfl, ?_, e1, B2⟩
                  · have h1 := HKR.out
                    have h2 : k ≠ f := fun h => by simp [h] at hkq
                    omega
                  · rw [e1]
                    show (tx (z.map Int.toNat) f t (k + 1)).toArray.size ≤ 100
                    rw [List.size_toArray]
                    exact tx_len HGL.out
                case measure => simp [intOf]; omega
              · have hk0' : ¬ 0 < (k : Int) := by omega
                clear hcol hk0
                clear hkf
                go_wp2_with fail
                refine (CT.out _).mono ?_
                rintro e w2 ⟨rfl, b2⟩
                have B2 := hb1.trans (b2.mono hb1.size)
                clear b2 hb1 hce
                go_wp2_with fail
                go_roundw
                case rel =>
                  have e1 : (T ++ T2 : ByteArray) = ⟨(tx (z.map Int.toNat) f t (k + 1)).toArray⟩ := by
                    rw [HS.out, HTE.out, HX.out, cat_bytes]
                  refine ⟨k + 1, T ++ T2, ?_, by omega, by go_num, rfl, ?_, e1, B2⟩
                  · have h1 := HKR.out
                    have h2 : k ≠ f := fun h => by simp [h] at hkq
                    omega
                  · rw [e1]
                    show (tx (z.map Int.toNat) f t (k + 1)).toArray.size ≤ 100
                    rw [List.size_toArray]
                    exact tx_len HGL.out
                case measure => simp [intOf]; omega
            · have HS : Hid (tx (z.map Int.toNat) f t (k + 1) = tx (z.map Int.toNat) f t k ++ [58] ++ hex4 ((z.map Int.toNat).getD k 0)) := by
                show _ = _
                have h1 := HKR.out
                have h2 := HRO.out
                by_cases h0 : k < f
                · exact tx_low HGL.out (by omega) h0 hlt
                · exact tx_hi HGL.out (by omega) (by omega) hlt
              have hk0 : 0 < (k : Int) := by omega
              have hkt : ((k : Int) == (t : Int)) = false := by simp; omega
              clear hcol hkf
              have zc : (⟨#[58]⟩ : ByteArray).size = 1 := rfl
              go_wp2_with fail
              refine (CT.out _).mono ?_
              rintro e w2 ⟨rfl, b2⟩
              have B2 := hb1.trans (b2.mono hb1.size)
              clear b2 hb1 hce
              go_wp2_with fail
              go_roundw
              case rel =>
                have e1 : (T ++ ⟨#[58]⟩ ++ T2 : ByteArray) = ⟨(tx (z.map Int.toNat) f t (k + 1)).toArray⟩ := by
                  rw [HS.out, HTE.out, HX.out, show (⟨#[58]⟩ : ByteArray) = ⟨[58].toArray⟩ from rfl, cat_bytes, cat_bytes]
                refine ⟨k + 1, T ++ ⟨#[58]⟩ ++ T2, ?_, by omega, by go_num, rfl, ?_, e1, B2⟩
                · have h1 := HKR.out
                  have h2 : k ≠ f := fun h => by simp [h] at hkq
                  omega
                · rw [e1]
                  show (tx (z.map Int.toNat) f t (k + 1)).toArray.size ≤ 100
                  rw [List.size_toArray]
                  exact tx_len HGL.out
              case measure => simp [intOf]; omega
        · have HTT : Hid ((⟨(ip6L z).toArray⟩ : ByteArray) = T) := by
            show _ = _
            have h8 : k = 8 := by omega
            rw [HTE.out, h8, HEE.out]
          have hki : ¬ (k : Int) < 8 := by omega
          go_wp2_with fail
          go_ret
          exact ⟨by rw [HTT.out]; rfl, HBW.out⟩
end Go.Proofs.YtamnhegianpedaaGreatDoor

namespace Go.Proofs.YtamnhegianpedaaGreatDoor
open Go.RowKit

/-- What is answered of an address of eight. -/
def parV (r : Option (List Nat)) : Value := match r with
  | none => .tuple #[.agg #[.int .i64 0, .int .i64 0, .int .i64 0, .int .i64 0, .int .i64 0, .int .i64 0, .int .i64 0, .int .i64 0], .bool false]
  | some gs => .tuple #[.agg ((toI gs).map (Value.int .i64)).toArray, .bool true]

/-- Eight ints lie in a block of the call's own. -/
def ArrAt (w : World) (B : Nat) (z : List Int) : Prop := z.length = 8 ∧ ∀ j, j < 8 → w.cell? ⟨B, j, none⟩ = some (.int .i64 (z.getD j 0)) ∧ w.frozen? ⟨B, j, none⟩ = false
theorem frozen_later {w w' : World} (hb : Below w.heap.size w w') {B j : Nat} {v : Value} (hc : w.cell? ⟨B, j, none⟩ = some v) (h : w.frozen? ⟨B, j, none⟩ = false) : w'.frozen? ⟨B, j, none⟩ = false := by
  have hB : B < w.heap.size := World.block_lt_of_cell? w ⟨B, j, none⟩ hc
  have e := hb.block B hB
  unfold World.frozen? at h ⊢
  simp only [e]
  exact h
theorem ArrAt.later {w w' : World} {B : Nat} {z : List Int} (h : ArrAt w B z) (hb : Below w.heap.size w w') : ArrAt w' B z :=
  ⟨h.1, fun j hj => ⟨cell_later hb (h.2 j hj).1, frozen_later hb (h.2 j hj).1 (h.2 j hj).2⟩⟩
theorem ArrAt.set {w : World} {B : Nat} {z : List Int} (h : ArrAt w B z) (k : Nat) (hk : k < 8) (x : Int) : ArrAt (w.setCell ⟨B, k, none⟩ (.int .i64 x)) B (z.set k x) := by
  refine ⟨by rw [List.length_set]; exact h.1, fun j hj => ⟨?_, by rw [World.frozen?_setCell]; exact (h.2 j hj).2⟩⟩
  by_cases e : k = j
  · subst e
    rw [World.cell?_setCell_same' _ _ _ (by rw [(h.2 k hk).1]; rfl)]
    simp [List.getD, h.1, hk]
  · rw [World.cell?_setCell_other _ _ _ _ (fun h => e (by injection h)), (h.2 j hj).1]
    simp [List.getD, List.getElem?_set_ne e]
theorem arr_new (w : World) : ArrAt (w.alloc (.cells #[.int .i64 0, .int .i64 0, .int .i64 0, .int .i64 0, .int .i64 0, .int .i64 0, .int .i64 0, .int .i64 0] 24)) w.heap.size [0, 0, 0, 0, 0, 0, 0, 0] :=
  ⟨rfl, fun j hj => ⟨cell8 w 0 0 0 0 0 0 0 0 j hj, World.frozen?_alloc_new _ _ _ _⟩⟩

/-- The groups ahead of k, noughts behind them. -/
def padA (l : List Int) (k : Nat) : List Int := l.take k ++ List.replicate (8 - k) 0
theorem padA_set {l : List Int} {k : Nat} (h : k < l.length) (h8 : l.length ≤ 8) : (padA l k).set k (l.getD k 0) = padA l (k + 1) := by
  unfold padA
  have h1 : (l.take k).length = k := by rw [List.length_take]; omega
  rw [List.set_append_right _ _ (by omega), h1, Nat.sub_self, show 8 - k = (8 - (k + 1)) + 1 by omega, List.replicate_succ, List.set_cons_zero, ztake_snoc l k h]
  simp
theorem padA_zero (l : List Int) : padA l 0 = [0, 0, 0, 0, 0, 0, 0, 0] := rfl
theorem padA_full {l : List Int} (h : l.length = 8) : padA l 8 = l := by unfold padA; rw [List.take_of_length_le (by omega)]; simp

/-- Behind them the groups of b, as far as i, at the end. -/
def padB (z b : List Int) (i : Nat) : List Int := z.take (8 - b.length) ++ b.take i ++ z.drop (8 - b.length + i)
theorem padB_set {z b : List Int} {i : Nat} (hz : z.length = 8) (hb : b.length ≤ 8) (h : i < b.length) : (padB z b i).set (8 - b.length + i) (b.getD i 0) = padB z b (i + 1) := by
  unfold padB
  have h1 : (z.take (8 - b.length) ++ b.take i).length = 8 - b.length + i := by rw [List.length_append, List.length_take, List.length_take]; omega
  have h2 : z.drop (8 - b.length + i) = z.getD (8 - b.length + i) 0 :: z.drop (8 - b.length + i + 1) := by
    rw [List.drop_eq_getElem_cons (by omega)]
    simp [List.getD, show 8 - b.length + i < z.length by omega]
  rw [List.set_append_right _ _ (by omega), h1, Nat.sub_self, h2, List.set_cons_zero, ztake_snoc b i h, show 8 - b.length + (i + 1) = 8 - b.length + i + 1 by omega]
  simp
theorem padB_zero {z b : List Int} : padB z b 0 = z := by unfold padB; simp
theorem padB_full {a b : List Int} (h : a.length + b.length ≤ 7) : padB (padA a a.length) b b.length = a ++ List.replicate (8 - a.length - b.length) 0 ++ b := by
  unfold padB padA
  rw [List.take_length, List.take_length]
  have h1 : (a ++ List.replicate (8 - a.length) 0).take (8 - b.length) = a ++ List.replicate (8 - a.length - b.length) (0 : Int) := by
    rw [List.take_append, List.take_of_length_le (by omega), List.take_replicate, show min (8 - b.length - a.length) (8 - a.length) = 8 - a.length - b.length by omega]
  rw [h1, List.drop_of_length_le (by simp; omega)]
  simp
theorem toI_fill (a b : List Nat) : toI (fill8 a b) = toI a ++ List.replicate (8 - (toI a).length - (toI b).length) 0 ++ toI b := by
  unfold toI fill8
  simp
theorem padA_len {l : List Int} {k : Nat} (hk : k ≤ l.length) (h8 : l.length ≤ 8) : (padA l k).length = 8 := by
  unfold padA; simp; omega

theorem par6_none {l : List UInt8} (h : dblN l = none) : par6 l = match grpS true l with
    | none => none
    | some g => if g.length = 8 then some g else none := by
  unfold par6
  rw [dbl_cut, h]
  rfl
theorem par6_some {l : List UInt8} {k : Nat} (h : dblN l = some k) : par6 l = match grpS false (l.take k), grpS true (l.drop (k + 2)) with
    | some x, some y => if x.length + y.length ≤ 7 then some (fill8 x y) else none
    | _, _ => none := by
  unfold par6
  rw [dbl_cut, h]
  rfl

theorem hid_arr {w : World} {B : Nat} {z : List Int} (h : ArrAt w B z) : Hid (ArrAt w B z) := h
/-- A whole array is stored into a block of the call's own. -/
theorem arr_store {W : World} {B : Nat} {z : List Int} (h : ArrAt W B z) (x0 x1 x2 x3 x4 x5 x6 x7 : Int) : ArrAt ((((((((W.setCell ⟨B, 0, none⟩ (.int .i64 x0)).setCell ⟨B, 1, none⟩ (.int .i64 x1)).setCell ⟨B, 2, none⟩ (.int .i64 x2)).setCell ⟨B, 3, none⟩ (.int .i64 x3)).setCell ⟨B, 4, none⟩ (.int .i64 x4)).setCell ⟨B, 5, none⟩ (.int .i64 x5)).setCell ⟨B, 6, none⟩ (.int .i64 x6)).setCell ⟨B, 7, none⟩ (.int .i64 x7)) B [x0, x1, x2, x3, x4, x5, x6, x7] := by
  have h1 := (((((((h.set 0 (by decide) x0).set 1 (by decide) x1).set 2 (by decide) x2).set 3 (by decide) x3).set 4 (by decide) x4).set 5 (by decide) x5).set 6 (by decide) x6).set 7 (by decide) x7
  obtain ⟨a, b, c, d, e, f, g, i, rfl⟩ : ∃ a b c d e f g i : Int, z = [a, b, c, d, e, f, g, i] := by
    match z, h.1 with
    | [a, b, c, d, e, f, g, i], _ => exact ⟨a, b, c, d, e, f, g, i, rfl⟩
  exact h1
theorem below_store {n : Nat} {w W : World} (h : Below n w W) {B : Nat} (hB : n ≤ B) (x0 x1 x2 x3 x4 x5 x6 x7 : Int) : Below n w ((((((((W.setCell ⟨B, 0, none⟩ (.int .i64 x0)).setCell ⟨B, 1, none⟩ (.int .i64 x1)).setCell ⟨B, 2, none⟩ (.int .i64 x2)).setCell ⟨B, 3, none⟩ (.int .i64 x3)).setCell ⟨B, 4, none⟩ (.int .i64 x4)).setCell ⟨B, 5, none⟩ (.int .i64 x5)).setCell ⟨B, 6, none⟩ (.int .i64 x6)).setCell ⟨B, 7, none⟩ (.int .i64 x7)) := by
  have st : ∀ (U : World) (j : Nat) (x : Value), Below n w U → Below n w (U.setCell ⟨B, j, none⟩ x) := fun U j x hU => hU.setCell (p := ⟨B, j, none⟩) hB _
  exact st _ _ _ (st _ _ _ (st _ _ _ (st _ _ _ (st _ _ _ (st _ _ _ (st _ _ _ (st _ _ _ h)))))))
theorem arr_results {fn : Func} {p q : Tmp} (h : fn.results = #[.cell p 24, .tmp q]) (tmps : Array Value) (W : World) (B : Nat) (b : Bool) (x0 x1 x2 x3 x4 x5 x6 x7 : Int)
    (hp : tmps[p]?.getD undef = .pointer (some ⟨B, 0, none⟩)) (hq : tmps[q]?.getD undef = .bool b) (ha : ArrAt W B [x0, x1, x2, x3, x4, x5, x6, x7]) :
    (results fn tmps).run Tryz.prog W = .ok (.tuple #[.agg #[.int .i64 x0, .int .i64 x1, .int .i64 x2, .int .i64 x3, .int .i64 x4, .int .i64 x5, .int .i64 x6, .int .i64 x7], .bool b]) W := by
  have c0 := (ha.2 0 (by decide)).1
  have c1 := (ha.2 1 (by decide)).1
  have c2 := (ha.2 2 (by decide)).1
  have c3 := (ha.2 3 (by decide)).1
  have c4 := (ha.2 4 (by decide)).1
  have c5 := (ha.2 5 (by decide)).1
  have c6 := (ha.2 6 (by decide)).1
  have c7 := (ha.2 7 (by decide)).1
  simp at c0 c1 c2 c3 c4 c5 c6 c7
  simp [results, h, hp, hq, asAddr, go_sem, c0, c1, c2, c3, c4, c5, c6, c7, Addr.add_lit]

theorem ArrAt.other {w : World} {B : Nat} {z : List Int} (h : ArrAt w B z) {B' : Nat} (hne : B ≠ B') (j : Nat) (x : Value) : ArrAt (w.setCell ⟨B', j, none⟩ x) B z :=
  ⟨h.1, fun i hi => ⟨by rw [World.cell?_setCell_other _ _ _ _ (fun h => hne (by injection h with h1 _; exact h1.symm))]; exact (h.2 i hi).1, by rw [World.frozen?_setCell]; exact (h.2 i hi).2⟩⟩
theorem arr_list {w : World} {B : Nat} {z : List Int} (h : ArrAt w B z) : ∃ a b c d e f g i : Int, z = [a, b, c, d, e, f, g, i] := by
  match z, h.1 with
  | [a, b, c, d, e, f, g, i], _ => exact ⟨a, b, c, d, e, f, g, i, rfl⟩

/-- A slice's ints lie above B. -/
def RowAt (w : World) (B : Nat) (ao : Option Addr) (z : List Int) : Prop := 0 < z.length → ∃ g, ao = some ⟨g, 0, none⟩ ∧ B ≤ g ∧ ∀ j, j < z.length → w.cell? ⟨g, j, none⟩ = some (.int .i64 (z.getD j 0))
theorem RowAt.later {w w' : World} {B : Nat} {ao : Option Addr} {z : List Int} (h : RowAt w B ao z) (hb : Below w.heap.size w w') : RowAt w' B ao z := fun h0 => by
  obtain ⟨g, h1, h2, h3⟩ := h h0
  exact ⟨g, h1, h2, fun j hj => cell_later hb (h3 j hj)⟩
theorem RowAt.other {w : World} {B : Nat} {ao : Option Addr} {z : List Int} (h : RowAt w B ao z) {B' : Nat} (hB : B' < B) (i : Nat) (x : Value) : RowAt (w.setCell ⟨B', i, none⟩ x) B ao z := fun h0 => by
  obtain ⟨g, h1, h2, h3⟩ := h h0
  refine ⟨g, h1, h2, fun j hj => ?_⟩
  rw [World.cell?_setCell_other _ _ _ _ (fun h => by injection h; omega)]
  exact h3 j hj
theorem row_view {w : World} {B : Nat} {e : TypeId} {v : Value} {n : Nat} {z : List Int} (h : w.ownsRow B e 1 v n (icells z)) (hz : z.length = n) : ∃ ao cap, v = .slice ao n cap ∧ RowAt w B ao z := by
  rcases own_shape h with ⟨h0, _, ao, cap, rfl⟩ | ⟨h0, g, cap, rfl⟩
  · exact ⟨ao, cap, by rw [h0], fun h1 => by omega⟩
  · exact ⟨_, cap, rfl, fun _ => ⟨g, rfl, (h.lt g rfl).1, fun j hj => icell_at h j (by omega)⟩⟩





set_option maxRecDepth 20000 in
set_option maxHeartbeats 8000000 in
theorem specParseIp6 (s : ByteArray) (w : World) (hs : s.size ≤ 1048576) :
    Calls Tryz.prog 29 #[.string s] w fun e w' => e = .returned (parV (par6 s.data.toList)) ∧ Below w.heap.size w w' := by
  have CD : Hid (∀ W, Calls Tryz.prog 52 #[.string s] W fun e w' => e = .returned (.int .i64 (dblZ (dblN s.data.toList))) ∧ Below W.heap.size W w') := fun W => specDouble s W hs
  have AR : Hid (ArrAt ((w.alloc (.cells #[.int .i64 0, .int .i64 0, .int .i64 0, .int .i64 0, .int .i64 0, .int .i64 0, .int .i64 0, .int .i64 0] 24)).alloc (.cells #[.int .i64 0, .int .i64 0, .int .i64 0, .int .i64 0, .int .i64 0, .int .i64 0, .int .i64 0, .int .i64 0] 24)) w.heap.size [0, 0, 0, 0, 0, 0, 0, 0]) := (arr_new w).later ((Below.refl _ _).alloc (Nat.le_refl _) _)
  have AO : Hid (ArrAt ((w.alloc (.cells #[.int .i64 0, .int .i64 0, .int .i64 0, .int .i64 0, .int .i64 0, .int .i64 0, .int .i64 0, .int .i64 0] 24)).alloc (.cells #[.int .i64 0, .int .i64 0, .int .i64 0, .int .i64 0, .int .i64 0, .int .i64 0, .int .i64 0, .int .i64 0] 24)) (w.heap.size + 1) [0, 0, 0, 0, 0, 0, 0, 0]) := by
    have h := arr_new (w.alloc (.cells #[.int .i64 0, .int .i64 0, .int .i64 0, .int .i64 0, .int .i64 0, .int .i64 0, .int .i64 0, .int .i64 0] 24))
    rw [show (w.alloc (.cells #[.int .i64 0, .int .i64 0, .int .i64 0, .int .i64 0, .int .i64 0, .int .i64 0, .int .i64 0, .int .i64 0] 24)).heap.size = w.heap.size + 1 by simp] at h
    exact h
  have B0 : Hid (Below w.heap.size w ((w.alloc (.cells #[.int .i64 0, .int .i64 0, .int .i64 0, .int .i64 0, .int .i64 0, .int .i64 0, .int .i64 0, .int .i64 0] 24)).alloc (.cells #[.int .i64 0, .int .i64 0, .int .i64 0, .int .i64 0, .int .i64 0, .int .i64 0, .int .i64 0, .int .i64 0] 24))) := ((Below.refl _ w).alloc (Nat.le_refl _) _).alloc (by simp) _
  have Z0 : Hid (((w.alloc (.cells #[.int .i64 0, .int .i64 0, .int .i64 0, .int .i64 0, .int .i64 0, .int .i64 0, .int .i64 0, .int .i64 0] 24)).alloc (.cells #[.int .i64 0, .int .i64 0, .int .i64 0, .int .i64 0, .int .i64 0, .int .i64 0, .int .i64 0, .int .i64 0] 24)).heap.size = w.heap.size + 2) := by show _ = _; simp
  cases hd : dblN s.data.toList with
  | none =>
    rw [hd] at CD
    have CG : Hid (∀ W, Calls Tryz.prog 53 #[.string s, .bool true] W fun e w' => grpAns W w' (grpS true s.data.toList) e ∧ Below W.heap.size W w') := fun W => specGroups s true W hs
    have HP : Hid (par6 s.data.toList = match grpS true s.data.toList with
      | none => none
      | some g => if g.length = 8 then some g else none) := par6_none hd
    generalize grpS true s.data.toList = r at CG HP
    clear hd
    simp only [dblZ] at CD
    go_enter Tryz.func29, Tryz.ntmps29
    go_wp2_with fail
    refine (CD.out _).mono ?_
    rintro e w1 ⟨rfl, b1⟩
    go_wp2_with fail
    refine (CG.out _).mono ?_
    rintro e w2 ⟨⟨v, l, rfl, ol, hll, hrl⟩, b2⟩
    have b12 := b1.trans (b2.mono b1.size)
    have RA := AR.out.later b12
    have OA := AO.out.later b12
    have B2 := B0.out.trans (b12.mono B0.out.size)
    have HRL : Hid (∀ gs, r = some gs → l = gs) := hrl
    have z1 : w.heap.size + 2 ≤ w1.heap.size := by have := Z0.out; have := b1.size; omega
    clear b12 b2 b1 hrl
    by_cases h8 : l.length = 8
    · rcases own_shape ol with ⟨h, _⟩ | ⟨_, g, cap, rfl⟩
      · omega
      · have hg := (ol.lt g rfl).1
        have HCL : Hid (∀ j, j < 8 → w2.cell? ⟨g, j, none⟩ = some (.int .i64 ((toI l).getD j 0))) := fun j hj => icell_at ol j (by omega)
        have HTL : Hid ((toI l).length = 8) := by show _ = _; rw [toI_len]; exact h8
        have HH8 : Hid (l.length = 8) := h8
        rw [h8]
        have HRA := hid_arr RA
        have HOA := hid_arr OA
        have HB2 : Hid (Below w.heap.size w w2) := B2
        clear ol h8 RA OA B2 CD CG AR AO B0 Z0 hll
        go_wp2_with fail
        go_loopw [8] (fun i wr => ∃ k : Nat, k ≤ 8 ∧ i = .int .i64 k ∧ ArrAt wr (w.heap.size + 1) (padA (toI l) k) ∧ ArrAt wr w.heap.size [0, 0, 0, 0, 0, 0, 0, 0] ∧ (∀ j, j < 8 → wr.cell? ⟨g, j, none⟩ = some (.int .i64 ((toI l).getD j 0))) ∧ Below w.heap.size w wr) (fun i _ => 8 - (intOf i).toNat)
        case atStart => exact ⟨0, Nat.zero_le _, rfl, HOA.out, HRA.out, HCL.out, HB2.out⟩
        case round =>
          obtain ⟨k, hk, rfl, oa, ra, hcl, hbel⟩ := hrel
          have HOW := hid_arr oa
          have HRW := hid_arr ra
          have HCW : Hid (∀ j, j < 8 → wr.cell? ⟨g, j, none⟩ = some (.int .i64 ((toI l).getD j 0))) := hcl
          clear oa ra hcl HRA HOA HCL HB2
          by_cases hlt : k < 8
          · have hc := HCW.out k hlt
            have ho := (HOW.out.2 k hlt).1
            have hof := (HOW.out.2 k hlt).2
            have HPS : Hid ((padA (toI l) k).set k ((toI l).getD k 0) = padA (toI l) (k + 1)) := padA_set (by have := HTL.out; omega) (by have := HTL.out; omega)
            have hki : (k : Int) < 8 := by omega
            generalize (toI l).getD k 0 = y at hc HPS
            generalize (padA (toI l) k).getD k 0 = y0 at ho
            go_wp2_with fail
            go_roundw
            case rel =>
              refine ⟨k + 1, by omega, by go_num, ?_, ?_, ?_, ?_⟩
              · have h := HOW.out.set k hlt y
                rw [HPS.out] at h
                exact h
              · exact HRW.out.other (by omega) _ _
              · intro j hj
                rw [World.cell?_setCell_other _ _ _ _ (fun h => by injection h; omega)]
                exact HCW.out j hj
              · exact hbel.setCell (p := ⟨w.heap.size + 1, k, none⟩) (by simp) _
            case measure => simp [intOf]; omega
          · have hki : ¬ (k : Int) < 8 := by omega
            obtain rfl : k = 8 := by omega
            generalize hq : r.isSome = q at *
            cases q with
            | true =>
              obtain ⟨gs, hgs⟩ := Option.isSome_iff_exists.1 hq
              have hlg := HRL.out gs hgs
              have HZ : Hid (parV (par6 s.data.toList) = .tuple #[.agg ((toI l).map (Value.int .i64)).toArray, .bool true]) := by
                show _ = _
                rw [HP.out, hgs]
                simp only
                rw [if_pos (by rw [← hlg]; exact HH8.out), hlg]
                rfl
              have OA8 := HOW.out
              rw [padA_full HTL.out] at OA8
              obtain ⟨x0, x1, x2, x3, x4, x5, x6, x7, hx⟩ := arr_list OA8
              rw [hx] at OA8 HZ
              have HRQ : Hid (r.isSome = true) := hq
              clear hq hgs hlg hx HOW HCW
              have HOA8 := hid_arr OA8
              have o0 := (OA8.2 0 (by decide)).1
              have o1 := (OA8.2 1 (by decide)).1
              have o2 := (OA8.2 2 (by decide)).1
              have o3 := (OA8.2 3 (by decide)).1
              have o4 := (OA8.2 4 (by decide)).1
              have o5 := (OA8.2 5 (by decide)).1
              have o6 := (OA8.2 6 (by decide)).1
              have o7 := (OA8.2 7 (by decide)).1
              clear OA8
              simp only [List.getD_eq_getElem?_getD, List.getElem?_cons_zero, List.getElem?_cons_succ, Option.getD_some] at o0 o1 o2 o3 o4 o5 o6 o7
              have RA := HRW.out
              have r0 := (RA.2 0 (by decide)).1
              have r1 := (RA.2 1 (by decide)).1
              have r2 := (RA.2 2 (by decide)).1
              have r3 := (RA.2 3 (by decide)).1
              have r4 := (RA.2 4 (by decide)).1
              have r5 := (RA.2 5 (by decide)).1
              have r6 := (RA.2 6 (by decide)).1
              have r7 := (RA.2 7 (by decide)).1
              have f0 := (RA.2 0 (by decide)).2
              have f1 := (RA.2 1 (by decide)).2
              have f2 := (RA.2 2 (by decide)).2
              have f3 := (RA.2 3 (by decide)).2
              have f4 := (RA.2 4 (by decide)).2
              have f5 := (RA.2 5 (by decide)).2
              have f6 := (RA.2 6 (by decide)).2
              have f7 := (RA.2 7 (by decide)).2
              have HRA := hid_arr RA
              clear RA
              go_wp2_with fail
              refine bodyPost_ret (arr_results rfl _ _ w.heap.size true x0 x1 x2 x3 x4 x5 x6 x7 rfl rfl (arr_store HRA.out x0 x1 x2 x3 x4 x5 x6 x7)) rfl ⟨by rw [HZ.out]; rfl, below_store hbel (Nat.le_refl _) x0 x1 x2 x3 x4 x5 x6 x7⟩
            | false =>
              have HZ : Hid (parV (par6 s.data.toList) = parV none) := by
                show _ = _
                rw [HP.out]
                cases hr : r with
                | none => rfl
                | some gs => rw [hr] at hq; cases hq
              clear hq
              have RA := HRW.out
              have r0 := (RA.2 0 (by decide)).1
              have r1 := (RA.2 1 (by decide)).1
              have r2 := (RA.2 2 (by decide)).1
              have r3 := (RA.2 3 (by decide)).1
              have r4 := (RA.2 4 (by decide)).1
              have r5 := (RA.2 5 (by decide)).1
              have r6 := (RA.2 6 (by decide)).1
              have r7 := (RA.2 7 (by decide)).1
              have f0 := (RA.2 0 (by decide)).2
              have f1 := (RA.2 1 (by decide)).2
              have f2 := (RA.2 2 (by decide)).2
              have f3 := (RA.2 3 (by decide)).2
              have f4 := (RA.2 4 (by decide)).2
              have f5 := (RA.2 5 (by decide)).2
              have f6 := (RA.2 6 (by decide)).2
              have f7 := (RA.2 7 (by decide)).2
              have HRA := hid_arr RA
              clear RA
              go_wp2_with fail
              refine bodyPost_ret (arr_results rfl _ _ w.heap.size false 0 0 0 0 0 0 0 0 rfl rfl (arr_store HRA.out 0 0 0 0 0 0 0 0)) rfl ⟨by rw [HZ.out]; rfl, below_store hbel (Nat.le_refl _) 0 0 0 0 0 0 0 0⟩
    · have HZ : Hid (parV (par6 s.data.toList) = parV none) := by
        show _ = _
        rw [HP.out]
        cases hr : r with
        | none => rfl
        | some gs =>
          simp only
          rw [if_neg (by rw [← HRL.out gs hr]; exact h8)]
      have h8' : ((l.length : Int) == 8) = false := by simp; omega
      have r0 := (RA.2 0 (by decide)).1
      have r1 := (RA.2 1 (by decide)).1
      have r2 := (RA.2 2 (by decide)).1
      have r3 := (RA.2 3 (by decide)).1
      have r4 := (RA.2 4 (by decide)).1
      have r5 := (RA.2 5 (by decide)).1
      have r6 := (RA.2 6 (by decide)).1
      have r7 := (RA.2 7 (by decide)).1
      have f0 := (RA.2 0 (by decide)).2
      have f1 := (RA.2 1 (by decide)).2
      have f2 := (RA.2 2 (by decide)).2
      have f3 := (RA.2 3 (by decide)).2
      have f4 := (RA.2 4 (by decide)).2
      have f5 := (RA.2 5 (by decide)).2
      have f6 := (RA.2 6 (by decide)).2
      have f7 := (RA.2 7 (by decide)).2
      have HRA := hid_arr RA
      clear RA
      rcases own_shape ol with ⟨h, _, ao, cap, rfl⟩ | ⟨hpl, g, cap, rfl⟩
      · generalize r.isSome = q at *
        clear ol OA h8' h8 h
        cases q with
        | true =>
          go_wp2_with fail
          refine wp_loop_rounds 1 ?_
          rw [rounds_succ]
          go_wp2_with fail
          refine bodyPost_ret (arr_results rfl _ _ w.heap.size false 0 0 0 0 0 0 0 0 rfl rfl (arr_store HRA.out 0 0 0 0 0 0 0 0)) rfl ⟨by rw [HZ.out]; rfl, below_store B2 (Nat.le_refl _) 0 0 0 0 0 0 0 0⟩
        | false =>
          go_wp2_with fail
          refine wp_loop_rounds 1 ?_
          rw [rounds_succ]
          go_wp2_with fail
          refine bodyPost_ret (arr_results rfl _ _ w.heap.size false 0 0 0 0 0 0 0 0 rfl rfl (arr_store HRA.out 0 0 0 0 0 0 0 0)) rfl ⟨by rw [HZ.out]; rfl, below_store B2 (Nat.le_refl _) 0 0 0 0 0 0 0 0⟩
      · have hpl' : 0 < (l.length : Int) := by omega
        generalize r.isSome = q at *
        clear ol OA h8
        cases q with
        | true =>
          go_wp2_with fail
          refine wp_loop_rounds 1 ?_
          rw [rounds_succ]
          go_wp2_with fail
          refine bodyPost_ret (arr_results rfl _ _ w.heap.size false 0 0 0 0 0 0 0 0 rfl rfl (arr_store HRA.out 0 0 0 0 0 0 0 0)) rfl ⟨by rw [HZ.out]; rfl, below_store B2 (Nat.le_refl _) 0 0 0 0 0 0 0 0⟩
        | false =>
          go_wp2_with fail
          refine wp_loop_rounds 1 ?_
          rw [rounds_succ]
          go_wp2_with fail
          refine bodyPost_ret (arr_results rfl _ _ w.heap.size false 0 0 0 0 0 0 0 0 rfl rfl (arr_store HRA.out 0 0 0 0 0 0 0 0)) rfl ⟨by rw [HZ.out]; rfl, below_store B2 (Nat.le_refl _) 0 0 0 0 0 0 0 0⟩
  | some k =>
    have hk2 := dbl_lt hd
    have hsl : s.data.toList.length = s.size := by simp
    rw [hsl] at hk2
    have ea : (s.extract 0 k).data.toList = s.data.toList.take k := by rw [extract_list]; simp
    have eb : (s.extract (k + 2) s.size).data.toList = s.data.toList.drop (k + 2) := by rw [extract_list, take_all s s.size (Nat.le_refl _)]
    have CA : Hid (∀ W, Calls Tryz.prog 53 #[.string (s.extract 0 k), .bool false] W fun e w' => grpAns W w' (grpS false (s.data.toList.take k)) e ∧ Below W.heap.size W w') := fun W => by
      rw [← ea]
      exact specGroups _ false W (by rw [ByteArray.size_extract]; omega)
    have CB : Hid (∀ W, Calls Tryz.prog 53 #[.string (s.extract (k + 2) s.size), .bool true] W fun e w' => grpAns W w' (grpS true (s.data.toList.drop (k + 2))) e ∧ Below W.heap.size W w') := fun W => by
      rw [← eb]
      exact specGroups _ true W (by rw [ByteArray.size_extract]; omega)
    have HP : Hid (par6 s.data.toList = match grpS false (s.data.toList.take k), grpS true (s.data.toList.drop (k + 2)) with
      | some x, some y => if x.length + y.length ≤ 7 then some (fill8 x y) else none
      | _, _ => none) := par6_some hd
    rw [hd] at CD
    simp only [dblZ] at CD
    clear ea eb hsl hd
    generalize grpS false (s.data.toList.take k) = ra at CA HP
    generalize grpS true (s.data.toList.drop (k + 2)) = rb at CB HP
    have hk3 : (k : Int) + 2 ≤ (s.size : Int) := by omega
    have hk4 : ¬ (k : Int) < 0 := by omega
    go_enter Tryz.func29, Tryz.ntmps29
    go_wp2_with fail
    refine (CD.out _).mono ?_
    rintro e w1 ⟨rfl, b1⟩
    go_wp2_with fail
    refine (CA.out _).mono ?_
    rintro e w2 ⟨⟨va, la, rfl, oa, hla, hra⟩, b2⟩
    go_wp2_with fail
    refine (CB.out _).mono ?_
    rintro e w3 ⟨⟨vb, lb, rfl, ob, hlb, hrb⟩, b3⟩
    have b12 := b1.trans (b2.mono b1.size)
    have b13 := b12.trans (b3.mono b12.size)
    have AR3 := hid_arr (AR.out.later b13)
    have AO3 := hid_arr (AO.out.later b13)
    have B3 : Hid (Below w.heap.size w w3) := B0.out.trans (b13.mono B0.out.size)
    have oa' := own_below oa b3
    have z1 : w.heap.size + 2 ≤ w1.heap.size := by have := Z0.out; have := b1.size; omega
    have z2 : w.heap.size + 2 ≤ w2.heap.size := Nat.le_trans z1 b2.size
    obtain ⟨aoa, capa, rfl, ra0⟩ := row_view oa' (toI_len la)
    obtain ⟨aob, capb, rfl, rb0⟩ := row_view ob (toI_len lb)
    have HRA0 : Hid (RowAt w3 (w.heap.size + 2) aoa (toI la)) := fun h0 => by
      obtain ⟨g, h1, h2, h3⟩ := ra0 h0
      exact ⟨g, h1, by omega, h3⟩
    have HRB0 : Hid (RowAt w3 (w.heap.size + 2) aob (toI lb)) := fun h0 => by
      obtain ⟨g, h1, h2, h3⟩ := rb0 h0
      exact ⟨g, h1, by omega, h3⟩
    have HLA : Hid (∀ gs, ra = some gs → la = gs) := hra
    have HLB : Hid (∀ gs, rb = some gs → lb = gs) := hrb
    clear ra0 rb0 oa oa' ob b1 b2 b3 b12 b13 hra hrb AR AO B0 Z0 CA CB CD z1 z2
    cases ra with
    | none =>
      have HZ : Hid (parV (par6 s.data.toList) = parV none) := by show _ = _; rw [HP.out]
      simp only [Option.isSome_none]
      have RA := AR3.out
      have r0 := (RA.2 0 (by decide)).1
      have r1 := (RA.2 1 (by decide)).1
      have r2 := (RA.2 2 (by decide)).1
      have r3 := (RA.2 3 (by decide)).1
      have r4 := (RA.2 4 (by decide)).1
      have r5 := (RA.2 5 (by decide)).1
      have r6 := (RA.2 6 (by decide)).1
      have r7 := (RA.2 7 (by decide)).1
      have f0 := (RA.2 0 (by decide)).2
      have f1 := (RA.2 1 (by decide)).2
      have f2 := (RA.2 2 (by decide)).2
      have f3 := (RA.2 3 (by decide)).2
      have f4 := (RA.2 4 (by decide)).2
      have f5 := (RA.2 5 (by decide)).2
      have f6 := (RA.2 6 (by decide)).2
      have f7 := (RA.2 7 (by decide)).2
      have HRA := hid_arr RA
      clear RA
      go_wp2_with fail
      refine bodyPost_ret (arr_results rfl _ _ w.heap.size false 0 0 0 0 0 0 0 0 rfl rfl (arr_store HRA.out 0 0 0 0 0 0 0 0)) rfl ⟨by rw [HZ.out]; rfl, below_store B3.out (Nat.le_refl _) 0 0 0 0 0 0 0 0⟩
    | some ga =>
      cases rb with
      | none =>
        have HZ : Hid (parV (par6 s.data.toList) = parV none) := by show _ = _; rw [HP.out]
        simp only [Option.isSome_none, Option.isSome_some]
        have RA := AR3.out
        have r0 := (RA.2 0 (by decide)).1
        have r1 := (RA.2 1 (by decide)).1
        have r2 := (RA.2 2 (by decide)).1
        have r3 := (RA.2 3 (by decide)).1
        have r4 := (RA.2 4 (by decide)).1
        have r5 := (RA.2 5 (by decide)).1
        have r6 := (RA.2 6 (by decide)).1
        have r7 := (RA.2 7 (by decide)).1
        have f0 := (RA.2 0 (by decide)).2
        have f1 := (RA.2 1 (by decide)).2
        have f2 := (RA.2 2 (by decide)).2
        have f3 := (RA.2 3 (by decide)).2
        have f4 := (RA.2 4 (by decide)).2
        have f5 := (RA.2 5 (by decide)).2
        have f6 := (RA.2 6 (by decide)).2
        have f7 := (RA.2 7 (by decide)).2
        have HRA := hid_arr RA
        clear RA
        go_wp2_with fail
        refine bodyPost_ret (arr_results rfl _ _ w.heap.size false 0 0 0 0 0 0 0 0 rfl rfl (arr_store HRA.out 0 0 0 0 0 0 0 0)) rfl ⟨by rw [HZ.out]; rfl, below_store B3.out (Nat.le_refl _) 0 0 0 0 0 0 0 0⟩
      | some gb =>
        obtain rfl := HLA.out ga rfl
        obtain rfl := HLB.out gb rfl
        simp only [Option.isSome_some]
        by_cases h7 : la.length + lb.length ≤ 7
        · have HZ : Hid (parV (par6 s.data.toList) = .tuple #[.agg ((toI (fill8 la lb)).map (Value.int .i64)).toArray, .bool true]) := by
            show _ = _
            rw [HP.out]
            simp only
            rw [if_pos h7]
            rfl
          have h7' : ¬ 7 < (la.length : Int) + (lb.length : Int) := by omega
          have HFIN : Hid (padB (padA (toI la) (toI la).length) (toI lb) (toI lb).length = toI (fill8 la lb)) := by
            show _ = _
            rw [padB_full (by rw [toI_len, toI_len]; exact h7), toI_fill]
          have HLL : Hid ((toI la).length = la.length ∧ (toI lb).length = lb.length) := ⟨toI_len la, toI_len lb⟩
          have hla7 : la.length ≤ 7 := by omega
          have hlb7 : lb.length ≤ 7 := by omega
          clear hla hlb HP HLA HLB hk2 hk3 hk4 h7
          go_wp2_with fail
          go_loopw [13] (fun i wr => ∃ k : Nat, k ≤ la.length ∧ i = .int .i64 k ∧ ArrAt wr (w.heap.size + 1) (padA (toI la) k) ∧ ArrAt wr w.heap.size [0, 0, 0, 0, 0, 0, 0, 0] ∧ RowAt wr (w.heap.size + 2) aoa (toI la) ∧ RowAt wr (w.heap.size + 2) aob (toI lb) ∧ Below w.heap.size w wr) (fun i _ => la.length - (intOf i).toNat)
          case atStart => exact ⟨0, Nat.zero_le _, rfl, AO3.out, AR3.out, HRA0.out, HRB0.out, B3.out⟩
          case round =>
            obtain ⟨i, hi, rfl, oa, ra, qa, qb, hbel⟩ := hrel
            have HOW := hid_arr oa
            have HRW := hid_arr ra
            have HQA : Hid (RowAt wr (w.heap.size + 2) aoa (toI la)) := qa
            have HQB : Hid (RowAt wr (w.heap.size + 2) aob (toI lb)) := qb
            clear oa ra qa qb HRA0 HRB0 AO3 AR3 B3
            by_cases hlt : i < la.length
            · obtain ⟨g, rfl, hg1, hg2⟩ := HQA.out (by have := HLL.out; omega)
              have hc := hg2 i (by have := HLL.out; omega)
              have ho := (HOW.out.2 i (by omega)).1
              have hof := (HOW.out.2 i (by omega)).2
              have HPS : Hid ((padA (toI la) i).set i ((toI la).getD i 0) = padA (toI la) (i + 1)) := padA_set (by have := HLL.out; omega) (by have := HLL.out; omega)
              have hki : (i : Int) < (la.length : Int) := by omega
              clear hg2
              generalize (toI la).getD i 0 = y at hc HPS
              generalize (padA (toI la) i).getD i 0 = y0 at ho
              have hi8 : (i : Int) < 8 := by omega
              go_wp2_with fail
              go_roundw
              case rel =>
                refine ⟨i + 1, by omega, by go_num, ?_, HRW.out.other (by omega) _ _, HQA.out.other (by omega) _ _, HQB.out.other (by omega) _ _, ?_⟩
                · have h := HOW.out.set i (by omega) y
                  rw [HPS.out] at h
                  exact h
                · exact hbel.setCell (p := ⟨w.heap.size + 1, i, none⟩) (by simp) _
              case measure => simp [intOf]; omega
            · have hki : ¬ (i : Int) < (la.length : Int) := by omega
              obtain rfl : i = la.length := by omega
              have HOW2 : Hid (ArrAt wr (w.heap.size + 1) (padB (padA (toI la) (toI la).length) (toI lb) 0)) := by
                have h := HOW.out
                rw [← HLL.out.1] at h
                rw [padB_zero]
                exact h
              have HB4 : Hid (Below w.heap.size w wr) := hbel
              have HPL : Hid ((padA (toI la) (toI la).length).length = 8) := padA_len (Nat.le_refl _) (by have := HLL.out; omega)
              clear HOW hlt hi hbel HQA
              generalize padA (toI la) (toI la).length = zz at HOW2 HPL HFIN
              go_wp2_with fail
              clear hki
              go_loopw [14] (fun i wr' => ∃ k : Nat, k ≤ lb.length ∧ i = .int .i64 k ∧ ArrAt wr' (w.heap.size + 1) (padB zz (toI lb) k) ∧ ArrAt wr' w.heap.size [0, 0, 0, 0, 0, 0, 0, 0] ∧ RowAt wr' (w.heap.size + 2) aob (toI lb) ∧ Below w.heap.size w wr') (fun i _ => lb.length - (intOf i).toNat)
              case atStart => exact ⟨0, Nat.zero_le _, rfl, HOW2.out, HRW.out, HQB.out, HB4.out⟩
              case round =>
                obtain ⟨i, hi, rfl, oa, ra, qb, hbel⟩ := hrel
                have HOW := hid_arr oa
                have HRW := hid_arr ra
                have HQB : Hid (RowAt wr (w.heap.size + 2) aob (toI lb)) := qb
                clear oa ra qb HOW2 HB4
                by_cases hlt : i < lb.length
                · obtain ⟨g, rfl, hg1, hg2⟩ := HQB.out (by have := HLL.out; omega)
                  have hc := hg2 i (by have := HLL.out; omega)
                  obtain ⟨m, hm⟩ : ∃ m : Nat, 8 - lb.length + i = m := ⟨_, rfl⟩
                  have hm8 : m < 8 := by omega
                  have hmi : (8 : Int) - (lb.length : Int) + (i : Int) = (m : Int) := by omega
                  have ho := (HOW.out.2 m hm8).1
                  have hof := (HOW.out.2 m hm8).2
                  have HPS : Hid ((padB zz (toI lb) i).set m ((toI lb).getD i 0) = padB zz (toI lb) (i + 1)) := by
                    show _ = _
                    have h := padB_set (z := zz) (b := toI lb) (i := i) HPL.out (by have := HLL.out; omega) (by have := HLL.out; omega)
                    rw [HLL.out.2, hm] at h
                    exact h
                  have HM : Hid (8 - lb.length + i = m) := hm
                  have hki : (i : Int) < (lb.length : Int) := by omega
                  clear hg2 hm
                  generalize (toI lb).getD i 0 = y at hc HPS
                  generalize (padB zz (toI lb) i).getD m 0 = y0 at ho
                  have hm8i : (m : Int) < 8 := by omega
                  go_wp2_with fail
                  go_roundw
                  case rel =>
                    refine ⟨i + 1, by omega, by go_num, ?_, HRW.out.other (by omega) _ _, HQB.out.other (by omega) _ _, ?_⟩
                    · have h := HOW.out.set m hm8 y
                      rw [HPS.out] at h
                      exact h
                    · exact hbel.setCell (p := ⟨w.heap.size + 1, m, none⟩) (by simp) _
                  case measure => simp [intOf]; omega
                · have hki : ¬ (i : Int) < (lb.length : Int) := by omega
                  obtain rfl : i = lb.length := by omega
                  have OA8 : ArrAt wr (w.heap.size + 1) (toI (fill8 la lb)) := by
                    have h := HOW.out
                    rw [← HLL.out.2, HFIN.out] at h
                    exact h
                  obtain ⟨x0, x1, x2, x3, x4, x5, x6, x7, hx⟩ := arr_list OA8
                  rw [hx] at OA8 HZ
                  clear HOW HFIN hx
                  have o0 := (OA8.2 0 (by decide)).1
                  have o1 := (OA8.2 1 (by decide)).1
                  have o2 := (OA8.2 2 (by decide)).1
                  have o3 := (OA8.2 3 (by decide)).1
                  have o4 := (OA8.2 4 (by decide)).1
                  have o5 := (OA8.2 5 (by decide)).1
                  have o6 := (OA8.2 6 (by decide)).1
                  have o7 := (OA8.2 7 (by decide)).1
                  clear OA8
                  simp only [List.getD_eq_getElem?_getD, List.getElem?_cons_zero, List.getElem?_cons_succ, Option.getD_some] at o0 o1 o2 o3 o4 o5 o6 o7
                  have RA := HRW.out
                  have r0 := (RA.2 0 (by decide)).1
                  have r1 := (RA.2 1 (by decide)).1
                  have r2 := (RA.2 2 (by decide)).1
                  have r3 := (RA.2 3 (by decide)).1
                  have r4 := (RA.2 4 (by decide)).1
                  have r5 := (RA.2 5 (by decide)).1
                  have r6 := (RA.2 6 (by decide)).1
                  have r7 := (RA.2 7 (by decide)).1
                  have f0 := (RA.2 0 (by decide)).2
                  have f1 := (RA.2 1 (by decide)).2
                  have f2 := (RA.2 2 (by decide)).2
                  have f3 := (RA.2 3 (by decide)).2
                  have f4 := (RA.2 4 (by decide)).2
                  have f5 := (RA.2 5 (by decide)).2
                  have f6 := (RA.2 6 (by decide)).2
                  have f7 := (RA.2 7 (by decide)).2
                  have HRA := hid_arr RA
                  clear RA
                  go_wp2_with fail
                  refine bodyPost_ret (arr_results rfl _ _ w.heap.size true x0 x1 x2 x3 x4 x5 x6 x7 rfl rfl (arr_store HRA.out x0 x1 x2 x3 x4 x5 x6 x7)) rfl ⟨by rw [HZ.out]; rfl, below_store hbel (Nat.le_refl _) x0 x1 x2 x3 x4 x5 x6 x7⟩
        · have HZ : Hid (parV (par6 s.data.toList) = parV none) := by
            show _ = _
            rw [HP.out]
            simp only
            rw [if_neg h7]
          have h7' : 7 < (la.length : Int) + (lb.length : Int) := by omega
          clear h7
          have RA := AR3.out
          have r0 := (RA.2 0 (by decide)).1
          have r1 := (RA.2 1 (by decide)).1
          have r2 := (RA.2 2 (by decide)).1
          have r3 := (RA.2 3 (by decide)).1
          have r4 := (RA.2 4 (by decide)).1
          have r5 := (RA.2 5 (by decide)).1
          have r6 := (RA.2 6 (by decide)).1
          have r7 := (RA.2 7 (by decide)).1
          have f0 := (RA.2 0 (by decide)).2
          have f1 := (RA.2 1 (by decide)).2
          have f2 := (RA.2 2 (by decide)).2
          have f3 := (RA.2 3 (by decide)).2
          have f4 := (RA.2 4 (by decide)).2
          have f5 := (RA.2 5 (by decide)).2
          have f6 := (RA.2 6 (by decide)).2
          have f7 := (RA.2 7 (by decide)).2
          have HRA := hid_arr RA
          clear RA
          go_wp2_with fail
          refine bodyPost_ret (arr_results rfl _ _ w.heap.size false 0 0 0 0 0 0 0 0 rfl rfl (arr_store HRA.out 0 0 0 0 0 0 0 0)) rfl ⟨by rw [HZ.out]; rfl, below_store B3.out (Nat.le_refl _) 0 0 0 0 0 0 0 0⟩
end Go.Proofs.YtamnhegianpedaaGreatDoor

namespace Go.Proofs.YtamnhegianpedaaGreatDoor
open Go.RowKit

theorem index_dbl : ∀ l : List UInt8, Lib.index l [58, 58] = dblZ (dblN l)
  | [] => rfl
  | c :: r => by
    rw [Lib.index, dblN, index_dbl r]
    by_cases h : c = 58 ∧ r.head? = some 58
    · rw [if_pos h, if_pos]
      · rfl
      · obtain ⟨rfl, h2⟩ := h
        cases r with
        | nil => simp at h2
        | cons d q => simp at h2; subst h2; simp [List.isPrefixOf]
    · rw [if_neg h, if_neg]
      · cases hr : dblN r with
        | none => simp [dblZ]
        | some k =>
          have : ((k : Int) == -1) = false := by simp
          simp [dblZ, this]
      · intro h2
        apply h
        cases r with
        | nil => simp [List.isPrefixOf] at h2
        | cons d q =>
          simp [List.isPrefixOf] at h2
          exact ⟨h2.1.symm, by rw [h2.2]; rfl⟩

theorem cut_dbl (l : List UInt8) : Lib.cut l [58, 58] = match cut6L l with
    | none => (l, [], false)
    | some (a, b) => (a, b, true) := by
  unfold Lib.cut
  rw [index_dbl, dbl_cut]
  cases hd : dblN l with
  | none => rfl
  | some k =>
    have h : (0 : Int) ≤ dblZ (some k) := by simp [dblZ]
    rw [if_pos h]
    simp [dblZ]

set_option maxHeartbeats 1000000 in
theorem implManyFit (many : Int) (cut : Bool) (w : World) :
    Calls Tryz.prog 94 #[.int .i64 many, .bool cut] w fun e w' => e = .returned (.bool (if cut then decide (many < 8) else (many == 8))) ∧ w = w' := by
  cases cut with
  | true =>
    go_enter Tryz.func94, Tryz.ntmps94
    go_wp2
    go_ret
    exact ⟨rfl, rfl⟩
  | false =>
    go_enter Tryz.func94, Tryz.ntmps94
    go_wp2
    go_ret
    exact ⟨rfl, rfl⟩

/-- What is answered of groups by the code: the row; nothing where they are none. -/
def grpAnsI (w w' : World) (r : Option (List Nat)) (e : Ending) : Prop := match r with
  | none => e = .returned (.tuple #[.slice none 0 0, .bool false])
  | some gs => ∃ v : Value, e = .returned (.tuple #[v, .bool true]) ∧ w'.ownsRow w.heap.size 3 1 v gs.length (icells (toI gs))

set_option maxRecDepth 20000 in
set_option maxHeartbeats 8000000 in
theorem implReadGroups (s : ByteArray) (w : World) (hs : s.size ≤ 1048576) :
    Calls Tryz.prog 93 #[.string s] w fun e w' => grpAnsI w w' (grpS false s.data.toList) e ∧ Below w.heap.size w w' := by
  have HO : (w.alloc (.cells #[] 3)).ownsRow w.heap.size 3 1 (.slice (some ⟨w.heap.size, 0, none⟩) 0 0) 0 [] := World.ownsRow_lit w #[] 0 (Nat.le_refl _) (by decide) rfl
  by_cases h0 : s.size = 0
  · have hem := empty_yes h0
    have HZ : Hid (grpS false s.data.toList = some []) := grpS_nil h0
    clear h0
    go_enter Tryz.func93, Tryz.ntmps93
    go_wp2_with fail
    go_ret2
    rw [HZ.out]
    exact ⟨⟨_, rfl, HO⟩, (Below.refl _ _).alloc (Nat.le_refl _) _⟩
  · have hp : 0 < s.size := by omega
    have hem := empty_no hp
    have HF : Hid (grpS false s.data.toList = grp false ((fieldsL s 58).map toL)) := grpS_fields hp
    have hpos : 0 < (fieldsL s 58).length := by simp [fieldsL]
    have hlen : (fieldsL s 58).length ≤ 1048577 := by
      have := (fieldsTo_le s 58 s.size).2
      simp [fieldsL]; omega
    have HSZ : Hid (∀ x ∈ fieldsL s 58, x.size ≤ 1048576) := fields_sizes58 s hs
    have CF : Hid (∀ W, Calls Tryz.prog 95 #[.string s, .int .u8 58] W fun e w' => ∃ v, e = .returned v ∧ w'.ownsRow W.heap.size 9 1 v (fieldsL s 58).length (scells (fieldsL s 58)) ∧ Below W.heap.size W w') := fun W => implFields s 58 W hs
    generalize fieldsL s 58 = fs at HF hpos hlen HSZ CF
    clear h0
    go_enter Tryz.func93, Tryz.ntmps93
    go_wp2_with fail
    refine (CF.out _).mono ?_
    rintro e wa ⟨va, rfl, oa, ba⟩
    have OA := own_below HO ba
    rcases own_shape oa with ⟨h, _⟩ | ⟨_, g, cap, rfl⟩
    · omega
    · have hg := (oa.lt g rfl).1
      have hg2 := (oa.lt g rfl).2
      have B0 : Below w.heap.size w wa := ((Below.refl _ w).alloc (Nat.le_refl _) _).trans (ba.mono (by simp))
      have HC0 : Hid (∀ j, j < fs.length → wa.cell? ⟨g, j, none⟩ = some (.string (fs.getD j ByteArray.empty))) := fun j hj => scell_at oa j hj
      clear ba HO oa CF
      go_wp2_with fail
      go_loopw [4, 16] (fun v i wr => ∃ (k : Nat) (acc : List Nat), k ≤ fs.length ∧ i = .int .i64 k ∧ acc.length ≤ k ∧ grp false (fs.map toL) = (grp false ((fs.drop k).map toL)).map (acc ++ ·) ∧ wr.ownsRow w.heap.size 3 1 v acc.length (icells (toI acc)) ∧ (∀ j, j < fs.length → wr.cell? ⟨g, j, none⟩ = some (.string (fs.getD j ByteArray.empty))) ∧ some g ≠ v.ownBlock ∧ g < wr.heap.size ∧ Below w.heap.size w wr)
        (fun _ i _ => fs.length - (intOf i).toNat)
      case atStart =>
        refine ⟨0, [], Nat.zero_le _, rfl, by simp, by simp, OA, HC0.out, ?_, hg2, B0⟩
        simp [Value.ownBlock]
        simp at hg
        omega
      case round =>
        obtain ⟨k, acc, hk, rfl, hal, hr, ow, hcell, hne, hgl, hbel⟩ := hrel
        have HR : Hid (grp false (fs.map toL) = (grp false ((fs.drop k).map toL)).map (acc ++ ·)) := hr
        have HC2 : Hid (∀ j, j < fs.length → wr.cell? ⟨g, j, none⟩ = some (.string (fs.getD j ByteArray.empty))) := hcell
        have hsz := hbel.size
        clear hr OA B0 HC0
        by_cases hlt : k < fs.length
        · have hc := hcell k hlt
          have HS : Hid (_ = _) := grp_step false fs k hlt
          have CN : Hid (∀ W, Calls Tryz.prog 113 #[.string (fs.getD k ByteArray.empty), .int .i64 16, .int .i64 4] W fun e w' => e = .returned (numA (numL 16 4 (toL (fs.getD k ByteArray.empty)))) ∧ W = w') := fun W => implDigits _ 16 4 W (by omega) (by omega)
          clear hcell
          generalize fs.getD k ByteArray.empty = y at hc HS CN
          have HN0 : Hid ((if false = true ∧ k + 1 = fs.length then p4 (toL y) else none) = none) := by
            show _ = _
            rw [if_neg (by simp)]
          have hki : (k : Int) < (fs.length : Int) := by omega
          cases hv : numL 16 4 (toL y) with
          | none =>
            have hg16 : g16 (toL y) = none := by
              unfold g16
              split
              · rfl
              · exact hv
            rw [hv] at CN
            have HZ : Hid (grpS false s.data.toList = none) := by
              show _ = _
              rw [HF.out, HR.out, HS.out, HN0.out, hg16]
              rfl
            clear hv hg16
            go_wp2_with fail
            refine (CN.out _).mono ?_
            rintro e w' ⟨rfl, rfl⟩
            simp only [numA]
            go_wp2_with fail
            go_ret2
            rw [HZ.out]
            exact ⟨rfl, hbel⟩
          | some v =>
            have hvl := g16_lt hv
            rw [hv] at CN
            obtain ⟨x, hx⟩ : ∃ x : Int, (v : Int) = x := ⟨_, rfl⟩
            have HX : Hid ((v : Int) = x) := hx
            by_cases he : y.size = 0
            · have HZ : Hid (grpS false s.data.toList = none) := by
                show _ = _
                rw [HF.out, HR.out, HS.out, HN0.out, g16_nil he]
                rfl
              have hem2 := empty_yes he
              clear he hv hvl hx
              go_wp2_with fail
              refine (CN.out _).mono ?_
              rintro e w' ⟨rfl, rfl⟩
              simp only [numA]
              rw [HX.out]
              go_wp2_with fail
              go_ret2
              rw [HZ.out]
              exact ⟨rfl, hbel⟩
            · have hpy : 0 < y.size := by omega
              have hem2 := empty_no hpy
              have HG : Hid (grp false (fs.map toL) = (grp false ((fs.drop (k + 1)).map toL)).map ((acc ++ [v]) ++ ·)) := by
                show _ = _
                rw [HR.out, HS.out, HN0.out, g16_num hpy, hv]
                simp only
                cases grp false ((fs.drop (k + 1)).map toL) <;> simp
              clear he hv hvl hx
              go_wp2_with fail
              refine (CN.out _).mono ?_
              rintro e w' ⟨rfl, rfl⟩
              simp only [numA]
              rw [HX.out]
              go_wp2_with (at_builtin; refine wpList_append_newAt _ rfl _ _ 67 rfl w.heap.size 3 (.int .i64 0) 8 Tryz.underlying67 Tryz.infoI5 rfl _ _ _ rfl ow #[.int .i64 x] 1 rfl rfl (by intro u hu; simp at hu; subst hu; rfl) (by omega) (by unfold maxLen; omega) hsz ?_)
              intro v' w1 ow' gr hat
              have R : w1.ownsRow w.heap.size 3 1 v' (acc ++ [v]).length (icells (toI (acc ++ [v]))) := by
                rw [toI_snoc, HX.out, icells_snoc, List.length_append]
                exact ow'
              have B3 : Below w.heap.size w w1 := hbel.grown gr hsz (fun k hk => (ow.lt k hk).1)
              have hgw : w1.heap[g]? = wr.heap[g]? := gr.block g hgl hne
              have C1 : Hid (∀ j, j < fs.length → w1.cell? ⟨g, j, none⟩ = some (.string (fs.getD j ByteArray.empty))) := fun j hj =>
                (World.cell?_of_block (w := wr) (a := ⟨g, j, none⟩) hgw).trans (HC2.out j hj)
              have hne1 : some g ≠ v'.ownBlock := by
                rcases hat with h | h
                · rw [h]; exact hne
                · rw [h]; intro h2; cases h2; omega
              have hgl1 : g < w1.heap.size := Nat.lt_of_lt_of_le hgl gr.size
              clear ow ow' gr hat hbel hgw HC2 hc
              go_wp2_with fail
              go_roundw
              case rel => exact ⟨k + 1, acc ++ [v], by omega, by go_num, by rw [List.length_append]; simp; omega, HG.out, R, C1.out, hne1, hgl1, B3⟩
              case measure => simp [intOf]; omega
        · have HZ : Hid (grpS false s.data.toList = some acc) := by
            show _ = _
            rw [HF.out, HR.out, grp_end false fs k hlt]
            simp
          have hki : ¬ (k : Int) < (fs.length : Int) := by omega
          clear hcell HC2
          go_wp2_with fail
          go_ret2
          rw [HZ.out]
          exact ⟨⟨_, rfl, ow⟩, hbel⟩

theorem hexdec {a b : Nat} (ha : a < 256) (hb : b < 256) : (hex4 (a * 256 + b)).length ≤ (dec3 a).length + 1 + (dec3 b).length := by
  have h1 : 1 ≤ (dec3 b).length := by unfold dec3; split; simp; split <;> simp
  by_cases c1 : a < 10
  · have h2 : 1 ≤ (dec3 a).length := by unfold dec3; rw [if_pos c1]; simp
    have h3 : (hex4 (a * 256 + b)).length ≤ 3 := by
      unfold hex4
      split
      · simp
      · split
        · simp
        · rw [if_pos (by omega)]; simp
    omega
  · have h2 : 2 ≤ (dec3 a).length := by unfold dec3; rw [if_neg c1]; split <;> simp
    have h3 := (hex4_len (a * 256 + b)).2
    omega

theorem two4_len {n : Nat} (h : n < 4294967296) : (two4 n).length ≤ (ip4L n).length := by
  have e1 : n / 65536 = (n / 16777216) * 256 + n / 65536 % 256 := by omega
  have e2 : n % 65536 = (n / 256 % 256) * 256 + n % 256 := by omega
  have h1 := hexdec (a := n / 16777216) (b := n / 65536 % 256) (by omega) (by omega)
  have h2 := hexdec (a := n / 256 % 256) (b := n % 256) (by omega) (by omega)
  rw [← e1] at h1
  rw [← e2] at h2
  unfold two4 ip4L
  simp only [jl, List.length_append, List.length_cons]
  omega

/-- What stands behind the last colon, and ahead of it. -/
theorem last_colon (s : ByteArray) : ∃ b : Nat, b ≤ s.size ∧ Lib.lastIndexByte s 58 + 1 = (b : Int) ∧ endsOk (s.data.toList.take b) ∧ ∀ c ∈ s.data.toList.drop b, c ≠ 58 := by
  rcases Lib.lastIndexByte_spec s 58 with ⟨h1, h2⟩ | ⟨i, h0, h1, h2, h3⟩
  · refine ⟨0, Nat.zero_le _, by rw [h1]; rfl, .inl (by simp), ?_⟩
    intro c hc e
    rw [List.drop_zero] at hc
    obtain ⟨j, hj, rfl⟩ := List.getElem_of_mem hc
    have hj' : j < s.size := by simpa using hj
    apply h2 j hj'
    rw [getElem!_pos s.data j hj']
    have : s.data[j] = 58 := by simpa using e
    rw [this]; rfl
  · refine ⟨i + 1, h0, by rw [h1]; simp, .inr ⟨s.data.toList.take i, ?_⟩, ?_⟩
    · rw [take_snoc s i h0]
      congr 2
      apply u8_is
      rw [getElem!_pos s.data i h0] at h2
      show s.data[i].toNat = 58
      omega
    · intro c hc e
      obtain ⟨j, hj, rfl⟩ := List.getElem_of_mem hc
      rw [List.length_drop] at hj
      have hj' : i + 1 + j < s.size := by simp at hj; omega
      apply h3 (i + 1 + j) (by omega) hj'
      rw [getElem!_pos s.data _ hj']
      have : s.data[i + 1 + j] = 58 := by simpa using e
      rw [this]; rfl

theorem slice_str (s : ByteArray) (b : Nat) (hb : b ≤ s.size) (W : World) : (Instr.slice 9 (.string s) none (some (.int .i64 (b : Int))) none).run Tryz.prog W = .ok (.string (s.extract 0 b)) W := by
  simp [Instr.slice, run_underlying Tryz.underlying9, Instr.sliceBounds, run_sliceBound, go_sem, hb]

set_option maxRecDepth 20000 in
set_option maxHeartbeats 4000000 in
theorem implEnd (s : ByteArray) (w : World) (hs : s.size ≤ 1048576) (hT : Pow w) (hD : Bruijn w) :
    Calls Tryz.prog 92 #[.string s] w fun e w' => ∃ T : ByteArray, e = .returned (.string T) ∧ par6g T.data.toList = par6 s.data.toList ∧ T.size ≤ 1048576 ∧ Below w.heap.size w w' := by
  obtain ⟨b, hb, hlb, hpre, htl⟩ := last_colon s
  have CL : Hid (∀ W, Calls Tryz.prog 101 #[.string s, .int .u8 58] W fun e w' => e = .returned (.int .i64 (Lib.lastIndexByte s 58)) ∧ W = w') := fun W => (Tryz.strings_LastIndexByte s 58 (by omega) W).mono fun e w' h => ⟨h.1, h.2.symm⟩
  have et : (s.extract b s.size).data.toList = s.data.toList.drop b := by rw [extract_list, take_all s s.size (Nat.le_refl _)]
  have ep : (s.extract 0 b).data.toList = s.data.toList.take b := by rw [extract_list]; simp
  have CP : Hid (∀ W, Pow W → Calls Tryz.prog 112 #[.string (s.extract b s.size)] W fun e w' => e = .returned (numA (p4 (s.data.toList.drop b))) ∧ Below W.heap.size W w') := fun W h => by
    rw [← et]
    exact implParseIp4 _ W (by rw [ByteArray.size_extract]; omega) h
  have HT : Hid (Pow w) := hT
  have HD : Hid (Bruijn w) := hD
  have hcat : s.data.toList.take b ++ s.data.toList.drop b = s.data.toList := List.take_append_drop b _
  clear hT hD
  have hbi : (b : Int) ≤ (s.size : Int) := by omega
  have hl0 : Lib.lastIndexByte s 58 = (b : Int) - 1 := by omega
  rw [hl0] at CL
  clear hlb hl0
  cases hp : p4 (s.data.toList.drop b) with
  | none =>
    have HZ : Hid (par6g s.data.toList = par6 s.data.toList) := by
      have h := par6_plain hpre htl hp
      rw [hcat] at h
      exact h
    rw [hp] at CP
    clear hp hpre htl et ep hcat
    go_enter Tryz.func92, Tryz.ntmps92
    go_wp2_with fail
    refine (CL.out _).mono ?_
    rintro e w' ⟨rfl, rfl⟩
    go_wp2_with fail
    refine (CP.out _ HT.out).mono ?_
    rintro e w1 ⟨rfl, b1⟩
    simp only [numA]
    go_wp2_with fail
    go_ret
    exact ⟨s, rfl, HZ.out, hs, b1⟩
  | some n =>
    have hn4 := (p4_some hp).1
    have HTL : Hid (s.data.toList.drop b = ip4L n) := (p4_some hp).2
    have HZ : Hid (par6g (s.data.toList.take b ++ two4 n) = par6 s.data.toList) := by
      have h := par6_four hpre htl hp
      rw [hcat] at h
      exact h
    rw [hp] at CP
    clear hp hpre htl et hcat
    obtain ⟨x, hx⟩ : ∃ x : Int, (n : Int) = x := ⟨_, rfl⟩
    have HX : Hid ((n : Int) = x) := hx
    have hx0 : 0 ≤ x := by omega
    have hx1 : x < 4294967296 := by omega
    have b2 : bits .and .i64 x 65535 = x % 65536 := i64_low 16 65535 rfl _ (by omega) (by omega) (by decide)
    clear hx
    go_enter Tryz.func92, Tryz.ntmps92
    go_wp2_with fail
    refine (CL.out _).mono ?_
    rintro e w' ⟨rfl, rfl⟩
    go_wp2_with fail
    refine (CP.out _ HT.out).mono ?_
    rintro e w1 ⟨rfl, b1⟩
    simp only [numA]
    rw [HX.out]
    have CG : Hid (Calls Tryz.prog 67 #[.slice (some ⟨w1.heap.size, 0, none⟩) 2 2] ((w1.alloc (.cells #[.int .i64 (x / 65536), .int .i64 (x % 65536)] 3)).drew) fun e w' => e = .returned (.string ⟨(two4 n).toArray⟩) ∧ Below w1.heap.size w1 w') := by
      have hB : Below w1.heap.size w1 (w1.alloc (.cells #[.int .i64 (x / 65536), .int .i64 (x % 65536)] 3)).drew := ((Below.refl _ w1).alloc (Nat.le_refl _) _).drew
      have h := implGroupsText w1.heap.size 0 2 [n / 65536, n % 65536] ((w1.alloc (.cells #[.int .i64 (x / 65536), .int .i64 (x % 65536)] 3)).drew) (by simp) (by
        intro y hy
        simp at hy
        omega) (by
        intro j hj
        have hj2 : j = 0 ∨ j = 1 := by simp at hj; omega
        show (w1.alloc (.cells #[.int .i64 (x / 65536), .int .i64 (x % 65536)] 3)).cell? _ = _
        rw [World.cell?_alloc_at _ _ _ _ rfl]
        have := HX.out
        rcases hj2 with rfl | rfl
        · simp
          omega
        · simp
          omega) (bruijn_below (bruijn_below HD.out b1) hB)
      refine h.mono fun e w' q => ⟨?_, hB.trans (q.2.mono hB.size)⟩
      rw [q.1]
      rfl
    have HB1 : Hid (Below w.heap.size w w1) := b1
    have hs2 : (two4 n).length ≤ 100 := by
      have h1 := (hex4_len (n / 65536)).2
      have h2 := (hex4_len (n % 65536)).2
      simp [two4, jl]
      omega
    have HSZ : Hid ((s.extract 0 b).size + (⟨(two4 n).toArray⟩ : ByteArray).size ≤ 1048576) := by
      show _ ≤ _
      have h1 := two4_len hn4
      have h2 := congrArg List.length HTL.out
      rw [List.length_drop] at h2
      have h3 : s.data.toList.length = s.size := by simp
      rw [ByteArray.size_extract, show (⟨(two4 n).toArray⟩ : ByteArray).size = (two4 n).length from List.size_toArray]
      omega
    have HEQ : Hid ((s.extract 0 b ++ ⟨(two4 n).toArray⟩).data.toList = s.data.toList.take b ++ two4 n) := by
      show _ = _
      rw [ByteArray.data_append, Array.toList_append, ep]
    have z2 : (⟨(two4 n).toArray⟩ : ByteArray).size ≤ 100 := by rw [show (⟨(two4 n).toArray⟩ : ByteArray).size = (two4 n).length from List.size_toArray]; exact hs2
    generalize (⟨(two4 n).toArray⟩ : ByteArray) = T2 at CG HSZ HEQ z2
    have z1 : (s.extract 0 b).size ≤ 1048576 := by rw [ByteArray.size_extract]; omega
    have hsx : ∀ W : World, (Instr.slice 9 (.string s) none (some (.int .i64 (b : Int))) none).run Tryz.prog W = .ok (.string (s.extract 0 b)) W := fun W => slice_str s b hb W
    generalize s.extract 0 b = T1 at HSZ HEQ z1 hsx
    clear b1 hs2 HTL hn4 ep
    go_wp2_with fail
    go_region_with (go_at_call 67; with_reducible refine CG.out.mono ?_; rintro e w2 ⟨rfl, k2⟩)
    all_goals
      go_wp2_with fail
      go_ret
      refine ⟨T1 ++ T2, rfl, by rw [HEQ.out]; exact HZ.out, ?_, HB1.out.trans (k2.mono HB1.out.size)⟩
      rw [ByteArray.size_append]
      exact HSZ.out
end Go.Proofs.YtamnhegianpedaaGreatDoor

namespace Go.Proofs.YtamnhegianpedaaGreatDoor
open Go.ChangeShapes Go.WideShapes Go.ChangeAt Go.RowKit Go.Lib

theorem ownPow : ownKnob Tryz.prog.godebug = none := by kernel_rfl
theorem laidOutPow : laidOutB Tryz.prog = true := by kernel_rfl

def laidPow : List (String × DataW Unit) := [("math/bits.deBruijn32tab", Rows.laid_math_bits_deBruijn32tab), ("math/bits.deBruijn64tab", Rows.laid_math_bits_deBruijn64tab), ("internal/strconv.uint64pow10", Rows.laid_internal_strconv_uint64pow10)]

theorem pow_data : (Rows.laid_internal_strconv_uint64pow10 : DataW Unit) = Lib.tabData .u64 Lib.pow10Tab := by kernel_rfl

/-- What the rows' list gives: the powers of ten. -/
theorem pow_laid {W : World} (hL : laidMet Tryz.prog laidPow W) : Pow W := by
  unfold laidPow at hL
  rw [pow_data] at hL
  obtain ⟨g', t', cs, fuel, p, hg, hty, hvar, hd⟩ := Lib.laidMet.reads hL (.tail _ (.tail _ (.head _)))
  obtain rfl := Option.some.inj ((show Tryz.prog.globalNamed "internal/strconv.uint64pow10" = some 1 by kernel_rfl).symm.trans hg)
  obtain rfl := Option.some.inj ((show (Tryz.prog.globals[1]?).map (·.type) = some 135 by kernel_rfl).symm.trans hty)
  show Lib.TabIs _ _ _ _ _
  unfold Lib.TabIs
  rw [hvar, ← Lib.cells_of_tab (P := Tryz.prog) (t := 135) (e := 109) (n := 20) (k := .u64) (by kernel_rfl) (by kernel_rfl) (by kernel_rfl) (by kernel_rfl) hd]

def litCells (d : DataW Unit) : Array Value := match d with
  | .agg ds => (ds.map fun x => match x with
    | .lit (.int k n) => Value.int k n
    | _ => Value.int .i64 0).toArray
  | _ => #[]

def putRow5 (cs : Array Value) : Obj → Obj
  | .cells _ t frozen => .cells cs t frozen
  | o => o

/-- The heap of the witness: the three tables hold what their initialisers lay. -/
def powHeap (h : Array Obj) : Array Obj :=
  ((h.modify 4 (putRow5 (litCells Rows.laid_math_bits_deBruijn32tab))).modify 5 (putRow5 (litCells Rows.laid_math_bits_deBruijn64tab))).modify 1 (putRow5 (litCells Rows.laid_internal_strconv_uint64pow10))

theorem pow_met (os : Os) (args : Array Value) : laidMet Tryz.prog laidPow (({ World.holding Tryz.prog os ⟨#[], #[], []⟩ with heap := powHeap (World.holding Tryz.prog os ⟨#[], #[], []⟩).heap } : World).forCall (fun _ _ => 0) ⟨#[], args, []⟩).memory :=
  (LaidIn.of_run (l := laidPow) [4, 5, 1] 8 (by kernel_rfl) (by kernel_rfl) (by kernel_rfl) (by kernel_rfl)).met

/-- Package bytealg's variable holds some int. -/
def MaxI (w : World) : Prop := ∃ m, w.cell? ⟨0, 0, none⟩ = some (.int .i64 m)
theorem max_shaped {w : World} (h : w.ShapedOpen Tryz.prog) : MaxI w := Tryz.laysM145.s1_3 w h
theorem max_below {w w' : World} (h : MaxI w) (hb : Below w.heap.size w w') : MaxI w' := by
  obtain ⟨m, hm⟩ := h
  exact ⟨m, cell_later hb hm⟩

theorem list_map {α : Type} {f : Int → Value} {Q : Int → Prop} : ∀ {l : List Value}, (∀ i, i < l.length → ∃ z, l[i]? = some (f z) ∧ Q z) → ∃ zs : List Int, l = zs.map f ∧ ∀ z ∈ zs, Q z
  | [], _ => ⟨[], rfl, fun z hz => by simp at hz⟩
  | v :: l, h => by
    obtain ⟨z, hz, hq⟩ := h 0 (by simp)
    obtain ⟨zs, rfl, hzs⟩ := list_map (α := α) (f := f) (Q := Q) (l := l) (fun i hi => by
      obtain ⟨z, h1, h2⟩ := h (i + 1) (by simpa using hi)
      exact ⟨z, by simpa using h1, h2⟩)
    simp at hz
    subst hz
    refine ⟨z :: zs, rfl, fun y hy => ?_⟩
    rcases List.mem_cons.1 hy with rfl | hy
    · exact hq
    · exact hzs y hy

theorem ints_of_array {H : Type} {enc : TypeId × Value → H} {P : Program} {w : World} {base : Nat} {sp : Nat → Bool} {held : Bool} {fuel : Nat} {t e : TypeId} {n : Nat} {k : IntKind} {cs : List Value} {x : DataW H × List MemPlace}
    (ht : P.underlying t = some (.array n e)) (he : P.underlying e = some (.int k)) (hce : P.cellsOf e = 1) (hct : P.cellsOf t = n)
    (h : DataW.trod enc P w base sp held fuel t cs = some x) : ∃ zs : List Int, cs = zs.map (Value.int k) ∧ zs.length = n ∧ ∀ z ∈ zs, (Lit.int k z).wf = true := by
  cases fuel with
  | zero => simp [DataW.trod] at h
  | succ fuel =>
    simp only [DataW.trod, ht, hce, hct, Nat.mul_one] at h
    split at h
    · rename_i hl
      obtain ⟨xs, hm, hx⟩ := Option.map_eq_some_iff.1 h
      have hn : cs.length = n := by first | exact hl | simpa using hl
      obtain ⟨zs, rfl, hz⟩ := list_map (α := Unit) (f := Value.int k) (Q := fun z => (Lit.int k z).wf = true) (l := cs) (fun i hi => by
        obtain ⟨b, hb, hf⟩ := Lib.mapM_at hm i i (by simp [show i < n by omega])
        obtain ⟨z, hc, rfl, hw⟩ := DataW.trod_int he hf
        refine ⟨z, ?_, hw⟩
        have := congrArg (·[0]?) hc
        simpa [List.getElem?_take, List.getElem?_drop] using this)
      exact ⟨zs, rfl, by simpa using hn, hz⟩
    · cases h
end Go.Proofs.YtamnhegianpedaaGreatDoor

namespace Go.Proofs.YtamnhegianpedaaGreatDoor
open Go.RowKit

/-- What stands ahead of a double colon, and behind it. -/
def headL (l : List UInt8) : List UInt8 := match cut6L l with
  | none => l
  | some (a, _) => a
def tailL (l : List UInt8) : List UInt8 := match cut6L l with
  | none => []
  | some (_, b) => b
theorem cut_parts (l : List UInt8) : Lib.cut l [58, 58] = (headL l, tailL l, (cut6L l).isSome) := by
  rw [cut_dbl]
  unfold headL tailL
  cases cut6L l <;> rfl
theorem parts_len (l : List UInt8) : (headL l).length ≤ l.length ∧ (tailL l).length ≤ l.length := by
  unfold headL tailL
  cases h : cut6L l with
  | none => simp
  | some p =>
    obtain ⟨a, b⟩ := p
    have := congrArg List.length (cutL_split h)
    simp at this ⊢
    omega
theorem par6g_parts (l : List UInt8) : par6g l = match grpS false (headL l), grpS false (tailL l) with
    | some x, some y => if (if (cut6L l).isSome then x.length + y.length < 8 else x.length + y.length = 8) then some (fill8 x y) else none
    | _, _ => none := by
  unfold par6g headL tailL
  cases h : cut6L l with
  | none =>
    simp only
    rw [show grpS false [] = some [] from rfl]
    cases grpS false l with
    | none => rfl
    | some g =>
      simp only [Option.isSome_none, Bool.false_eq_true, if_false, List.length_nil, Nat.add_zero]
      by_cases h8 : g.length = 8
      · rw [if_pos h8, if_pos h8]
        simp [fill8, h8]
      · rw [if_neg h8, if_neg h8]
  | some p =>
    obtain ⟨a, b⟩ := p
    simp only
    cases grpS false a with
    | none => rfl
    | some x =>
      cases grpS false b with
      | none => rfl
      | some y =>
        simp only [Option.isSome_some, if_true]
        by_cases h7 : x.length + y.length ≤ 7
        · rw [if_pos h7, if_pos (by omega)]
        · rw [if_neg h7, if_neg (by omega)]

theorem implCutStr (T : ByteArray) (w : World) (hs : T.size ≤ 1048576) (hM : MaxI w) :
    Calls Tryz.prog 91 #[.string T, .string ⟨#[58, 58]⟩] w fun e w' => e = .returned (.tuple #[.string ⟨(headL T.data.toList).toArray⟩, .string ⟨(tailL T.data.toList).toArray⟩, .bool (cut6L T.data.toList).isSome]) ∧ Below w.heap.size w w' := by
  obtain ⟨m, hm⟩ := hM
  refine (Tryz.strings_Cut T ⟨#[58, 58]⟩ m w (by omega) hm).mono ?_
  rintro e w' ⟨rfl, n, rfl⟩
  refine ⟨?_, ⟨rfl, rfl, rfl, Nat.le_refl _, fun _ _ => rfl⟩⟩
  rw [show (⟨#[58, 58]⟩ : ByteArray).data.toList = [58, 58] from rfl, cut_parts]

theorem list_eight {z : List Int} (h : z.length = 8) : ∃ a b c d e f g i : Int, z = [a, b, c, d, e, f, g, i] := by
  match z, h with
  | [a, b, c, d, e, f, g, i], _ => exact ⟨a, b, c, d, e, f, g, i, rfl⟩
theorem blk_cell {w : World} {g : Nat} {cs : Array Value} {t : TypeId} {fz : Nat × Nat} (h : w.heap[g]? = some (.cells cs t fz)) (j : Nat) : w.cell? ⟨g, j, none⟩ = cs[j]? := by
  unfold World.cell?
  simp [h]
theorem grp_len : ∀ {fs : List (List UInt8)} {gs : List Nat}, grp false fs = some gs → gs.length = fs.length
  | [], gs, h => by cases h; rfl
  | x :: r, gs, h => by
    rw [grp_cons_f] at h
    cases hx : g16 x with
    | none => rw [hx] at h; cases h
    | some v =>
      rw [hx] at h
      simp only at h
      cases hr : grp false r with
      | none => rw [hr] at h; cases h
      | some q =>
        rw [hr] at h
        cases h
        simp [grp_len hr]
theorem spl_len (b : UInt8) : ∀ l : List UInt8, (spl b l).length ≤ l.length + 1
  | [] => by simp [spl]
  | c :: r => by
    have ih := spl_len b r
    rw [spl]
    split
    · simp; omega
    · cases hs : spl b r with
      | nil => simp
      | cons x xs => rw [hs] at ih; simp at ih ⊢; omega
theorem grpS_len {l : List UInt8} {gs : List Nat} (h : grpS false l = some gs) : gs.length ≤ l.length + 1 := by
  unfold grpS at h
  split at h
  · cases h; simp
  · rw [grp_len h]
    exact spl_len 58 l
theorem splice_fill {a b : List Nat} (h : a.length + b.length ≤ 8) : splice (splice [.int .i64 0, .int .i64 0, .int .i64 0, .int .i64 0, .int .i64 0, .int .i64 0, .int .i64 0, .int .i64 0] 0 (icells (toI a))) (8 - b.length) (icells (toI b)) = icells (toI (fill8 a b)) := by
  have e0 : ([.int .i64 0, .int .i64 0, .int .i64 0, .int .i64 0, .int .i64 0, .int .i64 0, .int .i64 0, .int .i64 0] : List Value) = List.replicate 8 (.int .i64 0) := rfl
  have la : (icells (toI a)).length = a.length := by rw [icells_length, toI_len]
  have lb : (icells (toI b)).length = b.length := by rw [icells_length, toI_len]
  have e1 : splice (List.replicate 8 (Value.int .i64 0)) 0 (icells (toI a)) = icells (toI a) ++ List.replicate (8 - a.length) (Value.int .i64 0) := by
    unfold splice
    rw [List.take_zero, List.nil_append, la, Nat.zero_add, List.drop_replicate]
  rw [e0, e1]
  unfold splice
  rw [List.take_append, la, lb, List.take_of_length_le (by rw [la]; omega), List.take_replicate, List.drop_of_length_le (by rw [List.length_append, la, List.length_replicate]; omega), List.append_nil, show min (8 - b.length - a.length) (8 - a.length) = 8 - a.length - b.length by omega]
  unfold fill8
  simp [icells, toI]



set_option maxRecDepth 20000 in
set_option maxHeartbeats 8000000 in
theorem implParseIp6 (s : ByteArray) (w : World) (hs : s.size ≤ 1048576) (hT : Pow w) (hD : Bruijn w) (hM : MaxI w) :
    Calls Tryz.prog 76 #[.string s] w fun e w' => e = .returned (parV (par6 s.data.toList)) ∧ Below w.heap.size w w' := by
  have CE : Hid (∀ W, Pow W → Bruijn W → Calls Tryz.prog 92 #[.string s] W fun e w' => ∃ T : ByteArray, e = .returned (.string T) ∧ par6g T.data.toList = par6 s.data.toList ∧ T.size ≤ 1048576 ∧ Below W.heap.size W w') := fun W a b => implEnd s W hs a b
  have HT : Hid (Pow w) := hT
  have HD : Hid (Bruijn w) := hD
  have HM : Hid (MaxI w) := hM
  clear hT hD hM
  have AR := hid_arr (arr_new w)
  have B0 : Hid (Below w.heap.size w (w.alloc (.cells #[.int .i64 0, .int .i64 0, .int .i64 0, .int .i64 0, .int .i64 0, .int .i64 0, .int .i64 0, .int .i64 0] 24))) := (Below.refl _ w).alloc (Nat.le_refl _) _
  have Z0 : Hid ((w.alloc (.cells #[.int .i64 0, .int .i64 0, .int .i64 0, .int .i64 0, .int .i64 0, .int .i64 0, .int .i64 0, .int .i64 0] 24)).heap.size = w.heap.size + 1) := by show _ = _; simp
  go_enter Tryz.func76, Tryz.ntmps76
  go_wp2_with fail
  refine (CE.out _ (pow_below HT.out B0.out) (bruijn_below HD.out B0.out)).mono ?_
  rintro e w1 ⟨T, rfl, hpt, hts, b1⟩
  have HPT : Hid (par6g T.data.toList = par6 s.data.toList) := hpt
  have B1 := B0.out.trans (b1.mono B0.out.size)
  have CC : Hid (Calls Tryz.prog 91 #[.string T, .string ⟨#[58, 58]⟩] w1 fun e w' => e = .returned (.tuple #[.string ⟨(headL T.data.toList).toArray⟩, .string ⟨(tailL T.data.toList).toArray⟩, .bool (cut6L T.data.toList).isSome]) ∧ Below w1.heap.size w1 w') := implCutStr T w1 hts (max_below HM.out B1)
  have hpl := parts_len T.data.toList
  have htl : T.data.toList.length = T.size := by simp
  rw [htl] at hpl
  have CH : Hid (∀ W, Calls Tryz.prog 93 #[.string ⟨(headL T.data.toList).toArray⟩] W fun e w' => grpAnsI W w' (grpS false (headL T.data.toList)) e ∧ Below W.heap.size W w') := fun W => implReadGroups ⟨(headL T.data.toList).toArray⟩ W (by show (headL T.data.toList).toArray.size ≤ _; rw [List.size_toArray]; omega)
  have CR : Hid (∀ W, Calls Tryz.prog 93 #[.string ⟨(tailL T.data.toList).toArray⟩] W fun e w' => grpAnsI W w' (grpS false (tailL T.data.toList)) e ∧ Below W.heap.size W w') := fun W => implReadGroups ⟨(tailL T.data.toList).toArray⟩ W (by show (tailL T.data.toList).toArray.size ≤ _; rw [List.size_toArray]; omega)
  have HP : Hid (par6 s.data.toList = match grpS false (headL T.data.toList), grpS false (tailL T.data.toList) with
    | some x, some y => if (if (cut6L T.data.toList).isSome then x.length + y.length < 8 else x.length + y.length = 8) then some (fill8 x y) else none
    | _, _ => none) := HPT.out.symm.trans (par6g_parts _)
  clear hpt HPT CE HT HD HM
  generalize (⟨(headL T.data.toList).toArray⟩ : ByteArray) = TH at CC CH
  generalize (⟨(tailL T.data.toList).toArray⟩ : ByteArray) = TT at CC CR
  have HBH : Hid (∀ gs, grpS false (headL T.data.toList) = some gs → gs.length ≤ 1048577) := fun gs h => by have := grpS_len h; omega
  have HBT : Hid (∀ gs, grpS false (tailL T.data.toList) = some gs → gs.length ≤ 1048577) := fun gs h => by have := grpS_len h; omega
  clear hpl htl
  generalize grpS false (headL T.data.toList) = rh at CH HP HBH
  generalize grpS false (tailL T.data.toList) = rt at CR HP HBT
  generalize (cut6L T.data.toList).isSome = ct at CC HP
  go_wp2_with fail
  refine CC.out.mono ?_
  rintro e w2 ⟨rfl, b2⟩
  go_wp2_with fail
  refine (CH.out _).mono ?_
  rintro e w3 ⟨hh, b3⟩
  have b12 := b1.trans (b2.mono b1.size)
  have b13 := b12.trans (b3.mono b12.size)
  have k2 : w.heap.size + 1 ≤ w2.heap.size := by have := Z0.out; have := b12.size; omega
  have k3 : w.heap.size + 1 ≤ w3.heap.size := Nat.le_trans k2 b3.size
  cases rh with
  | none =>
    obtain rfl : e = .returned (.tuple #[.slice none 0 0, .bool false]) := hh
    have HZ : Hid (parV (par6 s.data.toList) = parV none) := by show _ = _; rw [HP.out]
    go_wp2_with fail
    refine (CR.out _).mono ?_
    rintro e w4 ⟨ht, b4⟩
    have b14 := b13.trans (b4.mono b13.size)
    have AR3 := hid_arr (AR.out.later b14)
    have B3 : Hid (Below w.heap.size w w4) := B0.out.trans (b14.mono B0.out.size)
    clear b1 b2 b3 b4 b12 b13 b14 B1 k2 k3 AR B0 Z0
    cases rt with
    | none =>
      obtain rfl : e = .returned (.tuple #[.slice none 0 0, .bool false]) := ht
      have RA := AR3.out
      have r0 := (RA.2 0 (by decide)).1
      have r1 := (RA.2 1 (by decide)).1
      have r2 := (RA.2 2 (by decide)).1
      have r3 := (RA.2 3 (by decide)).1
      have r4 := (RA.2 4 (by decide)).1
      have r5 := (RA.2 5 (by decide)).1
      have r6 := (RA.2 6 (by decide)).1
      have r7 := (RA.2 7 (by decide)).1
      have f0 := (RA.2 0 (by decide)).2
      have f1 := (RA.2 1 (by decide)).2
      have f2 := (RA.2 2 (by decide)).2
      have f3 := (RA.2 3 (by decide)).2
      have f4 := (RA.2 4 (by decide)).2
      have f5 := (RA.2 5 (by decide)).2
      have f6 := (RA.2 6 (by decide)).2
      have f7 := (RA.2 7 (by decide)).2
      have HRA := hid_arr RA
      clear RA
      go_wp2_with fail
      refine bodyPost_ret (arr_results rfl _ _ w.heap.size false 0 0 0 0 0 0 0 0 rfl rfl (arr_store HRA.out 0 0 0 0 0 0 0 0)) rfl ⟨by rw [HZ.out]; rfl, below_store B3.out (Nat.le_refl _) 0 0 0 0 0 0 0 0⟩
    | some gt =>
      obtain ⟨vt, rfl, ot⟩ : ∃ v : Value, e = .returned (.tuple #[v, .bool true]) ∧ _ := ht
      clear ot
      have RA := AR3.out
      have r0 := (RA.2 0 (by decide)).1
      have r1 := (RA.2 1 (by decide)).1
      have r2 := (RA.2 2 (by decide)).1
      have r3 := (RA.2 3 (by decide)).1
      have r4 := (RA.2 4 (by decide)).1
      have r5 := (RA.2 5 (by decide)).1
      have r6 := (RA.2 6 (by decide)).1
      have r7 := (RA.2 7 (by decide)).1
      have f0 := (RA.2 0 (by decide)).2
      have f1 := (RA.2 1 (by decide)).2
      have f2 := (RA.2 2 (by decide)).2
      have f3 := (RA.2 3 (by decide)).2
      have f4 := (RA.2 4 (by decide)).2
      have f5 := (RA.2 5 (by decide)).2
      have f6 := (RA.2 6 (by decide)).2
      have f7 := (RA.2 7 (by decide)).2
      have HRA := hid_arr RA
      clear RA
      go_wp2_with fail
      refine bodyPost_ret (arr_results rfl _ _ w.heap.size false 0 0 0 0 0 0 0 0 rfl rfl (arr_store HRA.out 0 0 0 0 0 0 0 0)) rfl ⟨by rw [HZ.out]; rfl, below_store B3.out (Nat.le_refl _) 0 0 0 0 0 0 0 0⟩
  | some gh =>
    obtain ⟨vh, rfl, oh⟩ : ∃ v : Value, e = .returned (.tuple #[v, .bool true]) ∧ w3.ownsRow w2.heap.size 3 1 v gh.length (icells (toI gh)) := hh
    go_wp2_with fail
    refine (CR.out _).mono ?_
    rintro e w4 ⟨ht, b4⟩
    have b14 := b13.trans (b4.mono b13.size)
    have AR3 := hid_arr (AR.out.later b14)
    have B3 : Hid (Below w.heap.size w w4) := B0.out.trans (b14.mono B0.out.size)
    have oh' := own_below oh b4
    obtain ⟨aoh, caph, rfl, rh0⟩ := row_view oh' (toI_len gh)
    have HRH : Hid (RowAt w4 (w.heap.size + 1) aoh (toI gh)) := fun h0 => by
      obtain ⟨g, h1, h2, h3⟩ := rh0 h0
      exact ⟨g, h1, by omega, h3⟩
    clear oh oh' rh0 b1 b2 b3 b4 b12 b13 b14 B1 AR B0 Z0
    cases rt with
    | none =>
      obtain rfl : e = .returned (.tuple #[.slice none 0 0, .bool false]) := ht
      have HZ : Hid (parV (par6 s.data.toList) = parV none) := by show _ = _; rw [HP.out]
      have RA := AR3.out
      have r0 := (RA.2 0 (by decide)).1
      have r1 := (RA.2 1 (by decide)).1
      have r2 := (RA.2 2 (by decide)).1
      have r3 := (RA.2 3 (by decide)).1
      have r4 := (RA.2 4 (by decide)).1
      have r5 := (RA.2 5 (by decide)).1
      have r6 := (RA.2 6 (by decide)).1
      have r7 := (RA.2 7 (by decide)).1
      have f0 := (RA.2 0 (by decide)).2
      have f1 := (RA.2 1 (by decide)).2
      have f2 := (RA.2 2 (by decide)).2
      have f3 := (RA.2 3 (by decide)).2
      have f4 := (RA.2 4 (by decide)).2
      have f5 := (RA.2 5 (by decide)).2
      have f6 := (RA.2 6 (by decide)).2
      have f7 := (RA.2 7 (by decide)).2
      have HRA := hid_arr RA
      clear RA
      go_wp2_with fail
      refine bodyPost_ret (arr_results rfl _ _ w.heap.size false 0 0 0 0 0 0 0 0 rfl rfl (arr_store HRA.out 0 0 0 0 0 0 0 0)) rfl ⟨by rw [HZ.out]; rfl, below_store B3.out (Nat.le_refl _) 0 0 0 0 0 0 0 0⟩
    | some gt =>
      obtain ⟨vt, rfl, ot⟩ : ∃ v : Value, e = .returned (.tuple #[v, .bool true]) ∧ w4.ownsRow w3.heap.size 3 1 v gt.length (icells (toI gt)) := ht
      obtain ⟨aot, capt, rfl, rt0⟩ := row_view ot (toI_len gt)
      have HRT : Hid (RowAt w4 (w.heap.size + 1) aot (toI gt)) := fun h0 => by
        obtain ⟨g, h1, h2, h3⟩ := rt0 h0
        exact ⟨g, h1, by omega, h3⟩
      clear ot rt0 k2 k3
      simp only at HP
      have hbh : (gh.length : Int) ≤ 1048577 := by have := HBH.out gh rfl; omega
      have hbt : (gt.length : Int) ≤ 1048577 := by have := HBT.out gt rfl; omega
      have CM : Hid (∀ W, Calls Tryz.prog 94 #[.int .i64 ((gh.length : Int) + (gt.length : Int)), .bool ct] W fun e w' => e = .returned (.bool (if ct then decide ((gh.length : Int) + (gt.length : Int) < 8) else ((gh.length : Int) + (gt.length : Int) == 8))) ∧ W = w') := fun W => implManyFit _ ct W
      by_cases hf : (if ct then gh.length + gt.length < 8 else gh.length + gt.length = 8)
      · have hb : (if ct then decide ((gh.length : Int) + (gt.length : Int) < 8) else ((gh.length : Int) + (gt.length : Int) == 8)) = true := by
          cases ct with
          | true => simp at hf ⊢; omega
          | false => simp at hf ⊢; omega
        rw [hb] at CM
        have hsum : gh.length + gt.length ≤ 8 := by cases ct <;> simp at hf <;> omega
        have HZ : Hid (parV (par6 s.data.toList) = .tuple #[.agg ((toI (fill8 gh gt)).map (Value.int .i64)).toArray, .bool true]) := by
          show _ = _
          rw [HP.out, if_pos hf]
          rfl
        clear hf hb HP
        go_wp2_with fail
        refine (CM.out _).mono ?_
        rintro e w' ⟨rfl, rfl⟩
        obtain ⟨fr, hfr⟩ : ∃ fr : Nat, 8 - gt.length = fr := ⟨_, rfl⟩
        have hfi : (8 : Int) - (gt.length : Int) = (fr : Int) := by omega
        have hfr8 : fr ≤ 8 := by omega
        have sl1 := slice_hm w4.heap.size fr hfr8
        have sl2 := slice_l w4.heap.size fr hfr8
        have HSP : Hid (splice (splice [.int .i64 0, .int .i64 0, .int .i64 0, .int .i64 0, .int .i64 0, .int .i64 0, .int .i64 0, .int .i64 0] 0 (icells (toI gh))) fr (icells (toI gt)) = icells (toI (fill8 gh gt))) := by
          show _ = _
          rw [← hfr]
          exact splice_fill hsum
        have HFR : Hid (8 - gt.length = fr) := hfr
        have HL1 : Hid ((icells (toI gh)).length = gh.length ∧ (icells (toI gt)).length = gt.length) := ⟨by rw [icells_length, toI_len], by rw [icells_length, toI_len]⟩
        have H1 : Hid (∀ v ∈ icells (toI gh), v.oneCell' = true) := fun v hv => by
          obtain ⟨z, _, rfl⟩ := List.mem_map.1 hv
          rfl
        have H2 : Hid (∀ v ∈ icells (toI gt), v.oneCell' = true) := fun v hv => by
          obtain ⟨z, _, rfl⟩ := List.mem_map.1 hv
          rfl
        have HBA : Hid (Below w4.heap.size w4 (w4.alloc (.cells #[.int .i64 0, .int .i64 0, .int .i64 0, .int .i64 0, .int .i64 0, .int .i64 0, .int .i64 0, .int .i64 0] 24))) := (Below.refl _ w4).alloc (Nat.le_refl _) _
        have HG4 : Hid ((w4.alloc (.cells #[.int .i64 0, .int .i64 0, .int .i64 0, .int .i64 0, .int .i64 0, .int .i64 0, .int .i64 0, .int .i64 0] 24)).heap[w4.heap.size]? = some (.cells ([.int .i64 0, .int .i64 0, .int .i64 0, .int .i64 0, .int .i64 0, .int .i64 0, .int .i64 0, .int .i64 0] : List Value).toArray 24 (0, 0))) := heap_alloc_new w4 _
        have HS1 : Hid (∀ W, Below w4.heap.size w4 W → 0 < (icells (toI gh)).length → ∃ ad, aoh = some ad ∧ ∀ (j : Nat) (v : Value), (icells (toI gh))[j]? = some v → W.cell? (ad.add j) = some v) := fun W hb h0 => by
          obtain ⟨g, h1, _, h3⟩ := HRH.out (by rw [icells_length] at h0; exact h0)
          refine ⟨⟨g, 0, none⟩, h1, fun j v hj => ?_⟩
          obtain ⟨hjl, rfl⟩ := List.getElem?_eq_some_iff.1 hj
          rw [icells_length] at hjl
          rw [Addr.add_lit, Nat.zero_add, cell_later hb (h3 j hjl)]
          simp [icells, List.getD, hjl]
        have HS2 : Hid (∀ W, Below w4.heap.size w4 W → 0 < (icells (toI gt)).length → ∃ ad, aot = some ad ∧ ∀ (j : Nat) (v : Value), (icells (toI gt))[j]? = some v → W.cell? (ad.add j) = some v) := fun W hb h0 => by
          obtain ⟨g, h1, _, h3⟩ := HRT.out (by rw [icells_length] at h0; exact h0)
          refine ⟨⟨g, 0, none⟩, h1, fun j v hj => ?_⟩
          obtain ⟨hjl, rfl⟩ := List.getElem?_eq_some_iff.1 hj
          rw [icells_length] at hjl
          rw [Addr.add_lit, Nat.zero_add, cell_later hb (h3 j hjl)]
          simp [icells, List.getD, hjl]
        have HTG : Hid (0 < gt.length → (if 8 = fr then 0 else fr) = fr) := fun h => if_neg (by omega)
        generalize (if 8 = fr then 0 else fr) = o2 at sl2 HTG
        have HFL : Hid ((toI (fill8 gh gt)).length = 8) := by
          show _ = _
          rw [toI_len]
          unfold fill8
          simp
          omega
        clear hfr
        generalize icells (toI gh) = c1 at HSP HL1 H1 HS1
        generalize icells (toI gt) = c2 at HSP HL1 H2 HS2
        have hi1 : (Tryz.prog.info? 3).map (·.size) = some 1 := by kernel_rfl
        go_wp2_with ((with_reducible show wpList _ _ _ ({ dst := _, op := Op.call { callee := Callee.builtin Builtin.copy, args := _, argTypes := _ }, type := _, pos := _, after := _, guard := _ } :: _) _ _); refine wpList_copy_splice (by rfl) _ _ 67 67 (by rfl) 3 Tryz.underlying67 hi1 (some ⟨w4.heap.size, 0, none⟩) aoh fr fr gh.length caph (by rfl) (by rfl) w4.heap.size 0 [.int .i64 0, .int .i64 0, .int .i64 0, .int .i64 0, .int .i64 0, .int .i64 0, .int .i64 0, .int .i64 0] 24 HG4.out c1 (by rw [HL1.out.1]; have := HFR.out; exact (Nat.min_eq_left (by omega)).symm) (fun h => ⟨rfl, HS1.out _ HBA.out h⟩) (by have := HL1.out; simp; omega) H1.out w4.heap.size w4 HBA.out (Nat.le_refl _) ?_)
        intro w5 HG5 hB5
        go_wp2_with ((with_reducible show wpList _ _ _ ({ dst := _, op := Op.call { callee := Callee.builtin Builtin.copy, args := _, argTypes := _ }, type := _, pos := _, after := _, guard := _ } :: _) _ _); refine wpList_copy_splice (by rfl) _ _ 67 67 (by rfl) 3 Tryz.underlying67 hi1 (some ⟨w4.heap.size, o2, none⟩) aot (8 - fr) (8 - fr) gt.length capt (by rfl) (by rfl) w4.heap.size fr (splice [.int .i64 0, .int .i64 0, .int .i64 0, .int .i64 0, .int .i64 0, .int .i64 0, .int .i64 0, .int .i64 0] 0 c1) 24 HG5.out c2 (by rw [HL1.out.2]; have := HFR.out; exact (Nat.min_eq_left (by omega)).symm) (fun h => ⟨by rw [HTG.out (by have := HL1.out; omega)], HS2.out _ hB5 h⟩) (by have := HL1.out; have := HFR.out; rw [length_splice _ _ _ (by simp; omega)]; simp; omega) H2.out w4.heap.size w4 hB5 (Nat.le_refl _) ?_)
        intro w6 HG6 hB6
        have hg6 := HG6.out
        rw [HSP.out] at hg6
        obtain ⟨x0, x1, x2, x3, x4, x5, x6, x7, hx⟩ := list_eight HFL.out
        rw [hx] at hg6 HZ
        have o0 := blk_cell hg6 0
        have o1 := blk_cell hg6 1
        have o2 := blk_cell hg6 2
        have o3 := blk_cell hg6 3
        have o4 := blk_cell hg6 4
        have o5 := blk_cell hg6 5
        have o6 := blk_cell hg6 6
        have o7 := blk_cell hg6 7
        simp [icells] at o0 o1 o2 o3 o4 o5 o6 o7
        have RA := AR3.out.later hB6
        have B6 := B3.out.trans (hB6.mono B3.out.size)
        clear hg6 HG6 HG5 hB5 hB6 hx HSP HS1 HS2 H1 H2 HG4
        have r0 := (RA.2 0 (by decide)).1
        have r1 := (RA.2 1 (by decide)).1
        have r2 := (RA.2 2 (by decide)).1
        have r3 := (RA.2 3 (by decide)).1
        have r4 := (RA.2 4 (by decide)).1
        have r5 := (RA.2 5 (by decide)).1
        have r6 := (RA.2 6 (by decide)).1
        have r7 := (RA.2 7 (by decide)).1
        have f0 := (RA.2 0 (by decide)).2
        have f1 := (RA.2 1 (by decide)).2
        have f2 := (RA.2 2 (by decide)).2
        have f3 := (RA.2 3 (by decide)).2
        have f4 := (RA.2 4 (by decide)).2
        have f5 := (RA.2 5 (by decide)).2
        have f6 := (RA.2 6 (by decide)).2
        have f7 := (RA.2 7 (by decide)).2
        have HRA := hid_arr RA
        clear RA
        go_wp2_with fail
        refine bodyPost_ret (arr_results rfl _ _ w.heap.size true x0 x1 x2 x3 x4 x5 x6 x7 rfl rfl (arr_store HRA.out x0 x1 x2 x3 x4 x5 x6 x7)) rfl ⟨by rw [HZ.out]; rfl, below_store B6 (Nat.le_refl _) x0 x1 x2 x3 x4 x5 x6 x7⟩
      · have hb : (if ct then decide ((gh.length : Int) + (gt.length : Int) < 8) else ((gh.length : Int) + (gt.length : Int) == 8)) = false := by
          cases ct with
          | true => simp at hf ⊢; omega
          | false => simp at hf ⊢; omega
        rw [hb] at CM
        have HZ : Hid (parV (par6 s.data.toList) = parV none) := by
          show _ = _
          rw [HP.out, if_neg hf]
        clear hf hb HP
        go_wp2_with fail
        refine (CM.out _).mono ?_
        rintro e w' ⟨rfl, rfl⟩
        have RA := AR3.out
        have r0 := (RA.2 0 (by decide)).1
        have r1 := (RA.2 1 (by decide)).1
        have r2 := (RA.2 2 (by decide)).1
        have r3 := (RA.2 3 (by decide)).1
        have r4 := (RA.2 4 (by decide)).1
        have r5 := (RA.2 5 (by decide)).1
        have r6 := (RA.2 6 (by decide)).1
        have r7 := (RA.2 7 (by decide)).1
        have f0 := (RA.2 0 (by decide)).2
        have f1 := (RA.2 1 (by decide)).2
        have f2 := (RA.2 2 (by decide)).2
        have f3 := (RA.2 3 (by decide)).2
        have f4 := (RA.2 4 (by decide)).2
        have f5 := (RA.2 5 (by decide)).2
        have f6 := (RA.2 6 (by decide)).2
        have f7 := (RA.2 7 (by decide)).2
        have HRA := hid_arr RA
        clear RA
        go_wp2_with fail
        refine bodyPost_ret (arr_results rfl _ _ w.heap.size false 0 0 0 0 0 0 0 0 rfl rfl (arr_store HRA.out 0 0 0 0 0 0 0 0)) rfl ⟨by rw [HZ.out]; rfl, below_store B3.out (Nat.le_refl _) 0 0 0 0 0 0 0 0⟩
end Go.Proofs.YtamnhegianpedaaGreatDoor

namespace Go.Proofs.YtamnhegianpedaaGreatDoor
open Go.RowKit

theorem par6_eight (l : List UInt8) : ∀ gs, par6 l = some gs → gs.length = 8 := by
  intro gs h
  unfold par6 at h
  split at h
  · split at h
    · cases h
    · split at h
      · cases h; assumption
      · cases h
  · split at h
    · split at h
      · cases h
        unfold fill8
        simp
        omega
      · cases h
    · cases h

theorem parV_eight {r : Option (List Nat)} (h : ∀ gs, r = some gs → gs.length = 8) : ∃ (x0 x1 x2 x3 x4 x5 x6 x7 : Int) (b : Bool), parV r = .tuple #[.agg #[.int .i64 x0, .int .i64 x1, .int .i64 x2, .int .i64 x3, .int .i64 x4, .int .i64 x5, .int .i64 x6, .int .i64 x7], .bool b] := by
  cases r with
  | none => exact ⟨0, 0, 0, 0, 0, 0, 0, 0, false, rfl⟩
  | some gs =>
    obtain ⟨x0, x1, x2, x3, x4, x5, x6, x7, hx⟩ := list_eight (z := toI gs) (by rw [toI_len]; exact h gs rfl)
    refine ⟨x0, x1, x2, x3, x4, x5, x6, x7, true, ?_⟩
    show Value.tuple #[.agg ((toI gs).map (Value.int .i64)).toArray, .bool true] = _
    rw [hx]
    rfl
end Go.Proofs.YtamnhegianpedaaGreatDoor

namespace Go.Proofs.YtamnhegianpedaaGreatDoor
open Go.ChangeShapes Go.WideShapes Go.ChangeAt Go.RowKit Go.Lib

def bruTab : List Int := [0, 1, 56, 2, 57, 49, 28, 3, 61, 58, 42, 50, 38, 29, 17, 4, 62, 47, 59, 36, 45, 43, 51, 22, 53, 39, 33, 30, 24, 18, 12, 5, 63, 55, 48, 27, 60, 41, 37, 16, 46, 35, 44, 21, 52, 32, 23, 11, 54, 26, 40, 15, 34, 20, 31, 10, 25, 14, 19, 9, 13, 8, 7, 6]
theorem bru_data : (Rows.laid_math_bits_deBruijn64tab : DataW Unit) = Lib.tabData .u8 bruTab := by kernel_rfl

theorem bru_laid {W : World} (hL : laidMet Tryz.prog laidPow W) : Bruijn W := by
  unfold laidPow at hL
  rw [bru_data] at hL
  obtain ⟨g', t', cs, fuel, p, hg, hty, hvar, hd⟩ := Lib.laidMet.reads hL (.tail _ (.head _))
  have hgg : Tryz.prog.globalNamed "math/bits.deBruijn64tab" = some 5 := by kernel_rfl
  obtain rfl := Option.some.inj (hgg.symm.trans hg)
  obtain rfl := Option.some.inj ((show (Tryz.prog.globals[5]?).map (·.type) = some 159 by kernel_rfl).symm.trans hty)
  have hT : Lib.TabIs Tryz.prog W "math/bits.deBruijn64tab" .u8 bruTab := by
    unfold Lib.TabIs
    rw [hvar, ← Lib.cells_of_tab (P := Tryz.prog) (t := 159) (e := 5) (n := 64) (k := .u8) (by kernel_rfl) (by kernel_rfl) (by kernel_rfl) (by kernel_rfl) hd]
  have h := hT.cell hgg 15 (by decide)
  exact h

theorem list8 (z : List Int) (h : z.length = 8) : ∃ a b c d e f g i : Int, z = [a, b, c, d, e, f, g, i] := by
  match z, h with
  | [a, b, c, d, e, f, g, i], _ => exact ⟨a, b, c, d, e, f, g, i, rfl⟩
end Go.Proofs.YtamnhegianpedaaGreatDoor

namespace Go.Proofs.YtamnhegianpedaaGreatDoor
open Go.RowKit

theorem eq8 (x0 x1 x2 x3 x4 x5 x6 x7 : Int) (W : World) :
    (Op.equalIn 10000 24 (.agg #[.int .i64 x0, .int .i64 x1, .int .i64 x2, .int .i64 x3, .int .i64 x4, .int .i64 x5, .int .i64 x6, .int .i64 x7]) (.agg #[.int .i64 x0, .int .i64 x1, .int .i64 x2, .int .i64 x3, .int .i64 x4, .int .i64 x5, .int .i64 x6, .int .i64 x7])).run Tryz.prog W = .ok true W := by
  obtain ⟨i0, hi, hz0, hz1, hz2⟩ := info_parts Tryz.infoI5
  rw [show (10000 : Nat) = 9999 + 1 from rfl, run_equalIn_array W 9999 _ _ Tryz.underlying24 hi, show Tryz.prog.cellsOf 3 = 1 by kernel_rfl, show List.range 8 = [0, 1, 2, 3, 4, 5, 6, 7] from rfl]
  have he : ∀ (x : Int) (W : World), (Op.equalIn 9999 3 (.int .i64 x) (.int .i64 x)).run Tryz.prog W = .ok true W := fun x W => by
    rw [show (9999 : Nat) = 9998 + 1 from rfl, run_equalIn_int W 9998 3 .i64 .i64 x x Tryz.underlying3]
    simp
  simp [Op.eqItems, part, Tryz.isAgg3, go_sem, he]
end Go.Proofs.YtamnhegianpedaaGreatDoor
