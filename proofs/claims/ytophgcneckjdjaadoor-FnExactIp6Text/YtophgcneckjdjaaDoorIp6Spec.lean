/- Contract of the specification's Ip6Text. -/
import Derived.Test.YtophgcneckjdjaaDoorRows
import Derived.Test.YtophgcneckjdjaaDoorIp4Spec
import Derived.Test.YtophgcneckjdjaaDoorIp6Impl
namespace Go.Proofs.YtophgcneckjdjaaDoor
open Go.RowKit

def hexT (x : Int) : ByteArray := ⟨(hex4 x.toNat).toArray⟩
def hxT (n : Nat) : ByteArray := ⟨#[hxU n]⟩
theorem hexT_1 {x : Int} (h0 : 0 ≤ x) (h : x < 16) : hexT x = hxT x.toNat := by
  unfold hexT hxT hex4
  rw [if_pos (by omega)]
theorem hexT_2 {x : Int} (h0 : 16 ≤ x) (h : x < 65536) : hexT x = hexT (x / 16) ++ hxT (x % 16).toNat := by
  have e0 : (x % 16).toNat = x.toNat % 16 := by omega
  have e1 : (x / 16).toNat = x.toNat / 16 := by omega
  unfold hexT hxT
  rw [show (⟨#[hxU (x % 16).toNat]⟩ : ByteArray) = ⟨[hxU (x % 16).toNat].toArray⟩ from rfl, cat_bytes, e0, e1]
  generalize hn : x.toNat = n
  have hn0 : 16 ≤ n := by omega
  have hn1 : n < 65536 := by omega
  unfold hex4
  by_cases c2 : n < 256
  · rw [if_neg (by omega), if_pos c2, if_pos (by omega)]; rfl
  · by_cases c3 : n < 4096
    · rw [if_neg (by omega), if_neg c2, if_pos c3, if_neg (by omega), if_pos (by omega), show n / 16 / 16 = n / 256 by omega]; rfl
    · rw [if_neg (by omega), if_neg c2, if_neg c3, if_neg (by omega), if_neg (by omega), if_pos (by omega), show n / 16 / 256 = n / 4096 by omega, show n / 16 / 16 % 16 = n / 256 % 16 by omega]; rfl
theorem hexT_size (x : Int) : (hexT x).size ≤ 4 := by
  unfold hexT
  show (hex4 x.toNat).toArray.size ≤ 4
  rw [List.size_toArray]
  exact (hex4_len _).2

theorem small16 : ∀ k, k < 16 → ((#[48, 49, 50, 51, 52, 53, 54, 55, 56, 57, 97, 98, 99, 100, 101, 102] : Array UInt8).getD k 0) = hxU k := by decide +kernel
theorem small_at (x : Int) (h0 : 0 ≤ x) (h : x < 16) (W : World) :
    (Instr.index 9 (.string ⟨#[48, 49, 50, 51, 52, 53, 54, 55, 56, 57, 97, 98, 99, 100, 101, 102]⟩) (.int .i64 x)).run Tryd.prog W = .ok (.int .u8 ((hxU x.toNat).toNat : Int)) W := by
  rw [run_index_string W 9 _ .i64 _ Tryd.underlying9, dif_pos ⟨h0, by show x < 16; exact h⟩]
  congr 3
  rw [← small16 x.toNat (by omega)]
  rw [Array.getD_eq_getD_getElem?, Array.getElem?_eq_getElem (by show x.toNat < 16; omega)]
  rfl

theorem conv_hx (W : World) (B n : Nat) (x : Int) (hx : x = ((hxU n).toNat : Int)) (h : W.cell? ⟨B, 0, none⟩ = some (.int .u8 x)) :
    (convert 22 9 (.slice (some ⟨B, 0, none⟩) 1 1)).run Tryd.prog W = .ok (.string (hxT n)) W := by
  have := conv_at W B (hxU n).toNat (hxU n).toNat_lt x hx h
  rw [UInt8.ofNat_toNat] at this
  exact this

set_option maxHeartbeats 1000000 in
theorem specGroup1 (x : Int) (w : World) (h0 : 0 ≤ x) (h1 : x < 16) :
    Calls Tryd.prog 46 #[.int .i64 x] w fun e w' => e = .returned (.string (hexT x)) ∧ Below w.heap.size w w' := by
  rw [hexT_1 h0 h1]
  have hix := small_at x h0 h1
  obtain ⟨d, hd⟩ : ∃ d : Int, ((hxU x.toNat).toNat : Int) = d := ⟨_, rfl⟩
  have hcv : (convert 22 9 (.slice (some ⟨w.heap.size, 0, none⟩) 1 1)).run Tryd.prog (w.alloc (.cells #[.int .u8 d] 5)) = .ok (.string (hxT x.toNat)) (w.alloc (.cells #[.int .u8 d] 5)) := conv_hx _ _ _ d hd.symm (by rw [World.cell?_alloc_at _ _ _ _ rfl]; rfl)
  rw [hd] at hix
  clear hd
  generalize hxT x.toNat = T at hcv ⊢
  go_enter Tryd.func46, Tryd.ntmps46
  go_wp2
  go_ret
  exact ⟨rfl, (Below.refl _ _).alloc (Nat.le_refl _) _⟩

set_option maxRecDepth 20000 in
set_option maxHeartbeats 2000000 in
theorem specGroup2 (x : Int) (w : World) (h0 : 16 ≤ x) (h1 : x < 65536) (CT : Hid (∀ W, Calls Tryd.prog 46 #[.int .i64 (x / 16)] W fun e w' => e = .returned (.string (hexT (x / 16))) ∧ Below W.heap.size W w')) :
    Calls Tryd.prog 46 #[.int .i64 x] w fun e w' => e = .returned (.string (hexT x)) ∧ Below w.heap.size w w' := by
  have HD : Hid (hexT x = hexT (x / 16) ++ hxT (x % 16).toNat) := hexT_2 h0 h1
  have hs1 := hexT_size (x / 16)
  have hs2 : (hxT (x % 16).toNat).size = 1 := rfl
  have hix := small_at (x % 16) (by omega) (by omega)
  obtain ⟨d, hd⟩ : ∃ d : Int, ((hxU (x % 16).toNat).toNat : Int) = d := ⟨_, rfl⟩
  rw [hd] at hix
  have ho : Hid (∀ (W' : World) (B : Nat), W'.cell? ⟨B, 0, none⟩ = some (.int .u8 d) → (convert 22 9 (.slice (some ⟨B, 0, none⟩) 1 1)).run Tryd.prog W' = .ok (.string (hxT (x % 16).toNat)) W') := fun W' B h => conv_hx W' B _ d hd.symm h
  clear hd
  have hn : Hid (∀ W : World, (convert 22 9 (.slice (some ⟨W.heap.size, 0, none⟩) 1 1)).run Tryd.prog (W.alloc (.cells #[.int .u8 d] 5)) = .ok (.string (hxT (x % 16).toNat)) (W.alloc (.cells #[.int .u8 d] 5))) := fun W => ho.out _ _ (by rw [World.cell?_alloc_at _ _ _ _ rfl]; rfl)
  obtain ⟨z, hz⟩ : ∃ z : Int, x % 16 = z := ⟨_, rfl⟩
  obtain ⟨y, hy⟩ : ∃ y : Int, x / 16 = y := ⟨_, rfl⟩
  rw [hz] at hn ho hs2 HD hix
  rw [hy] at CT hs1 HD
  have hz0 : 0 ≤ z := by omega
  have hz1 : z < 16 := by omega
  have hy0 : 0 ≤ y := by omega
  have hy1 : y < 4096 := by omega
  generalize hxT z.toNat = T2 at hn ho hs2 HD
  generalize hexT y = T1 at CT hs1 HD
  rw [HD.out]
  clear HD
  have hn2 := hn.out
  have hce : (w.alloc (.cells #[.int .u8 d] 5)).drew.cell? ⟨w.heap.size, 0, none⟩ = some (.int .u8 d) := by
    show (w.alloc (.cells #[.int .u8 d] 5)).cell? ⟨w.heap.size, 0, none⟩ = _
    rw [World.cell?_alloc_at _ _ _ _ rfl]; rfl
  have hn3 := ho.out _ _ hce
  have HCE : Hid ((w.alloc (.cells #[.int .u8 d] 5)).drew.cell? ⟨w.heap.size, 0, none⟩ = some (.int .u8 d)) := hce
  clear hce
  have t1 : IntKind.i64.wrap (x.tdiv 16) = y := by rw [Int.tdiv_eq_ediv_of_nonneg (by omega), hy]; exact i64_wrap_small _ (by omega) (by omega)
  have t2 : x.tmod 16 = z := by rw [Int.tmod_eq_emod_of_nonneg (by omega), hz]
  clear hy hz
  go_enter Tryd.func46, Tryd.ntmps46
  go_wp2_with fail
  go_region_with (go_at_call 46; refine (CT.out _).mono ?_; rintro e wc ⟨rfl, hbc⟩; first | have hcc := ho.out _ _ (cell_later hbc HCE.out) | skip)
  all_goals
    go_wp2
    go_ret
    refine ⟨rfl, ?_⟩
    first
      | exact ((Below.drew (Below.refl _ w)).trans hbc).alloc (Nat.le_trans (Nat.le_refl _) hbc.size) _
      | exact (((Below.refl w.heap.size w).alloc (Nat.le_refl _) _).drew).trans (hbc.mono (by simp))

theorem specGroup (x : Int) (w : World) (h0 : 0 ≤ x) (h1 : x < 65536) :
    Calls Tryd.prog 46 #[.int .i64 x] w fun e w' => e = .returned (.string (hexT x)) ∧ Below w.heap.size w w' := by
  have g1 : ∀ (x : Int) (w : World), 0 ≤ x → x < 256 → Calls Tryd.prog 46 #[.int .i64 x] w fun e w' => e = .returned (.string (hexT x)) ∧ Below w.heap.size w w' := fun x w h0 h1 => by
    by_cases c : x < 16
    · exact specGroup1 x w h0 c
    · exact specGroup2 x w (by omega) (by omega) fun W => specGroup1 _ W (by omega) (by omega)
  have g2 : ∀ (x : Int) (w : World), 0 ≤ x → x < 4096 → Calls Tryd.prog 46 #[.int .i64 x] w fun e w' => e = .returned (.string (hexT x)) ∧ Below w.heap.size w w' := fun x w h0 h1 => by
    by_cases c : x < 256
    · exact g1 x w h0 c
    · exact specGroup2 x w (by omega) (by omega) fun W => g1 _ W (by omega) (by omega)
  by_cases c : x < 4096
  · exact g2 x w h0 c
  · exact specGroup2 x w (by omega) (by omega) fun W => g2 _ W (by omega) (by omega)
end Go.Proofs.YtophgcneckjdjaaDoor
