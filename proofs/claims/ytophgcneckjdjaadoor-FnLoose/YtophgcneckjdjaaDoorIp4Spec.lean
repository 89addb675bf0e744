/- Contract of the specification's Ip4Text and ParseIp4. -/
import Derived.Test.YtophgcneckjdjaaDoorRows
import Derived.Test.YtophgcneckjdjaaDoorNumWalk
import Derived.Test.YtophgcneckjdjaaDoorFieldSpl
import Derived.Test.YtophgcneckjdjaaDoorBits
import Derived.Test.YtophgcneckjdjaaDoorLoose4Walk
namespace Go.Proofs.YtophgcneckjdjaaDoor
open Go.RowKit

theorem cat_bytes (a b : List UInt8) : ((⟨a.toArray⟩ : ByteArray) ++ (⟨b.toArray⟩ : ByteArray)) = ⟨(a ++ b).toArray⟩ := by
  apply ByteArray.ext
  rw [ByteArray.data_append]
  simp

/-- A digit to ten as a text. -/
def digT (v : Nat) : ByteArray := ⟨#[UInt8.ofNat (48 + v)]⟩
def decT (x : Int) : ByteArray := ⟨(dec3 x.toNat).toArray⟩
theorem decT_1 {x : Int} (h0 : 0 ≤ x) (h : x < 10) : decT x = digT x.toNat := by
  unfold decT digT dec3
  rw [if_pos (by omega)]
theorem decT_2 {x : Int} (h0 : 10 ≤ x) (h : x < 100) : decT x = decT (x / 10) ++ digT (x % 10).toNat := by
  rw [decT_1 (x := x / 10) (by omega) (by omega)]
  unfold decT digT dec3
  rw [if_neg (by omega), if_pos (by omega), show (⟨#[UInt8.ofNat (48 + (x / 10).toNat)]⟩ : ByteArray) = ⟨[UInt8.ofNat (48 + (x / 10).toNat)].toArray⟩ from rfl, show (⟨#[UInt8.ofNat (48 + (x % 10).toNat)]⟩ : ByteArray) = ⟨[UInt8.ofNat (48 + (x % 10).toNat)].toArray⟩ from rfl, cat_bytes]
  have e1 : (x / 10).toNat = x.toNat / 10 := by omega
  have e2 : (x % 10).toNat = x.toNat % 10 := by omega
  rw [e1, e2]
  rfl
theorem decT_3 {x : Int} (h0 : 100 ≤ x) (h : x < 1000) : decT x = decT (x / 10) ++ digT (x % 10).toNat := by
  unfold decT digT dec3
  rw [if_neg (by omega), if_neg (by omega), if_neg (by omega), if_pos (by omega), show (⟨#[UInt8.ofNat (48 + (x % 10).toNat)]⟩ : ByteArray) = ⟨[UInt8.ofNat (48 + (x % 10).toNat)].toArray⟩ from rfl, cat_bytes]
  have e1 : (x / 10).toNat / 10 = x.toNat / 100 := by omega
  have e3 : (x / 10).toNat % 10 = x.toNat / 10 % 10 := by omega
  have e2 : (x % 10).toNat = x.toNat % 10 := by omega
  rw [e1, e2, e3]
  rfl
theorem decT_size (x : Int) : (decT x).size ≤ 3 := by
  unfold decT
  show (dec3 x.toNat).toArray.size ≤ 3
  rw [List.size_toArray]
  exact dec3_len _

theorem conv_at (W : World) (B : Nat) (c : Nat) (hc : c < 256) (x : Int) (hx : x = (c : Int)) (h : W.cell? ⟨B, 0, none⟩ = some (.int .u8 x)) :
    (convert 22 9 (.slice (some ⟨B, 0, none⟩) 1 1)).run Tryd.prog W = .ok (.string ⟨#[UInt8.ofNat c]⟩) W := by
  subst hx
  have h := run_convert_bytes_back (P := Tryd.prog) W 22 9 5 ⟨B, 0, none⟩ 1 [UInt8.ofNat c] Tryd.underlying22 Tryd.underlying5 Tryd.underlying9 (fun j hj => by
    have : j = 0 := by simpa using hj
    subst this
    rw [Addr.add_lit, h]
    simp
    omega)
  simpa using h

theorem conv_new (W : World) (c : Nat) (hc : c < 256) (x : Int) (hx : x = (c : Int)) :
    (convert 22 9 (.slice (some ⟨W.heap.size, 0, none⟩) 1 1)).run Tryd.prog (W.alloc (.cells #[.int .u8 x] 5)) = .ok (.string ⟨#[UInt8.ofNat c]⟩) (W.alloc (.cells #[.int .u8 x] 5)) :=
  conv_at _ _ c hc x hx (by rw [World.cell?_alloc_at _ _ _ _ rfl]; rfl)

theorem conv_old {W W' : World} (c : Nat) (hc : c < 256) (x : Int) (hx : x = (c : Int)) (h : Below (W.alloc (.cells #[.int .u8 x] 5)).heap.size (W.alloc (.cells #[.int .u8 x] 5)) W') :
    (convert 22 9 (.slice (some ⟨W.heap.size, 0, none⟩) 1 1)).run Tryd.prog W' = .ok (.string ⟨#[UInt8.ofNat c]⟩) W' :=
  conv_at _ _ c hc x hx (by
    have e : (W.alloc (.cells #[.int .u8 x] 5)).cell? ⟨W.heap.size, 0, none⟩ = some (.int .u8 x) := by rw [World.cell?_alloc_at _ _ _ _ rfl]; rfl
    exact cell_later h e)

set_option maxHeartbeats 1000000 in
theorem specText1 (x : Int) (w : World) (h0 : 0 ≤ x) (h1 : x < 10) :
    Calls Tryd.prog 43 #[.int .i64 x] w fun e w' => e = .returned (.string (decT x)) ∧ Below w.heap.size w w' := by
  have HD := decT_1 h0 h1
  have hcv := conv_new w (48 + x.toNat) (by omega) (48 + x) (by omega)
  rw [show (⟨#[UInt8.ofNat (48 + x.toNat)]⟩ : ByteArray) = digT x.toNat from rfl, ← HD] at hcv
  generalize decT x = T at hcv ⊢
  clear HD
  go_enter Tryd.func43, Tryd.ntmps43
  go_wp2
  go_ret
  exact ⟨rfl, (Below.refl _ _).alloc (Nat.le_refl _) _⟩

set_option maxRecDepth 20000 in
set_option maxHeartbeats 2000000 in
theorem specText2 (x : Int) (w : World) (h0 : 10 ≤ x) (h1 : x < 1000) (CT : Hid (∀ W, Calls Tryd.prog 43 #[.int .i64 (x / 10)] W fun e w' => e = .returned (.string (decT (x / 10))) ∧ Below W.heap.size W w')) (HD : Hid (decT x = decT (x / 10) ++ digT (x % 10).toNat)) :
    Calls Tryd.prog 43 #[.int .i64 x] w fun e w' => e = .returned (.string (decT x)) ∧ Below w.heap.size w w' := by
  have hn : Hid (∀ W : World, (convert 22 9 (.slice (some ⟨W.heap.size, 0, none⟩) 1 1)).run Tryd.prog (W.alloc (.cells #[.int .u8 (48 + x % 10)] 5)) = .ok (.string (digT (x % 10).toNat)) (W.alloc (.cells #[.int .u8 (48 + x % 10)] 5))) := fun W => conv_new W (48 + (x % 10).toNat) (by omega) (48 + x % 10) (by omega)
  have ho : Hid (∀ (W' : World) (B : Nat), W'.cell? ⟨B, 0, none⟩ = some (.int .u8 (48 + x % 10)) → (convert 22 9 (.slice (some ⟨B, 0, none⟩) 1 1)).run Tryd.prog W' = .ok (.string (digT (x % 10).toNat)) W') := fun W' B h => conv_at W' B (48 + (x % 10).toNat) (by omega) (48 + x % 10) (by omega) h
  have hs1 := decT_size (x / 10)
  have hs2 : (digT (x % 10).toNat).size = 1 := rfl
  have hz0 : 0 ≤ x % 10 := by omega
  have hz1 : x % 10 < 10 := by omega
  have hy0 : 0 ≤ x / 10 := by omega
  have hy1 : x / 10 < 100 := by omega
  obtain ⟨z, hz⟩ : ∃ z : Int, x % 10 = z := ⟨_, rfl⟩
  obtain ⟨y, hy⟩ : ∃ y : Int, x / 10 = y := ⟨_, rfl⟩
  rw [hz] at hn ho hs2 hz0 hz1 HD
  rw [hy] at CT hs1 hy0 hy1 HD
  generalize digT z.toNat = T2 at hn ho hs2 HD
  generalize decT y = T1 at CT hs1 HD
  rw [HD.out]
  clear HD
  have hn2 := hn.out
  have hce : (w.alloc (.cells #[.int .u8 (48 + z)] 5)).drew.cell? ⟨w.heap.size, 0, none⟩ = some (.int .u8 (48 + z)) := by
    show (w.alloc (.cells #[.int .u8 (48 + z)] 5)).cell? ⟨w.heap.size, 0, none⟩ = _
    rw [World.cell?_alloc_at _ _ _ _ rfl]; rfl
  have hn3 := ho.out _ _ hce
  have HCE : Hid ((w.alloc (.cells #[.int .u8 (48 + z)] 5)).drew.cell? ⟨w.heap.size, 0, none⟩ = some (.int .u8 (48 + z))) := hce
  clear hce
  have t1 : IntKind.i64.wrap (x.tdiv 10) = y := by rw [Int.tdiv_eq_ediv_of_nonneg (by omega), hy]; exact i64_wrap_small _ (by omega) (by omega)
  have t2 : x.tmod 10 = z := by rw [Int.tmod_eq_emod_of_nonneg (by omega), hz]
  have t3 : IntKind.i64.wrap (48 + z) = 48 + z := i64_wrap_small _ (by omega) (by omega)
  have t4 : IntKind.u8.wrap (48 + z) = 48 + z := by simp [IntKind.wrap, IntKind.bits, IntKind.signed]; omega
  have t5 : IntKind.u8.wrap (IntKind.i64.wrap (48 + z)) = 48 + z := by rw [t3, t4]
  clear hy hz
  go_enter Tryd.func43, Tryd.ntmps43
  go_wp2_with fail
  go_region_with (go_at_call 43; refine (CT.out _).mono ?_; rintro e wc ⟨rfl, hbc⟩; first | have hcc := ho.out _ _ (cell_later hbc HCE.out) | skip)
  · go_wp2
    go_ret
    exact ⟨rfl, ((Below.drew (Below.refl _ w)).trans hbc).alloc (Nat.le_trans (Nat.le_refl _) hbc.size) _⟩
  · go_wp2
    go_ret
    exact ⟨rfl, (((Below.refl w.heap.size w).alloc (Nat.le_refl _) _).drew).trans (hbc.mono (by simp))⟩
  · go_wp2
    go_ret
    exact ⟨rfl, (((Below.refl w.heap.size w).alloc (Nat.le_refl _) _).drew).trans (hbc.mono (by simp))⟩

theorem specText (x : Int) (w : World) (h0 : 0 ≤ x) (h1 : x < 1000) :
    Calls Tryd.prog 43 #[.int .i64 x] w fun e w' => e = .returned (.string (decT x)) ∧ Below w.heap.size w w' := by
  by_cases h10 : x < 10
  · exact specText1 x w h0 h10
  · by_cases h100 : x < 100
    · exact specText2 x w (by omega) h1 (fun W => specText1 _ W (by omega) (by omega)) (decT_2 (by omega) h100)
    · exact specText2 x w (by omega) h1 (fun W => specText2 _ W (by omega) (by omega) (fun W => specText1 _ W (by omega) (by omega)) (decT_2 (by omega) (by omega))) (decT_3 (by omega) h1)

def ip4T (n : Int) : ByteArray := ⟨(ip4L n.toNat).toArray⟩
theorem ip4T_cat {n : Int} (h0 : 0 ≤ n) : ip4T n = decT (n / 16777216) ++ ⟨#[46]⟩ ++ decT (n / 65536 % 256) ++ ⟨#[46]⟩ ++ decT (n / 256 % 256) ++ ⟨#[46]⟩ ++ decT (n % 256) := by
  unfold ip4T decT ip4L
  rw [show (⟨#[46]⟩ : ByteArray) = ⟨[46].toArray⟩ from rfl, cat_bytes, cat_bytes, cat_bytes, cat_bytes, cat_bytes, cat_bytes]
  have e1 : (n / 16777216).toNat = n.toNat / 16777216 := by omega
  have e2 : (n / 65536 % 256).toNat = n.toNat / 65536 % 256 := by omega
  have e3 : (n / 256 % 256).toNat = n.toNat / 256 % 256 := by omega
  have e4 : (n % 256).toNat = n.toNat % 256 := by omega
  rw [e1, e2, e3, e4]
  simp

set_option maxRecDepth 20000 in
set_option maxHeartbeats 8000000 in
theorem specIp4Text (n : Int) (w : World) (h0 : 0 ≤ n) (h1 : n < 4294967296) :
    Calls Tryd.prog 18 #[.int .i64 n] w fun e w' => e = .returned (.string (ip4T n)) ∧ Below w.heap.size w w' := by
  have HT : Hid (ip4T n = decT (n / 16777216) ++ ⟨#[46]⟩ ++ decT (n / 65536 % 256) ++ ⟨#[46]⟩ ++ decT (n / 256 % 256) ++ ⟨#[46]⟩ ++ decT (n % 256)) := ip4T_cat h0
  have c1 : Hid (∀ W, Calls Tryd.prog 43 #[.int .i64 (n / 16777216)] W fun e w' => e = .returned (.string (decT (n / 16777216))) ∧ Below W.heap.size W w') := fun W => specText _ W (by omega) (by omega)
  have c2 : Hid (∀ W, Calls Tryd.prog 43 #[.int .i64 (n / 65536 % 256)] W fun e w' => e = .returned (.string (decT (n / 65536 % 256))) ∧ Below W.heap.size W w') := fun W => specText _ W (by omega) (by omega)
  have c3 : Hid (∀ W, Calls Tryd.prog 43 #[.int .i64 (n / 256 % 256)] W fun e w' => e = .returned (.string (decT (n / 256 % 256))) ∧ Below W.heap.size W w') := fun W => specText _ W (by omega) (by omega)
  have c4 : Hid (∀ W, Calls Tryd.prog 43 #[.int .i64 (n % 256)] W fun e w' => e = .returned (.string (decT (n % 256))) ∧ Below W.heap.size W w') := fun W => specText _ W (by omega) (by omega)
  have b2 : bits .and .i64 (n / 65536) 255 = n / 65536 % 256 := i64_low 8 255 rfl _ (by omega) (by omega) (by decide)
  have b3 : bits .and .i64 (n / 256) 255 = n / 256 % 256 := i64_low 8 255 rfl _ (by omega) (by omega) (by decide)
  have b4 : bits .and .i64 n 255 = n % 256 := i64_low 8 255 rfl _ (by omega) (by omega) (by decide)
  have s1 := decT_size (n / 16777216)
  have s2 := decT_size (n / 65536 % 256)
  have s3 := decT_size (n / 256 % 256)
  have s4 := decT_size (n % 256)
  generalize decT (n / 16777216) = T1 at HT c1 s1
  generalize decT (n / 65536 % 256) = T2 at HT c2 s2
  generalize decT (n / 256 % 256) = T3 at HT c3 s3
  generalize decT (n % 256) = T4 at HT c4 s4
  have sz : (⟨#[46]⟩ : ByteArray).size = 1 := rfl
  rw [HT.out]
  clear HT
  go_enter Tryd.func18, Tryd.ntmps18
  go_wp2_with fail
  refine (specL1In_yes _ _ _ _ (by omega) (by omega)).mono ?_
  rintro e w' ⟨rfl, rfl⟩
  go_wp2_with fail
  refine (c1.out _).mono ?_
  rintro e w1 ⟨rfl, k1⟩
  go_wp2_with fail
  refine (c2.out _).mono ?_
  rintro e w2 ⟨rfl, k2⟩
  go_wp2_with fail
  refine (c3.out _).mono ?_
  rintro e w3 ⟨rfl, k3⟩
  go_wp2_with fail
  refine (c4.out _).mono ?_
  rintro e w4 ⟨rfl, k4⟩
  have B1 : Below w.heap.size w w4 := ((k1.trans (k2.mono k1.size)).trans (k3.mono (Nat.le_trans k1.size k2.size))).trans (k4.mono (Nat.le_trans (Nat.le_trans k1.size k2.size) k3.size))
  clear k1 k2 k3 k4
  go_wp2_with fail
  go_ret
  exact ⟨rfl, B1⟩

set_option maxHeartbeats 1000000 in
theorem specIp4Text_no (n : Int) (w : World) (h : n < 0 ∨ 4294967295 < n) :
    Calls Tryd.prog 18 #[.int .i64 n] w fun e w' => e = .returned (.string ⟨#[]⟩) ∧ Below w.heap.size w w' := by
  have HN : Hid (n < 0 ∨ 4294967295 < n) := h
  clear h
  go_enter Tryd.func18, Tryd.ntmps18
  go_wp2_with fail
  refine (specL1In_no _ _ _ _ HN.out).mono ?_
  rintro e w' ⟨rfl, rfl⟩
  go_wp2_with fail
  go_ret
  exact ⟨rfl, Below.refl _ _⟩
end Go.Proofs.YtophgcneckjdjaaDoor
