/- Ip4Spec, Ip4Impl, LaidPow, Ip6Plain. -/
import Derived.Test.YtgmfkgeepecknaaGreatDoorQ04
import Derived.Lib.AppendIntMem
import Derived.Lib.LaidTab
import Derived.Lib.LaidU8
set_option maxHeartbeats 8000000
set_option maxRecDepth 20000
namespace Go.Proofs.YtgmfkgeepecknaaGreatDoor
open Go.RowKit
theorem cat_bytes (a b : List UInt8) : ((⟨a.toArray⟩ : ByteArray) ++ (⟨b.toArray⟩ : ByteArray)) = ⟨(a ++ b).toArray⟩ := by
 apply ByteArray.ext
 rw [ByteArray.data_append]
 simp
def digT (v : Nat) : ByteArray := ⟨#[UInt8.ofNat (48 + v)]⟩
def decT (x : Int) : ByteArray := ⟨(dec3 x.toNat).toArray⟩
theorem decT_1 {x : Int} (h0 : 0 ≤ x) (h : x < 10) : decT x = digT x.toNat := by
 unfold decT digT dec3
 rw [if_pos (by omega)]
theorem decT_2 {x : Int} (h0 : 10 ≤ x) (h : x < 100) : decT x = decT (x / 10) ++ digT (x % 10).toNat := by
 rw [decT_1 (x := x / 10) (by omega) (by omega)]
 unfold decT digT dec3
 rw [if_neg (by omega), if_pos (by omega), show (⟨#[UInt8.ofNat (48 + (x / 10).toNat)]⟩ : ByteArray) = ⟨[UInt8.ofNat (48 + (x / 10).toNat)].toArray⟩ from rfl, show (⟨#[UInt8.ofNat (48 + (x % 10).toNat)]⟩ : ByteArray) = ⟨[UInt8.ofNat (48 + (x % 10).toNat)].toArray⟩ from rfl, cat_bytes]
 have e1 : (x / 10).toNat = x.toNat / 10 := by omega
 have e2 : (x % 10).toNat = x.toNat % 10 := by omega
 rw [e1, e2]
 rfl
theorem decT_3 {x : Int} (h0 : 100 ≤ x) (h : x < 1000) : decT x = decT (x / 10) ++ digT (x % 10).toNat := by
 unfold decT digT dec3
 rw [if_neg (by omega), if_neg (by omega), if_neg (by omega), if_pos (by omega), show (⟨#[UInt8.ofNat (48 + (x % 10).toNat)]⟩ : ByteArray) = ⟨[UInt8.ofNat (48 + (x % 10).toNat)].toArray⟩ from rfl, cat_bytes]
 have e1 : (x / 10).toNat / 10 = x.toNat / 100 := by omega
 have e3 : (x / 10).toNat % 10 = x.toNat / 10 % 10 := by omega
 have e2 : (x % 10).toNat = x.toNat % 10 := by omega
 rw [e1, e2, e3]
 rfl
theorem decT_size (x : Int) : (decT x).size ≤ 3 := by
 unfold decT
 show (dec3 x.toNat).toArray.size ≤ 3
 rw [List.size_toArray]
 exact dec3_len _
theorem conv_at (W : World) (B : Nat) (c : Nat) (hc : c < 256) (x : Int) (hx : x = (c : Int)) (h : W.cell? ⟨B, 0, none⟩ = some (.int .u8 x)) :
  (convert 22 9 (.slice (some ⟨B, 0, none⟩) 1 1)).run Tryz.prog W = .ok (.string ⟨#[UInt8.ofNat c]⟩) W := by
 subst hx
 have h := run_convert_bytes_back (P := Tryz.prog) W 22 9 5 ⟨B, 0, none⟩ 1 [UInt8.ofNat c] Tryz.underlying22 Tryz.underlying5 Tryz.underlying9 (fun j hj => by
  have : j = 0 := by simpa using hj
  subst this
  rw [Addr.add_lit, h]
  simp
  omega)
 simpa using h
theorem conv_new (W : World) (c : Nat) (hc : c < 256) (x : Int) (hx : x = (c : Int)) :
  (convert 22 9 (.slice (some ⟨W.heap.size, 0, none⟩) 1 1)).run Tryz.prog (W.alloc (.cells #[.int .u8 x] 5)) = .ok (.string ⟨#[UInt8.ofNat c]⟩) (W.alloc (.cells #[.int .u8 x] 5)) :=
 conv_at _ _ c hc x hx (by rw [World.cell?_alloc_at _ _ _ _ rfl]; rfl)
theorem specText1 (x : Int) (w : World) (h0 : 0 ≤ x) (h1 : x < 10) :
  Calls Tryz.prog 106 #[.int .i64 x] w fun e w' => e = .returned (.string (decT x)) ∧ Below w.heap.size w w' := by
 have HD := decT_1 h0 h1
 have hcv := conv_new w (48 + x.toNat) (by omega) (48 + x) (by omega)
 rw [show (⟨#[UInt8.ofNat (48 + x.toNat)]⟩ : ByteArray) = digT x.toNat from rfl, ← HD] at hcv
 generalize decT x = T at hcv ⊢
 clear HD
 go_enter Tryz.func106, Tryz.ntmps106
 go_wp2
 go_ret
 exact ⟨rfl, (Below.refl _ _).alloc (Nat.le_refl _) _⟩
theorem specTextG (x : Int) (w : World) (T1 T : ByteArray) (h0 : 10 ≤ x) (h1 : x < 100000) (hs1 : T1.size ≤ 5) (CT : Hid (∀ W, Calls Tryz.prog 106 #[.int .i64 (x / 10)] W fun e w' => e = .returned (.string T1) ∧ Below W.heap.size W w')) (HD : Hid (T = T1 ++ digT (x % 10).toNat)) :
  Calls Tryz.prog 106 #[.int .i64 x] w fun e w' => e = .returned (.string T) ∧ Below w.heap.size w w' := by
 have hn : Hid (∀ W : World, (convert 22 9 (.slice (some ⟨W.heap.size, 0, none⟩) 1 1)).run Tryz.prog (W.alloc (.cells #[.int .u8 (48 + x % 10)] 5)) = .ok (.string (digT (x % 10).toNat)) (W.alloc (.cells #[.int .u8 (48 + x % 10)] 5))) := fun W => conv_new W (48 + (x % 10).toNat) (by omega) (48 + x % 10) (by omega)
 have ho : Hid (∀ (W' : World) (B : Nat), W'.cell? ⟨B, 0, none⟩ = some (.int .u8 (48 + x % 10)) → (convert 22 9 (.slice (some ⟨B, 0, none⟩) 1 1)).run Tryz.prog W' = .ok (.string (digT (x % 10).toNat)) W') := fun W' B h => conv_at W' B (48 + (x % 10).toNat) (by omega) (48 + x % 10) (by omega) h
 have hs2 : (digT (x % 10).toNat).size = 1 := rfl
 have hz0 : 0 ≤ x % 10 := by omega
 have hz1 : x % 10 < 10 := by omega
 have hy0 : 0 ≤ x / 10 := by omega
 have hy1 : x / 10 < 10000 := by omega
 obtain ⟨z, hz⟩ : ∃ z : Int, x % 10 = z := ⟨_, rfl⟩
 obtain ⟨y, hy⟩ : ∃ y : Int, x / 10 = y := ⟨_, rfl⟩
 rw [hz] at hn ho hs2 hz0 hz1 HD
 rw [hy] at CT hy0 hy1
 generalize digT z.toNat = T2 at hn ho hs2 HD
 rw [HD.out]
 clear HD
 have hn2 := hn.out
 have hce : (w.alloc (.cells #[.int .u8 (48 + z)] 5)).drew.cell? ⟨w.heap.size, 0, none⟩ = some (.int .u8 (48 + z)) := by
  show (w.alloc (.cells #[.int .u8 (48 + z)] 5)).cell? ⟨w.heap.size, 0, none⟩ = _
  rw [World.cell?_alloc_at _ _ _ _ rfl]; rfl
 have hn3 := ho.out _ _ hce
 have HCE : Hid ((w.alloc (.cells #[.int .u8 (48 + z)] 5)).drew.cell? ⟨w.heap.size, 0, none⟩ = some (.int .u8 (48 + z))) := hce
 clear hce
 have t1 : IntKind.i64.wrap (x.tdiv 10) = y := by rw [Int.tdiv_eq_ediv_of_nonneg (by omega), hy]; exact i64_wrap_small _ (by omega) (by omega)
 have t2 : x.tmod 10 = z := by rw [Int.tmod_eq_emod_of_nonneg (by omega), hz]
 have t3 : IntKind.i64.wrap (48 + z) = 48 + z := i64_wrap_small _ (by omega) (by omega)
 have t4 : IntKind.u8.wrap (48 + z) = 48 + z := by simp [IntKind.wrap, IntKind.bits, IntKind.signed]; omega
 have t5 : IntKind.u8.wrap (IntKind.i64.wrap (48 + z)) = 48 + z := by rw [t3, t4]
 clear hy hz
 go_enter Tryz.func106, Tryz.ntmps106
 go_wp2_with fail
 go_region_with (go_at_call 106; refine (CT.out _).mono ?_; rintro e wc ⟨rfl, hbc⟩; first | have hcc := ho.out _ _ (cell_later hbc HCE.out) | skip)
 ·go_wp2
  go_ret
  exact ⟨rfl, ((Below.drew (Below.refl _ w)).trans hbc).alloc (Nat.le_trans (Nat.le_refl _) hbc.size) _⟩
 ·go_wp2
  go_ret
  exact ⟨rfl, (((Below.refl w.heap.size w).alloc (Nat.le_refl _) _).drew).trans (hbc.mono (by simp))⟩
 go_wp2
 go_ret
 exact ⟨rfl, (((Below.refl w.heap.size w).alloc (Nat.le_refl _) _).drew).trans (hbc.mono (by simp))⟩
theorem specText2 (x : Int) (w : World) (h0 : 10 ≤ x) (h1 : x < 1000) (CT : Hid (∀ W, Calls Tryz.prog 106 #[.int .i64 (x / 10)] W fun e w' => e = .returned (.string (decT (x / 10))) ∧ Below W.heap.size W w')) (HD : Hid (decT x = decT (x / 10) ++ digT (x % 10).toNat)) :
  Calls Tryz.prog 106 #[.int .i64 x] w fun e w' => e = .returned (.string (decT x)) ∧ Below w.heap.size w w' := specTextG x w _ _ h0 (by omega) (Nat.le_trans (decT_size _) (by decide)) CT HD
theorem specText (x : Int) (w : World) (h0 : 0 ≤ x) (h1 : x < 1000) :
  Calls Tryz.prog 106 #[.int .i64 x] w fun e w' => e = .returned (.string (decT x)) ∧ Below w.heap.size w w' := by
 by_cases h10 : x < 10
 ·exact specText1 x w h0 h10
 by_cases h100 : x < 100
 ·exact specText2 x w (by omega) h1 (fun W => specText1 _ W (by omega) (by omega)) (decT_2 (by omega) h100)
 exact specText2 x w (by omega) h1 (fun W => specText2 _ W (by omega) (by omega) (fun W => specText1 _ W (by omega) (by omega)) (decT_2 (by omega) (by omega))) (decT_3 (by omega) h1)
def ip4T (n : Int) : ByteArray := ⟨(ip4L n.toNat).toArray⟩
theorem ip4T_cat {n : Int} (h0 : 0 ≤ n) : ip4T n = decT (n / 16777216) ++ ⟨#[46]⟩ ++ decT (n / 65536 % 256) ++ ⟨#[46]⟩ ++ decT (n / 256 % 256) ++ ⟨#[46]⟩ ++ decT (n % 256) := by
 unfold ip4T decT ip4L
 rw [show (⟨#[46]⟩ : ByteArray) = ⟨[46].toArray⟩ from rfl, cat_bytes, cat_bytes, cat_bytes, cat_bytes, cat_bytes, cat_bytes]
 have e1 : (n / 16777216).toNat = n.toNat / 16777216 := by omega
 have e2 : (n / 65536 % 256).toNat = n.toNat / 65536 % 256 := by omega
 have e3 : (n / 256 % 256).toNat = n.toNat / 256 % 256 := by omega
 have e4 : (n % 256).toNat = n.toNat % 256 := by omega
 rw [e1, e2, e3, e4]
 simp
theorem specIp4Text (n : Int) (w : World) (h0 : 0 ≤ n) (h1 : n < 4294967296) :
  Calls Tryz.prog 150 #[.int .i64 n] w fun e w' => e = .returned (.string (ip4T n)) ∧ Below w.heap.size w w' := by
 have HT : Hid (ip4T n = decT (n / 16777216) ++ ⟨#[46]⟩ ++ decT (n / 65536 % 256) ++ ⟨#[46]⟩ ++ decT (n / 256 % 256) ++ ⟨#[46]⟩ ++ decT (n % 256)) := ip4T_cat h0
 have c1 : Hid (∀ W, CB 106 #[.int .i64 (n / 16777216)] W (.string (decT (n / 16777216)))) := fun W => specText _ W (by omega) (by omega)
 have c2 : Hid (∀ W, CB 106 #[.int .i64 (n / 65536 % 256)] W (.string (decT (n / 65536 % 256)))) := fun W => specText _ W (by omega) (by omega)
 have c3 : Hid (∀ W, CB 106 #[.int .i64 (n / 256 % 256)] W (.string (decT (n / 256 % 256)))) := fun W => specText _ W (by omega) (by omega)
 have c4 : Hid (∀ W, CB 106 #[.int .i64 (n % 256)] W (.string (decT (n % 256)))) := fun W => specText _ W (by omega) (by omega)
 have b2 : bits .and .i64 (n / 65536) 255 = n / 65536 % 256 := i64_low 8 255 rfl _ (by omega) (by omega) (by decide)
 have b3 : bits .and .i64 (n / 256) 255 = n / 256 % 256 := i64_low 8 255 rfl _ (by omega) (by omega) (by decide)
 have b4 : bits .and .i64 n 255 = n % 256 := i64_low 8 255 rfl _ (by omega) (by omega) (by decide)
 have s1 := decT_size (n / 16777216)
 have s2 := decT_size (n / 65536 % 256)
 have s3 := decT_size (n / 256 % 256)
 have s4 := decT_size (n % 256)
 generalize decT (n / 16777216) = T1 at HT c1 s1
 generalize decT (n / 65536 % 256) = T2 at HT c2 s2
 generalize decT (n / 256 % 256) = T3 at HT c3 s3
 generalize decT (n % 256) = T4 at HT c4 s4
 have sz : (⟨#[46]⟩ : ByteArray).size = 1 := rfl
 rw [HT.out]
 clear HT
 go_enter Tryz.func150, Tryz.ntmps150
 go_wp2_with fail
 refine (specL1In_yes _ _ _ _ (by omega) (by omega)).mono ?_
 rintro e w' ⟨rfl, rfl⟩
 go_wp2_with fail
 refine (c1.out _).mono ?_
 rintro e w1 ⟨rfl, k1⟩
 go_wp2_with fail
 refine (c2.out _).mono ?_
 rintro e w2 ⟨rfl, k2⟩
 go_wp2_with fail
 refine (c3.out _).mono ?_
 rintro e w3 ⟨rfl, k3⟩
 go_wp2_with fail
 refine (c4.out _).mono ?_
 rintro e w4 ⟨rfl, k4⟩
 have B1 : Below w.heap.size w w4 := ((k1.trans (k2.mono k1.size)).trans (k3.mono (Nat.le_trans k1.size k2.size))).trans (k4.mono (Nat.le_trans (Nat.le_trans k1.size k2.size) k3.size))
 clear k1 k2 k3 k4
 go_wp2_with fail
 go_ret
 exact ⟨rfl, B1⟩
def Pow (w : World) : Prop := Lib.TabIs Tryz.prog w "internal/strconv.uint64pow10" .u64 Lib.pow10Tab
theorem pow_below {w w' : World} (h : Pow w) (hb : Below w.heap.size w w') : Pow w' := Lib.tabBelow_of_tabIs h w' hb
theorem itoa_dec3 {i : Int} (h0 : 0 ≤ i) (h1 : i < 1000) : Lib.itoa i = dec3 i.toNat := by
 obtain ⟨u, rfl⟩ := Int.eq_ofNat_of_zero_le h0
 rw [Lib.itoa_nonneg, Int.toNat_natCast]
 have hu : u < 1000 := by omega
 unfold dec3
 by_cases c1 : u < 10
 ·rw [if_pos c1, Lib.decDigits_one c1]
 by_cases c2 : u < 100
 ·rw [if_neg c1, if_pos c2, Lib.decDigits_two c1 c2]
 rw [if_neg c1, if_neg c2, Lib.decDigits, dif_neg c1, Lib.decDigits_two (by omega) (by omega)]
 rw [show u / 10 / 10 = u / 100 by omega]
 rfl
theorem implAppDec (B : Nat) (i : Int) (v : Value) (l : List UInt8) (w : World) (h0 : 0 ≤ i) (h1 : i < 1000) (hown : w.ownsRow B 5 1 v l.length (bcells l)) (hB : B ≤ w.heap.size) (hl : l.length ≤ 1000)
  (hT : Lib.TabBelow Tryz.prog B w "internal/strconv.uint64pow10" .u64 Lib.pow10Tab) :
  Calls Tryz.prog 165 #[v, .int .i64 i, .int .i64 10] w fun e w' => ∃ v', e = .returned v' ∧ w'.ownsRow B 5 1 v' (l ++ dec3 i.toNat).length (bcells (l ++ dec3 i.toNat)) ∧ Below B w w' := by
 refine (Tryz.strconv_AppendInt_10 B l.length i (by omega) (by omega) v (bcells l) w hown hB (by omega) hT).mono ?_
 rintro e w' ⟨v', rfl, h2, h3, _⟩
 refine ⟨v', rfl, ?_, h3⟩
 rw [itoa_dec3 h0 h1] at h2
 rw [bcells_append, List.length_append]
 exact h2
def pre4 (n : Int) : Nat → List UInt8
 | 0 => []
 | 1 => dec3 (n / 16777216).toNat ++ [46]
 | 2 => dec3 (n / 16777216).toNat ++ [46] ++ dec3 (n / 65536 % 256).toNat ++ [46]
 | _ => dec3 (n / 16777216).toNat ++ [46] ++ dec3 (n / 65536 % 256).toNat ++ [46] ++ dec3 (n / 256 % 256).toNat ++ [46]
theorem pre4_len (n : Int) (k : Nat) : (pre4 n k).length ≤ 100 := by
 have h1 := dec3_len (n / 16777216).toNat
 have h2 := dec3_len (n / 65536 % 256).toNat
 have h3 := dec3_len (n / 256 % 256).toNat
 match k with
 | 0 => simp [pre4]
 | 1 => simp [pre4]; omega
 | 2 => simp [pre4]; omega
 | _ + 3 => simp [pre4]; omega
theorem pre4_end {n : Int} (h0 : 0 ≤ n) : (⟨(pre4 n 3 ++ dec3 (n % 256).toNat).toArray⟩ : ByteArray) = ip4T n := by
 unfold ip4T ip4L pre4
 have e1 : (n / 16777216).toNat = n.toNat / 16777216 := by omega
 have e2 : (n / 65536 % 256).toNat = n.toNat / 65536 % 256 := by omega
 have e3 : (n / 256 % 256).toNat = n.toNat / 256 % 256 := by omega
 have e4 : (n % 256).toNat = n.toNat % 256 := by omega
 rw [e1, e2, e3, e4]
 simp
def room4 : Nat → Int
 | 0 => 16777216
 | 1 => 65536
 | 2 => 256
 | 3 => 1
 | _ => 0
theorem implIp4Text (n : Int) (w : World) (h0 : 0 ≤ n) (h1 : n < 4294967296) (hT : Pow w) :
  Calls Tryz.prog 122 #[.int .i64 n] w fun e w' => e = .returned (.string (ip4T n)) ∧ Below w.heap.size w w' := by
 obtain ⟨i0, hi, hz0, hz1, hz2⟩ := info_parts Tryz.info5
 have HT : Hid (Lib.TabBelow Tryz.prog w.heap.size w "internal/strconv.uint64pow10" .u64 Lib.pow10Tab) := Lib.tabBelow_of_tabIs hT
 clear hT
 go_enter Tryz.func122, Tryz.ntmps122
 go_wp2_with (at_make; refine wpList_make_own _ rfl _ _ 22 rfl w.heap.size 5 i0 (.int .u8 0) 1 Tryz.underlying22 hi hz0 hz1 _ _ _ 15 rfl rfl (by omega) (by rw [hz2]; omega) (by unfold maxLen; omega) (Nat.le_refl _) ?_)
 intro wm hmo hgm
 have Bm : Below w.heap.size w wm := (Below.refl _ _).grown hgm (Nat.le_refl _) (fun k hk => by cases hk)
 have om : wm.ownsRow w.heap.size 5 1 (.slice (some ⟨w.heap.size, 0, none⟩) 0 15) 0 [] := hmo
 clear hmo hgm
 go_wp2_with fail
 go_loopw [3, 4] (fun v r wr => ∃ k : Nat, k ≤ 4 ∧ r = .int .i64 (room4 k) ∧ (k ≤ 3 → wr.ownsRow w.heap.size 5 1 v (pre4 n k).length (bcells (pre4 n k))) ∧ (k = 4 → wr.ownsRow w.heap.size 5 1 v (pre4 n 3 ++ dec3 (n % 256).toNat).length (bcells (pre4 n 3 ++ dec3 (n % 256).toNat))) ∧ Below w.heap.size w wr)
  (fun _ r _ => (intOf r).toNat)
 case atStart => exact ⟨0, by omega, rfl, fun _ => om, fun h => by omega, Bm⟩
 obtain ⟨k, hk, rfl, hin, hend, hbel⟩ := hrel
 clear om Bm hi hz0 hz1 hz2
 have hsz := hbel.size
 have h5 : k = 0 ∨ k = 1 ∨ k = 2 ∨ k = 3 ∨ k = 4 := by omega
 have HTW : Hid (Lib.TabBelow Tryz.prog w.heap.size wr "internal/strconv.uint64pow10" .u64 Lib.pow10Tab) := HT.out.on hbel
 rcases h5 with rfl | rfl | rfl | rfl | rfl
 ·have e0 : n / 16777216 % 256 = n / 16777216 := by omega
  have HI : Hid (∀ (v : Value) (W : World), W.ownsRow w.heap.size 5 1 v (pre4 n 0).length (bcells (pre4 n 0)) → w.heap.size ≤ W.heap.size → Lib.TabBelow Tryz.prog w.heap.size W "internal/strconv.uint64pow10" .u64 Lib.pow10Tab → Calls Tryz.prog 165 #[v, .int .i64 (n/16777216), .int .i64 10] W fun e w' => ∃ v', e = .returned v' ∧ w'.ownsRow w.heap.size 5 1 v' (pre4 n 0 ++ dec3 (n/16777216).toNat).length (bcells (pre4 n 0 ++ dec3 (n/16777216).toNat)) ∧ Below w.heap.size W w') := fun v W ho hB hT => implAppDec w.heap.size _ v _ W (by omega) (by omega) ho hB (by have := pre4_len n 0; omega) hT
  have o1 := hin (by omega)
  have hl := pre4_len n 0
  have hl2 := dec3_len (n/16777216).toNat
  clear hin hend
  simp only [room4]
  go_wp2_with fail
  refine (HI.out _ _ o1 hsz HTW.out).mono ?_
  rintro e wb ⟨vb, rfl, o2, b2⟩
  have B2 := hbel.trans b2
  have z2 := B2.size
  have hl3 : (pre4 n 0 ++ dec3 (n/16777216).toNat).length ≤ 200 := by rw [List.length_append]; omega
  clear o1 hbel b2 HTW HI
  obtain ⟨L, hL⟩ : ∃ L, pre4 n 0 ++ dec3 (n/16777216).toNat = L := ⟨_, rfl⟩
  rw [hL] at o2 hl3
  have HL : Hid (pre4 n 0 ++ dec3 (n/16777216).toNat = L) := hL
  clear hL
  go_wp2_with (at_builtin; refine wpList_append_new _ rfl _ _ 22 rfl w.heap.size 5 (.int .u8 0) 1 Tryz.underlying22 Tryz.info5 rfl _ _ _ rfl o2 #[.int .u8 46] 1 rfl rfl (by intro u hu; simp at hu; subst hu; rfl) (by omega) (by unfold maxLen; omega) z2 ?_)
  intro v' w1 o3 b3
  have R : w1.ownsRow w.heap.size 5 1 v' (pre4 n 1).length (bcells (pre4 n 1)) := by
   rw [show pre4 n 1 = L ++ [46] by rw [← HL.out]; simp [pre4], bcells_snoc, List.length_append]
   exact o3
  have B3 := B2.trans b3
  clear o2 o3 b3 B2
  go_wp2_with fail
  go_roundw
  case rel => exact ⟨1, by omega, rfl, fun _ => R, fun h => by omega, B3⟩
  case measure => simp [intOf]
 ·have HI : Hid (∀ (v : Value) (W : World), W.ownsRow w.heap.size 5 1 v (pre4 n 1).length (bcells (pre4 n 1)) → w.heap.size ≤ W.heap.size → Lib.TabBelow Tryz.prog w.heap.size W "internal/strconv.uint64pow10" .u64 Lib.pow10Tab → Calls Tryz.prog 165 #[v, .int .i64 (n/65536%256), .int .i64 10] W fun e w' => ∃ v', e = .returned v' ∧ w'.ownsRow w.heap.size 5 1 v' (pre4 n 1 ++ dec3 (n/65536%256).toNat).length (bcells (pre4 n 1 ++ dec3 (n/65536%256).toNat)) ∧ Below w.heap.size W w') := fun v W ho hB hT => implAppDec w.heap.size _ v _ W (by omega) (by omega) ho hB (by have := pre4_len n 1; omega) hT
  have o1 := hin (by omega)
  have hl := pre4_len n 1
  have hl2 := dec3_len (n/65536%256).toNat
  clear hin hend
  simp only [room4]
  go_wp2_with fail
  refine (HI.out _ _ o1 hsz HTW.out).mono ?_
  rintro e wb ⟨vb, rfl, o2, b2⟩
  have B2 := hbel.trans b2
  have z2 := B2.size
  have hl3 : (pre4 n 1 ++ dec3 (n/65536%256).toNat).length ≤ 200 := by rw [List.length_append]; omega
  clear o1 hbel b2 HTW HI
  obtain ⟨L, hL⟩ : ∃ L, pre4 n 1 ++ dec3 (n/65536%256).toNat = L := ⟨_, rfl⟩
  rw [hL] at o2 hl3
  have HL : Hid (pre4 n 1 ++ dec3 (n/65536%256).toNat = L) := hL
  clear hL
  go_wp2_with (at_builtin; refine wpList_append_new _ rfl _ _ 22 rfl w.heap.size 5 (.int .u8 0) 1 Tryz.underlying22 Tryz.info5 rfl _ _ _ rfl o2 #[.int .u8 46] 1 rfl rfl (by intro u hu; simp at hu; subst hu; rfl) (by omega) (by unfold maxLen; omega) z2 ?_)
  intro v' w1 o3 b3
  have R : w1.ownsRow w.heap.size 5 1 v' (pre4 n 2).length (bcells (pre4 n 2)) := by
   rw [show pre4 n 2 = L ++ [46] by rw [← HL.out]; simp [pre4], bcells_snoc, List.length_append]
   exact o3
  have B3 := B2.trans b3
  clear o2 o3 b3 B2
  go_wp2_with fail
  go_roundw
  case rel => exact ⟨2, by omega, rfl, fun _ => R, fun h => by omega, B3⟩
  case measure => simp [intOf]
 ·have HI : Hid (∀ (v : Value) (W : World), W.ownsRow w.heap.size 5 1 v (pre4 n 2).length (bcells (pre4 n 2)) → w.heap.size ≤ W.heap.size → Lib.TabBelow Tryz.prog w.heap.size W "internal/strconv.uint64pow10" .u64 Lib.pow10Tab → Calls Tryz.prog 165 #[v, .int .i64 (n/256%256), .int .i64 10] W fun e w' => ∃ v', e = .returned v' ∧ w'.ownsRow w.heap.size 5 1 v' (pre4 n 2 ++ dec3 (n/256%256).toNat).length (bcells (pre4 n 2 ++ dec3 (n/256%256).toNat)) ∧ Below w.heap.size W w') := fun v W ho hB hT => implAppDec w.heap.size _ v _ W (by omega) (by omega) ho hB (by have := pre4_len n 2; omega) hT
  have o1 := hin (by omega)
  have hl := pre4_len n 2
  have hl2 := dec3_len (n/256%256).toNat
  clear hin hend
  simp only [room4]
  go_wp2_with fail
  refine (HI.out _ _ o1 hsz HTW.out).mono ?_
  rintro e wb ⟨vb, rfl, o2, b2⟩
  have B2 := hbel.trans b2
  have z2 := B2.size
  have hl3 : (pre4 n 2 ++ dec3 (n/256%256).toNat).length ≤ 200 := by rw [List.length_append]; omega
  clear o1 hbel b2 HTW HI
  obtain ⟨L, hL⟩ : ∃ L, pre4 n 2 ++ dec3 (n/256%256).toNat = L := ⟨_, rfl⟩
  rw [hL] at o2 hl3
  have HL : Hid (pre4 n 2 ++ dec3 (n/256%256).toNat = L) := hL
  clear hL
  go_wp2_with (at_builtin; refine wpList_append_new _ rfl _ _ 22 rfl w.heap.size 5 (.int .u8 0) 1 Tryz.underlying22 Tryz.info5 rfl _ _ _ rfl o2 #[.int .u8 46] 1 rfl rfl (by intro u hu; simp at hu; subst hu; rfl) (by omega) (by unfold maxLen; omega) z2 ?_)
  intro v' w1 o3 b3
  have R : w1.ownsRow w.heap.size 5 1 v' (pre4 n 3).length (bcells (pre4 n 3)) := by
   rw [show pre4 n 3 = L ++ [46] by rw [← HL.out]; simp [pre4], bcells_snoc, List.length_append]
   exact o3
  have B3 := B2.trans b3
  clear o2 o3 b3 B2
  go_wp2_with fail
  go_roundw
  case rel => exact ⟨3, by omega, rfl, fun _ => R, fun h => by omega, B3⟩
  case measure => simp [intOf]
 ·have HI : Hid (∀ (v : Value) (W : World), W.ownsRow w.heap.size 5 1 v (pre4 n 3).length (bcells (pre4 n 3)) → w.heap.size ≤ W.heap.size → Lib.TabBelow Tryz.prog w.heap.size W "internal/strconv.uint64pow10" .u64 Lib.pow10Tab → Calls Tryz.prog 165 #[v, .int .i64 (n % 256), .int .i64 10] W fun e w' => ∃ v', e = .returned v' ∧ w'.ownsRow w.heap.size 5 1 v' (pre4 n 3 ++ dec3 (n % 256).toNat).length (bcells (pre4 n 3 ++ dec3 (n % 256).toNat)) ∧ Below w.heap.size W w') := fun v W ho hB hT => implAppDec w.heap.size _ v _ W (by omega) (by omega) ho hB (by have := pre4_len n 3; omega) hT
  have o1 := hin (by omega)
  clear hin hend
  simp only [room4]
  go_wp2_with fail
  refine (HI.out _ _ o1 hsz HTW.out).mono ?_
  rintro e wb ⟨vb, rfl, o2, b2⟩
  have B2 := hbel.trans b2
  clear o1 hbel b2 HTW HI
  go_wp2_with fail
  go_roundw
  case rel => exact ⟨4, by omega, rfl, fun h => by omega, fun _ => o2, B2⟩
  case measure => simp [intOf]
 have o1 := hend rfl
 clear hin hend
 have hcv := run_string_own (P := Tryz.prog) wr 22 9 5 Tryz.underlying22 Tryz.underlying5 Tryz.underlying9 o1
 rw [pre4_end h0] at hcv
 simp only [room4]
 go_wp2_with fail
 go_ret
 exact ⟨rfl, hbel⟩
theorem implIp4Text_no (n : Int) (w : World) (h : n < 0 ∨ 4294967295 < n) :
  Calls Tryz.prog 122 #[.int .i64 n] w fun e w' => e = .returned (.string ⟨#[]⟩) ∧ Below w.heap.size w w' := by
 by_cases h0 : n < 0
 ·clear h
  go_enter Tryz.func122, Tryz.ntmps122
  go_wp2_with fail
  go_ret
  exact ⟨rfl, Below.refl _ _⟩
 have h1 : 4294967296 ≤ n := by omega
 clear h
 go_enter Tryz.func122, Tryz.ntmps122
 go_wp2_with fail
 go_ret
 exact ⟨rfl, Below.refl _ _⟩
end Go.Proofs.YtgmfkgeepecknaaGreatDoor
namespace Go.Proofs.YtgmfkgeepecknaaGreatDoor
open Go.ChangeShapes Go.WideShapes Go.ChangeAt Go.RowKit Go.Lib
theorem pow_data : (Rows.laid_internal_strconv_uint64pow10 : DataW Unit) = Lib.tabData .u64 Lib.pow10Tab := by kernel_rfl
def litCells (d : DataW Unit) : Array Value := match d with
 | .agg ds => (ds.map fun x => match x with
  | .lit (.int k n) => Value.int k n
  | _ => Value.int .i64 0).toArray
 | _ => #[]
def putRow5 (cs : Array Value) : Obj → Obj
 | .cells _ t frozen => .cells cs t frozen
 | o => o
def powHeap (h : Array Obj) : Array Obj :=
 ((h.modify 5 (putRow5 (litCells Rows.laid_math_bits_deBruijn32tab))).modify 6 (putRow5 (litCells Rows.laid_math_bits_deBruijn64tab))).modify 2 (putRow5 (litCells Rows.laid_internal_strconv_uint64pow10))
def MaxI (w : World) : Prop := ∃ m, w.cell? ⟨3, 0, none⟩ = some (.int .i64 m)
theorem max_shaped {w : World} (h : w.ShapedOpen Tryz.prog) : MaxI w := Tryz.laysM145.s1_3 w h
theorem max_below {w w' : World} (h : MaxI w) (hb : Below w.heap.size w w') : MaxI w' := by
 obtain ⟨m, hm⟩ := h
 exact ⟨m, cell_later hb hm⟩
end Go.Proofs.YtgmfkgeepecknaaGreatDoor
namespace Go.Proofs.YtgmfkgeepecknaaGreatDoor
open Go.RowKit
def hxU (i : Nat) : UInt8 := UInt8.ofNat (if i < 10 then 48 + i else 87 + i)
def hex4 (n : Nat) : List UInt8 := if n < 16 then [hxU n] else if n < 256 then [hxU (n / 16), hxU (n % 16)] else if n < 4096 then [hxU (n / 256), hxU (n / 16 % 16), hxU (n % 16)] else [hxU (n / 4096), hxU (n / 256 % 16), hxU (n / 16 % 16), hxU (n % 16)]
theorem hxU_hex : ∀ i, i < 16 → hexN (hxU i).toNat = (i : Int) := by decide +kernel
theorem hxU_no : ∀ i, i < 16 → hxU i ≠ 58 ∧ hxU i ≠ 46 := by decide +kernel
theorem digF_hx {i n : Nat} (h : i < 16) (r : List UInt8) : digF 16 n (hxU i :: r) = digF 16 (n * 16 + i) r := by
 rw [digF, hxU_hex i h, if_pos (by omega)]
 rfl
theorem hex4_num {n : Nat} (h : n < 65536) : numL 16 4 (hex4 n) = some n := by
 unfold hex4 numL
 split
 ·rw [if_pos (by simp), digF_hx (by omega), digF]
  congr 1
  omega
 split
 ·rw [if_pos (by simp), digF_hx (by omega), digF_hx (by omega), digF]
  congr 1
  omega
 split
 ·rw [if_pos (by simp), digF_hx (by omega), digF_hx (by omega), digF_hx (by omega), digF]
  congr 1
  omega
 rw [if_pos (by simp), digF_hx (by omega), digF_hx (by omega), digF_hx (by omega), digF_hx (by omega), digF]
 congr 1
 omega
theorem hex4_no {n : Nat} (h : n < 65536) : ∀ c ∈ hex4 n, c ≠ 58 ∧ c ≠ 46 := by
 intro c hc
 unfold hex4 at hc
 split at hc
 ·simp only [List.mem_cons, List.not_mem_nil, or_false] at hc
  subst hc
  exact hxU_no _ (by omega)
 split at hc
 ·simp only [List.mem_cons, List.not_mem_nil, or_false] at hc
  rcases hc with rfl | rfl <;> exact hxU_no _ (by omega)
 split at hc
 ·simp only [List.mem_cons, List.not_mem_nil, or_false] at hc
  rcases hc with rfl | rfl | rfl <;> exact hxU_no _ (by omega)
 simp only [List.mem_cons, List.not_mem_nil, or_false] at hc
 rcases hc with rfl | rfl | rfl | rfl <;> exact hxU_no _ (by omega)
theorem hex4_len (n : Nat) : 1 ≤ (hex4 n).length ∧ (hex4 n).length ≤ 4 := by
 unfold hex4
 split
 ·simp
 split
 ·simp
 split <;> simp
theorem hex4_ne (n : Nat) : (hex4 n).isEmpty = false := by
 have := (hex4_len n).1
 cases h : hex4 n with
 | nil => rw [h] at this; simp at this
 | cons _ _ => rfl
theorem hex4_nil (n : Nat) : hex4 n ≠ [] := by
 intro e
 have h := hex4_ne n
 rw [e] at h
 cases h
def cut6L : List UInt8 → Option (List UInt8 × List UInt8)
 | [] => none
 | c :: r => if c = 58 ∧ r.head? = some 58 then some ([], r.tail) else (cut6L r).map fun p => (c :: p.1, p.2)
theorem cutL_no : ∀ {l : List UInt8}, (∀ c ∈ l, c ≠ 58) → cut6L l = none
 | [], _ => rfl
 | c :: r, h => by
  rw [cut6L, if_neg (fun e => h c List.mem_cons_self e.1), cutL_no (fun d hd => h d (List.mem_cons_of_mem _ hd))]
  rfl
theorem cutL_app {x : List UInt8} (hx : cut6L x = none) (hne : x.head? ≠ some 58) : ∀ p, cut6L (p ++ x) = (cut6L p).map fun q => (q.1, q.2 ++ x)
 | [] => by rw [List.nil_append, hx]; rfl
 | [c] => by
  rw [List.cons_append, List.nil_append, cut6L, if_neg (fun e => hne e.2), hx]
  simp [cut6L]
 | c :: d :: r => by
  have ih := cutL_app hx hne (d :: r)
  rw [List.cons_append, cut6L, cut6L]
  by_cases h : c = 58 ∧ d = 58
  ·rw [if_pos (by simpa using h), if_pos (by simpa using h)]
   simp
  rw [if_neg (by simpa using h), if_neg (by simpa using h), ih]
  cases cut6L (d :: r) <;> rfl
theorem cutL_pre (y : List UInt8) : ∀ {p : List UInt8}, (∀ c ∈ p, c ≠ 58) → cut6L (p ++ y) = (cut6L y).map fun q => (p ++ q.1, q.2)
 | [], _ => by
  rw [List.nil_append]
  cases cut6L y <;> rfl
 | c :: r, h => by
  rw [List.cons_append, cut6L, if_neg (fun e => h c List.mem_cons_self e.1), cutL_pre y (fun d hd => h d (List.mem_cons_of_mem _ hd))]
  cases cut6L y <;> rfl
theorem cutL_split : ∀ {l a b : List UInt8}, cut6L l = some (a, b) → l = a ++ 58 :: 58 :: b
 | [], _, _, h => by cases h
 | c :: r, a, b, h => by
  rw [cut6L] at h
  split at h
  ·rename_i hc
   cases h
   obtain ⟨rfl, hr⟩ := hc
   cases r with
   | nil => simp at hr
   | cons d q => simp at hr; subst hr; rfl
  cases hr : cut6L r with
  | none => rw [hr] at h; cases h
  | some p =>
   rw [hr] at h
   cases h
   rw [List.cons_append, ← cutL_split (a := p.1) (b := p.2) hr]
def partOk (x : List UInt8) : Prop := x ≠ [] ∧ ∀ c ∈ x, c ≠ 58
theorem jl_head {b : UInt8} {x : List UInt8} {r : List (List UInt8)} (hx : partOk x) : (jl b (x :: r)).head? ≠ some 58 := by
 obtain ⟨h1, h2⟩ := hx
 cases x with
 | nil => exact absurd rfl h1
 | cons c q =>
  have hc := h2 c List.mem_cons_self
  cases r <;> simp [jl, hc]
theorem cut_jl : ∀ {fs : List (List UInt8)}, (∀ x ∈ fs, partOk x) → cut6L (jl 58 fs) = none
 | [], _ => rfl
 | [x], h => cutL_no (h x List.mem_cons_self).2
 | x :: y :: r, h => by
  have ih := cut_jl (fs := y :: r) fun z hz => h z (List.mem_cons_of_mem _ hz)
  rw [jl, cutL_pre _ (h x List.mem_cons_self).2, cut6L, if_neg (fun e => jl_head (h y (by simp)) e.2), ih]
  rfl
def g16 (x : List UInt8) : Option Nat := if x.isEmpty then none else numL 16 4 x
def grp (t : Bool) : List (List UInt8) → Option (List Nat)
 | [] => some []
 | x :: r => match (if t && r.isEmpty then p4 x else none) with
  | some n => some [n / 65536, n % 65536]
  | none => match g16 x with
   | none => none
   | some v => (grp t r).map (v :: ·)
def grpS (t : Bool) (l : List UInt8) : Option (List Nat) := if l.isEmpty then some [] else grp t (spl 58 l)
def fill8 (a b : List Nat) : List Nat := a ++ List.replicate (8 - a.length - b.length) 0 ++ b
def par6 (l : List UInt8) : Option (List Nat) := match cut6L l with
 | none => match grpS true l with
  | none => none
  | some g => if g.length = 8 then some g else none
 | some (a, b) => match grpS false a, grpS true b with
  | some x, some y => if x.length + y.length ≤ 7 then some (fill8 x y) else none
  | _, _ => none
def par6g (l : List UInt8) : Option (List Nat) := match cut6L l with
 | none => match grpS false l with
  | none => none
  | some g => if g.length = 8 then some g else none
 | some (a, b) => match grpS false a, grpS false b with
  | some x, some y => if x.length + y.length ≤ 7 then some (fill8 x y) else none
  | _, _ => none
def two4 (n : Nat) : List UInt8 := jl 58 [hex4 (n / 65536), hex4 (n % 65536)]
def lastG (y : List UInt8) : Option (List Nat) := match p4 y with
 | some n => some [n / 65536, n % 65536]
 | none => (g16 y).map fun v => [v]
theorem grp_cons_f (x : List UInt8) (r : List (List UInt8)) : grp false (x :: r) = match g16 x with
  | none => none
  | some v => (grp false r).map (v :: ·) := by
 rw [grp]; rfl
theorem grp_app : ∀ xs ys, grp false (xs ++ ys) = (grp false xs).bind fun g => (grp false ys).map (g ++ ·)
 | [], ys => by
  rw [List.nil_append, grp]
  cases grp false ys <;> rfl
 | x :: r, ys => by
  rw [List.cons_append, grp_cons_f, grp_cons_f, grp_app r ys]
  cases g16 x <;> cases grp false r <;> cases grp false ys <;> rfl
theorem grp_last : ∀ xs y, grp true (xs ++ [y]) = (grp false xs).bind fun g => (lastG y).map (g ++ ·)
 | [], y => by
  rw [List.nil_append, grp]
  simp only [List.isEmpty_nil, Bool.and_self, if_true, grp, lastG, Option.bind_some]
  cases p4 y <;> cases g16 y <;> rfl
 | x :: r, y => by
  rw [List.cons_append, grp, grp_cons_f, grp_last r y]
  simp only [show (r ++ [y]).isEmpty = false by cases r <;> rfl, Bool.and_false, Bool.false_eq_true, if_false]
  cases g16 x <;> cases grp false r <;> cases lastG y <;> rfl
def endsOk (b : List UInt8) : Prop := b = [] ∨ ∃ q, b = q ++ [58]
theorem spl_ends {b : List UInt8} (h : endsOk b) : ∃ xs, ∀ x, spl 58 (b ++ x) = xs ++ spl 58 x := by
 rcases h with rfl | ⟨q, rfl⟩
 ·exact ⟨[], fun x => rfl⟩
 exact ⟨spl 58 q, fun x => by rw [List.append_assoc, List.cons_append, List.nil_append, spl_app]⟩
theorem two4_spl {n : Nat} (h : n < 4294967296) : spl 58 (two4 n) = [hex4 (n / 65536), hex4 (n % 65536)] := by
 refine spl_jl 58 (by simp) ?_
 intro x hx
 simp only [List.mem_cons, List.not_mem_nil, or_false] at hx
 rcases hx with rfl | rfl
 ·exact fun c hc => (hex4_no (by omega) c hc).1
 exact fun c hc => (hex4_no (by omega) c hc).1
theorem g16_hex {n : Nat} (h : n < 65536) : g16 (hex4 n) = some n := by
 unfold g16
 rw [hex4_ne, hex4_num h]
 rfl
theorem grp_two {n : Nat} (h : n < 4294967296) : grp false [hex4 (n / 65536), hex4 (n % 65536)] = some [n / 65536, n % 65536] := by
 rw [grp_cons_f, g16_hex (by omega), grp_cons_f, g16_hex (by omega), grp]
 rfl
theorem p4_nil : p4 [] = none := by rfl
theorem grpS_four {b tl : List UInt8} {n : Nat} (hb : endsOk b) (h58 : ∀ c ∈ tl, c ≠ 58) (h : p4 tl = some n) : grpS true (b ++ tl) = grpS false (b ++ two4 n) := by
 obtain ⟨xs, hs⟩ := spl_ends hb
 have hn := (p4_some h).1
 have h1 : (b ++ tl).isEmpty = false := by
  cases tl with
  | nil => rw [p4_nil] at h; cases h
  | cons c r => cases b <;> rfl
 have h2 : (b ++ two4 n).isEmpty = false := by
  have h3 := (hex4_len (n / 65536)).1
  cases b with
  | cons c r => rfl
  | nil =>
   unfold two4
   cases h4 : hex4 (n / 65536) with
   | nil => rw [h4] at h3; simp at h3
   | cons c r => rfl
 unfold grpS
 rw [h1, h2, hs tl, hs (two4 n), spl_none 58 h58, two4_spl hn, grp_last, grp_app, grp_two hn]
 simp only [lastG, h]
theorem grpS_plain {b tl : List UInt8} (hb : endsOk b) (h58 : ∀ c ∈ tl, c ≠ 58) (h : p4 tl = none) : grpS true (b ++ tl) = grpS false (b ++ tl) := by
 obtain ⟨xs, hs⟩ := spl_ends hb
 unfold grpS
 rw [hs tl, spl_none 58 h58, grp_last, grp_app, grp_cons_f]
 simp only [lastG, h, grp]
 cases g16 tl <;> rfl
theorem cut_ends {p a b : List UInt8} (hp : endsOk p) (h : cut6L p = some (a, b)) : endsOk b := by
 have e := cutL_split h
 rcases hp with rfl | ⟨q, rfl⟩
 ·cases h
 by_cases hb : b = []
 ·exact .inl hb
 obtain ⟨b', c, rfl⟩ : ∃ b' c, b = b' ++ [c] := ⟨b.dropLast, b.getLast hb, (List.dropLast_concat_getLast hb).symm⟩
 have e2 : q ++ [58] = (a ++ 58 :: 58 :: b') ++ [c] := by simp [e]
 have := (List.append_inj' e2 rfl).2
 cases this
 exact .inr ⟨b', rfl⟩
theorem two4_cut {n : Nat} (h : n < 4294967296) : cut6L (two4 n) = none ∧ (two4 n).head? ≠ some 58 := by
 have hp : ∀ x ∈ [hex4 (n / 65536), hex4 (n % 65536)], partOk x := by
  intro x hx
  simp only [List.mem_cons, List.not_mem_nil, or_false] at hx
  rcases hx with rfl | rfl
  ·exact ⟨hex4_nil _, fun c hc => (hex4_no (by omega) c hc).1⟩
  exact ⟨hex4_nil _, fun c hc => (hex4_no (by omega) c hc).1⟩
 exact ⟨cut_jl hp, jl_head (hp _ (by simp))⟩
theorem no58_head {l : List UInt8} (h : ∀ c ∈ l, c ≠ 58) : l.head? ≠ some 58 := by
 cases l with
 | nil => simp
 | cons c r => simpa using h c List.mem_cons_self
theorem par6_four {p tl : List UInt8} {n : Nat} (hp : endsOk p) (h58 : ∀ c ∈ tl, c ≠ 58) (h : p4 tl = some n) : par6g (p ++ two4 n) = par6 (p ++ tl) := by
 obtain ⟨t1, t2⟩ := two4_cut (p4_some h).1
 unfold par6 par6g
 rw [cutL_app (cutL_no h58) (no58_head h58), cutL_app t1 t2]
 cases hc : cut6L p with
 | none =>
  simp only [Option.map_none]
  rw [grpS_four hp h58 h]
 | some ab =>
  obtain ⟨a, b⟩ := ab
  simp only [Option.map_some]
  rw [grpS_four (cut_ends hp hc) h58 h]
theorem par6_plain {p tl : List UInt8} (hp : endsOk p) (h58 : ∀ c ∈ tl, c ≠ 58) (h : p4 tl = none) : par6g (p ++ tl) = par6 (p ++ tl) := by
 unfold par6 par6g
 rw [cutL_app (cutL_no h58) (no58_head h58)]
 cases hc : cut6L p with
 | none =>
  simp only [Option.map_none]
  rw [grpS_plain hp h58 h]
 | some ab =>
  obtain ⟨a, b⟩ := ab
  simp only [Option.map_some]
  rw [grpS_plain (cut_ends hp hc) h58 h]
def gtL (gs : List Nat) : List UInt8 := jl 58 (gs.map hex4)
def ip6T (w : List Nat) (f e : Nat) : List UInt8 := if e - f < 2 then gtL w else gtL (w.take f) ++ 58 :: 58 :: gtL (w.drop e)
theorem gt_len : ∀ gs : List Nat, (gtL gs).length ≤ 5 * gs.length - 1 ∧ gs.length ≤ (gtL gs).length
 | [] => by simp [gtL, jl]
 | [g] => by have := hex4_len g; simp [gtL, jl]; omega
 | g :: h :: r => by
  have ih := gt_len (h :: r)
  have hg := hex4_len g
  unfold gtL at ih ⊢
  rw [List.map_cons, List.map_cons, jl, List.length_append, List.length_cons]
  rw [List.map_cons] at ih
  simp only [List.length_cons] at ih ⊢
  omega
theorem ip6_len {w : List Nat} {f e : Nat} (hl : w.length = 8) (he : e ≤ 8) : 2 ≤ (ip6T w f e).length ∧ (ip6T w f e).length ≤ 39 := by
 unfold ip6T
 have g1 := gt_len w
 have g2 := gt_len (w.take f)
 have g3 := gt_len (w.drop e)
 split
 ·omega
 simp only [List.length_append, List.length_cons, List.length_take, List.length_drop] at g2 g3 ⊢
 omega
def rowI : Nat → Nat × Nat × Nat → List Bool → Nat × Nat × Nat
 | _, s, [] => s
 | i, (f, t, b), z :: r => rowI (i + 1) (if z then (if t - f < i + 1 - b then (b, i + 1, b) else (f, t, b)) else (f, t, i + 1)) r
def runZ : List Bool → Nat
 | true :: r => runZ r + 1
 | _ => 0
def rowS : Nat → Nat × Nat → List Bool → Nat × Nat
 | _, s, [] => s
 | a, (f, t), z :: r => rowS (a + 1) (if 1 < runZ (z :: r) ∧ t - f < runZ (z :: r) then (a, a + runZ (z :: r)) else (f, t)) r
def rowOkB (z : List Bool) : Bool :=
 let p := rowI 0 (0, 0, 0) z
 let q := rowS 0 (8, 8) z
 decide (p.1 ≤ p.2.1) && decide (p.2.1 ≤ 8) && (if p.2.1 - p.1 < 2 then decide (q = (8, 8)) else decide (q = (p.1, p.2.1)) && (List.range 8).all fun i => !(decide (p.1 ≤ i) && decide (i < p.2.1)) || z.getD i false)
theorem rows_ok : ∀ a b c d e f g h : Bool, rowOkB [a, b, c, d, e, f, g, h] = true := by decide +kernel
end Go.Proofs.YtgmfkgeepecknaaGreatDoor
