/- Contracts and plain laws: Loose4Impl, Ip4Spec, Ip4Impl, Parse4Walk, Ip6Plain, Par6Spec, Grp6Spec, RowWalk, ArrMarks, HexImpl, GroupsText, Ip6Impl. -/
import Derived.Test.YtamnhegianpedaaGreatDoorRows
import Derived.Test.YtamnhegianpedaaGreatDoorLoose4Walk
import Derived.Test.YtamnhegianpedaaGreatDoorNumWalk
import Derived.Test.YtamnhegianpedaaGreatDoorFieldSpl
import Derived.Test.YtamnhegianpedaaGreatDoorBits
import Derived.Test.YtamnhegianpedaaGreatDoorShelf
import Derived.Lib.AppendIntMem
import Derived.Test.YtamnhegianpedaaGreatDoorSplPlain
import Derived.Test.YtamnhegianpedaaGreatDoorAppAt
import Derived.Test.YtamnhegianpedaaGreatDoorBase
import Derived.BigQuiet
import Derived.Test.YtamnhegianpedaaGreatDoorPctPlain
namespace Go.Proofs.YtamnhegianpedaaGreatDoor
open Go.RowKit

set_option maxRecDepth 20000 in
set_option maxHeartbeats 8000000 in
theorem implLooseIp4 (s : ByteArray) (w : World) (hs : s.size ≤ 1048576) :
    Calls Tryz.prog 80 #[.string s] w fun e w' => e = .returned (numA (loA s)) ∧ Below w.heap.size w w' := by
  have CF : Hid (Calls Tryz.prog 95 #[.string s, .int .u8 46] w fun e w' => ∃ v, e = .returned v ∧ w'.ownsRow w.heap.size 9 1 v (fieldsL s 46).length (scells (fieldsL s 46)) ∧ Below w.heap.size w w') := implFields s 46 w hs
  have hpos : 0 < (fieldsL s 46).length := by simp [fieldsL]
  have hlen : (fieldsL s 46).length ≤ 1048577 := by
    have := (fieldsTo_le s 46 s.size).2
    simp [fieldsL]; omega
  have HSZ : Hid (∀ x ∈ dropE (fieldsL s 46), x.size ≤ 1048576) := dropE_sizes (fields_sizes46 s hs)
  have HNM : Hid (loA s = lo4 ((dropE (fieldsL s 46)).map toL)) := rfl
  have hp2 := dropE_pos hpos
  have hl2 : (dropE (fieldsL s 46)).length ≤ 1048577 := Nat.le_trans (dropE_le _) hlen
  have CW : Hid (∀ (W : World) (v : Value) (B : Nat), W.ownsRow B 9 1 v (fieldsL s 46).length (scells (fieldsL s 46)) → Calls Tryz.prog 96 #[v] W fun e w' => ∃ v', e = .returned v' ∧ W.ownsRow B 9 1 v' (dropE (fieldsL s 46)).length (scells (dropE (fieldsL s 46))) ∧ W = w') :=
    fun W v B h => implWithout _ B v W hpos hlen h
  generalize dropE (fieldsL s 46) = fs at CW HSZ HNM hp2 hl2
  by_cases h5 : 4 < fs.length
  · have HZ : Hid (loA s = none) := by
      show _ = _
      rw [HNM.out, lo_over h5]
    have h5' : 4 < (fs.length : Int) := by omega
    clear h5
    go_enter Tryz.func80, Tryz.ntmps80
    go_wp2_with fail
    refine CF.out.mono ?_
    rintro e wa ⟨va, rfl, oa, ba⟩
    go_wp2_with fail
    refine (CW.out _ _ _ oa).mono ?_
    rintro e wb ⟨vb, rfl, ob, rfl⟩
    clear oa CW CF hpos hlen
    rcases own_shape ob with ⟨h, _⟩ | ⟨_, g, cap, rfl⟩
    · omega
    · go_wp2_with fail
      go_ret2
      exact ⟨by rw [HZ.out]; rfl, ba⟩
  · have HF : Hid (loA s = loF 0 4294967296 (fs.map toL)) := by
      show _ = _
      rw [HNM.out, lo_in (by omega)]
    have h5' : ¬ 4 < (fs.length : Int) := by omega
    go_enter Tryz.func80, Tryz.ntmps80
    go_wp2_with fail
    refine CF.out.mono ?_
    rintro e wa ⟨va, rfl, oa, ba⟩
    go_wp2_with fail
    refine (CW.out _ _ _ oa).mono ?_
    rintro e wb ⟨vb, rfl, ob, rfl⟩
    clear oa CW CF hpos hlen
    rcases own_shape ob with ⟨h, _⟩ | ⟨_, g, cap, rfl⟩
    · omega
    · have hcap := own_cap ob
      have hi : ((fs.length : Int) - 1) = ((fs.length - 1 : Nat) : Int) := by omega
      obtain ⟨m, hm⟩ : ∃ m, fs.length - 1 = m := ⟨_, rfl⟩
      rw [hm] at hi
      have HM : Hid (fs.length = m + 1) := by show _ = _; omega
      clear hm
      go_wp2_with fail
      go_loop [5, 6, 27] (fun x r i => ∃ (k n ρ : Nat) (a b : Int), k ≤ m ∧ i = .int .i64 k ∧ x = .int .i64 a ∧ r = .int .i64 b ∧ ρ = 4294967296 / 256 ^ k ∧ b = (ρ : Int) ∧ a = ((n * ρ : Nat) : Int) ∧ n < 256 ^ k ∧ loF n ρ ((fs.drop k).map toL) = loF 0 4294967296 (fs.map toL)) (fun _ _ i => m - (intOf i).toNat)
      case atStart => exact ⟨0, 0, 4294967296, 0, 4294967296, Nat.zero_le _, rfl, rfl, rfl, by decide, rfl, rfl, by decide, rfl⟩
      case round =>
        obtain ⟨k, n, ρ, a, b, hk, rfl, rfl, rfl, hρ, hb, ha, hn, hf⟩ := hrel
        have HR : Hid (loF n ρ ((fs.drop k).map toL) = loF 0 4294967296 (fs.map toL)) := hf
        have HA : Hid (a = ((n * ρ : Nat) : Int)) := ha
        have HP : Hid (ρ = 4294967296 / 256 ^ k) := hρ
        have HB : Hid (b = (ρ : Int)) := hb
        have HN : Hid (n < 256 ^ k) := hn
        have hρ1 : ρ ≤ 4294967296 := by rw [hρ]; exact Nat.div_le_self _ _
        have hab : n * ρ ≤ 4294967296 := by
          rw [hρ]
          exact Nat.le_trans (Nat.mul_le_mul_right _ (Nat.le_of_lt hn)) (Nat.mul_div_le _ _)
        have hb0 : 0 ≤ b := by omega
        have hb1 : b ≤ 4294967296 := by omega
        have ha0 : 0 ≤ a := by omega
        have ha1 : a ≤ 4294967296 := by omega
        have HKM : Hid (k ≤ m) := hk
        clear hf ha hρ hb hn hρ1 hab
        have hc := scell_at ob k (by have := HM.out; omega)
        have hsy := HSZ.out _ (mem_getD (k := k) (by have := HM.out; omega))
        have CT : Hid (∀ W, Calls Tryz.prog 104 #[.string (fs.getD k ByteArray.empty)] W fun e w' => e = .returned (numA (looseP (toL (fs.getD k ByteArray.empty)))) ∧ W = w') := fun W => implLoose _ W hsy
        clear hsy
        by_cases hlt : k < m
        · have HS : Hid (_ = _) := lo_step fs k n ρ (by have := HM.out; omega)
          generalize fs.getD k ByteArray.empty = y at hc CT HS
          have hki : (k : Int) < (m : Int) := by omega
          cases hv : looseP (toL y) with
          | none =>
            rw [hv] at CT HS
            have HZ : Hid (loA s = none) := by
              show _ = _
              rw [HF.out, ← HR.out, HS.out]
            clear hv
            go_wp2_with fail
            refine (CT.out _).mono ?_
            rintro e w' ⟨rfl, rfl⟩
            simp only [numA]
            go_wp2_with fail
            go_ret2
            exact ⟨by rw [HZ.out]; rfl, ba⟩
          | some v =>
            rw [hv] at CT HS
            clear hv
            obtain ⟨x, hx⟩ : ∃ x : Int, (v : Int) = x := ⟨_, rfl⟩
            have HX : Hid ((v : Int) = x) := hx
            by_cases hvr : v < 256
            · have HG : Hid (loF (n * 256 + v) (ρ / 256) ((fs.drop (k + 1)).map toL) = loF 0 4294967296 (fs.map toL)) := by
                show _ = _
                rw [← HR.out, HS.out]
                exact (if_pos hvr).symm
              have hx1 : ¬ 256 ≤ x := by omega
              have hx0 : 0 ≤ x := by omega
              obtain ⟨b', hb'⟩ : ∃ b' : Int, b / 256 = b' := ⟨_, rfl⟩
              have HB' : Hid (b / 256 = b') := hb'
              have hb'0 : 0 ≤ b' := by omega
              have hb'1 : b' ≤ 16777216 := by omega
              obtain ⟨p, hp⟩ : ∃ p : Int, x * b' = p := ⟨_, rfl⟩
              have HPP : Hid (x * b' = p) := hp
              have hp0 : 0 ≤ p := by rw [← hp]; exact Int.mul_nonneg hx0 hb'0
              have hp1 : p ≤ 4294967296 := by
                rw [← hp]
                have h1 : x * b' ≤ 256 * b' := Int.mul_le_mul_of_nonneg_right (by omega) hb'0
                omega
              have HV : Hid (v < 256) := hvr
              clear hvr hx
              go_wp2_with fail
              refine (CT.out _).mono ?_
              rintro e w' ⟨rfl, rfl⟩
              simp only [numA]
              rw [HX.out]
              go_wp2_with fail
              go_round
              case rel =>
                have h1 := HN.out
                have h2 := HV.out
                have h3 := HB.out
                have h4 := HB'.out
                have h5 : b' = ((ρ / 256 : Nat) : Int) := by rw [← h4, h3]; omega
                have h6 : 256 * (ρ / 256) = ρ := by
                  rw [HP.out]
                  obtain ⟨j, hj⟩ : ∃ j, k + 1 + j = 4 := ⟨4 - (k + 1), by have := HM.out; omega⟩
                  have h7 : 4294967296 = 256 ^ k * (256 ^ j * 256) := by
                    rw [← Nat.pow_succ, ← Nat.pow_add, show k + (j + 1) = 4 by omega]
                  rw [h7, Nat.mul_div_cancel_left _ (Nat.pow_pos (by decide)), Nat.mul_div_cancel _ (by decide), Nat.mul_comm]
                refine ⟨k + 1, n * 256 + v, ρ / 256, a + p, b', by omega, by go_num, by go_num, by go_num, ?_, h5, ?_, ?_, HG.out⟩
                · rw [HP.out, Nat.pow_succ, ← Nat.div_div_eq_div_mul]
                · rw [HA.out, ← HPP.out, ← HX.out, h5, Nat.add_mul, Nat.mul_assoc, h6, ← Int.natCast_mul, ← Int.natCast_add]
                · rw [Nat.pow_succ]; omega
              case measure => simp [intOf]; omega
            · have HZ : Hid (loA s = none) := by
                show _ = _
                rw [HF.out, ← HR.out, HS.out]
                exact if_neg hvr
              have hx1 : 256 ≤ x := by omega
              clear hvr hx
              go_wp2_with fail
              refine (CT.out _).mono ?_
              rintro e w' ⟨rfl, rfl⟩
              simp only [numA]
              rw [HX.out]
              go_wp2_with fail
              go_ret2
              exact ⟨by rw [HZ.out]; rfl, ba⟩
        · have HS : Hid (_ = _) := lo_last fs k n ρ (by have := HM.out; omega)
          generalize fs.getD k ByteArray.empty = y at hc CT HS
          obtain rfl : k = m := by omega
          have hki : ¬ (k : Int) < (k : Int) := by omega
          cases hv : looseP (toL y) with
          | none =>
            rw [hv] at CT HS
            have HZ : Hid (loA s = none) := by
              show _ = _
              rw [HF.out, ← HR.out, HS.out]
            clear hv hlt hki
            go_wp2_with fail
            refine (CT.out _).mono ?_
            rintro e w' ⟨rfl, rfl⟩
            simp only [numA]
            go_wp2_with fail
            go_ret2
            exact ⟨by rw [HZ.out]; rfl, ba⟩
          | some v =>
            rw [hv] at CT HS
            clear hv hlt hki
            obtain ⟨x, hx⟩ : ∃ x : Int, (v : Int) = x := ⟨_, rfl⟩
            have HX : Hid ((v : Int) = x) := hx
            by_cases hvr : v < ρ
            · have HZ : Hid (loA s = some (n * ρ + v)) := by
                show _ = _
                rw [HF.out, ← HR.out, HS.out]
                exact if_pos hvr
              have hx1 : ¬ b ≤ x := by have := HB.out; omega
              have hx0 : 0 ≤ x := by omega
              clear hvr hx
              go_wp2_with fail
              refine (CT.out _).mono ?_
              rintro e w' ⟨rfl, rfl⟩
              simp only [numA]
              rw [HX.out]
              go_wp2_with fail
              go_ret2
              exact ⟨by rw [HZ.out]; have h1 := HA.out; have h2 := HX.out; simp [numA]; rw [h1, ← h2]; simp, ba⟩
            · have HZ : Hid (loA s = none) := by
                show _ = _
                rw [HF.out, ← HR.out, HS.out]
                exact if_neg hvr
              have hx1 : b ≤ x := by have := HB.out; omega
              clear hvr hx
              go_wp2_with fail
              refine (CT.out _).mono ?_
              rintro e w' ⟨rfl, rfl⟩
              simp only [numA]
              rw [HX.out]
              go_wp2_with fail
              go_ret2
              exact ⟨by rw [HZ.out]; rfl, ba⟩
end Go.Proofs.YtamnhegianpedaaGreatDoor

namespace Go.Proofs.YtamnhegianpedaaGreatDoor
open Go.RowKit

theorem cat_bytes (a b : List UInt8) : ((⟨a.toArray⟩ : ByteArray) ++ (⟨b.toArray⟩ : ByteArray)) = ⟨(a ++ b).toArray⟩ := by
  apply ByteArray.ext
  rw [ByteArray.data_append]
  simp

/-- A digit to ten as a text. -/
def digT (v : Nat) : ByteArray := ⟨#[UInt8.ofNat (48 + v)]⟩
def decT (x : Int) : ByteArray := ⟨(dec3 x.toNat).toArray⟩
theorem decT_1 {x : Int} (h0 : 0 ≤ x) (h : x < 10) : decT x = digT x.toNat := by
  unfold decT digT dec3
  rw [if_pos (by omega)]
theorem decT_2 {x : Int} (h0 : 10 ≤ x) (h : x < 100) : decT x = decT (x / 10) ++ digT (x % 10).toNat := by
  rw [decT_1 (x := x / 10) (by omega) (by omega)]
  unfold decT digT dec3
  rw [if_neg (by omega), if_pos (by omega), show (⟨#[UInt8.ofNat (48 + (x / 10).toNat)]⟩ : ByteArray) = ⟨[UInt8.ofNat (48 + (x / 10).toNat)].toArray⟩ from rfl, show (⟨#[UInt8.ofNat (48 + (x % 10).toNat)]⟩ : ByteArray) = ⟨[UInt8.ofNat (48 + (x % 10).toNat)].toArray⟩ from rfl, cat_bytes]
  have e1 : (x / 10).toNat = x.toNat / 10 := by omega
  have e2 : (x % 10).toNat = x.toNat % 10 := by omega
  rw [e1, e2]
  rfl
theorem decT_3 {x : Int} (h0 : 100 ≤ x) (h : x < 1000) : decT x = decT (x / 10) ++ digT (x % 10).toNat := by
  unfold decT digT dec3
  rw [if_neg (by omega), if_neg (by omega), if_neg (by omega), if_pos (by omega), show (⟨#[UInt8.ofNat (48 + (x % 10).toNat)]⟩ : ByteArray) = ⟨[UInt8.ofNat (48 + (x % 10).toNat)].toArray⟩ from rfl, cat_bytes]
  have e1 : (x / 10).toNat / 10 = x.toNat / 100 := by omega
  have e3 : (x / 10).toNat % 10 = x.toNat / 10 % 10 := by omega
  have e2 : (x % 10).toNat = x.toNat % 10 := by omega
  rw [e1, e2, e3]
  rfl
theorem decT_size (x : Int) : (decT x).size ≤ 3 := by
  unfold decT
  show (dec3 x.toNat).toArray.size ≤ 3
  rw [List.size_toArray]
  exact dec3_len _

theorem conv_at (W : World) (B : Nat) (c : Nat) (hc : c < 256) (x : Int) (hx : x = (c : Int)) (h : W.cell? ⟨B, 0, none⟩ = some (.int .u8 x)) :
    (convert 22 9 (.slice (some ⟨B, 0, none⟩) 1 1)).run Tryz.prog W = .ok (.string ⟨#[UInt8.ofNat c]⟩) W := by
  subst hx
  have h := run_convert_bytes_back (P := Tryz.prog) W 22 9 5 ⟨B, 0, none⟩ 1 [UInt8.ofNat c] Tryz.underlying22 Tryz.underlying5 Tryz.underlying9 (fun j hj => by
    have : j = 0 := by simpa using hj
    subst this
    rw [Addr.add_lit, h]
    simp
    omega)
  simpa using h

theorem conv_new (W : World) (c : Nat) (hc : c < 256) (x : Int) (hx : x = (c : Int)) :
    (convert 22 9 (.slice (some ⟨W.heap.size, 0, none⟩) 1 1)).run Tryz.prog (W.alloc (.cells #[.int .u8 x] 5)) = .ok (.string ⟨#[UInt8.ofNat c]⟩) (W.alloc (.cells #[.int .u8 x] 5)) :=
  conv_at _ _ c hc x hx (by rw [World.cell?_alloc_at _ _ _ _ rfl]; rfl)

theorem conv_old {W W' : World} (c : Nat) (hc : c < 256) (x : Int) (hx : x = (c : Int)) (h : Below (W.alloc (.cells #[.int .u8 x] 5)).heap.size (W.alloc (.cells #[.int .u8 x] 5)) W') :
    (convert 22 9 (.slice (some ⟨W.heap.size, 0, none⟩) 1 1)).run Tryz.prog W' = .ok (.string ⟨#[UInt8.ofNat c]⟩) W' :=
  conv_at _ _ c hc x hx (by
    have e : (W.alloc (.cells #[.int .u8 x] 5)).cell? ⟨W.heap.size, 0, none⟩ = some (.int .u8 x) := by rw [World.cell?_alloc_at _ _ _ _ rfl]; rfl
    exact cell_later h e)

set_option maxHeartbeats 1000000 in
theorem specText1 (x : Int) (w : World) (h0 : 0 ≤ x) (h1 : x < 10) :
    Calls Tryz.prog 56 #[.int .i64 x] w fun e w' => e = .returned (.string (decT x)) ∧ Below w.heap.size w w' := by
  have HD := decT_1 h0 h1
  have hcv := conv_new w (48 + x.toNat) (by omega) (48 + x) (by omega)
  rw [show (⟨#[UInt8.ofNat (48 + x.toNat)]⟩ : ByteArray) = digT x.toNat from rfl, ← HD] at hcv
  generalize decT x = T at hcv ⊢
  clear HD
  go_enter Tryz.func56, Tryz.ntmps56
  go_wp2
  go_ret
  exact ⟨rfl, (Below.refl _ _).alloc (Nat.le_refl _) _⟩

set_option maxRecDepth 20000 in
set_option maxHeartbeats 2000000 in
theorem specText2 (x : Int) (w : World) (h0 : 10 ≤ x) (h1 : x < 1000) (CT : Hid (∀ W, Calls Tryz.prog 56 #[.int .i64 (x / 10)] W fun e w' => e = .returned (.string (decT (x / 10))) ∧ Below W.heap.size W w')) (HD : Hid (decT x = decT (x / 10) ++ digT (x % 10).toNat)) :
    Calls Tryz.prog 56 #[.int .i64 x] w fun e w' => e = .returned (.string (decT x)) ∧ Below w.heap.size w w' := by
  have hn : Hid (∀ W : World, (convert 22 9 (.slice (some ⟨W.heap.size, 0, none⟩) 1 1)).run Tryz.prog (W.alloc (.cells #[.int .u8 (48 + x % 10)] 5)) = .ok (.string (digT (x % 10).toNat)) (W.alloc (.cells #[.int .u8 (48 + x % 10)] 5))) := fun W => conv_new W (48 + (x % 10).toNat) (by omega) (48 + x % 10) (by omega)
  have ho : Hid (∀ (W' : World) (B : Nat), W'.cell? ⟨B, 0, none⟩ = some (.int .u8 (48 + x % 10)) → (convert 22 9 (.slice (some ⟨B, 0, none⟩) 1 1)).run Tryz.prog W' = .ok (.string (digT (x % 10).toNat)) W') := fun W' B h => conv_at W' B (48 + (x % 10).toNat) (by omega) (48 + x % 10) (by omega) h
  have hs1 := decT_size (x / 10)
  have hs2 : (digT (x % 10).toNat).size = 1 := rfl
  have hz0 : 0 ≤ x % 10 := by omega
  have hz1 : x % 10 < 10 := by omega
  have hy0 : 0 ≤ x / 10 := by omega
  have hy1 : x / 10 < 100 := by omega
  obtain ⟨z, hz⟩ : ∃ z : Int, x % 10 = z := ⟨_, rfl⟩
  obtain ⟨y, hy⟩ : ∃ y : Int, x / 10 = y := ⟨_, rfl⟩
  rw [hz] at hn ho hs2 hz0 hz1 HD
  rw [hy] at CT hs1 hy0 hy1 HD
  generalize digT z.toNat = T2 at hn ho hs2 HD
  generalize decT y = T1 at CT hs1 HD
  rw [HD.out]
  clear HD
  have hn2 := hn.out
  have hce : (w.alloc (.cells #[.int .u8 (48 + z)] 5)).drew.cell? ⟨w.heap.size, 0, none⟩ = some (.int .u8 (48 + z)) := by
    show (w.alloc (.cells #[.int .u8 (48 + z)] 5)).cell? ⟨w.heap.size, 0, none⟩ = _
    rw [World.cell?_alloc_at _ _ _ _ rfl]; rfl
  have hn3 := ho.out _ _ hce
  have HCE : Hid ((w.alloc (.cells #[.int .u8 (48 + z)] 5)).drew.cell? ⟨w.heap.size, 0, none⟩ = some (.int .u8 (48 + z))) := hce
  clear hce
  have t1 : IntKind.i64.wrap (x.tdiv 10) = y := by rw [Int.tdiv_eq_ediv_of_nonneg (by omega), hy]; exact i64_wrap_small _ (by omega) (by omega)
  have t2 : x.tmod 10 = z := by rw [Int.tmod_eq_emod_of_nonneg (by omega), hz]
  have t3 : IntKind.i64.wrap (48 + z) = 48 + z := i64_wrap_small _ (by omega) (by omega)
  have t4 : IntKind.u8.wrap (48 + z) = 48 + z := by simp [IntKind.wrap, IntKind.bits, IntKind.signed]; omega
  have t5 : IntKind.u8.wrap (IntKind.i64.wrap (48 + z)) = 48 + z := by rw [t3, t4]
  clear hy hz
  go_enter Tryz.func56, Tryz.ntmps56
  go_wp2_with fail
  go_region_with (go_at_call 56; refine (CT.out _).mono ?_; rintro e wc ⟨rfl, hbc⟩; first | have hcc := ho.out _ _ (cell_later hbc HCE.out) | skip)
  · go_wp2
    go_ret
    exact ⟨rfl, ((Below.drew (Below.refl _ w)).trans hbc).alloc (Nat.le_trans (Nat.le_refl _) hbc.size) _⟩
  · go_wp2
    go_ret
    exact ⟨rfl, (((Below.refl w.heap.size w).alloc (Nat.le_refl _) _).drew).trans (hbc.mono (by simp))⟩
  · go_wp2
    go_ret
    exact ⟨rfl, (((Below.refl w.heap.size w).alloc (Nat.le_refl _) _).drew).trans (hbc.mono (by simp))⟩

theorem specText (x : Int) (w : World) (h0 : 0 ≤ x) (h1 : x < 1000) :
    Calls Tryz.prog 56 #[.int .i64 x] w fun e w' => e = .returned (.string (decT x)) ∧ Below w.heap.size w w' := by
  by_cases h10 : x < 10
  · exact specText1 x w h0 h10
  · by_cases h100 : x < 100
    · exact specText2 x w (by omega) h1 (fun W => specText1 _ W (by omega) (by omega)) (decT_2 (by omega) h100)
    · exact specText2 x w (by omega) h1 (fun W => specText2 _ W (by omega) (by omega) (fun W => specText1 _ W (by omega) (by omega)) (decT_2 (by omega) (by omega))) (decT_3 (by omega) h1)

def ip4T (n : Int) : ByteArray := ⟨(ip4L n.toNat).toArray⟩
theorem ip4T_cat {n : Int} (h0 : 0 ≤ n) : ip4T n = decT (n / 16777216) ++ ⟨#[46]⟩ ++ decT (n / 65536 % 256) ++ ⟨#[46]⟩ ++ decT (n / 256 % 256) ++ ⟨#[46]⟩ ++ decT (n % 256) := by
  unfold ip4T decT ip4L
  rw [show (⟨#[46]⟩ : ByteArray) = ⟨[46].toArray⟩ from rfl, cat_bytes, cat_bytes, cat_bytes, cat_bytes, cat_bytes, cat_bytes]
  have e1 : (n / 16777216).toNat = n.toNat / 16777216 := by omega
  have e2 : (n / 65536 % 256).toNat = n.toNat / 65536 % 256 := by omega
  have e3 : (n / 256 % 256).toNat = n.toNat / 256 % 256 := by omega
  have e4 : (n % 256).toNat = n.toNat % 256 := by omega
  rw [e1, e2, e3, e4]
  simp

set_option maxRecDepth 20000 in
set_option maxHeartbeats 8000000 in
theorem specIp4Text (n : Int) (w : World) (h0 : 0 ≤ n) (h1 : n < 4294967296) :
    Calls Tryz.prog 32 #[.int .i64 n] w fun e w' => e = .returned (.string (ip4T n)) ∧ Below w.heap.size w w' := by
  have HT : Hid (ip4T n = decT (n / 16777216) ++ ⟨#[46]⟩ ++ decT (n / 65536 % 256) ++ ⟨#[46]⟩ ++ decT (n / 256 % 256) ++ ⟨#[46]⟩ ++ decT (n % 256)) := ip4T_cat h0
  have c1 : Hid (∀ W, Calls Tryz.prog 56 #[.int .i64 (n / 16777216)] W fun e w' => e = .returned (.string (decT (n / 16777216))) ∧ Below W.heap.size W w') := fun W => specText _ W (by omega) (by omega)
  have c2 : Hid (∀ W, Calls Tryz.prog 56 #[.int .i64 (n / 65536 % 256)] W fun e w' => e = .returned (.string (decT (n / 65536 % 256))) ∧ Below W.heap.size W w') := fun W => specText _ W (by omega) (by omega)
  have c3 : Hid (∀ W, Calls Tryz.prog 56 #[.int .i64 (n / 256 % 256)] W fun e w' => e = .returned (.string (decT (n / 256 % 256))) ∧ Below W.heap.size W w') := fun W => specText _ W (by omega) (by omega)
  have c4 : Hid (∀ W, Calls Tryz.prog 56 #[.int .i64 (n % 256)] W fun e w' => e = .returned (.string (decT (n % 256))) ∧ Below W.heap.size W w') := fun W => specText _ W (by omega) (by omega)
  have b2 : bits .and .i64 (n / 65536) 255 = n / 65536 % 256 := i64_low 8 255 rfl _ (by omega) (by omega) (by decide)
  have b3 : bits .and .i64 (n / 256) 255 = n / 256 % 256 := i64_low 8 255 rfl _ (by omega) (by omega) (by decide)
  have b4 : bits .and .i64 n 255 = n % 256 := i64_low 8 255 rfl _ (by omega) (by omega) (by decide)
  have s1 := decT_size (n / 16777216)
  have s2 := decT_size (n / 65536 % 256)
  have s3 := decT_size (n / 256 % 256)
  have s4 := decT_size (n % 256)
  generalize decT (n / 16777216) = T1 at HT c1 s1
  generalize decT (n / 65536 % 256) = T2 at HT c2 s2
  generalize decT (n / 256 % 256) = T3 at HT c3 s3
  generalize decT (n % 256) = T4 at HT c4 s4
  have sz : (⟨#[46]⟩ : ByteArray).size = 1 := rfl
  rw [HT.out]
  clear HT
  go_enter Tryz.func32, Tryz.ntmps32
  go_wp2_with fail
  refine (specL1In_yes _ _ _ _ (by omega) (by omega)).mono ?_
  rintro e w' ⟨rfl, rfl⟩
  go_wp2_with fail
  refine (c1.out _).mono ?_
  rintro e w1 ⟨rfl, k1⟩
  go_wp2_with fail
  refine (c2.out _).mono ?_
  rintro e w2 ⟨rfl, k2⟩
  go_wp2_with fail
  refine (c3.out _).mono ?_
  rintro e w3 ⟨rfl, k3⟩
  go_wp2_with fail
  refine (c4.out _).mono ?_
  rintro e w4 ⟨rfl, k4⟩
  have B1 : Below w.heap.size w w4 := ((k1.trans (k2.mono k1.size)).trans (k3.mono (Nat.le_trans k1.size k2.size))).trans (k4.mono (Nat.le_trans (Nat.le_trans k1.size k2.size) k3.size))
  clear k1 k2 k3 k4
  go_wp2_with fail
  go_ret
  exact ⟨rfl, B1⟩

set_option maxHeartbeats 1000000 in
theorem specIp4Text_no (n : Int) (w : World) (h : n < 0 ∨ 4294967295 < n) :
    Calls Tryz.prog 32 #[.int .i64 n] w fun e w' => e = .returned (.string ⟨#[]⟩) ∧ Below w.heap.size w w' := by
  have HN : Hid (n < 0 ∨ 4294967295 < n) := h
  clear h
  go_enter Tryz.func32, Tryz.ntmps32
  go_wp2_with fail
  refine (specL1In_no _ _ _ _ HN.out).mono ?_
  rintro e w' ⟨rfl, rfl⟩
  go_wp2_with fail
  go_ret
  exact ⟨rfl, Below.refl _ _⟩
end Go.Proofs.YtamnhegianpedaaGreatDoor

namespace Go.Proofs.YtamnhegianpedaaGreatDoor
open Go.RowKit

/-- The library's table of powers of ten is as it was laid. -/
def Pow (w : World) : Prop := Lib.TabIs Tryz.prog w "internal/strconv.uint64pow10" .u64 Lib.pow10Tab
theorem pow_below {w w' : World} (h : Pow w) (hb : Below w.heap.size w w') : Pow w' := Lib.tabBelow_of_tabIs h w' hb

theorem itoa_dec3 {i : Int} (h0 : 0 ≤ i) (h1 : i < 1000) : Lib.itoa i = dec3 i.toNat := by
  obtain ⟨u, rfl⟩ := Int.eq_ofNat_of_zero_le h0
  rw [Lib.itoa_nonneg, Int.toNat_natCast]
  have hu : u < 1000 := by omega
  unfold dec3
  by_cases c1 : u < 10
  · rw [if_pos c1, Lib.decDigits_one c1]
  · by_cases c2 : u < 100
    · rw [if_neg c1, if_pos c2, Lib.decDigits_two c1 c2]
    · rw [if_neg c1, if_neg c2, Lib.decDigits, dif_neg c1, Lib.decDigits_two (by omega) (by omega)]
      rw [show u / 10 / 10 = u / 100 by omega]
      rfl

theorem implAppDec (B : Nat) (i : Int) (v : Value) (l : List UInt8) (w : World) (h0 : 0 ≤ i) (h1 : i < 1000) (hown : w.ownsRow B 5 1 v l.length (bcells l)) (hB : B ≤ w.heap.size) (hl : l.length ≤ 1000)
    (hT : Lib.TabBelow Tryz.prog B w "internal/strconv.uint64pow10" .u64 Lib.pow10Tab) :
    Calls Tryz.prog 64 #[v, .int .i64 i, .int .i64 10] w fun e w' => ∃ v', e = .returned v' ∧ w'.ownsRow B 5 1 v' (l ++ dec3 i.toNat).length (bcells (l ++ dec3 i.toNat)) ∧ Below B w w' := by
  refine (Tryz.strconv_AppendInt_10 B l.length i (by omega) (by omega) v (bcells l) w hown hB (by omega) hT).mono ?_
  rintro e w' ⟨v', rfl, h2, h3, _⟩
  refine ⟨v', rfl, ?_, h3⟩
  rw [itoa_dec3 h0 h1] at h2
  rw [bcells_append, List.length_append]
  exact h2

/-- The text of the k first bytes of an address, each with its dot. -/
def pre4 (n : Int) : Nat → List UInt8
  | 0 => []
  | 1 => dec3 (n / 16777216).toNat ++ [46]
  | 2 => dec3 (n / 16777216).toNat ++ [46] ++ dec3 (n / 65536 % 256).toNat ++ [46]
  | _ => dec3 (n / 16777216).toNat ++ [46] ++ dec3 (n / 65536 % 256).toNat ++ [46] ++ dec3 (n / 256 % 256).toNat ++ [46]
theorem pre4_len (n : Int) (k : Nat) : (pre4 n k).length ≤ 100 := by
  have h1 := dec3_len (n / 16777216).toNat
  have h2 := dec3_len (n / 65536 % 256).toNat
  have h3 := dec3_len (n / 256 % 256).toNat
  match k with
  | 0 => simp [pre4]
  | 1 => simp [pre4]; omega
  | 2 => simp [pre4]; omega
  | _ + 3 => simp [pre4]; omega
theorem pre4_end {n : Int} (h0 : 0 ≤ n) : (⟨(pre4 n 3 ++ dec3 (n % 256).toNat).toArray⟩ : ByteArray) = ip4T n := by
  unfold ip4T ip4L pre4
  have e1 : (n / 16777216).toNat = n.toNat / 16777216 := by omega
  have e2 : (n / 65536 % 256).toNat = n.toNat / 65536 % 256 := by omega
  have e3 : (n / 256 % 256).toNat = n.toNat / 256 % 256 := by omega
  have e4 : (n % 256).toNat = n.toNat % 256 := by omega
  rw [e1, e2, e3, e4]
  simp

def room4 : Nat → Int
  | 0 => 16777216
  | 1 => 65536
  | 2 => 256
  | 3 => 1
  | _ => 0


set_option maxRecDepth 20000 in
set_option maxHeartbeats 8000000 in
theorem implIp4Text (n : Int) (w : World) (h0 : 0 ≤ n) (h1 : n < 4294967296) (hT : Pow w) :
    Calls Tryz.prog 40 #[.int .i64 n] w fun e w' => e = .returned (.string (ip4T n)) ∧ Below w.heap.size w w' := by
  obtain ⟨i0, hi, hz0, hz1, hz2⟩ := info_parts Tryz.info5
  have HT : Hid (Lib.TabBelow Tryz.prog w.heap.size w "internal/strconv.uint64pow10" .u64 Lib.pow10Tab) := Lib.tabBelow_of_tabIs hT
  clear hT
  go_enter Tryz.func40, Tryz.ntmps40
  go_wp2_with (at_make; refine wpList_make_own _ rfl _ _ 22 rfl w.heap.size 5 i0 (.int .u8 0) 1 Tryz.underlying22 hi hz0 hz1 _ _ _ 15 rfl rfl (by omega) (by rw [hz2]; omega) (by unfold maxLen; omega) (Nat.le_refl _) ?_)
  intro wm hmo hgm
  have Bm : Below w.heap.size w wm := (Below.refl _ _).grown hgm (Nat.le_refl _) (fun k hk => by cases hk)
  have om : wm.ownsRow w.heap.size 5 1 (.slice (some ⟨w.heap.size, 0, none⟩) 0 15) 0 [] := hmo
  clear hmo hgm
  go_wp2_with fail
  go_loopw [3, 4] (fun v r wr => ∃ k : Nat, k ≤ 4 ∧ r = .int .i64 (room4 k) ∧ (k ≤ 3 → wr.ownsRow w.heap.size 5 1 v (pre4 n k).length (bcells (pre4 n k))) ∧ (k = 4 → wr.ownsRow w.heap.size 5 1 v (pre4 n 3 ++ dec3 (n % 256).toNat).length (bcells (pre4 n 3 ++ dec3 (n % 256).toNat))) ∧ Below w.heap.size w wr)
    (fun _ r _ => (intOf r).toNat)
  case atStart => exact ⟨0, by omega, rfl, fun _ => om, fun h => by omega, Bm⟩
  case round =>
    obtain ⟨k, hk, rfl, hin, hend, hbel⟩ := hrel
    clear om Bm hi hz0 hz1 hz2
    have hsz := hbel.size
    have h5 : k = 0 ∨ k = 1 ∨ k = 2 ∨ k = 3 ∨ k = 4 := by omega
    have HTW : Hid (Lib.TabBelow Tryz.prog w.heap.size wr "internal/strconv.uint64pow10" .u64 Lib.pow10Tab) := HT.out.on hbel
    rcases h5 with rfl | rfl | rfl | rfl | rfl
    · have e0 : n / 16777216 % 256 = n / 16777216 := by omega
      have HI : Hid (∀ (v : Value) (W : World), W.ownsRow w.heap.size 5 1 v (pre4 n 0).length (bcells (pre4 n 0)) → w.heap.size ≤ W.heap.size → Lib.TabBelow Tryz.prog w.heap.size W "internal/strconv.uint64pow10" .u64 Lib.pow10Tab → Calls Tryz.prog 64 #[v, .int .i64 (n/16777216), .int .i64 10] W fun e w' => ∃ v', e = .returned v' ∧ w'.ownsRow w.heap.size 5 1 v' (pre4 n 0 ++ dec3 (n/16777216).toNat).length (bcells (pre4 n 0 ++ dec3 (n/16777216).toNat)) ∧ Below w.heap.size W w') := fun v W ho hB hT => implAppDec w.heap.size _ v _ W (by omega) (by omega) ho hB (by have := pre4_len n 0; omega) hT
      have o1 := hin (by omega)
      have hl := pre4_len n 0
      have hl2 := dec3_len (n/16777216).toNat
      clear hin hend
      simp only [room4]
      go_wp2_with fail
      refine (HI.out _ _ o1 hsz HTW.out).mono ?_
      rintro e wb ⟨vb, rfl, o2, b2⟩
      have B2 := hbel.trans b2
      have z2 := B2.size
      have hl3 : (pre4 n 0 ++ dec3 (n/16777216).toNat).length ≤ 200 := by rw [List.length_append]; omega
      clear o1 hbel b2 HTW HI
      obtain ⟨L, hL⟩ : ∃ L, pre4 n 0 ++ dec3 (n/16777216).toNat = L := ⟨_, rfl⟩
      rw [hL] at o2 hl3
      have HL : Hid (pre4 n 0 ++ dec3 (n/16777216).toNat = L) := hL
      clear hL
      go_wp2_with (at_builtin; refine wpList_append_new _ rfl _ _ 22 rfl w.heap.size 5 (.int .u8 0) 1 Tryz.underlying22 Tryz.info5 rfl _ _ _ rfl o2 #[.int .u8 46] 1 rfl rfl (by intro u hu; simp at hu; subst hu; rfl) (by omega) (by unfold maxLen; omega) z2 ?_)
      intro v' w1 o3 b3
      have R : w1.ownsRow w.heap.size 5 1 v' (pre4 n 1).length (bcells (pre4 n 1)) := by
        rw [show pre4 n 1 = L ++ [46] by rw [← HL.out]; simp [pre4], bcells_snoc, List.length_append]
        exact o3
      have B3 := B2.trans b3
      clear o2 o3 b3 B2
      go_wp2_with fail
      go_roundw
      case rel => exact ⟨1, by omega, rfl, fun _ => R, fun h => by omega, B3⟩
      case measure => simp [intOf]
    · have HI : Hid (∀ (v : Value) (W : World), W.ownsRow w.heap.size 5 1 v (pre4 n 1).length (bcells (pre4 n 1)) → w.heap.size ≤ W.heap.size → Lib.TabBelow Tryz.prog w.heap.size W "internal/strconv.uint64pow10" .u64 Lib.pow10Tab → Calls Tryz.prog 64 #[v, .int .i64 (n/65536%256), .int .i64 10] W fun e w' => ∃ v', e = .returned v' ∧ w'.ownsRow w.heap.size 5 1 v' (pre4 n 1 ++ dec3 (n/65536%256).toNat).length (bcells (pre4 n 1 ++ dec3 (n/65536%256).toNat)) ∧ Below w.heap.size W w') := fun v W ho hB hT => implAppDec w.heap.size _ v _ W (by omega) (by omega) ho hB (by have := pre4_len n 1; omega) hT
      have o1 := hin (by omega)
      have hl := pre4_len n 1
      have hl2 := dec3_len (n/65536%256).toNat
      clear hin hend
      simp only [room4]
      go_wp2_with fail
      refine (HI.out _ _ o1 hsz HTW.out).mono ?_
      rintro e wb ⟨vb, rfl, o2, b2⟩
      have B2 := hbel.trans b2
      have z2 := B2.size
      have hl3 : (pre4 n 1 ++ dec3 (n/65536%256).toNat).length ≤ 200 := by rw [List.length_append]; omega
      clear o1 hbel b2 HTW HI
      obtain ⟨L, hL⟩ : ∃ L, pre4 n 1 ++ dec3 (n/65536%256).toNat = L := ⟨_, rfl⟩
      rw [hL] at o2 hl3
      have HL : Hid (pre4 n 1 ++ dec3 (n/65536%256).toNat = L) := hL
      clear hL
      go_wp2_with (at_builtin; refine wpList_append_new _ rfl _ _ 22 rfl w.heap.size 5 (.int .u8 0) 1 Tryz.underlying22 Tryz.info5 rfl _ _ _ rfl o2 #[.int .u8 46] 1 rfl rfl (by intro u hu; simp at hu; subst hu; rfl) (by omega) (by unfold maxLen; omega) z2 ?_)
      intro v' w1 o3 b3
      have R : w1.ownsRow w.heap.size 5 1 v' (pre4 n 2).length (bcells (pre4 n 2)) := by
        rw [show pre4 n 2 = L ++ [46] by rw [← HL.out]; simp [pre4], bcells_snoc, List.length_append]
        exact o3
      have B3 := B2.trans b3
      clear o2 o3 b3 B2
      go_wp2_with fail
      go_roundw
      case rel => exact ⟨2, by omega, rfl, fun _ => R, fun h => by omega, B3⟩
      case measure => simp [intOf]
    · have HI : Hid (∀ (v : Value) (W : World), W.ownsRow w.heap.size 5 1 v (pre4 n 2).length (bcells (pre4 n 2)) → w.heap.size ≤ W.heap.size → Lib.TabBelow Tryz.prog w.heap.size W "internal/strconv.uint64pow10" .u64 Lib.pow10Tab → Calls Tryz.prog 64 #[v, .int .i64 (n/256%256), .int .i64 10] W fun e w' => ∃ v', e = .returned v' ∧ w'.ownsRow w.heap.size 5 1 v' (pre4 n 2 ++ dec3 (n/256%256).toNat).length (bcells (pre4 n 2 ++ dec3 (n/256%256).toNat)) ∧ Below w.heap.size W w') := fun v W ho hB hT => implAppDec w.heap.size _ v _ W (by omega) (by omega) ho hB (by have := pre4_len n 2; omega) hT
      have o1 := hin (by omega)
      have hl := pre4_len n 2
      have hl2 := dec3_len (n/256%256).toNat
      clear hin hend
      simp only [room4]
      go_wp2_with fail
      refine (HI.out _ _ o1 hsz HTW.out).mono ?_
      rintro e wb ⟨vb, rfl, o2, b2⟩
      have B2 := hbel.trans b2
      have z2 := B2.size
      have hl3 : (pre4 n 2 ++ dec3 (n/256%256).toNat).length ≤ 200 := by rw [List.length_append]; omega
      clear o1 hbel b2 HTW HI
      obtain ⟨L, hL⟩ : ∃ L, pre4 n 2 ++ dec3 (n/256%256).toNat = L := ⟨_, rfl⟩
      rw [hL] at o2 hl3
      have HL : Hid (pre4 n 2 ++ dec3 (n/256%256).toNat = L) := hL
      clear hL
      go_wp2_with (at_builtin; refine wpList_append_new _ rfl _ _ 22 rfl w.heap.size 5 (.int .u8 0) 1 Tryz.underlying22 Tryz.info5 rfl _ _ _ rfl o2 #[.int .u8 46] 1 rfl rfl (by intro u hu; simp at hu; subst hu; rfl) (by omega) (by unfold maxLen; omega) z2 ?_)
      intro v' w1 o3 b3
      have R : w1.ownsRow w.heap.size 5 1 v' (pre4 n 3).length (bcells (pre4 n 3)) := by
        rw [show pre4 n 3 = L ++ [46] by rw [← HL.out]; simp [pre4], bcells_snoc, List.length_append]
        exact o3
      have B3 := B2.trans b3
      clear o2 o3 b3 B2
      go_wp2_with fail
      go_roundw
      case rel => exact ⟨3, by omega, rfl, fun _ => R, fun h => by omega, B3⟩
      case measure => simp [intOf]
    · have HI : Hid (∀ (v : Value) (W : World), W.ownsRow w.heap.size 5 1 v (pre4 n 3).length (bcells (pre4 n 3)) → w.heap.size ≤ W.heap.size → Lib.TabBelow Tryz.prog w.heap.size W "internal/strconv.uint64pow10" .u64 Lib.pow10Tab → Calls Tryz.prog 64 #[v, .int .i64 (n % 256), .int .i64 10] W fun e w' => ∃ v', e = .returned v' ∧ w'.ownsRow w.heap.size 5 1 v' (pre4 n 3 ++ dec3 (n % 256).toNat).length (bcells (pre4 n 3 ++ dec3 (n % 256).toNat)) ∧ Below w.heap.size W w') := fun v W ho hB hT => implAppDec w.heap.size _ v _ W (by omega) (by omega) ho hB (by have := pre4_len n 3; omega) hT
      have o1 := hin (by omega)
      clear hin hend
      simp only [room4]
      go_wp2_with fail
      refine (HI.out _ _ o1 hsz HTW.out).mono ?_
      rintro e wb ⟨vb, rfl, o2, b2⟩
      have B2 := hbel.trans b2
      clear o1 hbel b2 HTW HI
      go_wp2_with fail
      go_roundw
      case rel => exact ⟨4, by omega, rfl, fun h => by omega, fun _ => o2, B2⟩
      case measure => simp [intOf]
    · have o1 := hend rfl
      clear hin hend
      have hcv := run_string_own (P := Tryz.prog) wr 22 9 5 Tryz.underlying22 Tryz.underlying5 Tryz.underlying9 o1
      rw [pre4_end h0] at hcv
      simp only [room4]
      go_wp2_with fail
      go_ret
      exact ⟨rfl, hbel⟩

set_option maxHeartbeats 1000000 in
theorem implIp4Text_no (n : Int) (w : World) (h : n < 0 ∨ 4294967295 < n) :
    Calls Tryz.prog 40 #[.int .i64 n] w fun e w' => e = .returned (.string ⟨#[]⟩) ∧ Below w.heap.size w w' := by
  by_cases h0 : n < 0
  · clear h
    go_enter Tryz.func40, Tryz.ntmps40
    go_wp2_with fail
    go_ret
    exact ⟨rfl, Below.refl _ _⟩
  · have h1 : 4294967296 ≤ n := by omega
    clear h
    go_enter Tryz.func40, Tryz.ntmps40
    go_wp2_with fail
    go_ret
    exact ⟨rfl, Below.refl _ _⟩
end Go.Proofs.YtamnhegianpedaaGreatDoor

namespace Go.Proofs.YtamnhegianpedaaGreatDoor
open Go.RowKit

theorem st_end (fs : List ByteArray) (k n : Nat) (h : ¬ k < fs.length) : stF n ((fs.drop k).map toL) = some n := by
  rw [List.drop_of_length_le (by omega)]; rfl
theorem st_step (fs : List ByteArray) (k n : Nat) (h : k < fs.length) : stF n ((fs.drop k).map toL) = match str1 (toL (fs.getD k ByteArray.empty)) with
    | none => none
    | some v => stF (n * 256 + v) ((fs.drop (k + 1)).map toL) := by
  rw [drop_bytes fs k h]
  rfl
theorem str1_nil {y : ByteArray} (h : y.size = 0) : str1 (toL y) = none := by
  have : toL y = [] := List.eq_nil_of_length_eq_zero (by simpa [toL] using h)
  rw [this]; rfl
theorem str1_at {y : ByteArray} (h : 0 < y.size) : str1 (toL y) = match numL 10 3 (toL y) with
    | none => none
    | some v => if 255 < v ∨ 1 < y.size ∧ y[0].toNat = 48 then none else some v := by
  have e := toL_one y h
  unfold str1
  rw [show (toL y).isEmpty = false by unfold toL; rw [e]; rfl]
  simp only [Bool.false_eq_true, if_false]
  cases numL 10 3 (toL y) with
  | none => rfl
  | some v =>
    simp only
    have e1 : (1 < (toL y).length ∧ (toL y).head? = some 48) ↔ (1 < y.size ∧ y[0].toNat = 48) := by
      have e2 : (toL y).head? = some y[0] := by unfold toL; rw [e]; rfl
      have e3 : (toL y).length = y.size := by simp [toL]
      rw [e2, e3]
      constructor
      · rintro ⟨a, b⟩
        exact ⟨a, by injection b with b; rw [b]; rfl⟩
      · rintro ⟨a, b⟩
        exact ⟨a, by rw [u8_is (d := 48) b]⟩
    simp only [e1]


set_option maxRecDepth 20000 in
set_option maxHeartbeats 8000000 in
theorem specParseIp4 (s : ByteArray) (w : World) (hs : s.size ≤ 1048576) :
    Calls Tryz.prog 81 #[.string s] w fun e w' => e = .returned (numA (p4 s.data.toList)) ∧ Below w.heap.size w w' := by
  have CF : Hid (Calls Tryz.prog 42 #[.string s, .int .u8 46] w fun e w' => ∃ v, e = .returned v ∧ w'.ownsRow w.heap.size 9 1 v (fieldsL s 46).length (scells (fieldsL s 46)) ∧ Below w.heap.size w w') := specFields s 46 w hs
  have hpos : 0 < (fieldsL s 46).length := by simp [fieldsL]
  have hlen : (fieldsL s 46).length ≤ 1048577 := by
    have := (fieldsTo_le s 46 s.size).2
    simp [fieldsL]; omega
  have HSZ : Hid (∀ x ∈ fieldsL s 46, x.size ≤ 1048576) := fields_sizes46 s hs
  have HP : Hid (p4 s.data.toList = if (fieldsL s 46).length = 4 then stF 0 ((fieldsL s 46).map toL) else none) := by
    show _ = _
    unfold p4
    rw [← fieldsL_46, List.length_map]
  generalize fieldsL s 46 = fs at CF hpos hlen HSZ HP
  by_cases h4 : fs.length = 4
  · have HF : Hid (p4 s.data.toList = stF 0 (fs.map toL)) := by
      show _ = _
      rw [HP.out, if_pos h4]
    have HM : Hid (fs.length = 4) := h4
    go_enter Tryz.func81, Tryz.ntmps81
    go_wp2_with fail
    refine CF.out.mono ?_
    rintro e wa ⟨va, rfl, OV, ba⟩
    rcases own_shape OV with ⟨h, _⟩ | ⟨_, g, cap, rfl⟩
    · omega
    · rw [h4] at OV ⊢
      clear h4 hpos hlen CF HP
      go_wp2_with fail
      go_loop [5, 6] (fun x i => ∃ (k n : Nat) (a : Int), k ≤ 4 ∧ i = .int .i64 k ∧ x = .int .i64 a ∧ a = (n : Int) ∧ n < 256 ^ k ∧ stF n ((fs.drop k).map toL) = stF 0 (fs.map toL)) (fun _ i => 4 - (intOf i).toNat)
      case atStart => exact ⟨0, 0, 0, by omega, rfl, rfl, rfl, by decide, rfl⟩
      case round =>
        obtain ⟨k, n, a, hk, rfl, rfl, ha, hn, hf⟩ := hrel
        have HR : Hid (stF n ((fs.drop k).map toL) = stF 0 (fs.map toL)) := hf
        have HN : Hid (n < 256 ^ k) := hn
        have HA : Hid (a = (n : Int)) := ha
        clear hf
        by_cases hlt : k < 4
        · have hn2 : n < 16777216 := Nat.lt_of_lt_of_le hn (pow256 (by omega))
          have ha0 : 0 ≤ a := by omega
          have ha1 : a < 16777216 := by omega
          clear hn hn2 ha
          have hc := scell_at OV k (by omega)
          have hsy := HSZ.out _ (mem_getD (k := k) (by have := HM.out; omega))
          have HS : Hid (_ = _) := st_step fs k n (by have := HM.out; omega)
          have CN : Hid (∀ W, Calls Tryz.prog 82 #[.string (fs.getD k ByteArray.empty), .int .i64 10, .int .i64 3] W fun e w' => e = .returned (.int .i64 (numZ (numL 10 3 (toL (fs.getD k ByteArray.empty))))) ∧ W = w') := fun W => spec5Number _ 10 3 W (by omega) (by omega)
          generalize fs.getD k ByteArray.empty = y at hc hsy HS CN
          have hki : (k : Int) < 4 := by omega
          by_cases he : y.size = 0
          · have HZ : Hid (p4 s.data.toList = none) := by
              show _ = _
              rw [HF.out, ← HR.out, HS.out, str1_nil he]
            have hem := empty_yes he
            clear he
            generalize numZ (numL 10 3 (toL y)) = z at CN
            go_wp2_with fail
            refine (CN.out _).mono ?_
            rintro e w' ⟨rfl, rfl⟩
            go_wp2_with fail
            go_ret2
            exact ⟨by rw [HZ.out]; rfl, ba⟩
          · have hpy : 0 < y.size := by omega
            have hem := empty_no hpy
            have HS1 : Hid (_ = _) := str1_at hpy
            clear he
            cases hv : numL 10 3 (toL y) with
            | none =>
              rw [hv] at CN HS1
              have HZ : Hid (p4 s.data.toList = none) := by
                show _ = _
                rw [HF.out, ← HR.out, HS.out, HS1.out]
              clear hv
              go_wp2_with fail
              refine (CN.out _).mono ?_
              rintro e w' ⟨rfl, rfl⟩
              simp only [numZ]
              go_wp2_with fail
              refine (specL1In_no _ _ _ _ (by omega)).mono ?_
              rintro e w' ⟨rfl, rfl⟩
              go_wp2_with fail
              go_ret2
              exact ⟨by rw [HZ.out]; rfl, ba⟩
            | some v =>
              rw [hv] at CN HS1
              clear hv
              obtain ⟨x, hx⟩ : ∃ x : Int, (v : Int) = x := ⟨_, rfl⟩
              have HX : Hid ((v : Int) = x) := hx
              have hx0 : 0 ≤ x := by omega
              by_cases hvr : 255 < v
              · have HZ : Hid (p4 s.data.toList = none) := by
                  show _ = _
                  rw [HF.out, ← HR.out, HS.out, HS1.out]
                  simp only
                  rw [if_pos (.inl hvr)]
                have hx1 : 255 < x := by omega
                clear hvr hx
                go_wp2_with fail
                refine (CN.out _).mono ?_
                rintro e w' ⟨rfl, rfl⟩
                simp only [numZ]
                rw [HX.out]
                go_wp2_with fail
                refine (specL1In_no _ _ _ _ (by omega)).mono ?_
                rintro e w' ⟨rfl, rfl⟩
                go_wp2_with fail
                go_ret2
                exact ⟨by rw [HZ.out]; rfl, ba⟩
              · have hx1 : x ≤ 255 := by omega
                have hx2 : v < 256 := by omega
                have HV : Hid (v < 256) := hx2
                obtain ⟨d, hd⟩ : ∃ d : Nat, y[0].toNat = d := ⟨_, rfl⟩
                by_cases hq : 1 < y.size ∧ d = 48
                · have HZ : Hid (p4 s.data.toList = none) := by
                    show _ = _
                    rw [HF.out, ← HR.out, HS.out, HS1.out]
                    simp only
                    rw [if_pos (.inr ⟨hq.1, hd.trans hq.2⟩)]
                  obtain ⟨hq1, rfl⟩ := hq
                  have hq1' : 1 < (y.size : Int) := by omega
                  clear hvr hx hx2
                  go_wp2_with fail
                  refine (CN.out _).mono ?_
                  rintro e w' ⟨rfl, rfl⟩
                  simp only [numZ]
                  rw [HX.out]
                  go_wp2_with fail
                  refine (specL1In_yes _ _ _ _ (by omega) (by omega)).mono ?_
                  rintro e w' ⟨rfl, rfl⟩
                  go_wp2_with fail
                  go_ret2
                  exact ⟨by rw [HZ.out]; rfl, ba⟩
                · have HG : Hid (stF (n * 256 + v) ((fs.drop (k + 1)).map toL) = stF 0 (fs.map toL)) := by
                    show _ = _
                    rw [← HR.out, HS.out, HS1.out]
                    simp only
                    rw [if_neg]
                    rintro (h | ⟨h, h'⟩)
                    · exact hvr h
                    · exact hq ⟨h, hd.symm.trans h'⟩
                  clear hvr hx hx2
                  by_cases hq1 : 1 < y.size
                  · have hq1' : 1 < (y.size : Int) := by omega
                    have hq2 : ((d : Int) == 48) = false := by simp; omega
                    clear hq
                    go_wp2_with fail
                    refine (CN.out _).mono ?_
                    rintro e w' ⟨rfl, rfl⟩
                    simp only [numZ]
                    rw [HX.out]
                    go_wp2_with fail
                    refine (specL1In_yes _ _ _ _ (by omega) (by omega)).mono ?_
                    rintro e w' ⟨rfl, rfl⟩
                    go_wp2_with fail
                    go_round
                    case rel => exact ⟨k + 1, n * 256 + v, a * 256 + x, by omega, by go_num, by go_num, by have h1 := HA.out; have h2 := HX.out; omega, by have h1 := HN.out; have h2 := HV.out; rw [Nat.pow_succ]; omega, HG.out⟩
                    case measure => simp [intOf]; omega
                  · have hq1' : ¬ 1 < (y.size : Int) := by omega
                    clear hq
                    go_wp2_with fail
                    refine (CN.out _).mono ?_
                    rintro e w' ⟨rfl, rfl⟩
                    simp only [numZ]
                    rw [HX.out]
                    go_wp2_with fail
                    refine (specL1In_yes _ _ _ _ (by omega) (by omega)).mono ?_
                    rintro e w' ⟨rfl, rfl⟩
                    go_wp2_with fail
                    go_round
                    case rel => exact ⟨k + 1, n * 256 + v, a * 256 + x, by omega, by go_num, by go_num, by have h1 := HA.out; have h2 := HX.out; omega, by have h1 := HN.out; have h2 := HV.out; rw [Nat.pow_succ]; omega, HG.out⟩
                    case measure => simp [intOf]; omega
        · have HZ : Hid (p4 s.data.toList = some n) := by
            show _ = _
            rw [HF.out, ← HR.out]
            exact st_end fs k n (by have := HM.out; omega)
          have hki : ¬ (k : Int) < 4 := by omega
          clear hn ha
          go_wp2_with fail
          go_ret2
          exact ⟨by rw [HZ.out]; have h1 := HA.out; simp [numA]; exact h1, ba⟩
  · have HZ : Hid (p4 s.data.toList = none) := by
      show _ = _
      rw [HP.out, if_neg h4]
    have h4' : ((fs.length : Int) == 4) = false := by simp; omega
    clear h4 HP
    go_enter Tryz.func81, Tryz.ntmps81
    go_wp2_with fail
    refine CF.out.mono ?_
    rintro e wa ⟨va, rfl, OV, ba⟩
    rcases own_shape OV with ⟨h, _⟩ | ⟨_, g, cap, rfl⟩
    · omega
    · have h0' : 0 < (fs.length : Int) := by omega
      go_wp2_with fail
      refine wp_loop_rounds 1 ?_
      rw [rounds_succ]
      go_wp2_with fail
      go_ret2
      exact ⟨by rw [HZ.out]; rfl, ba⟩

set_option maxHeartbeats 2000000 in
theorem implParseIp4 (s : ByteArray) (w : World) (hs : s.size ≤ 1048576) (hT : Pow w) :
    Calls Tryz.prog 112 #[.string s] w fun e w' => e = .returned (numA (p4 s.data.toList)) ∧ Below w.heap.size w w' := by
  have CL : Hid (Calls Tryz.prog 80 #[.string s] w fun e w' => e = .returned (numA (loA s)) ∧ Below w.heap.size w w') := implLooseIp4 s w hs
  have HT : Hid (Pow w) := hT
  clear hT
  cases hl : loA s with
  | none =>
    have HZ : Hid (p4 s.data.toList = none) := parse_none hl
    rw [hl] at CL
    clear hl
    go_enter Tryz.func112, Tryz.ntmps112
    go_wp2_with fail
    refine CL.out.mono ?_
    rintro e wa ⟨rfl, ba⟩
    simp only [numA]
    go_wp2_with fail
    go_ret2
    exact ⟨by rw [HZ.out]; rfl, ba⟩
  | some n =>
    have hn := loA_lt hl
    rw [hl] at CL
    have CI : Hid (∀ W, Pow W → Calls Tryz.prog 40 #[.int .i64 (n : Int)] W fun e w' => e = .returned (.string (ip4T n)) ∧ Below W.heap.size W w') := fun W h => implIp4Text n W (by omega) (by omega) h
    by_cases hq : ip4T n = s
    · have HZ : Hid (p4 s.data.toList = some n) := parse_yes hl (by rw [← hq]; simp [ip4T])
      have hst := str_eq hq
      clear hl hq hn
      generalize ip4T n = T at CI hst
      go_enter Tryz.func112, Tryz.ntmps112
      go_wp2_with fail
      refine CL.out.mono ?_
      rintro e wa ⟨rfl, ba⟩
      simp only [numA]
      go_wp2_with fail
      refine (CI.out _ (pow_below HT.out ba)).mono ?_
      rintro e wb ⟨rfl, bb⟩
      go_wp2_with fail
      go_ret2
      exact ⟨by rw [HZ.out]; rfl, ba.trans (bb.mono ba.size)⟩
    · have HZ : Hid (p4 s.data.toList = none) := parse_no hl (fun e => hq (toL_inj (by show (ip4T n).data.toList = s.data.toList; rw [← e]; simp [ip4T])))
      have hst := str_ne hq
      clear hl hq hn
      generalize ip4T n = T at CI hst
      go_enter Tryz.func112, Tryz.ntmps112
      go_wp2_with fail
      refine CL.out.mono ?_
      rintro e wa ⟨rfl, ba⟩
      simp only [numA]
      go_wp2_with fail
      refine (CI.out _ (pow_below HT.out ba)).mono ?_
      rintro e wb ⟨rfl, bb⟩
      go_wp2_with fail
      go_ret2
      exact ⟨by rw [HZ.out]; rfl, ba.trans (bb.mono ba.size)⟩
end Go.Proofs.YtamnhegianpedaaGreatDoor

namespace Go.Proofs.YtamnhegianpedaaGreatDoor
open Go.RowKit

def hxU (i : Nat) : UInt8 := UInt8.ofNat (if i < 10 then 48 + i else 87 + i)
/-- A number below 65536 to sixteen. -/
def hex4 (n : Nat) : List UInt8 := if n < 16 then [hxU n] else if n < 256 then [hxU (n / 16), hxU (n % 16)] else if n < 4096 then [hxU (n / 256), hxU (n / 16 % 16), hxU (n % 16)] else [hxU (n / 4096), hxU (n / 256 % 16), hxU (n / 16 % 16), hxU (n % 16)]

theorem hxU_hex : ∀ i, i < 16 → hexN (hxU i).toNat = (i : Int) := by decide +kernel
theorem hxU_no : ∀ i, i < 16 → hxU i ≠ 58 ∧ hxU i ≠ 46 := by decide +kernel
theorem digF_hx {i n : Nat} (h : i < 16) (r : List UInt8) : digF 16 n (hxU i :: r) = digF 16 (n * 16 + i) r := by
  rw [digF, hxU_hex i h, if_pos (by omega)]
  rfl

theorem hex4_num {n : Nat} (h : n < 65536) : numL 16 4 (hex4 n) = some n := by
  unfold hex4 numL
  split
  · rw [if_pos (by simp), digF_hx (by omega), digF]
    congr 1
    omega
  · split
    · rw [if_pos (by simp), digF_hx (by omega), digF_hx (by omega), digF]
      congr 1
      omega
    · split
      · rw [if_pos (by simp), digF_hx (by omega), digF_hx (by omega), digF_hx (by omega), digF]
        congr 1
        omega
      · rw [if_pos (by simp), digF_hx (by omega), digF_hx (by omega), digF_hx (by omega), digF_hx (by omega), digF]
        congr 1
        omega

theorem hex4_no {n : Nat} (h : n < 65536) : ∀ c ∈ hex4 n, c ≠ 58 ∧ c ≠ 46 := by
  intro c hc
  unfold hex4 at hc
  split at hc
  · simp only [List.mem_cons, List.not_mem_nil, or_false] at hc
    subst hc
    exact hxU_no _ (by omega)
  · split at hc
    · simp only [List.mem_cons, List.not_mem_nil, or_false] at hc
      rcases hc with rfl | rfl <;> exact hxU_no _ (by omega)
    · split at hc
      · simp only [List.mem_cons, List.not_mem_nil, or_false] at hc
        rcases hc with rfl | rfl | rfl <;> exact hxU_no _ (by omega)
      · simp only [List.mem_cons, List.not_mem_nil, or_false] at hc
        rcases hc with rfl | rfl | rfl | rfl <;> exact hxU_no _ (by omega)

theorem hex4_len (n : Nat) : 1 ≤ (hex4 n).length ∧ (hex4 n).length ≤ 4 := by
  unfold hex4
  split
  · simp
  · split
    · simp
    · split <;> simp
theorem hex4_ne (n : Nat) : (hex4 n).isEmpty = false := by
  have := (hex4_len n).1
  cases h : hex4 n with
  | nil => rw [h] at this; simp at this
  | cons _ _ => rfl

theorem hex4_nil (n : Nat) : hex4 n ≠ [] := by
  intro e
  have h := hex4_ne n
  rw [e] at h
  cases h

/-- Where the first double colon cuts a text. -/
def cut6L : List UInt8 → Option (List UInt8 × List UInt8)
  | [] => none
  | c :: r => if c = 58 ∧ r.head? = some 58 then some ([], r.tail) else (cut6L r).map fun p => (c :: p.1, p.2)

theorem cutL_no : ∀ {l : List UInt8}, (∀ c ∈ l, c ≠ 58) → cut6L l = none
  | [], _ => rfl
  | c :: r, h => by
    rw [cut6L, if_neg (fun e => h c List.mem_cons_self e.1), cutL_no (fun d hd => h d (List.mem_cons_of_mem _ hd))]
    rfl

theorem cutL_app {x : List UInt8} (hx : cut6L x = none) (hne : x.head? ≠ some 58) : ∀ p, cut6L (p ++ x) = (cut6L p).map fun q => (q.1, q.2 ++ x)
  | [] => by rw [List.nil_append, hx]; rfl
  | [c] => by
    rw [List.cons_append, List.nil_append, cut6L, if_neg (fun e => hne e.2), hx]
    simp [cut6L]
  | c :: d :: r => by
    have ih := cutL_app hx hne (d :: r)
    rw [List.cons_append, cut6L, cut6L]
    by_cases h : c = 58 ∧ d = 58
    · rw [if_pos (by simpa using h), if_pos (by simpa using h)]
      simp
    · rw [if_neg (by simpa using h), if_neg (by simpa using h), ih]
      cases cut6L (d :: r) <;> rfl

theorem cutL_pre (y : List UInt8) : ∀ {p : List UInt8}, (∀ c ∈ p, c ≠ 58) → cut6L (p ++ y) = (cut6L y).map fun q => (p ++ q.1, q.2)
  | [], _ => by
    rw [List.nil_append]
    cases cut6L y <;> rfl
  | c :: r, h => by
    rw [List.cons_append, cut6L, if_neg (fun e => h c List.mem_cons_self e.1), cutL_pre y (fun d hd => h d (List.mem_cons_of_mem _ hd))]
    cases cut6L y <;> rfl

theorem cutL_split : ∀ {l a b : List UInt8}, cut6L l = some (a, b) → l = a ++ 58 :: 58 :: b
  | [], _, _, h => by cases h
  | c :: r, a, b, h => by
    rw [cut6L] at h
    split at h
    · rename_i hc
      cases h
      obtain ⟨rfl, hr⟩ := hc
      cases r with
      | nil => simp at hr
      | cons d q => simp at hr; subst hr; rfl
    · cases hr : cut6L r with
      | none => rw [hr] at h; cases h
      | some p =>
        rw [hr] at h
        cases h
        rw [List.cons_append, ← cutL_split (a := p.1) (b := p.2) hr]

def partOk (x : List UInt8) : Prop := x ≠ [] ∧ ∀ c ∈ x, c ≠ 58

theorem jl_head {b : UInt8} {x : List UInt8} {r : List (List UInt8)} (hx : partOk x) : (jl b (x :: r)).head? ≠ some 58 := by
  obtain ⟨h1, h2⟩ := hx
  cases x with
  | nil => exact absurd rfl h1
  | cons c q =>
    have hc := h2 c List.mem_cons_self
    cases r <;> simp [jl, hc]

theorem cut_jl : ∀ {fs : List (List UInt8)}, (∀ x ∈ fs, partOk x) → cut6L (jl 58 fs) = none
  | [], _ => rfl
  | [x], h => cutL_no (h x List.mem_cons_self).2
  | x :: y :: r, h => by
    have ih := cut_jl (fs := y :: r) fun z hz => h z (List.mem_cons_of_mem _ hz)
    rw [jl, cutL_pre _ (h x List.mem_cons_self).2, cut6L, if_neg (fun e => jl_head (h y (by simp)) e.2), ih]
    rfl

theorem cut_text (B : List UInt8) : ∀ {fs : List (List UInt8)}, (∀ x ∈ fs, partOk x) → cut6L (jl 58 fs ++ 58 :: 58 :: B) = some (jl 58 fs, B)
  | [], _ => by simp [jl, cut6L]
  | [x], h => by
    rw [jl, cutL_pre _ (h x List.mem_cons_self).2, cut6L, if_pos (by simp)]
    simp
  | x :: y :: r, h => by
    have ih := cut_text B (fs := y :: r) fun z hz => h z (List.mem_cons_of_mem _ hz)
    have hh := jl_head (b := 58) (r := r) (h y (by simp))
    rw [jl, List.append_assoc, cutL_pre _ (h x List.mem_cons_self).2, List.cons_append, cut6L, if_neg ?_, ih]
    · rfl
    · intro e
      apply hh
      cases hj : jl 58 (y :: r) with
      | nil => 
        have h1 := h y (by simp)
        cases r <;> simp [jl] at hj
        exact absurd hj h1.1
      | cons c q => 
        rw [hj] at e
        simpa using e.2

/-- A group. -/
def g16 (x : List UInt8) : Option Nat := if x.isEmpty then none else numL 16 4 x
/-- Groups of fields; where t, the last field may be an address of four. -/
def grp (t : Bool) : List (List UInt8) → Option (List Nat)
  | [] => some []
  | x :: r => match (if t && r.isEmpty then p4 x else none) with
    | some n => some [n / 65536, n % 65536]
    | none => match g16 x with
      | none => none
      | some v => (grp t r).map (v :: ·)
def grpS (t : Bool) (l : List UInt8) : Option (List Nat) := if l.isEmpty then some [] else grp t (spl 58 l)
def fill8 (a b : List Nat) : List Nat := a ++ List.replicate (8 - a.length - b.length) 0 ++ b
def par6 (l : List UInt8) : Option (List Nat) := match cut6L l with
  | none => match grpS true l with
    | none => none
    | some g => if g.length = 8 then some g else none
  | some (a, b) => match grpS false a, grpS true b with
    | some x, some y => if x.length + y.length ≤ 7 then some (fill8 x y) else none
    | _, _ => none
/-- The same of groups alone. -/
def par6g (l : List UInt8) : Option (List Nat) := match cut6L l with
  | none => match grpS false l with
    | none => none
    | some g => if g.length = 8 then some g else none
  | some (a, b) => match grpS false a, grpS false b with
    | some x, some y => if x.length + y.length ≤ 7 then some (fill8 x y) else none
    | _, _ => none
def two4 (n : Nat) : List UInt8 := jl 58 [hex4 (n / 65536), hex4 (n % 65536)]

def lastG (y : List UInt8) : Option (List Nat) := match p4 y with
  | some n => some [n / 65536, n % 65536]
  | none => (g16 y).map fun v => [v]

theorem grp_cons_f (x : List UInt8) (r : List (List UInt8)) : grp false (x :: r) = match g16 x with
    | none => none
    | some v => (grp false r).map (v :: ·) := by
  rw [grp]; rfl

theorem grp_app : ∀ xs ys, grp false (xs ++ ys) = (grp false xs).bind fun g => (grp false ys).map (g ++ ·)
  | [], ys => by
    rw [List.nil_append, grp]
    cases grp false ys <;> rfl
  | x :: r, ys => by
    rw [List.cons_append, grp_cons_f, grp_cons_f, grp_app r ys]
    cases g16 x <;> cases grp false r <;> cases grp false ys <;> rfl

theorem grp_last : ∀ xs y, grp true (xs ++ [y]) = (grp false xs).bind fun g => (lastG y).map (g ++ ·)
  | [], y => by
    rw [List.nil_append, grp]
    simp only [List.isEmpty_nil, Bool.and_self, if_true, grp, lastG, Option.bind_some]
    cases p4 y <;> cases g16 y <;> rfl
  | x :: r, y => by
    rw [List.cons_append, grp, grp_cons_f, grp_last r y]
    simp only [show (r ++ [y]).isEmpty = false by cases r <;> rfl, Bool.and_false, Bool.false_eq_true, if_false]
    cases g16 x <;> cases grp false r <;> cases lastG y <;> rfl

/-- What ends where a field ends. -/
def endsOk (b : List UInt8) : Prop := b = [] ∨ ∃ q, b = q ++ [58]

theorem spl_ends {b : List UInt8} (h : endsOk b) : ∃ xs, ∀ x, spl 58 (b ++ x) = xs ++ spl 58 x := by
  rcases h with rfl | ⟨q, rfl⟩
  · exact ⟨[], fun x => rfl⟩
  · exact ⟨spl 58 q, fun x => by rw [List.append_assoc, List.cons_append, List.nil_append, spl_app]⟩

theorem two4_spl {n : Nat} (h : n < 4294967296) : spl 58 (two4 n) = [hex4 (n / 65536), hex4 (n % 65536)] := by
  refine spl_jl 58 (by simp) ?_
  intro x hx
  simp only [List.mem_cons, List.not_mem_nil, or_false] at hx
  rcases hx with rfl | rfl
  · exact fun c hc => (hex4_no (by omega) c hc).1
  · exact fun c hc => (hex4_no (by omega) c hc).1

theorem g16_hex {n : Nat} (h : n < 65536) : g16 (hex4 n) = some n := by
  unfold g16
  rw [hex4_ne, hex4_num h]
  rfl

theorem grp_two {n : Nat} (h : n < 4294967296) : grp false [hex4 (n / 65536), hex4 (n % 65536)] = some [n / 65536, n % 65536] := by
  rw [grp_cons_f, g16_hex (by omega), grp_cons_f, g16_hex (by omega), grp]
  rfl

theorem p4_nil : p4 [] = none := by rfl

theorem grpS_four {b tl : List UInt8} {n : Nat} (hb : endsOk b) (h58 : ∀ c ∈ tl, c ≠ 58) (h : p4 tl = some n) : grpS true (b ++ tl) = grpS false (b ++ two4 n) := by
  obtain ⟨xs, hs⟩ := spl_ends hb
  have hn := (p4_some h).1
  have h1 : (b ++ tl).isEmpty = false := by
    cases tl with
    | nil => rw [p4_nil] at h; cases h
    | cons c r => cases b <;> rfl
  have h2 : (b ++ two4 n).isEmpty = false := by
    have h3 := (hex4_len (n / 65536)).1
    cases b with
    | cons c r => rfl
    | nil =>
      unfold two4
      cases h4 : hex4 (n / 65536) with
      | nil => rw [h4] at h3; simp at h3
      | cons c r => rfl
  unfold grpS
  rw [h1, h2, hs tl, hs (two4 n), spl_none 58 h58, two4_spl hn, grp_last, grp_app, grp_two hn]
  simp only [lastG, h]

theorem grpS_plain {b tl : List UInt8} (hb : endsOk b) (h58 : ∀ c ∈ tl, c ≠ 58) (h : p4 tl = none) : grpS true (b ++ tl) = grpS false (b ++ tl) := by
  obtain ⟨xs, hs⟩ := spl_ends hb
  unfold grpS
  rw [hs tl, spl_none 58 h58, grp_last, grp_app, grp_cons_f]
  simp only [lastG, h, grp]
  cases g16 tl <;> rfl

theorem cut_ends {p a b : List UInt8} (hp : endsOk p) (h : cut6L p = some (a, b)) : endsOk b := by
  have e := cutL_split h
  rcases hp with rfl | ⟨q, rfl⟩
  · cases h
  · by_cases hb : b = []
    · exact .inl hb
    · obtain ⟨b', c, rfl⟩ : ∃ b' c, b = b' ++ [c] := ⟨b.dropLast, b.getLast hb, (List.dropLast_concat_getLast hb).symm⟩
      have e2 : q ++ [58] = (a ++ 58 :: 58 :: b') ++ [c] := by simp [e]
      have := (List.append_inj' e2 rfl).2
      cases this
      exact .inr ⟨b', rfl⟩

theorem two4_cut {n : Nat} (h : n < 4294967296) : cut6L (two4 n) = none ∧ (two4 n).head? ≠ some 58 := by
  have hp : ∀ x ∈ [hex4 (n / 65536), hex4 (n % 65536)], partOk x := by
    intro x hx
    simp only [List.mem_cons, List.not_mem_nil, or_false] at hx
    rcases hx with rfl | rfl
    · exact ⟨hex4_nil _, fun c hc => (hex4_no (by omega) c hc).1⟩
    · exact ⟨hex4_nil _, fun c hc => (hex4_no (by omega) c hc).1⟩
  exact ⟨cut_jl hp, jl_head (hp _ (by simp))⟩

theorem no58_head {l : List UInt8} (h : ∀ c ∈ l, c ≠ 58) : l.head? ≠ some 58 := by
  cases l with
  | nil => simp
  | cons c r => simpa using h c List.mem_cons_self

theorem par6_four {p tl : List UInt8} {n : Nat} (hp : endsOk p) (h58 : ∀ c ∈ tl, c ≠ 58) (h : p4 tl = some n) : par6g (p ++ two4 n) = par6 (p ++ tl) := by
  obtain ⟨t1, t2⟩ := two4_cut (p4_some h).1
  unfold par6 par6g
  rw [cutL_app (cutL_no h58) (no58_head h58), cutL_app t1 t2]
  cases hc : cut6L p with
  | none =>
    simp only [Option.map_none]
    rw [grpS_four hp h58 h]
  | some ab =>
    obtain ⟨a, b⟩ := ab
    simp only [Option.map_some]
    rw [grpS_four (cut_ends hp hc) h58 h]

theorem par6_plain {p tl : List UInt8} (hp : endsOk p) (h58 : ∀ c ∈ tl, c ≠ 58) (h : p4 tl = none) : par6g (p ++ tl) = par6 (p ++ tl) := by
  unfold par6 par6g
  rw [cutL_app (cutL_no h58) (no58_head h58)]
  cases hc : cut6L p with
  | none =>
    simp only [Option.map_none]
    rw [grpS_plain hp h58 h]
  | some ab =>
    obtain ⟨a, b⟩ := ab
    simp only [Option.map_some]
    rw [grpS_plain (cut_ends hp hc) h58 h]

/-- Groups as a text. -/
def gtL (gs : List Nat) : List UInt8 := jl 58 (gs.map hex4)

theorem gt_parts {gs : List Nat} (h : ∀ g ∈ gs, g < 65536) : ∀ x ∈ gs.map hex4, partOk x := by
  intro x hx
  obtain ⟨g, hg, rfl⟩ := List.mem_map.1 hx
  exact ⟨hex4_nil _, fun c hc => (hex4_no (h g hg) c hc).1⟩

theorem gt_grp (t : Bool) : ∀ {gs : List Nat}, (∀ g ∈ gs, g < 65536) → grp t (gs.map hex4) = some gs
  | [], _ => by cases t <;> rfl
  | g :: r, h => by
    have hg := h g List.mem_cons_self
    have h4 : p4 (hex4 g) = none := by
      unfold p4
      rw [spl_none 46 (fun c hc => (hex4_no hg c hc).2), if_neg (by simp)]
    rw [List.map_cons, grp, h4, gt_grp t (fun x hx => h x (List.mem_cons_of_mem _ hx)), g16_hex hg]
    simp

theorem gt_nil {gs : List Nat} : (gtL gs).isEmpty = gs.isEmpty := by
  match gs with
  | [] => rfl
  | [g] => simpa [gtL, jl] using hex4_ne g
  | g :: h :: r => 
    unfold gtL
    rw [List.map_cons, List.map_cons, jl]
    cases hex4 g <;> rfl

theorem gt_grpS (t : Bool) {gs : List Nat} (h : ∀ g ∈ gs, g < 65536) : grpS t (gtL gs) = some gs := by
  unfold grpS
  rw [gt_nil]
  cases gs with
  | nil => rfl
  | cons g r =>
    simp only [List.isEmpty_cons, Bool.false_eq_true, if_false]
    unfold gtL
    rw [spl_jl 58 (by simp) (fun x hx => (gt_parts h x hx).2), gt_grp t h]

/-- An address as a text: where f < e noughts stand for the groups from f on, up to e. -/
def ip6T (w : List Nat) (f e : Nat) : List UInt8 := if e - f < 2 then gtL w else gtL (w.take f) ++ 58 :: 58 :: gtL (w.drop e)

theorem par6_gt {w : List Nat} (hl : w.length = 8) (h : ∀ g ∈ w, g < 65536) : par6 (gtL w) = some w := by
  unfold par6
  rw [show cut6L (gtL w) = none from cut_jl (gt_parts h)]
  simp only
  rw [gt_grpS true h]
  simp only [hl, if_true]

theorem par6_text {w : List Nat} {f e : Nat} (hl : w.length = 8) (h : ∀ g ∈ w, g < 65536) (he : e ≤ 8) (hz : ∀ i, f ≤ i → i < e → w.getD i 0 = 0) : par6 (ip6T w f e) = some w := by
  unfold ip6T
  split
  · exact par6_gt hl h
  · have h1 : ∀ g ∈ w.take f, g < 65536 := fun g hg => h g (List.mem_of_mem_take hg)
    have h2 : ∀ g ∈ w.drop e, g < 65536 := fun g hg => h g (List.mem_of_mem_drop hg)
    unfold par6
    rw [show cut6L (gtL (w.take f) ++ 58 :: 58 :: gtL (w.drop e)) = some (gtL (w.take f), gtL (w.drop e)) from cut_text _ (gt_parts h1)]
    simp only
    rw [gt_grpS false h1, gt_grpS true h2]
    simp only [List.length_take, List.length_drop]
    rw [if_pos (by omega)]
    congr 1
    unfold fill8
    apply List.ext_getElem
    · simp; omega
    · intro i i1 i2
      simp only [List.length_append, List.length_take, List.length_replicate, List.length_drop] at i1
      by_cases c1 : i < f
      · rw [List.getElem_append_left (by simp; omega), List.getElem_append_left (by simp; omega), List.getElem_take]
      · by_cases c2 : i < e
        · rw [List.getElem_append_left (by simp; omega), List.getElem_append_right (by simp; omega), List.getElem_replicate]
          have := hz i (by omega) c2
          rw [List.getD_eq_getElem?_getD, List.getElem?_eq_getElem (by omega)] at this
          exact this.symm
        · rw [List.getElem_append_right (by simp; omega), List.getElem_drop]
          congr 1
          simp
          omega

theorem gt_len : ∀ gs : List Nat, (gtL gs).length ≤ 5 * gs.length - 1 ∧ gs.length ≤ (gtL gs).length
  | [] => by simp [gtL, jl]
  | [g] => by have := hex4_len g; simp [gtL, jl]; omega
  | g :: h :: r => by
    have ih := gt_len (h :: r)
    have hg := hex4_len g
    unfold gtL at ih ⊢
    rw [List.map_cons, List.map_cons, jl, List.length_append, List.length_cons]
    rw [List.map_cons] at ih
    simp only [List.length_cons] at ih ⊢
    omega

theorem ip6_len {w : List Nat} {f e : Nat} (hl : w.length = 8) (he : e ≤ 8) : 2 ≤ (ip6T w f e).length ∧ (ip6T w f e).length ≤ 39 := by
  unfold ip6T
  have g1 := gt_len w
  have g2 := gt_len (w.take f)
  have g3 := gt_len (w.drop e)
  split
  · omega
  · simp only [List.length_append, List.length_cons, List.length_take, List.length_drop] at g2 g3 ⊢
    omega

/-- The longest row of noughts, the first of these, as the code finds it: where it begins and ends, and where the row at hand begins. -/
def rowI : Nat → Nat × Nat × Nat → List Bool → Nat × Nat × Nat
  | _, s, [] => s
  | i, (f, t, b), z :: r => rowI (i + 1) (if z then (if t - f < i + 1 - b then (b, i + 1, b) else (f, t, b)) else (f, t, i + 1)) r
def runZ : List Bool → Nat
  | true :: r => runZ r + 1
  | _ => 0
/-- As the specification finds it: 8 and 8 where there is none of two or more. -/
def rowS : Nat → Nat × Nat → List Bool → Nat × Nat
  | _, s, [] => s
  | a, (f, t), z :: r => rowS (a + 1) (if 1 < runZ (z :: r) ∧ t - f < runZ (z :: r) then (a, a + runZ (z :: r)) else (f, t)) r
def rowOkB (z : List Bool) : Bool :=
  let p := rowI 0 (0, 0, 0) z
  let q := rowS 0 (8, 8) z
  decide (p.1 ≤ p.2.1) && decide (p.2.1 ≤ 8) && (if p.2.1 - p.1 < 2 then decide (q = (8, 8)) else decide (q = (p.1, p.2.1)) && (List.range 8).all fun i => !(decide (p.1 ≤ i) && decide (i < p.2.1)) || z.getD i false)
theorem rows_ok : ∀ a b c d e f g h : Bool, rowOkB [a, b, c, d, e, f, g, h] = true := by decide +kernel
end Go.Proofs.YtamnhegianpedaaGreatDoor

namespace Go.Proofs.YtamnhegianpedaaGreatDoor
open Go.RowKit

/-- Where the first double colon stands, or -1. -/
def dblN : List UInt8 → Option Nat
  | [] => none
  | c :: r => if c = 58 ∧ r.head? = some 58 then some 0 else (dblN r).map (· + 1)

theorem dbl_cut : ∀ l, cut6L l = (dblN l).map fun k => (l.take k, l.drop (k + 2))
  | [] => rfl
  | c :: r => by
    rw [cut6L, dblN, dbl_cut r]
    split
    · cases r <;> simp
    · cases dblN r <;> simp

theorem dbl_lt : ∀ {l : List UInt8} {k : Nat}, dblN l = some k → k + 2 ≤ l.length
  | [], k, h => by cases h
  | c :: r, k, h => by
    rw [dblN] at h
    split at h
    · rename_i hc
      cases h
      cases r with
      | nil => simp at hc
      | cons d q => simp
    · cases hr : dblN r with
      | none => rw [hr] at h; cases h
      | some j =>
        rw [hr] at h
        cases h
        have := dbl_lt hr
        simp
        omega

theorem dbl_step (s : ByteArray) (k : Nat) (h : k + 1 < s.size) : dblN (s.data.toList.drop k) = if s[k].toNat = 58 ∧ s[k + 1].toNat = 58 then some 0 else (dblN (s.data.toList.drop (k + 1))).map (· + 1) := by
  have h1 : s.data.toList.drop k = s[k] :: s.data.toList.drop (k + 1) := List.drop_eq_getElem_cons (by simp; omega)
  have h2 : s.data.toList.drop (k + 1) = s[k + 1] :: s.data.toList.drop (k + 1 + 1) := List.drop_eq_getElem_cons (by simp; omega)
  rw [h1, dblN]
  have h3 : (s.data.toList.drop (k + 1)).head? = some s[k + 1] := by rw [h2]; rfl
  rw [h3]
  by_cases hc : s[k].toNat = 58 ∧ s[k + 1].toNat = 58
  · rw [if_pos hc, if_pos ⟨u8_is hc.1, by rw [u8_is (d := 58) hc.2]⟩]
  · rw [if_neg hc, if_neg]
    rintro ⟨a, b⟩
    apply hc
    injection b with b
    exact ⟨by rw [a]; rfl, by rw [b]; rfl⟩
theorem dbl_end (s : ByteArray) (k : Nat) (h : ¬ k + 1 < s.size) : dblN (s.data.toList.drop k) = none := by
  have hl : (s.data.toList.drop k).length ≤ 1 := by simp; omega
  match hd : s.data.toList.drop k, hl with
  | [], _ => rfl
  | [c], _ => simp [dblN]
  | _ :: _ :: _, hl => simp at hl

def dblZ (r : Option Nat) : Int := match r with
  | none => -1
  | some k => k

set_option maxHeartbeats 2000000 in
theorem specDouble (s : ByteArray) (w : World) (hs : s.size ≤ 1048576) :
    Calls Tryz.prog 52 #[.string s] w fun e w' => e = .returned (.int .i64 (dblZ (dblN s.data.toList))) ∧ Below w.heap.size w w' := by
  go_enter Tryz.func52, Tryz.ntmps52
  go_wp2
  go_loopw [3] (fun i wr => ∃ k : Nat, k ≤ s.size ∧ i = .int .i64 k ∧ dblN s.data.toList = (dblN (s.data.toList.drop k)).map (· + k) ∧ Below w.heap.size w wr) (fun i _ => s.size - (intOf i).toNat)
  case atStart => exact ⟨0, Nat.zero_le _, rfl, by simp, Below.refl _ _⟩
  case round =>
    obtain ⟨k, hk, rfl, hd, hbel⟩ := hrel
    have HD : Hid (dblN s.data.toList = (dblN (s.data.toList.drop k)).map (· + k)) := hd
    clear hd
    by_cases hlt : k + 1 < s.size
    · obtain ⟨c, hc⟩ : ∃ c : Nat, s[k].toNat = c := ⟨_, rfl⟩
      obtain ⟨d, hd⟩ : ∃ d : Nat, s[k + 1].toNat = d := ⟨_, rfl⟩
      have HS : Hid (dblN (s.data.toList.drop k) = if c = 58 ∧ d = 58 then some 0 else (dblN (s.data.toList.drop (k + 1))).map (· + 1)) := by
        show _ = _
        rw [dbl_step s k hlt, hc, hd]
      have hki : (k : Int) + 1 < (s.size : Int) := by omega
      by_cases hcd : c = 58 ∧ d = 58
      · have HZ : Hid (dblN s.data.toList = some k) := by
          show _ = _
          rw [HD.out, HS.out, if_pos hcd]
          simp
        obtain ⟨rfl, rfl⟩ := hcd
        go_wp2_with fail
        go_ret
        exact ⟨by rw [HZ.out]; rfl, hbel⟩
      · have HG : Hid (dblN s.data.toList = (dblN (s.data.toList.drop (k + 1))).map (· + (k + 1))) := by
          show _ = _
          rw [HD.out, HS.out, if_neg hcd]
          cases dblN (s.data.toList.drop (k + 1)) <;> simp <;> omega
        by_cases hc5 : c = 58
        · have hd5 : ((d : Int) == 58) = false := by simp; omega
          subst hc5
          clear hcd
          go_wp2_with fail
          go_roundw
          case rel => exact ⟨k + 1, by omega, by go_num, HG.out, hbel⟩
          case measure => simp [intOf]; omega
        · have hc5' : ((c : Int) == 58) = false := by simp; omega
          clear hcd hc5
          go_wp2_with fail
          go_roundw
          case rel => exact ⟨k + 1, by omega, by go_num, HG.out, hbel⟩
          case measure => simp [intOf]; omega
    · have HZ : Hid (dblN s.data.toList = none) := by
        show _ = _
        rw [HD.out, dbl_end s k hlt]
        rfl
      have hki : ¬ (k : Int) + 1 < (s.size : Int) := by omega
      go_wp2_with fail
      go_ret
      exact ⟨by rw [HZ.out]; rfl, hbel⟩
end Go.Proofs.YtamnhegianpedaaGreatDoor

namespace Go.Proofs.YtamnhegianpedaaGreatDoor
open Go.RowKit

theorem Tryz.infoI5 : (Tryz.prog.info? 3).map (fun i => (i.zero, i.size, i.bytes)) = some (some (.int .i64 0), 1, 8) := by kernel_rfl

def toI (gs : List Nat) : List Int := gs.map (fun n : Nat => (n : Int))
theorem toI_snoc (gs : List Nat) (n : Nat) : toI (gs ++ [n]) = toI gs ++ [(n : Int)] := by simp [toI]
theorem toI_len (gs : List Nat) : (toI gs).length = gs.length := by simp [toI]

/-- What is answered of groups: the row, and whether they are. -/
def grpAns (w w' : World) (r : Option (List Nat)) (e : Ending) : Prop :=
  ∃ (v : Value) (l : List Nat), e = .returned (.tuple #[v, .bool r.isSome]) ∧ w'.ownsRow w.heap.size 3 1 v l.length (icells (toI l)) ∧ l.length ≤ 1048580 ∧ ∀ gs, r = some gs → l = gs

theorem grp_step (t : Bool) (fs : List ByteArray) (k : Nat) (h : k < fs.length) : grp t ((fs.drop k).map toL) = match (if t = true ∧ k + 1 = fs.length then p4 (toL (fs.getD k ByteArray.empty)) else none) with
    | some n => some [n / 65536, n % 65536]
    | none => match g16 (toL (fs.getD k ByteArray.empty)) with
      | none => none
      | some v => (grp t ((fs.drop (k + 1)).map toL)).map (v :: ·) := by
  rw [drop_bytes fs k h, List.map_cons, grp]
  have e : (t && ((fs.drop (k + 1)).map toL).isEmpty) = decide (t = true ∧ k + 1 = fs.length) := by
    have e2 : ((fs.drop (k + 1)).map toL).isEmpty = decide (k + 1 = fs.length) := by
      by_cases h2 : k + 1 = fs.length
      · rw [decide_eq_true h2, List.drop_of_length_le (by omega)]; rfl
      · rw [decide_eq_false h2, drop_bytes fs (k + 1) (by omega)]; rfl
    rw [e2]
    cases t <;> simp
  rw [e]
  by_cases c : t = true ∧ k + 1 = fs.length
  · rw [decide_eq_true c, if_pos c]; rfl
  · rw [decide_eq_false c, if_neg c]; rfl
theorem grp_end (t : Bool) (fs : List ByteArray) (k : Nat) (h : ¬ k < fs.length) : grp t ((fs.drop k).map toL) = some [] := by
  rw [List.drop_of_length_le (by omega)]; rfl
theorem g16_nil {y : ByteArray} (h : y.size = 0) : g16 (toL y) = none := by
  have : toL y = [] := List.eq_nil_of_length_eq_zero (by simpa [toL] using h)
  rw [this]; rfl
theorem g16_num {y : ByteArray} (h : 0 < y.size) : g16 (toL y) = numL 16 4 (toL y) := by
  unfold g16
  rw [show (toL y).isEmpty = false by unfold toL; rw [toL_one y h]; rfl]
  rfl
theorem g16_lt {l : List UInt8} {v : Nat} (h : numL 16 4 l = some v) : v < 65536 := by
  have key : ∀ (l : List UInt8) (n : Nat) (m v : Nat), n < 16 ^ m → digF 16 n l = some v → v < 16 ^ (m + l.length) := by
    intro l
    induction l with
    | nil => intro n m v hn h; cases h; simpa using hn
    | cons c r ih =>
      intro n m v hn h
      rw [digF] at h
      split at h
      · rename_i hc
        have := ih _ (m + 1) v (pow_room (base := 16) (by omega) (by omega) hn) h
        rw [List.length_cons, show m + (r.length + 1) = m + 1 + r.length by omega]
        exact this
      · cases h
  unfold numL at h
  split at h
  · rename_i hl
    have h1 := key l 0 0 v (by decide) h
    exact Nat.lt_of_lt_of_le h1 (Nat.le_trans (Nat.pow_le_pow_right (n := 16) (j := 4) (by decide) (by omega)) (by decide))
  · cases h

theorem grpS_nil {t : Bool} {s : ByteArray} (h : s.size = 0) : grpS t s.data.toList = some [] := by
  have : s.data.toList = [] := List.eq_nil_of_length_eq_zero (by simpa using h)
  rw [this]; rfl
theorem grpS_fields {t : Bool} {s : ByteArray} (h : 0 < s.size) : grpS t s.data.toList = grp t ((fieldsL s 58).map toL) := by
  unfold grpS
  rw [show s.data.toList.isEmpty = false by rw [toL_one s h]; rfl, fieldsL_58]
  rfl

theorem fields_sizes58 (s : ByteArray) (hs : s.size ≤ 1048576) : ∀ x ∈ fieldsL s 58, x.size ≤ 1048576 := fun x hx => Nat.le_trans (fieldsL_sizes s 58 x hx) hs


set_option maxRecDepth 20000 in
set_option maxHeartbeats 8000000 in
theorem specGroups (s : ByteArray) (t : Bool) (w : World) (hs : s.size ≤ 1048576) :
    Calls Tryz.prog 53 #[.string s, .bool t] w fun e w' => grpAns w w' (grpS t s.data.toList) e ∧ Below w.heap.size w w' := by
  have HO : (w.alloc (.cells #[] 3)).ownsRow w.heap.size 3 1 (.slice (some ⟨w.heap.size, 0, none⟩) 0 0) 0 [] := World.ownsRow_lit w #[] 0 (Nat.le_refl _) (by decide) rfl
  by_cases h0 : s.size = 0
  · have hem := empty_yes h0
    have HZ : Hid (grpS t s.data.toList = some []) := grpS_nil h0
    clear h0
    go_enter Tryz.func53, Tryz.ntmps53
    go_wp2_with fail
    go_ret2
    exact ⟨⟨_, [], by rw [HZ.out]; rfl, HO, by simp, fun gs h => by rw [HZ.out] at h; cases h; rfl⟩, (Below.refl _ _).alloc (Nat.le_refl _) _⟩
  · have hp : 0 < s.size := by omega
    have hem := empty_no hp
    have HF : Hid (grpS t s.data.toList = grp t ((fieldsL s 58).map toL)) := grpS_fields hp
    have hpos : 0 < (fieldsL s 58).length := by simp [fieldsL]
    have hlen : (fieldsL s 58).length ≤ 1048577 := by
      have := (fieldsTo_le s 58 s.size).2
      simp [fieldsL]; omega
    have HSZ : Hid (∀ x ∈ fieldsL s 58, x.size ≤ 1048576) := fields_sizes58 s hs
    have CF : Hid (∀ W, Calls Tryz.prog 42 #[.string s, .int .u8 58] W fun e w' => ∃ v, e = .returned v ∧ w'.ownsRow W.heap.size 9 1 v (fieldsL s 58).length (scells (fieldsL s 58)) ∧ Below W.heap.size W w') := fun W => specFields s 58 W hs
    generalize fieldsL s 58 = fs at HF hpos hlen HSZ CF
    clear h0
    go_enter Tryz.func53, Tryz.ntmps53
    go_wp2_with fail
    refine (CF.out _).mono ?_
    rintro e wa ⟨va, rfl, oa, ba⟩
    have OA := own_below HO ba
    rcases own_shape oa with ⟨h, _⟩ | ⟨_, g, cap, rfl⟩
    · omega
    · have hg := (oa.lt g rfl).1
      have hg2 := (oa.lt g rfl).2
      have B0 : Below w.heap.size w wa := ((Below.refl _ w).alloc (Nat.le_refl _) _).trans (ba.mono (by simp))
      have HC0 : Hid (∀ j, j < fs.length → wa.cell? ⟨g, j, none⟩ = some (.string (fs.getD j ByteArray.empty))) := fun j hj => scell_at oa j hj
      clear ba HO oa CF
      go_wp2_with fail
      go_loopw [6, 8] (fun v i wr => ∃ (k : Nat) (acc : List Nat), k ≤ fs.length ∧ i = .int .i64 k ∧ acc.length ≤ k ∧ grp t (fs.map toL) = (grp t ((fs.drop k).map toL)).map (acc ++ ·) ∧ wr.ownsRow w.heap.size 3 1 v acc.length (icells (toI acc)) ∧ (∀ j, j < fs.length → wr.cell? ⟨g, j, none⟩ = some (.string (fs.getD j ByteArray.empty))) ∧ some g ≠ v.ownBlock ∧ g < wr.heap.size ∧ Below w.heap.size w wr)
        (fun _ i _ => fs.length - (intOf i).toNat)
      case atStart =>
        refine ⟨0, [], Nat.zero_le _, rfl, by simp, by simp, OA, HC0.out, ?_, hg2, B0⟩
        simp [Value.ownBlock]
        simp at hg
        omega
      case round =>
        obtain ⟨k, acc, hk, rfl, hal, hr, ow, hcell, hne, hgl, hbel⟩ := hrel
        have HR : Hid (grp t (fs.map toL) = (grp t ((fs.drop k).map toL)).map (acc ++ ·)) := hr
        have HCL : Hid (∀ j, j < fs.length → wr.cell? ⟨g, j, none⟩ = some (.string (fs.getD j ByteArray.empty))) := hcell
        have hsz := hbel.size
        clear hr OA B0 HC0
        by_cases hlt : k < fs.length
        · have hc := hcell k hlt
          have hsy := HSZ.out _ (mem_getD (k := k) hlt)
          have HS : Hid (_ = _) := grp_step t fs k hlt
          have CP : Hid (∀ W, Calls Tryz.prog 81 #[.string (fs.getD k ByteArray.empty)] W fun e w' => e = .returned (numA (p4 (toL (fs.getD k ByteArray.empty)))) ∧ Below W.heap.size W w') := fun W => specParseIp4 _ W hsy
          have CN : Hid (∀ W, Calls Tryz.prog 82 #[.string (fs.getD k ByteArray.empty), .int .i64 16, .int .i64 4] W fun e w' => e = .returned (.int .i64 (numZ (numL 16 4 (toL (fs.getD k ByteArray.empty))))) ∧ W = w') := fun W => spec5Number _ 16 4 W (by omega) (by omega)
          have HCK : Hid (∀ W, Below wr.heap.size wr W → W.cell? ⟨g, k, none⟩ = some (.string (fs.getD k ByteArray.empty))) := fun W hb => cell_later hb (HCL.out k hlt)
          clear hcell
          generalize fs.getD k ByteArray.empty = y at hc hsy HS CP CN HCK
          have hki : (k : Int) < (fs.length : Int) := by omega
          clear hsy
          go_wp2_with fail
          refine (CP.out _).mono ?_
          rintro e wb ⟨rfl, bb⟩
          have hcb := HCK.out _ bb
          have o2 := own_below ow bb
          have B2 := hbel.trans (bb.mono hsz)
          have z2 := B2.size
          have hgl2 : g < wb.heap.size := Nat.lt_of_lt_of_le hgl bb.size
          have HC2 : Hid (∀ j, j < fs.length → wb.cell? ⟨g, j, none⟩ = some (.string (fs.getD j ByteArray.empty))) := fun j hj => cell_later bb (HCL.out j hj)
          clear hc ow hbel bb HCL HCK
          cases hp4 : p4 (toL y) with
          | none =>
            have HN0 : Hid ((if t = true ∧ k + 1 = fs.length then p4 (toL y) else none) = none) := by
              show _ = _
              rw [hp4]
              split <;> rfl
            clear hp4
            simp only [numA]
            by_cases he : y.size = 0
            · have HZ : Hid (grpS t s.data.toList = none) := by
                show _ = _
                rw [HF.out, HR.out, HS.out, HN0.out, g16_nil he]
                rfl
              have hem := empty_yes he
              clear he
              generalize numZ (numL 16 4 (toL y)) = zz at CN
              go_wp2_with fail
              refine (CN.out _).mono ?_
              rintro e w' ⟨rfl, rfl⟩
              go_wp2_with fail
              go_ret2
              exact ⟨⟨_, acc, by rw [HZ.out]; rfl, o2, by omega, fun gs h => by rw [HZ.out] at h; cases h⟩, B2⟩
            · have hpy : 0 < y.size := by omega
              have hem := empty_no hpy
              have HS1 : Hid (g16 (toL y) = numL 16 4 (toL y)) := g16_num hpy
              clear he
              cases hv : numL 16 4 (toL y) with
              | none =>
                rw [hv] at CN HS1
                have HZ : Hid (grpS t s.data.toList = none) := by
                  show _ = _
                  rw [HF.out, HR.out, HS.out, HN0.out, HS1.out]
                  rfl
                clear hv
                go_wp2_with fail
                refine (CN.out _).mono ?_
                rintro e w' ⟨rfl, rfl⟩
                simp only [numZ]
                go_wp2_with fail
                go_ret2
                exact ⟨⟨_, acc, by rw [HZ.out]; rfl, o2, by omega, fun gs h => by rw [HZ.out] at h; cases h⟩, B2⟩
              | some v =>
                have hvl := g16_lt hv
                rw [hv] at CN HS1
                have HG : Hid (grp t (fs.map toL) = (grp t ((fs.drop (k + 1)).map toL)).map ((acc ++ [v]) ++ ·)) := by
                  show _ = _
                  rw [HR.out, HS.out, HN0.out, HS1.out]
                  simp only
                  cases grp t ((fs.drop (k + 1)).map toL) <;> simp
                clear hv
                obtain ⟨x, hx⟩ : ∃ x : Int, (v : Int) = x := ⟨_, rfl⟩
                have HX : Hid ((v : Int) = x) := hx
                have hx0 : ¬ x < 0 := by omega
                clear hx hvl
                go_wp2_with fail
                refine (CN.out _).mono ?_
                rintro e w' ⟨rfl, rfl⟩
                simp only [numZ]
                rw [HX.out]
                go_wp2_with (at_builtin; refine wpList_append_newAt _ rfl _ _ 67 rfl w.heap.size 3 (.int .i64 0) 8 Tryz.underlying67 Tryz.infoI5 rfl _ _ _ rfl o2 #[.int .i64 x] 1 rfl rfl (by intro u hu; simp at hu; subst hu; rfl) (by omega) (by unfold maxLen; omega) z2 ?_)
                intro v' w1 ow' gr hat
                have R : w1.ownsRow w.heap.size 3 1 v' (acc ++ [v]).length (icells (toI (acc ++ [v]))) := by
                  rw [toI_snoc, HX.out, icells_snoc, List.length_append]
                  exact ow'
                have B3 : Below w.heap.size w w1 := B2.grown gr z2 (fun k hk => (o2.lt k hk).1)
                have hgw : w1.heap[g]? = wb.heap[g]? := gr.block g hgl2 hne
                have C1 : Hid (∀ j, j < fs.length → w1.cell? ⟨g, j, none⟩ = some (.string (fs.getD j ByteArray.empty))) := fun j hj =>
                  (World.cell?_of_block (w := wb) (a := ⟨g, j, none⟩) hgw).trans (HC2.out j hj)
                have hne1 : some g ≠ v'.ownBlock := by
                  rcases hat with h | h
                  · rw [h]; exact hne
                  · rw [h]; intro h2; cases h2; omega
                have hgl1 : g < w1.heap.size := Nat.lt_of_lt_of_le hgl2 gr.size
                clear o2 ow' gr hat B2 hgw HC2
                go_wp2_with fail
                go_roundw
                case rel => exact ⟨k + 1, acc ++ [v], by omega, by go_num, by rw [List.length_append]; simp; omega, HG.out, R, C1.out, hne1, hgl1, B3⟩
                case measure => simp [intOf]; omega
          | some n =>
            have hn4 := (p4_some hp4).1
            by_cases hit : t = true ∧ k + 1 = fs.length
            · obtain ⟨rfl, hk1⟩ := hit
              have HZ : Hid (grpS true s.data.toList = some (acc ++ [n / 65536, n % 65536])) := by
                show _ = _
                rw [HF.out, HR.out, HS.out, if_pos ⟨rfl, hk1⟩, hp4]
                rfl
              have hkq : ((k : Int) == (fs.length : Int) - 1) = true := by simp; omega
              obtain ⟨x, hx⟩ : ∃ x : Int, (n : Int) = x := ⟨_, rfl⟩
              have HX : Hid ((n : Int) = x) := hx
              have hx0 : 0 ≤ x := by omega
              have hx1 : x < 4294967296 := by omega
              have b2 : bits .and .i64 x 65535 = x % 65536 := i64_low 16 65535 rfl _ (by omega) (by omega) (by decide)
              clear hp4 hn4 hx
              simp only [numA]
              rw [HX.out]
              go_wp2_with (at_builtin; refine wpList_append_new _ rfl _ _ 67 rfl w.heap.size 3 (.int .i64 0) 8 Tryz.underlying67 Tryz.infoI5 rfl _ _ _ rfl o2 #[.int .i64 (x / 65536), .int .i64 (x % 65536)] 2 rfl rfl (by intro u hu; simp at hu; rcases hu with rfl | rfl <;> rfl) (by omega) (by unfold maxLen; omega) z2 ?_)
              intro v' w1 ow' b3
              have R : w1.ownsRow w.heap.size 3 1 v' (acc ++ [n / 65536, n % 65536]).length (icells (toI (acc ++ [n / 65536, n % 65536]))) := by
                have e1 : ((n / 65536 : Nat) : Int) = x / 65536 := by have := HX.out; omega
                have e2 : ((n % 65536 : Nat) : Int) = x % 65536 := by have := HX.out; omega
                have e3 : icells (toI (acc ++ [n / 65536, n % 65536])) = icells (toI acc) ++ [.int .i64 (x / 65536), .int .i64 (x % 65536)] := by
                  simp only [toI, icells, List.map_append, List.map_cons, List.map_nil, e1, e2]
                rw [e3, List.length_append]
                exact ow'
              have B3 := B2.trans b3
              clear ow' b3 o2 B2
              go_wp2_with fail
              go_ret2
              exact ⟨⟨_, _, by rw [HZ.out]; rfl, R, by rw [List.length_append]; simp; omega, fun gs h => by rw [HZ.out] at h; cases h; rfl⟩, B3⟩
            · have HN0 : Hid ((if t = true ∧ k + 1 = fs.length then p4 (toL y) else none) = none) := by
                show _ = _
                rw [if_neg hit]
              clear hp4 hn4
              simp only [numA]
              cases t with
              | false =>
                clear hit
                by_cases he : y.size = 0
                · have HZ : Hid (grpS false s.data.toList = none) := by
                    show _ = _
                    rw [HF.out, HR.out, HS.out, HN0.out, g16_nil he]
                    rfl
                  have hem := empty_yes he
                  clear he
                  generalize numZ (numL 16 4 (toL y)) = zz at CN
                  go_wp2_with fail
                  refine (CN.out _).mono ?_
                  rintro e w' ⟨rfl, rfl⟩
                  go_wp2_with fail
                  go_ret2
                  exact ⟨⟨_, acc, by rw [HZ.out]; rfl, o2, by omega, fun gs h => by rw [HZ.out] at h; cases h⟩, B2⟩
                · have hpy : 0 < y.size := by omega
                  have hem := empty_no hpy
                  have HS1 : Hid (g16 (toL y) = numL 16 4 (toL y)) := g16_num hpy
                  clear he
                  cases hv : numL 16 4 (toL y) with
                  | none =>
                    rw [hv] at CN HS1
                    have HZ : Hid (grpS false s.data.toList = none) := by
                      show _ = _
                      rw [HF.out, HR.out, HS.out, HN0.out, HS1.out]
                      rfl
                    clear hv
                    go_wp2_with fail
                    refine (CN.out _).mono ?_
                    rintro e w' ⟨rfl, rfl⟩
                    simp only [numZ]
                    go_wp2_with fail
                    go_ret2
                    exact ⟨⟨_, acc, by rw [HZ.out]; rfl, o2, by omega, fun gs h => by rw [HZ.out] at h; cases h⟩, B2⟩
                  | some v =>
                    have hvl := g16_lt hv
                    rw [hv] at CN HS1
                    have HG : Hid (grp false (fs.map toL) = (grp false ((fs.drop (k + 1)).map toL)).map ((acc ++ [v]) ++ ·)) := by
                      show _ = _
                      rw [HR.out, HS.out, HN0.out, HS1.out]
                      simp only
                      cases grp false ((fs.drop (k + 1)).map toL) <;> simp
                    clear hv
                    obtain ⟨x, hx⟩ : ∃ x : Int, (v : Int) = x := ⟨_, rfl⟩
                    have HX : Hid ((v : Int) = x) := hx
                    have hx0 : ¬ x < 0 := by omega
                    clear hx hvl
                    go_wp2_with fail
                    refine (CN.out _).mono ?_
                    rintro e w' ⟨rfl, rfl⟩
                    simp only [numZ]
                    rw [HX.out]
                    go_wp2_with (at_builtin; refine wpList_append_newAt _ rfl _ _ 67 rfl w.heap.size 3 (.int .i64 0) 8 Tryz.underlying67 Tryz.infoI5 rfl _ _ _ rfl o2 #[.int .i64 x] 1 rfl rfl (by intro u hu; simp at hu; subst hu; rfl) (by omega) (by unfold maxLen; omega) z2 ?_)
                    intro v' w1 ow' gr hat
                    have R : w1.ownsRow w.heap.size 3 1 v' (acc ++ [v]).length (icells (toI (acc ++ [v]))) := by
                      rw [toI_snoc, HX.out, icells_snoc, List.length_append]
                      exact ow'
                    have B3 : Below w.heap.size w w1 := B2.grown gr z2 (fun k hk => (o2.lt k hk).1)
                    have hgw : w1.heap[g]? = wb.heap[g]? := gr.block g hgl2 hne
                    have C1 : Hid (∀ j, j < fs.length → w1.cell? ⟨g, j, none⟩ = some (.string (fs.getD j ByteArray.empty))) := fun j hj =>
                      (World.cell?_of_block (w := wb) (a := ⟨g, j, none⟩) hgw).trans (HC2.out j hj)
                    have hne1 : some g ≠ v'.ownBlock := by
                      rcases hat with h | h
                      · rw [h]; exact hne
                      · rw [h]; intro h2; cases h2; omega
                    have hgl1 : g < w1.heap.size := Nat.lt_of_lt_of_le hgl2 gr.size
                    clear o2 ow' gr hat B2 hgw HC2
                    go_wp2_with fail
                    go_roundw
                    case rel => exact ⟨k + 1, acc ++ [v], by omega, by go_num, by rw [List.length_append]; simp; omega, HG.out, R, C1.out, hne1, hgl1, B3⟩
                    case measure => simp [intOf]; omega
              | true =>
                have hkq : ((k : Int) == (fs.length : Int) - 1) = false := by
                  have h2 : ¬ k + 1 = fs.length := fun h => hit ⟨rfl, h⟩
                  simp
                  omega
                clear hit
                by_cases he : y.size = 0
                · have HZ : Hid (grpS true s.data.toList = none) := by
                    show _ = _
                    rw [HF.out, HR.out, HS.out, HN0.out, g16_nil he]
                    rfl
                  have hem := empty_yes he
                  clear he
                  generalize numZ (numL 16 4 (toL y)) = zz at CN
                  go_wp2_with fail
                  refine (CN.out _).mono ?_
                  rintro e w' ⟨rfl, rfl⟩
                  go_wp2_with fail
                  go_ret2
                  exact ⟨⟨_, acc, by rw [HZ.out]; rfl, o2, by omega, fun gs h => by rw [HZ.out] at h; cases h⟩, B2⟩
                · have hpy : 0 < y.size := by omega
                  have hem := empty_no hpy
                  have HS1 : Hid (g16 (toL y) = numL 16 4 (toL y)) := g16_num hpy
                  clear he
                  cases hv : numL 16 4 (toL y) with
                  | none =>
                    rw [hv] at CN HS1
                    have HZ : Hid (grpS true s.data.toList = none) := by
                      show _ = _
                      rw [HF.out, HR.out, HS.out, HN0.out, HS1.out]
                      rfl
                    clear hv
                    go_wp2_with fail
                    refine (CN.out _).mono ?_
                    rintro e w' ⟨rfl, rfl⟩
                    simp only [numZ]
                    go_wp2_with fail
                    go_ret2
                    exact ⟨⟨_, acc, by rw [HZ.out]; rfl, o2, by omega, fun gs h => by rw [HZ.out] at h; cases h⟩, B2⟩
                  | some v =>
                    have hvl := g16_lt hv
                    rw [hv] at CN HS1
                    have HG : Hid (grp true (fs.map toL) = (grp true ((fs.drop (k + 1)).map toL)).map ((acc ++ [v]) ++ ·)) := by
                      show _ = _
                      rw [HR.out, HS.out, HN0.out, HS1.out]
                      simp only
                      cases grp true ((fs.drop (k + 1)).map toL) <;> simp
                    clear hv
                    obtain ⟨x, hx⟩ : ∃ x : Int, (v : Int) = x := ⟨_, rfl⟩
                    have HX : Hid ((v : Int) = x) := hx
                    have hx0 : ¬ x < 0 := by omega
                    clear hx hvl
                    go_wp2_with fail
                    refine (CN.out _).mono ?_
                    rintro e w' ⟨rfl, rfl⟩
                    simp only [numZ]
                    rw [HX.out]
                    go_wp2_with (at_builtin; refine wpList_append_newAt _ rfl _ _ 67 rfl w.heap.size 3 (.int .i64 0) 8 Tryz.underlying67 Tryz.infoI5 rfl _ _ _ rfl o2 #[.int .i64 x] 1 rfl rfl (by intro u hu; simp at hu; subst hu; rfl) (by omega) (by unfold maxLen; omega) z2 ?_)
                    intro v' w1 ow' gr hat
                    have R : w1.ownsRow w.heap.size 3 1 v' (acc ++ [v]).length (icells (toI (acc ++ [v]))) := by
                      rw [toI_snoc, HX.out, icells_snoc, List.length_append]
                      exact ow'
                    have B3 : Below w.heap.size w w1 := B2.grown gr z2 (fun k hk => (o2.lt k hk).1)
                    have hgw : w1.heap[g]? = wb.heap[g]? := gr.block g hgl2 hne
                    have C1 : Hid (∀ j, j < fs.length → w1.cell? ⟨g, j, none⟩ = some (.string (fs.getD j ByteArray.empty))) := fun j hj =>
                      (World.cell?_of_block (w := wb) (a := ⟨g, j, none⟩) hgw).trans (HC2.out j hj)
                    have hne1 : some g ≠ v'.ownBlock := by
                      rcases hat with h | h
                      · rw [h]; exact hne
                      · rw [h]; intro h2; cases h2; omega
                    have hgl1 : g < w1.heap.size := Nat.lt_of_lt_of_le hgl2 gr.size
                    clear o2 ow' gr hat B2 hgw HC2
                    go_wp2_with fail
                    go_roundw
                    case rel => exact ⟨k + 1, acc ++ [v], by omega, by go_num, by rw [List.length_append]; simp; omega, HG.out, R, C1.out, hne1, hgl1, B3⟩
                    case measure => simp [intOf]; omega
        · have HZ : Hid (grpS t s.data.toList = some acc) := by
            show _ = _
            rw [HF.out, HR.out, grp_end t fs k hlt]
            simp
          have hki : ¬ (k : Int) < (fs.length : Int) := by omega
          clear hcell HCL
          go_wp2_with fail
          go_ret2
          exact ⟨⟨_, acc, by rw [HZ.out]; rfl, ow, by omega, fun gs h => by rw [HZ.out] at h; cases h; rfl⟩, hbel⟩
end Go.Proofs.YtamnhegianpedaaGreatDoor

namespace Go.Proofs.YtamnhegianpedaaGreatDoor
open Go.RowKit

def okG (z : List Int) : Bool := z.all fun x => decide (0 ≤ x ∧ x ≤ 65535)
def zb (z : List Int) : List Bool := z.map fun x => decide (x = 0)
theorem okG_no {z : List Int} {y : Int} (hy : y ∈ z) (h : ¬ (0 ≤ y ∧ y ≤ 65535)) : okG z = false := List.all_eq_false.2 ⟨y, hy, by simpa using h⟩
theorem okG_yes {z : List Int} (h : ∀ x ∈ z, 0 ≤ x ∧ x ≤ 65535) : okG z = true := List.all_eq_true.2 fun x hx => decide_eq_true (h x hx)

theorem index8 (x0 x1 x2 x3 x4 x5 x6 x7 : Int) (k : Nat) (hk : k < 8) (W : World) :
    (Instr.index 24 (.agg #[.int .i64 x0, .int .i64 x1, .int .i64 x2, .int .i64 x3, .int .i64 x4, .int .i64 x5, .int .i64 x6, .int .i64 x7]) (.int .i64 (k : Int))).run Tryz.prog W = .ok (.int .i64 ([x0, x1, x2, x3, x4, x5, x6, x7].getD k 0)) W := by
  have h : k = 0 ∨ k = 1 ∨ k = 2 ∨ k = 3 ∨ k = 4 ∨ k = 5 ∨ k = 6 ∨ k = 7 := by omega
  rcases h with rfl | rfl | rfl | rfl | rfl | rfl | rfl | rfl <;> simp [Instr.index, run_underlying Tryz.underlying24, asIntOf, go_sem, part, Tryz.sizeOf3, Tryz.isAgg3]

theorem cell8 (w : World) (x0 x1 x2 x3 x4 x5 x6 x7 : Int) (k : Nat) (hk : k < 8) :
    (w.alloc (.cells #[.int .i64 x0, .int .i64 x1, .int .i64 x2, .int .i64 x3, .int .i64 x4, .int .i64 x5, .int .i64 x6, .int .i64 x7] 24)).cell? ⟨w.heap.size, k, none⟩ = some (.int .i64 ([x0, x1, x2, x3, x4, x5, x6, x7].getD k 0)) := by
  rw [World.cell?_alloc_at _ _ _ _ rfl]
  have h : k = 0 ∨ k = 1 ∨ k = 2 ∨ k = 3 ∨ k = 4 ∨ k = 5 ∨ k = 6 ∨ k = 7 := by omega
  rcases h with rfl | rfl | rfl | rfl | rfl | rfl | rfl | rfl <;> rfl

set_option maxHeartbeats 1000000 in
theorem implGroupsOk (x0 x1 x2 x3 x4 x5 x6 x7 : Int) (w : World) :
    Calls Tryz.prog 65 #[.agg #[.int .i64 x0, .int .i64 x1, .int .i64 x2, .int .i64 x3, .int .i64 x4, .int .i64 x5, .int .i64 x6, .int .i64 x7]] w fun e w' => e = .returned (.bool (okG [x0, x1, x2, x3, x4, x5, x6, x7])) ∧ Below w.heap.size w w' := by
  have HI : Hid (∀ k W, k < 8 → _) := fun k W hk => index8 x0 x1 x2 x3 x4 x5 x6 x7 k hk W
  generalize hz : [x0, x1, x2, x3, x4, x5, x6, x7] = z at HI ⊢
  have hzl : z.length = 8 := by rw [← hz]; rfl
  clear hz
  have HZL : Hid (z.length = 8) := hzl
  clear hzl
  go_enter Tryz.func65, Tryz.ntmps65
  go_wp2
  go_loop [6] (fun i => ∃ k : Nat, k ≤ 8 ∧ i = .int .i64 k ∧ ∀ x ∈ z.take k, 0 ≤ x ∧ x ≤ 65535) (fun i => 8 - (intOf i).toNat)
  case atStart => exact ⟨0, by omega, rfl, fun x hx => by simp at hx⟩
  case round =>
    obtain ⟨k, hk, rfl, hall⟩ := hrel
    have HA : Hid (∀ x ∈ z.take k, 0 ≤ x ∧ x ≤ 65535) := hall
    clear hall
    by_cases hlt : k < 8
    · have hix := fun W => HI.out k W hlt
      have HT : Hid (z.take (k + 1) = z.take k ++ [z.getD k 0]) := ztake_snoc z k (by have := HZL.out; omega)
      have HM : Hid (z.getD k 0 ∈ z) := by
        show _ ∈ _
        rw [List.getD_eq_getElem?_getD, List.getElem?_eq_getElem (by have := HZL.out; omega)]
        exact List.getElem_mem _
      generalize z.getD k 0 = y at hix HT HM
      by_cases hy : 0 ≤ y ∧ y ≤ 65535
      · obtain ⟨hy0, hy1⟩ := hy
        go_wp2_with fail
        go_round
        case rel =>
          refine ⟨k + 1, by omega, by go_num, fun x hx => ?_⟩
          rw [HT.out] at hx
          rcases List.mem_append.1 hx with h | h
          · exact HA.out x h
          · rw [List.mem_singleton.1 h]; exact ⟨hy0, hy1⟩
        case measure => simp [intOf]; omega
      · have HF : Hid (okG z = false) := okG_no HM.out hy
        by_cases hy0 : y < 0
        · clear hy
          go_wp2_with fail
          go_ret
          exact ⟨by rw [HF.out]; rfl, (Below.refl _ _).alloc (Nat.le_refl _) _⟩
        · have hy1 : 65535 < y := by omega
          clear hy
          go_wp2_with fail
          go_ret
          exact ⟨by rw [HF.out]; rfl, (Below.refl _ _).alloc (Nat.le_refl _) _⟩
    · have HF : Hid (okG z = true) := okG_yes fun x hx => HA.out x (by rw [List.take_of_length_le (by have := HZL.out; omega)]; exact hx)
      go_wp2_with fail
      go_ret
      exact ⟨by rw [HF.out]; rfl, (Below.refl _ _).alloc (Nat.le_refl _) _⟩

theorem zb_drop (z : List Int) (k : Nat) (h : k < z.length) : (zb z).drop k = decide (z.getD k 0 = 0) :: (zb z).drop (k + 1) := by
  unfold zb
  rw [List.drop_eq_getElem_cons (by simpa using h)]
  simp [List.getD, h]
theorem zb_end (z : List Int) (k : Nat) (h : z.length ≤ k) : (zb z).drop k = [] := List.drop_of_length_le (by simpa [zb] using h)
theorem rowI_step (k f t b : Nat) (z : List Int) (h : k < z.length) : rowI k (f, t, b) ((zb z).drop k) = rowI (k + 1) (if z.getD k 0 = 0 then (if t - f < k + 1 - b then (b, k + 1, b) else (f, t, b)) else (f, t, k + 1)) ((zb z).drop (k + 1)) := by
  rw [zb_drop z k h, rowI]
  by_cases h0 : z.getD k 0 = 0
  · rw [if_pos h0, decide_eq_true h0]; rfl
  · rw [if_neg h0, decide_eq_false h0]; rfl
def rowV (r : Nat × Nat × Nat) : Value := .tuple #[.int .i64 (r.1 : Int), .int .i64 (r.2.1 : Int)]

set_option maxHeartbeats 2000000 in
theorem implLongest (x0 x1 x2 x3 x4 x5 x6 x7 : Int) (w : World) :
    Calls Tryz.prog 66 #[.agg #[.int .i64 x0, .int .i64 x1, .int .i64 x2, .int .i64 x3, .int .i64 x4, .int .i64 x5, .int .i64 x6, .int .i64 x7]] w fun e w' => e = .returned (rowV (rowI 0 (0, 0, 0) (zb [x0, x1, x2, x3, x4, x5, x6, x7]))) ∧ Below w.heap.size w w' := by
  have HI : Hid (∀ k W, k < 8 → _) := fun k W hk => index8 x0 x1 x2 x3 x4 x5 x6 x7 k hk W
  generalize hz : [x0, x1, x2, x3, x4, x5, x6, x7] = z at HI ⊢
  have hzl : z.length = 8 := by rw [← hz]; rfl
  clear hz
  have HZL : Hid (z.length = 8) := hzl
  clear hzl
  go_enter Tryz.func66, Tryz.ntmps66
  go_wp2
  go_loop [4, 5, 6, 10] (fun x y v i => ∃ k f t b : Nat, k ≤ 8 ∧ i = .int .i64 k ∧ x = .int .i64 f ∧ y = .int .i64 t ∧ v = .int .i64 b ∧ f ≤ t ∧ t ≤ k ∧ b ≤ k ∧ rowI k (f, t, b) ((zb z).drop k) = rowI 0 (0, 0, 0) (zb z)) (fun _ _ _ i => 8 - (intOf i).toNat)
  case atStart => exact ⟨0, 0, 0, 0, by omega, rfl, rfl, rfl, rfl, by omega, by omega, by omega, rfl⟩
  case round =>
    obtain ⟨k, f, t, b, hk, rfl, rfl, rfl, rfl, h1, h2, h3, hr⟩ := hrel
    have HR : Hid (rowI k (f, t, b) ((zb z).drop k) = rowI 0 (0, 0, 0) (zb z)) := hr
    clear hr
    by_cases hlt : k < 8
    · have hix := fun W => HI.out k W hlt
      have HS : Hid (_ = _) := rowI_step k f t b z (by have := HZL.out; omega)
      generalize z.getD k 0 = y at hix HS
      by_cases hy : y = 0
      · subst hy
        by_cases hc : t - f < k + 1 - b
        · have HG : Hid (rowI (k + 1) (b, k + 1, b) ((zb z).drop (k + 1)) = rowI 0 (0, 0, 0) (zb z)) := by
            show _ = _
            rw [← HR.out, HS.out, if_pos rfl, if_pos hc]
          have hc' : (t : Int) - f < (k : Int) + 1 - b := by omega
          clear hc
          go_wp2_with fail
          go_round
          case rel => exact ⟨k + 1, b, k + 1, b, by omega, by go_num, by go_num, by go_num, by go_num, by omega, by omega, by omega, HG.out⟩
          case measure => simp [intOf]; omega
        · have HG : Hid (rowI (k + 1) (f, t, b) ((zb z).drop (k + 1)) = rowI 0 (0, 0, 0) (zb z)) := by
            show _ = _
            rw [← HR.out, HS.out, if_pos rfl, if_neg hc]
          have hc' : ¬ (t : Int) - f < (k : Int) + 1 - b := by omega
          clear hc
          go_wp2_with fail
          go_round
          case rel => exact ⟨k + 1, f, t, b, by omega, by go_num, by go_num, by go_num, by go_num, by omega, by omega, by omega, HG.out⟩
          case measure => simp [intOf]; omega
      · have HG : Hid (rowI (k + 1) (f, t, k + 1) ((zb z).drop (k + 1)) = rowI 0 (0, 0, 0) (zb z)) := by
          show _ = _
          rw [← HR.out, HS.out, if_neg hy]
        have hy' : (y == 0) = false := by simpa using hy
        clear hy
        go_wp2_with fail
        go_round
        case rel => exact ⟨k + 1, f, t, k + 1, by omega, by go_num, by go_num, by go_num, by go_num, by omega, by omega, by omega, HG.out⟩
        case measure => simp [intOf]; omega
    · have HG : Hid (rowI 0 (0, 0, 0) (zb z) = (f, t, b)) := by
        show _ = _
        rw [← HR.out, zb_end z k (by have := HZL.out; omega)]
        rfl
      have hki : ¬ (k : Int) < 8 := by omega
      go_wp2_with fail
      go_ret2
      exact ⟨by rw [HG.out]; rfl, (Below.refl _ _).alloc (Nat.le_refl _) _⟩

theorem runZ_yes {z : List Int} {k : Nat} (h : k < z.length) (h0 : z.getD k 0 = 0) : runZ ((zb z).drop k) = runZ ((zb z).drop (k + 1)) + 1 := by
  rw [zb_drop z k h, decide_eq_true h0]; rfl
theorem runZ_no {z : List Int} {k : Nat} (h : k < z.length) (h0 : ¬ z.getD k 0 = 0) : runZ ((zb z).drop k) = 0 := by
  rw [zb_drop z k h, decide_eq_false h0]; rfl
theorem runZ_end {z : List Int} {k : Nat} (h : z.length ≤ k) : runZ ((zb z).drop k) = 0 := by
  rw [zb_end z k h]; rfl
theorem rowS_step (a f t : Nat) (z : List Int) (h : a < z.length) : rowS a (f, t) ((zb z).drop a) = rowS (a + 1) (if 1 < runZ ((zb z).drop a) ∧ t - f < runZ ((zb z).drop a) then (a, a + runZ ((zb z).drop a)) else (f, t)) ((zb z).drop (a + 1)) := by
  rw [zb_drop z a h, rowS]
def rowW (r : Nat × Nat) : Value := .tuple #[.int .i64 (r.1 : Int), .int .i64 (r.2 : Int)]


set_option maxHeartbeats 4000000 in
theorem specRow (x0 x1 x2 x3 x4 x5 x6 x7 : Int) (w : World) :
    Calls Tryz.prog 45 #[.agg #[.int .i64 x0, .int .i64 x1, .int .i64 x2, .int .i64 x3, .int .i64 x4, .int .i64 x5, .int .i64 x6, .int .i64 x7]] w fun e w' => e = .returned (rowW (rowS 0 (8, 8) (zb [x0, x1, x2, x3, x4, x5, x6, x7]))) ∧ Below w.heap.size w w' := by
  have HC : Hid (∀ k, k < 8 → (w.alloc (.cells #[.int .i64 x0, .int .i64 x1, .int .i64 x2, .int .i64 x3, .int .i64 x4, .int .i64 x5, .int .i64 x6, .int .i64 x7] 24)).cell? ⟨w.heap.size, k, none⟩ = some (.int .i64 ([x0, x1, x2, x3, x4, x5, x6, x7].getD k 0))) := fun k hk => cell8 w x0 x1 x2 x3 x4 x5 x6 x7 k hk
  generalize hz : [x0, x1, x2, x3, x4, x5, x6, x7] = z at HC ⊢
  have hzl : z.length = 8 := by rw [← hz]; rfl
  clear hz
  have HZL : Hid (z.length = 8) := hzl
  clear hzl
  go_enter Tryz.func45, Tryz.ntmps45
  go_wp2
  go_loop [4, 5, 6] (fun x y i => ∃ a f t : Nat, a ≤ 8 ∧ i = .int .i64 a ∧ x = .int .i64 f ∧ y = .int .i64 t ∧ f ≤ t ∧ t ≤ 8 ∧ rowS a (f, t) ((zb z).drop a) = rowS 0 (8, 8) (zb z)) (fun _ _ i => 8 - (intOf i).toNat)
  case atStart => exact ⟨0, 8, 8, by omega, rfl, rfl, rfl, by omega, by omega, rfl⟩
  case round =>
    obtain ⟨a, f, t, ha, rfl, rfl, rfl, h1, h2, hr⟩ := hrel
    have HR : Hid (rowS a (f, t) ((zb z).drop a) = rowS 0 (8, 8) (zb z)) := hr
    clear hr
    by_cases hlt : a < 8
    · have hai : (a : Int) < 8 := by omega
      have HS : Hid (_ = _) := rowS_step a f t z (by have := HZL.out; omega)
      go_wp2_with fail
      go_loop [7] (fun b => ∃ j : Nat, a ≤ j ∧ j ≤ 8 ∧ b = .int .i64 j ∧ j - a + runZ ((zb z).drop j) = runZ ((zb z).drop a)) (fun b => 8 - (intOf b).toNat)
      case atStart => exact ⟨a, by omega, by omega, rfl, by omega⟩
      case round =>
        obtain ⟨j, hj1, hj2, rfl, hz⟩ := hrel
        have HZ : Hid (j - a + runZ ((zb z).drop j) = runZ ((zb z).drop a)) := hz
        clear hz
        by_cases hjlt : j < 8
        · have hc := HC.out j hjlt
          have HY : Hid (z.getD j 0 = 0 → runZ ((zb z).drop j) = runZ ((zb z).drop (j + 1)) + 1) := fun h => runZ_yes (by have := HZL.out; omega) h
          have HN : Hid (¬ z.getD j 0 = 0 → runZ ((zb z).drop j) = 0) := fun h => runZ_no (by have := HZL.out; omega) h
          have hji : (j : Int) < 8 := by omega
          generalize z.getD j 0 = y at hc HY HN
          by_cases hy : y = 0
          · subst hy
            go_wp2_with fail
            go_round
            case rel => exact ⟨j + 1, by omega, by omega, by go_num, by have h1 := HZ.out; have h2 := HY.out rfl; omega⟩
            case measure => simp [intOf]; omega
          · have HE : Hid (runZ ((zb z).drop a) = j - a) := by
              show _ = _
              have h1 := HZ.out
              have h2 := HN.out hy
              omega
            have hy' : (y == 0) = false := by simpa using hy
            clear hy
            by_cases hq : 1 < j - a ∧ t - f < j - a
            · have HG : Hid (rowS (a + 1) (a, j) ((zb z).drop (a + 1)) = rowS 0 (8, 8) (zb z)) := by
                show _ = _
                rw [← HR.out, HS.out, HE.out, if_pos hq, show a + (j - a) = j by omega]
              have hq1 : 1 < (j : Int) - a := by omega
              have hq2 : (t : Int) - f < (j : Int) - a := by omega
              clear hq
              go_wp2_with fail
              go_round
              case rel => exact ⟨a + 1, a, j, by omega, by go_num, by go_num, by go_num, by omega, by omega, HG.out⟩
              case measure => simp [intOf]; omega
            · have HG : Hid (rowS (a + 1) (f, t) ((zb z).drop (a + 1)) = rowS 0 (8, 8) (zb z)) := by
                show _ = _
                rw [← HR.out, HS.out, HE.out, if_neg hq]
              by_cases hq0 : 1 < j - a
              · have hq1 : 1 < (j : Int) - a := by omega
                have hq2 : ¬ (t : Int) - f < (j : Int) - a := by omega
                clear hq hq0
                go_wp2_with fail
                go_round
                case rel => exact ⟨a + 1, f, t, by omega, by go_num, by go_num, by go_num, by omega, by omega, HG.out⟩
                case measure => simp [intOf]; omega
              · have hq1 : ¬ 1 < (j : Int) - a := by omega
                clear hq hq0
                go_wp2_with fail
                go_round
                case rel => exact ⟨a + 1, f, t, by omega, by go_num, by go_num, by go_num, by omega, by omega, HG.out⟩
                case measure => simp [intOf]; omega
        · have HE : Hid (runZ ((zb z).drop a) = j - a) := by
            show _ = _
            have h1 := HZ.out
            have h2 := runZ_end (z := z) (k := j) (by have := HZL.out; omega)
            omega
          have hji : ¬ (j : Int) < 8 := by omega
          by_cases hq : 1 < j - a ∧ t - f < j - a
          · have HG : Hid (rowS (a + 1) (a, j) ((zb z).drop (a + 1)) = rowS 0 (8, 8) (zb z)) := by
              show _ = _
              rw [← HR.out, HS.out, HE.out, if_pos hq, show a + (j - a) = j by omega]
            have hq1 : 1 < (j : Int) - a := by omega
            have hq2 : (t : Int) - f < (j : Int) - a := by omega
            clear hq
            go_wp2_with fail
            go_round
            case rel => exact ⟨a + 1, a, j, by omega, by go_num, by go_num, by go_num, by omega, by omega, HG.out⟩
            case measure => simp [intOf]; omega
          · have HG : Hid (rowS (a + 1) (f, t) ((zb z).drop (a + 1)) = rowS 0 (8, 8) (zb z)) := by
              show _ = _
              rw [← HR.out, HS.out, HE.out, if_neg hq]
            by_cases hq0 : 1 < j - a
            · have hq1 : 1 < (j : Int) - a := by omega
              have hq2 : ¬ (t : Int) - f < (j : Int) - a := by omega
              clear hq hq0
              go_wp2_with fail
              go_round
              case rel => exact ⟨a + 1, f, t, by omega, by go_num, by go_num, by go_num, by omega, by omega, HG.out⟩
              case measure => simp [intOf]; omega
            · have hq1 : ¬ 1 < (j : Int) - a := by omega
              clear hq hq0
              go_wp2_with fail
              go_round
              case rel => exact ⟨a + 1, f, t, by omega, by go_num, by go_num, by go_num, by omega, by omega, HG.out⟩
              case measure => simp [intOf]; omega
    · have HG : Hid (rowS 0 (8, 8) (zb z) = (f, t)) := by
        show _ = _
        rw [← HR.out, zb_end z a (by have := HZL.out; omega)]
        rfl
      have hai : ¬ (a : Int) < 8 := by omega
      go_wp2_with fail
      go_ret2
      exact ⟨by rw [HG.out]; rfl, (Below.refl _ _).alloc (Nat.le_refl _) _⟩
end Go.Proofs.YtamnhegianpedaaGreatDoor

namespace Go.Proofs.YtamnhegianpedaaGreatDoor
open Go.RowKit

set_option maxRecDepth 20000 in
set_option maxHeartbeats 4000000 in
theorem toIntA8 (x0 x1 x2 x3 x4 x5 x6 x7 : Int) (w : World) :
    Calls Tryz.prog 33 #[.agg #[.int .i64 x0, .int .i64 x1, .int .i64 x2, .int .i64 x3, .int .i64 x4, .int .i64 x5, .int .i64 x6, .int .i64 x7]] w fun e w' => e = .returned (.agg #[.int .i64 x0, .int .i64 x1, .int .i64 x2, .int .i64 x3, .int .i64 x4, .int .i64 x5, .int .i64 x6, .int .i64 x7]) ∧ Below w.heap.size w w' := by
  go_enter Tryz.func33, Tryz.ntmps33
  go_wp2
  refine wp_loop_rounds 9 ?_
  rw [rounds_succ]
  go_wp2_with fail
  rw [rounds_succ]
  go_wp2_with fail
  rw [rounds_succ]
  go_wp2_with fail
  rw [rounds_succ]
  go_wp2_with fail
  rw [rounds_succ]
  go_wp2_with fail
  rw [rounds_succ]
  go_wp2_with fail
  rw [rounds_succ]
  go_wp2_with fail
  rw [rounds_succ]
  go_wp2_with fail
  rw [rounds_succ]
  go_wp2_with fail
  refine bodyPost_ret (v := .agg #[.int .i64 x0, .int .i64 x1, .int .i64 x2, .int .i64 x3, .int .i64 x4, .int .i64 x5, .int .i64 x6, .int .i64 x7]) (by simp [results, Tryz.results33, go_sem]) rfl ⟨rfl, ?_⟩
  exact (((Below.refl _ w).alloc (Nat.le_refl _) _).alloc (by simp) _).alloc (by simp; omega) _

set_option maxRecDepth 20000 in
set_option maxHeartbeats 4000000 in
theorem eqIntA8 (x0 x1 x2 x3 x4 x5 x6 x7 : Int) (w : World) :
    Calls Tryz.prog 34 #[.agg #[.int .i64 x0, .int .i64 x1, .int .i64 x2, .int .i64 x3, .int .i64 x4, .int .i64 x5, .int .i64 x6, .int .i64 x7], .agg #[.int .i64 x0, .int .i64 x1, .int .i64 x2, .int .i64 x3, .int .i64 x4, .int .i64 x5, .int .i64 x6, .int .i64 x7]] w fun e w' => e = .returned (.bool true) ∧ Below w.heap.size w w' := by
  have H1 : Hid (∀ k, k < 8 → ((w.alloc (.cells #[.int .i64 x0, .int .i64 x1, .int .i64 x2, .int .i64 x3, .int .i64 x4, .int .i64 x5, .int .i64 x6, .int .i64 x7] 24)).alloc (.cells #[.int .i64 x0, .int .i64 x1, .int .i64 x2, .int .i64 x3, .int .i64 x4, .int .i64 x5, .int .i64 x6, .int .i64 x7] 24)).cell? ⟨w.heap.size, k, none⟩ = some (.int .i64 ([x0, x1, x2, x3, x4, x5, x6, x7].getD k 0))) := fun k hk => cell_later ((Below.refl _ _).alloc (Nat.le_refl _) _) (cell8 w x0 x1 x2 x3 x4 x5 x6 x7 k hk)
  have H2 : Hid (∀ k, k < 8 → ((w.alloc (.cells #[.int .i64 x0, .int .i64 x1, .int .i64 x2, .int .i64 x3, .int .i64 x4, .int .i64 x5, .int .i64 x6, .int .i64 x7] 24)).alloc (.cells #[.int .i64 x0, .int .i64 x1, .int .i64 x2, .int .i64 x3, .int .i64 x4, .int .i64 x5, .int .i64 x6, .int .i64 x7] 24)).cell? ⟨w.heap.size + 1, k, none⟩ = some (.int .i64 ([x0, x1, x2, x3, x4, x5, x6, x7].getD k 0))) := fun k hk => by
    have h := cell8 (w.alloc (.cells #[.int .i64 x0, .int .i64 x1, .int .i64 x2, .int .i64 x3, .int .i64 x4, .int .i64 x5, .int .i64 x6, .int .i64 x7] 24)) x0 x1 x2 x3 x4 x5 x6 x7 k hk
    rw [show (w.alloc (.cells #[.int .i64 x0, .int .i64 x1, .int .i64 x2, .int .i64 x3, .int .i64 x4, .int .i64 x5, .int .i64 x6, .int .i64 x7] 24)).heap.size = w.heap.size + 1 by simp] at h
    exact h
  generalize [x0, x1, x2, x3, x4, x5, x6, x7] = z at H1 H2
  go_enter Tryz.func34, Tryz.ntmps34
  go_wp2
  have B1 : Below w.heap.size w ((w.alloc (.cells #[.int .i64 x0, .int .i64 x1, .int .i64 x2, .int .i64 x3, .int .i64 x4, .int .i64 x5, .int .i64 x6, .int .i64 x7] 24)).alloc (.cells #[.int .i64 x0, .int .i64 x1, .int .i64 x2, .int .i64 x3, .int .i64 x4, .int .i64 x5, .int .i64 x6, .int .i64 x7] 24)) := ((Below.refl _ w).alloc (Nat.le_refl _) _).alloc (by simp) _
  generalize ((w.alloc (.cells #[.int .i64 x0, .int .i64 x1, .int .i64 x2, .int .i64 x3, .int .i64 x4, .int .i64 x5, .int .i64 x6, .int .i64 x7] 24)).alloc (.cells #[.int .i64 x0, .int .i64 x1, .int .i64 x2, .int .i64 x3, .int .i64 x4, .int .i64 x5, .int .i64 x6, .int .i64 x7] 24)) = W at H1 H2 B1 ⊢
  go_loopw [5] (fun i wr => ∃ k : Nat, k ≤ 8 ∧ i = .int .i64 k ∧ Below W.heap.size W wr) (fun i _ => 8 - (intOf i).toNat)
  case atStart => exact ⟨0, Nat.zero_le _, rfl, Below.refl _ _⟩
  case round =>
    obtain ⟨k, hk, rfl, hbel⟩ := hrel
    by_cases hlt : k < 8
    · have ca := cell_later hbel (H1.out k hlt)
      have cb := cell_later hbel (H2.out k hlt)
      generalize z.getD k 0 = x at ca cb
      have hki : (k : Int) < 8 := by omega
      go_wp2
      go_quiet (fail)
      go_wp2
      go_roundw
      case rel => exact ⟨k + 1, by omega, by go_num, ⟨hbel.os, hbel.tape, hbel.output, hbel.size, hbel.block⟩⟩
      case measure => simp [intOf]; omega
    · have hki : ¬ (k : Int) < 8 := by omega
      go_wp2
      go_ret
      exact ⟨rfl, B1.trans (hbel.mono B1.size)⟩
end Go.Proofs.YtamnhegianpedaaGreatDoor

namespace Go.Proofs.YtamnhegianpedaaGreatDoor
open Go.RowKit
set_option linter.unusedSimpArgs false

/-- The library's table of powers of two is as it was laid, where it is read. -/
def Bruijn (w : World) : Prop := w.cell? ⟨5, 15, none⟩ = some (.int .u8 4)

theorem implPow2 (w : World) : Calls Tryz.prog 143 #[.int .i64 16] w fun e w' => e = .returned (.bool true) ∧ w = w' := by
  go_enter Tryz.func143, Tryz.ntmps143
  go_wp2
  go_ret
  exact ⟨rfl, rfl⟩

theorem implTz64 (w : World) (h : Bruijn w) : Calls Tryz.prog 161 #[.int .u64 16] w fun e w' => e = .returned (.int .i64 4) ∧ w = w' := by
  unfold Bruijn at h
  have e1 : bits .and .u64 16 (IntKind.u64.wrap (-16)) = 16 := by kernel_rfl
  have e2 : IntKind.u64.wrap (16 * 285870213051353865) = 4573923408821661840 := by kernel_rfl
  have e3 : IntKind.u64.wrap 4573923408821661840 = 4573923408821661840 := by kernel_rfl
  have e4 : (4573923408821661840 : Int) / 288230376151711744 = 15 := by decide
  go_enter Tryz.func161, Tryz.ntmps161
  go_wp2
  go_ret
  exact ⟨rfl, rfl⟩

theorem implTz (w : World) (h : Bruijn w) : Calls Tryz.prog 144 #[.int .u64 16] w fun e w' => e = .returned (.int .i64 4) ∧ w = w' := by
  have H : Hid (Bruijn w) := h
  clear h
  go_enter Tryz.func144, Tryz.ntmps144
  go_wp2_with fail
  refine (implTz64 _ H.out).mono ?_
  rintro e w' ⟨rfl, rfl⟩
  go_wp2_with fail
  go_ret
  exact ⟨rfl, rfl⟩

theorem bruijn_below {w w' : World} (h : Bruijn w) (hb : Below w.heap.size w w') : Bruijn w' := cell_later hb h

theorem dig36 : ∀ k, k < 16 → ((#[48, 49, 50, 51, 52, 53, 54, 55, 56, 57, 97, 98, 99, 100, 101, 102, 103, 104, 105, 106, 107, 108, 109, 110, 111, 112, 113, 114, 115, 116, 117, 118, 119, 120, 121, 122] : Array UInt8).getD k 0) = hxU k := by decide +kernel
theorem hex36_at (k : Nat) (h : k < 16) (hp : k < (⟨#[48, 49, 50, 51, 52, 53, 54, 55, 56, 57, 97, 98, 99, 100, 101, 102, 103, 104, 105, 106, 107, 108, 109, 110, 111, 112, 113, 114, 115, 116, 117, 118, 119, 120, 121, 122]⟩ : ByteArray).size) :
    (⟨#[48, 49, 50, 51, 52, 53, 54, 55, 56, 57, 97, 98, 99, 100, 101, 102, 103, 104, 105, 106, 107, 108, 109, 110, 111, 112, 113, 114, 115, 116, 117, 118, 119, 120, 121, 122]⟩ : ByteArray)[k]'hp = hxU k := by
  rw [← dig36 k h]
  rw [Array.getD_eq_getD_getElem?, Array.getElem?_eq_getElem hp]
  rfl
theorem zero65 : Tryz.zeroCells137.size = 65 := by kernel_rfl

theorem u64_wrap_small (n : Int) (h0 : 0 ≤ n) (h1 : n < 18446744073709551616) : IntKind.u64.wrap n = n := by
  simp [IntKind.wrap, IntKind.bits, IntKind.signed]; omega
theorem u64_and15 (x : Int) (h0 : 0 ≤ x) (h1 : x < 18446744073709551616) : bits .and .u64 x 15 = x % 16 := by
  obtain ⟨a, rfl⟩ := Int.eq_ofNat_of_zero_le h0
  have ha : (BitVec.ofInt 64 (a : Int)).toNat = a := by
    rw [BitVec.ofInt_natCast, BitVec.toNat_ofNat]; exact Nat.mod_eq_of_lt (by omega)
  have hb : (BitVec.ofInt 64 (15 : Int)).toNat = 15 := by decide
  show IntKind.u64.wrap ((BitVec.ofInt 64 (a : Int) &&& BitVec.ofInt 64 (15 : Int)).toNat : Int) = _
  rw [BitVec.toNat_and, ha, hb, show (15 : Nat) = 2 ^ 4 - 1 from rfl, Nat.and_two_pow_sub_one_eq_mod, u64_wrap_small _ (by omega) (by omega)]
  omega

/-- What the rest of the walk asks of the row of digits. -/
theorem tail_at {w : World} {cs : Array Value} {T : TypeId} {o : Nat} {l : List UInt8} (h : ∀ j (hj : j < l.length), cs[o + j]? = some (.int .u8 (l[j].toNat : Int))) :
    ∀ (j : Nat) (x : Value), (bcells l)[j]? = some x → (w.alloc (.cells cs T)).cell? ((⟨w.heap.size, o, none⟩ : Addr).add j) = some x := by
  intro j x hj
  rw [Addr.add_lit, World.cell?_alloc_at _ _ _ _ rfl]
  unfold bcells at hj
  rw [List.getElem?_map] at hj
  obtain ⟨c, hc, rfl⟩ := Option.map_eq_some_iff.1 hj
  obtain ⟨hl, rfl⟩ := List.getElem?_eq_some_iff.1 hc
  exact h j hl




set_option maxRecDepth 20000 in
set_option maxHeartbeats 4000000 in
theorem implFormat1 (u : Int) (B : Nat) (v : Value) (l : List UInt8) (w : World) (h0 : 0 ≤ u) (h1 : u < 16) (hT : Bruijn w) (hown : w.ownsRow B 5 1 v l.length (bcells l)) (hB : B ≤ w.heap.size) (hl : l.length ≤ 1000) :
    Calls Tryz.prog 128 #[v, .int .u64 u, .int .i64 16, .bool false, .bool true] w fun e w' => ∃ v', e = .returned (.tuple #[v', .string ⟨#[]⟩]) ∧ w'.ownsRow B 5 1 v' (l ++ hex4 u.toNat).length (bcells (l ++ hex4 u.toNat)) ∧ Below B w w' := by
  have HH : Hid (hex4 u.toNat = [hxU u.toNat]) := by show _ = _; unfold hex4; rw [if_pos (by omega)]
  obtain ⟨i0, hi, hz0, hz1, hz2⟩ := info_parts Tryz.info5
  have HT : Hid (Bruijn w) := hT
  clear hT
  have HO : Hid (w.ownsRow B 5 1 v l.length (bcells l)) := hown
  clear hown
  go_enter Tryz.func128, Tryz.ntmps128
  go_wp2_with fail
  refine (implPow2 _).mono ?_
  rintro e w' ⟨rfl, rfl⟩
  go_wp2_with fail
  refine (implTz _ (bruijn_below HT.out ((Below.refl _ _).alloc (Nat.le_refl _) _))).mono ?_
  rintro e w' ⟨rfl, rfl⟩
  go_wp2_with fail
  refine wp_loop_rounds 1 ?_
  rw [rounds_succ]
  go_wp2_with (at_builtin; refine wpList_append_own _ rfl _ _ 22 rfl B 5 i0 (.int .u8 0) 1 1 Tryz.underlying22 hi hz0 hz1 hz2 rfl (by decide) _ _ _ rfl (HO.out.alloc _) ⟨w.heap.size, 64, none⟩ 1 1 (bcells (hex4 u.toNat)) rfl (by rw [bcells_length, HH.out]; rfl) (tail_at ?_) (bcells_oneCell _) (by unfold maxLen; omega) (by omega) (by simp; omega) ?_)
  · rw [HH.out]
    intro j hj
    obtain rfl : j = 0 := by simpa using hj
    rw [Array.getElem?_setIfInBounds_self_of_lt (by rw [zero65]; decide), hex36_at _ (by omega)]
    rfl
  · intro v' w1 h2 h3 _
    have B1 : Below B w w1 := ((Below.refl B w).alloc hB _).grown h3 (by simp; omega) (fun k hk => (HO.out.lt k hk).1)
    have R : w1.ownsRow B 5 1 v' (l ++ hex4 u.toNat).length (bcells (l ++ hex4 u.toNat)) := by
      rw [bcells_append, List.length_append, show (hex4 u.toNat).length = 1 by rw [HH.out]; rfl]
      exact h2
    clear h2 h3
    go_wp2_with fail
    go_ret2
    exact ⟨_, rfl, R, B1⟩

set_option maxRecDepth 20000 in
set_option maxHeartbeats 4000000 in
theorem implFormat2 (u : Int) (B : Nat) (v : Value) (l : List UInt8) (w : World) (h0 : 16 ≤ u) (h1 : u < 256) (hT : Bruijn w) (hown : w.ownsRow B 5 1 v l.length (bcells l)) (hB : B ≤ w.heap.size) (hl : l.length ≤ 1000) :
    Calls Tryz.prog 128 #[v, .int .u64 u, .int .i64 16, .bool false, .bool true] w fun e w' => ∃ v', e = .returned (.tuple #[v', .string ⟨#[]⟩]) ∧ w'.ownsRow B 5 1 v' (l ++ hex4 u.toNat).length (bcells (l ++ hex4 u.toNat)) ∧ Below B w w' := by
  obtain ⟨q1, hq1⟩ : ∃ q1 : Int, u / 16 = q1 := ⟨_, rfl⟩
  obtain ⟨r0, hr0⟩ : ∃ r0 : Int, u % 16 = r0 := ⟨_, rfl⟩
  have HH : Hid (hex4 u.toNat = [hxU q1.toNat, hxU r0.toNat]) := by
    show _ = _
    unfold hex4
    rw [if_neg (by omega), if_pos (by omega), show u.toNat / 16 = q1.toNat by omega, show u.toNat % 16 = r0.toNat by omega]
  have c1 : 0 ≤ q1 := by omega
  have c2 : q1 < 16 := by omega
  have c3 : 0 ≤ r0 := by omega
  have c4 : r0 < 16 := by omega
  have b0 : bits .and .u64 u 15 = r0 := by rw [u64_and15 _ (by omega) (by omega), hr0]
  clear hr0
  obtain ⟨i0, hi, hz0, hz1, hz2⟩ := info_parts Tryz.info5
  have HT : Hid (Bruijn w) := hT
  clear hT
  have HO : Hid (w.ownsRow B 5 1 v l.length (bcells l)) := hown
  clear hown
  go_enter Tryz.func128, Tryz.ntmps128
  go_wp2_with fail
  refine (implPow2 _).mono ?_
  rintro e w' ⟨rfl, rfl⟩
  go_wp2_with fail
  refine (implTz _ (bruijn_below HT.out ((Below.refl _ _).alloc (Nat.le_refl _) _))).mono ?_
  rintro e w' ⟨rfl, rfl⟩
  go_wp2_with fail
  refine wp_loop_rounds 2 ?_
  rw [rounds_succ]
  go_wp2_with fail
  rw [rounds_succ]
  go_wp2_with (at_builtin; refine wpList_append_own _ rfl _ _ 22 rfl B 5 i0 (.int .u8 0) 1 1 Tryz.underlying22 hi hz0 hz1 hz2 rfl (by decide) _ _ _ rfl (HO.out.alloc _) ⟨w.heap.size, 63, none⟩ 2 2 (bcells (hex4 u.toNat)) rfl (by rw [bcells_length, HH.out]; rfl) (tail_at ?_) (bcells_oneCell _) (by unfold maxLen; omega) (by omega) (by simp; omega) ?_)
  · rw [HH.out, hex36_at r0.toNat (by omega), hex36_at q1.toNat (by omega)]
    intro j hj
    have h3 : j = 0 ∨ j = 1 := by simp at hj; omega
    rcases h3 with rfl | rfl <;> simp [Array.getElem?_setIfInBounds, zero65]
  · intro v' w1 h2 h3 _
    have B1 : Below B w w1 := ((Below.refl B w).alloc hB _).grown h3 (by simp; omega) (fun k hk => (HO.out.lt k hk).1)
    have R : w1.ownsRow B 5 1 v' (l ++ hex4 u.toNat).length (bcells (l ++ hex4 u.toNat)) := by
      rw [bcells_append, List.length_append, show (hex4 u.toNat).length = 2 by rw [HH.out]; rfl]
      exact h2
    clear h2 h3
    go_wp2_with fail
    go_ret2
    exact ⟨_, rfl, R, B1⟩

set_option maxRecDepth 20000 in
set_option maxHeartbeats 4000000 in
theorem implFormat3 (u : Int) (B : Nat) (v : Value) (l : List UInt8) (w : World) (h0 : 256 ≤ u) (h1 : u < 4096) (hT : Bruijn w) (hown : w.ownsRow B 5 1 v l.length (bcells l)) (hB : B ≤ w.heap.size) (hl : l.length ≤ 1000) :
    Calls Tryz.prog 128 #[v, .int .u64 u, .int .i64 16, .bool false, .bool true] w fun e w' => ∃ v', e = .returned (.tuple #[v', .string ⟨#[]⟩]) ∧ w'.ownsRow B 5 1 v' (l ++ hex4 u.toNat).length (bcells (l ++ hex4 u.toNat)) ∧ Below B w w' := by
  obtain ⟨q1, hq1⟩ : ∃ q1 : Int, u / 16 = q1 := ⟨_, rfl⟩
  obtain ⟨r0, hr0⟩ : ∃ r0 : Int, u % 16 = r0 := ⟨_, rfl⟩
  obtain ⟨q2, hq2⟩ : ∃ q2 : Int, q1 / 16 = q2 := ⟨_, rfl⟩
  obtain ⟨r1, hr1⟩ : ∃ r1 : Int, q1 % 16 = r1 := ⟨_, rfl⟩
  have HH : Hid (hex4 u.toNat = [hxU q2.toNat, hxU r1.toNat, hxU r0.toNat]) := by
    show _ = _
    unfold hex4
    rw [if_neg (by omega), if_neg (by omega), if_pos (by omega), show u.toNat / 256 = q2.toNat by omega, show u.toNat / 16 % 16 = r1.toNat by omega, show u.toNat % 16 = r0.toNat by omega]
  have c1 : 16 ≤ q1 := by omega
  have c2 : q1 < 256 := by omega
  have c3 : 0 ≤ r0 := by omega
  have c4 : r0 < 16 := by omega
  have c5 : 0 ≤ q2 := by omega
  have c6 : q2 < 16 := by omega
  have c7 : 0 ≤ r1 := by omega
  have c8 : r1 < 16 := by omega
  have b0 : bits .and .u64 u 15 = r0 := by rw [u64_and15 _ (by omega) (by omega), hr0]
  have b1 : bits .and .u64 q1 15 = r1 := by rw [u64_and15 _ (by omega) (by omega), hr1]
  clear hr0 hr1
  obtain ⟨i0, hi, hz0, hz1, hz2⟩ := info_parts Tryz.info5
  have HT : Hid (Bruijn w) := hT
  clear hT
  have HO : Hid (w.ownsRow B 5 1 v l.length (bcells l)) := hown
  clear hown
  go_enter Tryz.func128, Tryz.ntmps128
  go_wp2_with fail
  refine (implPow2 _).mono ?_
  rintro e w' ⟨rfl, rfl⟩
  go_wp2_with fail
  refine (implTz _ (bruijn_below HT.out ((Below.refl _ _).alloc (Nat.le_refl _) _))).mono ?_
  rintro e w' ⟨rfl, rfl⟩
  go_wp2_with fail
  refine wp_loop_rounds 3 ?_
  rw [rounds_succ]
  go_wp2_with fail
  rw [rounds_succ]
  go_wp2_with fail
  rw [rounds_succ]
  go_wp2_with (at_builtin; refine wpList_append_own _ rfl _ _ 22 rfl B 5 i0 (.int .u8 0) 1 1 Tryz.underlying22 hi hz0 hz1 hz2 rfl (by decide) _ _ _ rfl (HO.out.alloc _) ⟨w.heap.size, 62, none⟩ 3 3 (bcells (hex4 u.toNat)) rfl (by rw [bcells_length, HH.out]; rfl) (tail_at ?_) (bcells_oneCell _) (by unfold maxLen; omega) (by omega) (by simp; omega) ?_)
  · rw [HH.out, hex36_at r0.toNat (by omega), hex36_at r1.toNat (by omega), hex36_at q2.toNat (by omega)]
    intro j hj
    have h3 : j = 0 ∨ j = 1 ∨ j = 2 := by simp at hj; omega
    rcases h3 with rfl | rfl | rfl <;> simp [Array.getElem?_setIfInBounds, zero65]
  · intro v' w1 h2 h3 _
    have B1 : Below B w w1 := ((Below.refl B w).alloc hB _).grown h3 (by simp; omega) (fun k hk => (HO.out.lt k hk).1)
    have R : w1.ownsRow B 5 1 v' (l ++ hex4 u.toNat).length (bcells (l ++ hex4 u.toNat)) := by
      rw [bcells_append, List.length_append, show (hex4 u.toNat).length = 3 by rw [HH.out]; rfl]
      exact h2
    clear h2 h3
    go_wp2_with fail
    go_ret2
    exact ⟨_, rfl, R, B1⟩

set_option maxRecDepth 20000 in
set_option maxHeartbeats 4000000 in
theorem implFormat4 (u : Int) (B : Nat) (v : Value) (l : List UInt8) (w : World) (h0 : 4096 ≤ u) (h1 : u < 65536) (hT : Bruijn w) (hown : w.ownsRow B 5 1 v l.length (bcells l)) (hB : B ≤ w.heap.size) (hl : l.length ≤ 1000) :
    Calls Tryz.prog 128 #[v, .int .u64 u, .int .i64 16, .bool false, .bool true] w fun e w' => ∃ v', e = .returned (.tuple #[v', .string ⟨#[]⟩]) ∧ w'.ownsRow B 5 1 v' (l ++ hex4 u.toNat).length (bcells (l ++ hex4 u.toNat)) ∧ Below B w w' := by
  obtain ⟨q1, hq1⟩ : ∃ q1 : Int, u / 16 = q1 := ⟨_, rfl⟩
  obtain ⟨r0, hr0⟩ : ∃ r0 : Int, u % 16 = r0 := ⟨_, rfl⟩
  obtain ⟨q2, hq2⟩ : ∃ q2 : Int, q1 / 16 = q2 := ⟨_, rfl⟩
  obtain ⟨r1, hr1⟩ : ∃ r1 : Int, q1 % 16 = r1 := ⟨_, rfl⟩
  obtain ⟨q3, hq3⟩ : ∃ q3 : Int, q2 / 16 = q3 := ⟨_, rfl⟩
  obtain ⟨r2, hr2⟩ : ∃ r2 : Int, q2 % 16 = r2 := ⟨_, rfl⟩
  have HH : Hid (hex4 u.toNat = [hxU q3.toNat, hxU r2.toNat, hxU r1.toNat, hxU r0.toNat]) := by
    show _ = _
    unfold hex4
    rw [if_neg (by omega), if_neg (by omega), if_neg (by omega), show u.toNat / 4096 = q3.toNat by omega, show u.toNat / 256 % 16 = r2.toNat by omega, show u.toNat / 16 % 16 = r1.toNat by omega, show u.toNat % 16 = r0.toNat by omega]
  have c1 : 256 ≤ q1 := by omega
  have c2 : q1 < 4096 := by omega
  have c3 : 0 ≤ r0 := by omega
  have c4 : r0 < 16 := by omega
  have c5 : 16 ≤ q2 := by omega
  have c6 : q2 < 256 := by omega
  have c7 : 0 ≤ r1 := by omega
  have c8 : r1 < 16 := by omega
  have d5 : 0 ≤ q3 := by omega
  have d6 : q3 < 16 := by omega
  have d7 : 0 ≤ r2 := by omega
  have d8 : r2 < 16 := by omega
  have b0 : bits .and .u64 u 15 = r0 := by rw [u64_and15 _ (by omega) (by omega), hr0]
  have b1 : bits .and .u64 q1 15 = r1 := by rw [u64_and15 _ (by omega) (by omega), hr1]
  have b2 : bits .and .u64 q2 15 = r2 := by rw [u64_and15 _ (by omega) (by omega), hr2]
  clear hr0 hr1 hr2
  obtain ⟨i0, hi, hz0, hz1, hz2⟩ := info_parts Tryz.info5
  have HT : Hid (Bruijn w) := hT
  clear hT
  have HO : Hid (w.ownsRow B 5 1 v l.length (bcells l)) := hown
  clear hown
  go_enter Tryz.func128, Tryz.ntmps128
  go_wp2_with fail
  refine (implPow2 _).mono ?_
  rintro e w' ⟨rfl, rfl⟩
  go_wp2_with fail
  refine (implTz _ (bruijn_below HT.out ((Below.refl _ _).alloc (Nat.le_refl _) _))).mono ?_
  rintro e w' ⟨rfl, rfl⟩
  go_wp2_with fail
  refine wp_loop_rounds 4 ?_
  rw [rounds_succ]
  go_wp2_with fail
  rw [rounds_succ]
  go_wp2_with fail
  rw [rounds_succ]
  go_wp2_with fail
  rw [rounds_succ]
  go_wp2_with (at_builtin; refine wpList_append_own _ rfl _ _ 22 rfl B 5 i0 (.int .u8 0) 1 1 Tryz.underlying22 hi hz0 hz1 hz2 rfl (by decide) _ _ _ rfl (HO.out.alloc _) ⟨w.heap.size, 61, none⟩ 4 4 (bcells (hex4 u.toNat)) rfl (by rw [bcells_length, HH.out]; rfl) (tail_at ?_) (bcells_oneCell _) (by unfold maxLen; omega) (by omega) (by simp; omega) ?_)
  · rw [HH.out, hex36_at r0.toNat (by omega), hex36_at r1.toNat (by omega), hex36_at r2.toNat (by omega), hex36_at q3.toNat (by omega)]
    intro j hj
    have h3 : j = 0 ∨ j = 1 ∨ j = 2 ∨ j = 3 := by simp at hj; omega
    rcases h3 with rfl | rfl | rfl | rfl <;> simp [Array.getElem?_setIfInBounds, zero65]
  · intro v' w1 h2 h3 _
    have B1 : Below B w w1 := ((Below.refl B w).alloc hB _).grown h3 (by simp; omega) (fun k hk => (HO.out.lt k hk).1)
    have R : w1.ownsRow B 5 1 v' (l ++ hex4 u.toNat).length (bcells (l ++ hex4 u.toNat)) := by
      rw [bcells_append, List.length_append, show (hex4 u.toNat).length = 4 by rw [HH.out]; rfl]
      exact h2
    clear h2 h3
    go_wp2_with fail
    go_ret2
    exact ⟨_, rfl, R, B1⟩

theorem implFormat (u : Int) (B : Nat) (v : Value) (l : List UInt8) (w : World) (h0 : 0 ≤ u) (h1 : u < 65536) (hT : Bruijn w) (hown : w.ownsRow B 5 1 v l.length (bcells l)) (hB : B ≤ w.heap.size) (hl : l.length ≤ 1000) :
    Calls Tryz.prog 128 #[v, .int .u64 u, .int .i64 16, .bool false, .bool true] w fun e w' => ∃ v', e = .returned (.tuple #[v', .string ⟨#[]⟩]) ∧ w'.ownsRow B 5 1 v' (l ++ hex4 u.toNat).length (bcells (l ++ hex4 u.toNat)) ∧ Below B w w' := by
  by_cases c1 : u < 16
  · exact implFormat1 u B v l w h0 c1 hT hown hB hl
  · by_cases c2 : u < 256
    · exact implFormat2 u B v l w (by omega) c2 hT hown hB hl
    · by_cases c3 : u < 4096
      · exact implFormat3 u B v l w (by omega) c3 hT hown hB hl
      · exact implFormat4 u B v l w (by omega) h1 hT hown hB hl

set_option maxHeartbeats 2000000 in
theorem implAppHex (u : Int) (B : Nat) (v : Value) (l : List UInt8) (w : World) (h0 : 0 ≤ u) (h1 : u < 65536) (hT : Bruijn w) (hown : w.ownsRow B 5 1 v l.length (bcells l)) (hB : B ≤ w.heap.size) (hl : l.length ≤ 1000) :
    Calls Tryz.prog 64 #[v, .int .i64 u, .int .i64 16] w fun e w' => ∃ v', e = .returned v' ∧ w'.ownsRow B 5 1 v' (l ++ hex4 u.toNat).length (bcells (l ++ hex4 u.toNat)) ∧ Below B w w' := by
  have CF : Hid (∀ W, W = w → Calls Tryz.prog 128 #[v, .int .u64 u, .int .i64 16, .bool false, .bool true] W fun e w' => ∃ v', e = .returned (.tuple #[v', .string ⟨#[]⟩]) ∧ w'.ownsRow B 5 1 v' (l ++ hex4 u.toNat).length (bcells (l ++ hex4 u.toNat)) ∧ Below B w w') := fun W h => by subst h; exact implFormat u B v l _ h0 h1 hT hown hB hl
  clear hT hown
  have CU : Calls Tryz.prog 105 #[v, .int .u64 u, .int .i64 16] w fun e w' => ∃ v', e = .returned v' ∧ w'.ownsRow B 5 1 v' (l ++ hex4 u.toNat).length (bcells (l ++ hex4 u.toNat)) ∧ Below B w w' := by
    go_enter Tryz.func105, Tryz.ntmps105
    go_wp2_with fail
    refine (CF.out _ rfl).mono ?_
    rintro e w' ⟨v', rfl, h2, h3⟩
    go_wp2_with fail
    go_ret
    exact ⟨_, rfl, h2, h3⟩
  have CU : Hid (Calls Tryz.prog 105 #[v, .int .u64 u, .int .i64 16] w fun e w' => ∃ v', e = .returned v' ∧ w'.ownsRow B 5 1 v' (l ++ hex4 u.toNat).length (bcells (l ++ hex4 u.toNat)) ∧ Below B w w') := CU
  clear CF
  have CI : Calls Tryz.prog 83 #[v, .int .i64 u, .int .i64 16] w fun e w' => ∃ v', e = .returned v' ∧ w'.ownsRow B 5 1 v' (l ++ hex4 u.toNat).length (bcells (l ++ hex4 u.toNat)) ∧ Below B w w' := by
    go_enter Tryz.func83, Tryz.ntmps83
    go_wp2_with fail
    refine CU.out.mono ?_
    rintro e w' ⟨v', rfl, h2, h3⟩
    go_wp2_with fail
    go_ret
    exact ⟨_, rfl, h2, h3⟩
  have CI : Hid (Calls Tryz.prog 83 #[v, .int .i64 u, .int .i64 16] w fun e w' => ∃ v', e = .returned v' ∧ w'.ownsRow B 5 1 v' (l ++ hex4 u.toNat).length (bcells (l ++ hex4 u.toNat)) ∧ Below B w w') := CI
  clear CU
  go_enter Tryz.func64, Tryz.ntmps64
  go_wp2_with fail
  refine CI.out.mono ?_
  rintro e w' ⟨v', rfl, h2, h3⟩
  go_wp2_with fail
  go_ret
  exact ⟨_, rfl, h2, h3⟩
end Go.Proofs.YtamnhegianpedaaGreatDoor

namespace Go.Proofs.YtamnhegianpedaaGreatDoor
open Go.RowKit

theorem jl_snoc (b : UInt8) : ∀ {l : List (List UInt8)} {x : List UInt8}, l ≠ [] → jl b (l ++ [x]) = jl b l ++ b :: x
  | [], _, h => absurd rfl h
  | [y], x, _ => rfl
  | y :: z :: r, x, _ => by
    have ih := jl_snoc b (l := z :: r) (x := x) (by simp)
    rw [List.cons_append, List.cons_append, jl, jl, ← List.cons_append, ih]
    simp
theorem gt_zero (gs : List Nat) (h : 0 < gs.length) : gtL (gs.take 1) = hex4 (gs.getD 0 0) := by
  cases gs with
  | nil => simp at h
  | cons g r => rfl
theorem gt_succ (gs : List Nat) (k : Nat) (h : k < gs.length) (hk : 0 < k) : gtL (gs.take (k + 1)) = gtL (gs.take k) ++ [58] ++ hex4 (gs.getD k 0) := by
  unfold gtL
  rw [List.take_succ_eq_append_getElem h, List.map_append, List.map_cons, List.map_nil, jl_snoc]
  · simp [List.getD, h]
  · intro e
    have h1 : ((gs.take k).map hex4).length = 0 := by rw [e]; rfl
    rw [List.length_map, List.length_take] at h1
    omega

/-- A slice's elements are these groups. -/
def GrpAt (w : World) (g off : Nat) (gs : List Nat) : Prop := ∀ j, j < gs.length → w.cell? ⟨g, off + j, none⟩ = some (.int .i64 ((gs.getD j 0 : Nat) : Int))
theorem GrpAt.later {w w' : World} {g off : Nat} {gs : List Nat} (h : GrpAt w g off gs) (hb : Below w.heap.size w w') : GrpAt w' g off gs := fun j hj => cell_later hb (h j hj)

set_option maxRecDepth 20000 in
set_option maxHeartbeats 4000000 in
theorem implGroupsText (g off cap : Nat) (gs : List Nat) (w : World) (hl : gs.length ≤ 8) (hg : ∀ x ∈ gs, x < 65536) (hc : GrpAt w g off gs) (hT : Bruijn w) :
    Calls Tryz.prog 67 #[.slice (some ⟨g, off, none⟩) gs.length cap] w fun e w' => e = .returned (.string ⟨(gtL gs).toArray⟩) ∧ Below w.heap.size w w' := by
  have HT : Hid (Bruijn w) := hT
  have HC : Hid (GrpAt w g off gs) := hc
  have HG : Hid (∀ x ∈ gs, x < 65536) := hg
  clear hT hc hg
  go_enter Tryz.func67, Tryz.ntmps67
  go_wp2
  go_loopw [3, 9] (fun b i wr => ∃ k : Nat, k ≤ gs.length ∧ i = .int .i64 k ∧ wr.ownsRow w.heap.size 5 1 b (gtL (gs.take k)).length (bcells (gtL (gs.take k))) ∧ Below w.heap.size w wr)
    (fun _ i _ => gs.length - (intOf i).toNat)
  case atStart => exact ⟨0, Nat.zero_le _, rfl, World.ownsRow_lit w #[] 0 (Nat.le_refl _) (by decide) rfl, (Below.refl _ _).alloc (Nat.le_refl _) _⟩
  case round =>
    obtain ⟨k, hk, rfl, hown, hbel⟩ := hrel
    have hsz := hbel.size
    have HTW : Hid (Bruijn wr) := bruijn_below HT.out hbel
    have hlen : (gtL (gs.take k)).length ≤ 100 := by
      have := (gt_len (gs.take k)).1
      rw [List.length_take] at this
      omega
    by_cases hlt : k < gs.length
    · have hce := (HC.out.later hbel) k hlt
      have hm : gs.getD k 0 < 65536 := HG.out _ (by
        rw [List.getD_eq_getElem?_getD, List.getElem?_eq_getElem hlt]
        exact List.getElem_mem hlt)
      have HS : Hid (0 < k → gtL (gs.take (k + 1)) = gtL (gs.take k) ++ [58] ++ hex4 (gs.getD k 0)) := fun h => gt_succ gs k hlt h
      have HZ : Hid (k = 0 → gtL (gs.take (k + 1)) = gtL (gs.take k) ++ hex4 (gs.getD k 0)) := fun h => by
        subst h
        rw [gt_zero gs hlt]
        rfl
      have CA : Hid (∀ (v : Value) (l : List UInt8) (W : World), Bruijn W → W.ownsRow w.heap.size 5 1 v l.length (bcells l) → w.heap.size ≤ W.heap.size → l.length ≤ 1000 → Calls Tryz.prog 64 #[v, .int .i64 ((gs.getD k 0 : Nat) : Int), .int .i64 16] W fun e w' => ∃ v', e = .returned v' ∧ w'.ownsRow w.heap.size 5 1 v' (l ++ hex4 (gs.getD k 0)).length (bcells (l ++ hex4 (gs.getD k 0))) ∧ Below w.heap.size W w') := fun v l W a b c d => implAppHex _ _ v l W (by omega) (by omega) a b c d
      obtain ⟨x, hx⟩ : ∃ x : Int, ((gs.getD k 0 : Nat) : Int) = x := ⟨_, rfl⟩
      rw [hx] at hce CA
      have hx0 : 0 ≤ x := by omega
      have hx1 : x < 65536 := by omega
      generalize gs.getD k 0 = y at hx CA HS HZ hm
      clear hx hm
      by_cases h0 : k = 0
      · subst h0
        rw [Nat.add_zero] at hce
        go_wp2_with fail
        refine (CA.out _ _ _ HTW.out hown hsz (by omega)).mono ?_
        rintro e wb ⟨vb, rfl, o2, b2⟩
        have B2 := hbel.trans b2
        clear hown hbel b2
        go_wp2_with fail
        go_roundw
        case rel =>
          refine ⟨1, by omega, by go_num, ?_, B2⟩
          rw [show gtL (gs.take 1) = gtL (gs.take 0) ++ hex4 y from HZ.out (by trivial)]
          exact o2
        case measure => simp [intOf]; omega
      · have hki : 0 < (k : Int) := by omega
        have HS2 : Hid (gtL (gs.take (k + 1)) = gtL (gs.take k) ++ [58] ++ hex4 y) := HS.out (by omega)
        clear HS HZ h0
        go_wp2_with (at_builtin; refine wpList_append_new _ rfl _ _ 22 rfl w.heap.size 5 (.int .u8 0) 1 Tryz.underlying22 Tryz.info5 rfl _ _ _ rfl hown #[.int .u8 58] 1 rfl rfl (by intro u hu; simp at hu; subst hu; rfl) (by omega) (by unfold maxLen; omega) hsz ?_)
        intro v' w1 o3 b3
        have R : w1.ownsRow w.heap.size 5 1 v' (gtL (gs.take k) ++ [58]).length (bcells (gtL (gs.take k) ++ [58])) := by
          rw [bcells_snoc, List.length_append]
          exact o3
        have B3 := hbel.trans b3
        have HT3 : Hid (Bruijn w1) := bruijn_below HT.out B3
        have z3 := B3.size
        have hl3 : (gtL (gs.take k) ++ [58]).length ≤ 1000 := by rw [List.length_append]; simp; omega
        clear o3 b3 hown hbel
        go_wp2_with fail
        refine (CA.out _ _ _ HT3.out R z3 hl3).mono ?_
        rintro e wb ⟨vb, rfl, o2, b2⟩
        have B2 := B3.trans b2
        clear R b2 B3
        go_wp2_with fail
        go_roundw
        case rel =>
          refine ⟨k + 1, by omega, by go_num, ?_, B2⟩
          rw [HS2.out]
          exact o2
        case measure => simp [intOf]; omega
    · have he : gs.take k = gs := List.take_of_length_le (by omega)
      rw [he] at hown
      have hcv := run_string_own (P := Tryz.prog) wr 22 9 5 Tryz.underlying22 Tryz.underlying5 Tryz.underlying9 hown
      clear he hlen
      have hki : ¬ (k : Int) < (gs.length : Int) := by omega
      go_wp2_with fail
      go_ret
      exact ⟨rfl, hbel⟩
end Go.Proofs.YtamnhegianpedaaGreatDoor

namespace Go.Proofs.YtamnhegianpedaaGreatDoor
open Go.RowKit

/-- The text of eight groups; nothing, where one is none. -/
def ip6L (z : List Int) : List UInt8 := if okG z = true then ip6T (z.map Int.toNat) (rowI 0 (0, 0, 0) (zb z)).1 (rowI 0 (0, 0, 0) (zb z)).2.1 else []

theorem okG_all {z : List Int} (h : okG z = true) : ∀ x ∈ z, 0 ≤ x ∧ x ≤ 65535 := by
  unfold okG at h
  rw [List.all_eq_true] at h
  intro x hx
  simpa using h x hx

theorem row_ok (x0 x1 x2 x3 x4 x5 x6 x7 : Int) : rowOkB (zb [x0, x1, x2, x3, x4, x5, x6, x7]) = true := rows_ok _ _ _ _ _ _ _ _

theorem row_le {z : List Int} (h : rowOkB (zb z) = true) : (rowI 0 (0, 0, 0) (zb z)).1 ≤ (rowI 0 (0, 0, 0) (zb z)).2.1 ∧ (rowI 0 (0, 0, 0) (zb z)).2.1 ≤ 8 := by
  unfold rowOkB at h
  simp only [Bool.and_eq_true, decide_eq_true_eq] at h
  exact h.1

theorem grpAt_of {w : World} {B : Nat} {z : List Int} (hc : ∀ k, k < 8 → w.cell? ⟨B, k, none⟩ = some (.int .i64 (z.getD k 0))) (hz : z.length = 8) (ha : ∀ x ∈ z, 0 ≤ x ∧ x ≤ 65535) (off m : Nat) (h : off + m ≤ 8) :
    GrpAt w B off (((z.map Int.toNat).drop off).take m) ∧ (((z.map Int.toNat).drop off).take m).length = m ∧ ∀ x ∈ ((z.map Int.toNat).drop off).take m, x < 65536 := by
  have hl : (((z.map Int.toNat).drop off).take m).length = m := by simp; omega
  refine ⟨fun j hj => ?_, hl, fun x hx => ?_⟩
  · rw [hl] at hj
    rw [hc (off + j) (by omega)]
    have h1 : z[off + j]'(by omega) ∈ z := List.getElem_mem _
    have h2 := ha _ h1
    simp only [List.getD_eq_getElem?_getD]
    rw [List.getElem?_eq_getElem (by omega), List.getElem?_eq_getElem (by omega), List.getElem_take, List.getElem_drop, List.getElem_map]
    simp only [Option.getD_some]
    congr 2
    omega
  · have h1 := List.mem_of_mem_drop (List.mem_of_mem_take hx)
    obtain ⟨y, hy, rfl⟩ := List.mem_map.1 h1
    have := ha y hy
    omega

theorem len8 : Tryz.prog.arrayLen 24 = 8 := by kernel_rfl
theorem elem8 : Tryz.prog.elem 24 = 3 := by kernel_rfl
theorem under8 : Tryz.prog.underlying 24 = some (.array (Tryz.prog.arrayLen 24) (Tryz.prog.elem 24)) := by kernel_rfl
theorem slice_hm (B f : Nat) (hf : f ≤ 8) (W : World) : (Instr.sliceAt 24 (.pointer (some ⟨B, 0, none⟩)) none (some (.int .i64 (f : Int))) (some (.int .i64 (f : Int)))).run Tryz.prog W = .ok (.slice (some ⟨B, 0, none⟩) f f) W := by
  rw [run_sliceAt_array_hm (P := Tryz.prog) W 24 ⟨B, 0, none⟩ under8 .i64 .i64 f f (by omega) (by omega) (by rw [len8]; omega), elem8]
  simp [slicedAt, Tryz.sizeOf3, Result.andThen, Addr.add_lit]
theorem slice_l (B t : Nat) (ht : t ≤ 8) (W : World) : (Instr.sliceAt 24 (.pointer (some ⟨B, 0, none⟩)) (some (.int .i64 (t : Int))) none none).run Tryz.prog W = .ok (.slice (some ⟨B, if 8 = t then 0 else t, none⟩) (8 - t) (8 - t)) W := by
  rw [run_sliceAt_array_l (P := Tryz.prog) W 24 ⟨B, 0, none⟩ under8 .i64 t (by omega) (by rw [len8]; omega), elem8, len8]
  by_cases h : 8 = t
  · subst h
    simp [slicedAt, Tryz.sizeOf3, Result.andThen]
  · simp [slicedAt, Tryz.sizeOf3, Result.andThen, Addr.add_lit, h]

set_option maxRecDepth 20000 in
set_option maxHeartbeats 4000000 in
theorem implIp6Text (x0 x1 x2 x3 x4 x5 x6 x7 : Int) (w : World) (hT : Bruijn w) :
    Calls Tryz.prog 41 #[.agg #[.int .i64 x0, .int .i64 x1, .int .i64 x2, .int .i64 x3, .int .i64 x4, .int .i64 x5, .int .i64 x6, .int .i64 x7]] w fun e w' => e = .returned (.string ⟨(ip6L [x0, x1, x2, x3, x4, x5, x6, x7]).toArray⟩) ∧ Below w.heap.size w w' := by
  have CG : Hid (∀ W, Calls Tryz.prog 65 #[.agg #[.int .i64 x0, .int .i64 x1, .int .i64 x2, .int .i64 x3, .int .i64 x4, .int .i64 x5, .int .i64 x6, .int .i64 x7]] W fun e w' => e = .returned (.bool (okG [x0, x1, x2, x3, x4, x5, x6, x7])) ∧ Below W.heap.size W w') := fun W => implGroupsOk x0 x1 x2 x3 x4 x5 x6 x7 W
  have CR : Hid (∀ W, Calls Tryz.prog 66 #[.agg #[.int .i64 x0, .int .i64 x1, .int .i64 x2, .int .i64 x3, .int .i64 x4, .int .i64 x5, .int .i64 x6, .int .i64 x7]] W fun e w' => e = .returned (rowV (rowI 0 (0, 0, 0) (zb [x0, x1, x2, x3, x4, x5, x6, x7]))) ∧ Below W.heap.size W w') := fun W => implLongest x0 x1 x2 x3 x4 x5 x6 x7 W
  have HT : Hid (Bruijn w) := hT
  clear hT
  have hrow := row_le (row_ok x0 x1 x2 x3 x4 x5 x6 x7)
  cases hok : okG [x0, x1, x2, x3, x4, x5, x6, x7] with
  | false =>
    have HL : Hid (ip6L [x0, x1, x2, x3, x4, x5, x6, x7] = []) := by show _ = _; unfold ip6L; rw [hok]; rfl
    rw [hok] at CG
    generalize ip6L [x0, x1, x2, x3, x4, x5, x6, x7] = L at HL ⊢
    clear hok hrow CR
    go_enter Tryz.func41, Tryz.ntmps41
    go_wp2_with fail
    refine (CG.out _).mono ?_
    rintro e w1 ⟨rfl, b1⟩
    have B1 : Below w.heap.size w w1 := ((Below.refl _ w).alloc (Nat.le_refl _) _).trans (b1.mono (by simp))
    clear b1
    go_wp2_with fail
    go_ret
    exact ⟨by rw [HL.out]; rfl, B1⟩
  | true =>
    have HL : Hid (ip6L [x0, x1, x2, x3, x4, x5, x6, x7] = ip6T ([x0, x1, x2, x3, x4, x5, x6, x7].map Int.toNat) (rowI 0 (0, 0, 0) (zb [x0, x1, x2, x3, x4, x5, x6, x7])).1 (rowI 0 (0, 0, 0) (zb [x0, x1, x2, x3, x4, x5, x6, x7])).2.1) := by show _ = _; unfold ip6L; rw [if_pos hok]
    have HA : Hid (∀ x ∈ [x0, x1, x2, x3, x4, x5, x6, x7], 0 ≤ x ∧ x ≤ 65535) := okG_all hok
    rw [hok] at CG
    clear hok
    generalize rowI 0 (0, 0, 0) (zb [x0, x1, x2, x3, x4, x5, x6, x7]) = r at HL CR hrow
    obtain ⟨f, t, b⟩ := r
    simp only [rowV] at HL CR hrow
    obtain ⟨hr1, hr2⟩ := hrow
    generalize ip6L [x0, x1, x2, x3, x4, x5, x6, x7] = L at HL ⊢
    go_enter Tryz.func41, Tryz.ntmps41
    go_wp2_with fail
    refine (CG.out _).mono ?_
    rintro e w1 ⟨rfl, b1⟩
    have B1 : Below w.heap.size w w1 := ((Below.refl _ w).alloc (Nat.le_refl _) _).trans (b1.mono (by simp))
    have HC1 : Hid (∀ k, k < 8 → w1.cell? ⟨w.heap.size, k, none⟩ = some (.int .i64 ([x0, x1, x2, x3, x4, x5, x6, x7].getD k 0))) := fun k hk => cell_later b1 (cell8 w x0 x1 x2 x3 x4 x5 x6 x7 k hk)
    clear b1
    have a0 : w1.cell? ⟨w.heap.size, 0, none⟩ = some (.int .i64 x0) := HC1.out 0 (by decide)
    have a1 : w1.cell? ⟨w.heap.size, 1, none⟩ = some (.int .i64 x1) := HC1.out 1 (by decide)
    have a2 : w1.cell? ⟨w.heap.size, 2, none⟩ = some (.int .i64 x2) := HC1.out 2 (by decide)
    have a3 : w1.cell? ⟨w.heap.size, 3, none⟩ = some (.int .i64 x3) := HC1.out 3 (by decide)
    have a4 : w1.cell? ⟨w.heap.size, 4, none⟩ = some (.int .i64 x4) := HC1.out 4 (by decide)
    have a5 : w1.cell? ⟨w.heap.size, 5, none⟩ = some (.int .i64 x5) := HC1.out 5 (by decide)
    have a6 : w1.cell? ⟨w.heap.size, 6, none⟩ = some (.int .i64 x6) := HC1.out 6 (by decide)
    have a7 : w1.cell? ⟨w.heap.size, 7, none⟩ = some (.int .i64 x7) := HC1.out 7 (by decide)
    go_wp2_with fail
    refine (CR.out _).mono ?_
    rintro e w2 ⟨rfl, b2⟩
    have B2 : Below w.heap.size w w2 := B1.trans (b2.mono B1.size)
    have HC2 : Hid (∀ k, k < 8 → w2.cell? ⟨w.heap.size, k, none⟩ = some (.int .i64 ([x0, x1, x2, x3, x4, x5, x6, x7].getD k 0))) := fun k hk => cell_later b2 (HC1.out k hk)
    have HT2 : Hid (Bruijn w2) := bruijn_below HT.out B2
    clear a0 a1 a2 a3 a4 a5 a6 a7 b2 B1 HC1 CG CR
    by_cases h2 : (t : Int) - f < 2
    · obtain ⟨g1, g2, g3⟩ := grpAt_of HC2.out rfl HA.out 0 8 (by decide)
      have CT := implGroupsText w.heap.size 0 8 _ w2 (by omega) g3 g1 HT2.out
      rw [g2] at CT
      have CT : Hid (Calls Tryz.prog 67 #[.slice (some ⟨w.heap.size, 0, none⟩) 8 8] w2 fun e w' => e = .returned (.string ⟨L.toArray⟩) ∧ Below w2.heap.size w2 w') := by
        rw [HL.out]
        unfold ip6T
        rw [if_pos (by omega)]
        exact CT
      clear g1 g2 g3 HL
      go_wp2_with fail
      refine CT.out.mono ?_
      rintro e w3 ⟨rfl, b3⟩
      have B3 := B2.trans (b3.mono B2.size)
      clear b3
      go_wp2_with fail
      go_ret
      exact ⟨rfl, B3⟩
    · obtain ⟨g1, g2, g3⟩ := grpAt_of HC2.out rfl HA.out 0 f (by omega)
      have CT1 := implGroupsText w.heap.size 0 f _ w2 (by omega) g3 g1 HT2.out
      rw [g2, List.drop_zero] at CT1
      clear CT1
      have CT1 : Hid (∀ W, Below w2.heap.size w2 W → Calls Tryz.prog 67 #[.slice (some ⟨w.heap.size, 0, none⟩) f f] W fun e w' => e = .returned (.string ⟨(gtL (([x0, x1, x2, x3, x4, x5, x6, x7].map Int.toNat).take f)).toArray⟩) ∧ Below W.heap.size W w') := fun W hb => by
        have h := implGroupsText w.heap.size 0 f _ W (by omega) g3 (g1.later hb) (bruijn_below HT2.out hb)
        rw [g2, List.drop_zero] at h
        exact h
      have CT2 : Hid (∀ W, Below w2.heap.size w2 W → Calls Tryz.prog 67 #[.slice (some ⟨w.heap.size, if 8 = t then 0 else t, none⟩) (8 - t) (8 - t)] W fun e w' => e = .returned (.string ⟨(gtL (([x0, x1, x2, x3, x4, x5, x6, x7].map Int.toNat).drop t)).toArray⟩) ∧ Below W.heap.size W w') := fun W hb => by
        obtain ⟨k1, k2, k3⟩ := grpAt_of HC2.out rfl HA.out t (8 - t) (by omega)
        have k4 : GrpAt w2 w.heap.size (if 8 = t then 0 else t) ((([x0, x1, x2, x3, x4, x5, x6, x7].map Int.toNat).drop t).take (8 - t)) := by
          by_cases h8 : 8 = t
          · intro j hj
            rw [k2] at hj
            omega
          · rw [if_neg h8]
            exact k1
        have h := implGroupsText w.heap.size (if 8 = t then 0 else t) (8 - t) _ W (by omega) k3 (k4.later hb) (bruijn_below HT2.out hb)
        rw [k2, List.take_of_length_le (by simp)] at h
        exact h
      have HLL : Hid (L = gtL (([x0, x1, x2, x3, x4, x5, x6, x7].map Int.toNat).take f) ++ 58 :: 58 :: gtL (([x0, x1, x2, x3, x4, x5, x6, x7].map Int.toNat).drop t)) := by
        show _ = _
        rw [HL.out]
        unfold ip6T
        rw [if_neg (by omega)]
      clear g1 g2 g3 HL
      have s1 := (gt_len (([x0, x1, x2, x3, x4, x5, x6, x7].map Int.toNat).take f)).1
      have s2 := (gt_len (([x0, x1, x2, x3, x4, x5, x6, x7].map Int.toNat).drop t)).1
      rw [List.length_take] at s1
      rw [List.length_drop] at s2
      have h8 : ([x0, x1, x2, x3, x4, x5, x6, x7].map Int.toNat).length = 8 := rfl
      rw [h8] at s1 s2
      clear h8
      generalize gtL (([x0, x1, x2, x3, x4, x5, x6, x7].map Int.toNat).take f) = L1 at CT1 HLL s1
      generalize gtL (([x0, x1, x2, x3, x4, x5, x6, x7].map Int.toNat).drop t) = L2 at CT2 HLL s2
      have z1 : (⟨L1.toArray⟩ : ByteArray).size ≤ 100 := by show L1.toArray.size ≤ 100; rw [List.size_toArray]; omega
      have z2 : (⟨L2.toArray⟩ : ByteArray).size ≤ 100 := by show L2.toArray.size ≤ 100; rw [List.size_toArray]; omega
      have HLT : Hid ((⟨L.toArray⟩ : ByteArray) = ⟨L1.toArray⟩ ++ ⟨#[58, 58]⟩ ++ ⟨L2.toArray⟩) := by
        show _ = _
        rw [HLL.out, show (⟨#[58, 58]⟩ : ByteArray) = ⟨[58, 58].toArray⟩ from rfl, cat_bytes, cat_bytes]
        simp
      generalize (⟨L1.toArray⟩ : ByteArray) = T1 at CT1 HLT z1
      generalize (⟨L2.toArray⟩ : ByteArray) = T2 at CT2 HLT z2
      clear HLL s1 s2
      have z0 : (⟨#[58, 58]⟩ : ByteArray).size = 2 := rfl
      have CT1d : Hid (Calls Tryz.prog 67 #[.slice (some ⟨w.heap.size, 0, none⟩) f f] w2.drew fun e w' => e = .returned (.string T1) ∧ Below w2.heap.size w2 w') := (CT1.out w2.drew (Below.drew (Below.refl _ w2))).mono fun e w' h => ⟨h.1, (Below.drew (Below.refl _ w2)).trans h.2⟩
      have sl1 := slice_hm w.heap.size f (by omega)
      have sl2 := slice_l w.heap.size t hr2
      generalize (if 8 = t then 0 else t) = o2 at sl2 CT2
      go_wp2_with fail
      go_region_with (go_at_call 67; first | (with_reducible refine CT1d.out.mono ?_; rintro e w3 ⟨rfl, k3⟩) | (with_reducible refine (CT2.out _ k3).mono ?_; rintro e w4 ⟨rfl, b4⟩))
      all_goals
        go_wp2_with fail
        go_ret
        exact ⟨by rw [HLT.out]; rfl, (B2.trans (k3.mono B2.size)).trans (b4.mono (Nat.le_trans B2.size k3.size))⟩
end Go.Proofs.YtamnhegianpedaaGreatDoor
