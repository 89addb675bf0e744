/- A digit as a text: the specification's. -/
import Derived.Test.YtfdgehlobbeomaaDoorRows
import Derived.Test.YtfdgehlobbeomaaDoorSplPlain
import Derived.Test.YtfdgehlobbeomaaDoorBase
import Derived.Test.YtfdgehlobbeomaaDoorRowMore
namespace Go.Proofs.YtfdgehlobbeomaaDoor
open Go.RowKit

theorem cat_bytes (a b : List UInt8) : ((⟨a.toArray⟩ : ByteArray) ++ (⟨b.toArray⟩ : ByteArray)) = ⟨(a ++ b).toArray⟩ := by
  apply ByteArray.ext
  rw [ByteArray.data_append]
  simp

/-- A digit to ten as a text. -/
def digT (v : Nat) : ByteArray := ⟨#[UInt8.ofNat (48 + v)]⟩
def decT (x : Int) : ByteArray := ⟨(dec3 x.toNat).toArray⟩
theorem decT_1 {x : Int} (h0 : 0 ≤ x) (h : x < 10) : decT x = digT x.toNat := by
  unfold decT digT dec3
  rw [if_pos (by omega)]
theorem decT_2 {x : Int} (h0 : 10 ≤ x) (h : x < 100) : decT x = decT (x / 10) ++ digT (x % 10).toNat := by
  rw [decT_1 (x := x / 10) (by omega) (by omega)]
  unfold decT digT dec3
  rw [if_neg (by omega), if_pos (by omega), show (⟨#[UInt8.ofNat (48 + (x / 10).toNat)]⟩ : ByteArray) = ⟨[UInt8.ofNat (48 + (x / 10).toNat)].toArray⟩ from rfl, show (⟨#[UInt8.ofNat (48 + (x % 10).toNat)]⟩ : ByteArray) = ⟨[UInt8.ofNat (48 + (x % 10).toNat)].toArray⟩ from rfl, cat_bytes]
  have e1 : (x / 10).toNat = x.toNat / 10 := by omega
  have e2 : (x % 10).toNat = x.toNat % 10 := by omega
  rw [e1, e2]
  rfl
theorem decT_3 {x : Int} (h0 : 100 ≤ x) (h : x < 1000) : decT x = decT (x / 10) ++ digT (x % 10).toNat := by
  unfold decT digT dec3
  rw [if_neg (by omega), if_neg (by omega), if_neg (by omega), if_pos (by omega), show (⟨#[UInt8.ofNat (48 + (x % 10).toNat)]⟩ : ByteArray) = ⟨[UInt8.ofNat (48 + (x % 10).toNat)].toArray⟩ from rfl, cat_bytes]
  have e1 : (x / 10).toNat / 10 = x.toNat / 100 := by omega
  have e3 : (x / 10).toNat % 10 = x.toNat / 10 % 10 := by omega
  have e2 : (x % 10).toNat = x.toNat % 10 := by omega
  rw [e1, e2, e3]
  rfl
theorem decT_size (x : Int) : (decT x).size ≤ 3 := by
  unfold decT
  show (dec3 x.toNat).toArray.size ≤ 3
  rw [List.size_toArray]
  exact dec3_len _

theorem conv_at (W : World) (B : Nat) (c : Nat) (hc : c < 256) (x : Int) (hx : x = (c : Int)) (h : W.cell? ⟨B, 0, none⟩ = some (.int .u8 x)) :
    (convert 42 9 (.slice (some ⟨B, 0, none⟩) 1 1)).run Tryd.prog W = .ok (.string ⟨#[UInt8.ofNat c]⟩) W := by
  subst hx
  have h := run_convert_bytes_back (P := Tryd.prog) W 42 9 5 ⟨B, 0, none⟩ 1 [UInt8.ofNat c] Tryd.underlying42 Tryd.underlying5 Tryd.underlying9 (fun j hj => by
    have : j = 0 := by simpa using hj
    subst this
    rw [Addr.add_lit, h]
    simp
    omega)
  simpa using h

theorem conv_new (W : World) (c : Nat) (hc : c < 256) (x : Int) (hx : x = (c : Int)) :
    (convert 42 9 (.slice (some ⟨W.heap.size, 0, none⟩) 1 1)).run Tryd.prog (W.alloc (.cells #[.int .u8 x] 5)) = .ok (.string ⟨#[UInt8.ofNat c]⟩) (W.alloc (.cells #[.int .u8 x] 5)) :=
  conv_at _ _ c hc x hx (by rw [World.cell?_alloc_at _ _ _ _ rfl]; rfl)

theorem conv_old {W W' : World} (c : Nat) (hc : c < 256) (x : Int) (hx : x = (c : Int)) (h : Below (W.alloc (.cells #[.int .u8 x] 5)).heap.size (W.alloc (.cells #[.int .u8 x] 5)) W') :
    (convert 42 9 (.slice (some ⟨W.heap.size, 0, none⟩) 1 1)).run Tryd.prog W' = .ok (.string ⟨#[UInt8.ofNat c]⟩) W' :=
  conv_at _ _ c hc x hx (by
    have e : (W.alloc (.cells #[.int .u8 x] 5)).cell? ⟨W.heap.size, 0, none⟩ = some (.int .u8 x) := by rw [World.cell?_alloc_at _ _ _ _ rfl]; rfl
    exact cell_later h e)

set_option maxHeartbeats 1000000 in
theorem specText1 (x : Int) (w : World) (h0 : 0 ≤ x) (h1 : x < 10) :
    Calls Tryd.prog 21 #[.int .i64 x] w fun e w' => e = .returned (.string (decT x)) ∧ Below w.heap.size w w' := by
  have HD := decT_1 h0 h1
  have hcv := conv_new w (48 + x.toNat) (by omega) (48 + x) (by omega)
  rw [show (⟨#[UInt8.ofNat (48 + x.toNat)]⟩ : ByteArray) = digT x.toNat from rfl, ← HD] at hcv
  generalize decT x = T at hcv ⊢
  clear HD
  go_enter Tryd.func21, Tryd.ntmps21
  go_wp2
  go_ret
  exact ⟨rfl, (Below.refl _ _).alloc (Nat.le_refl _) _⟩

end Go.Proofs.YtfdgehlobbeomaaDoor
