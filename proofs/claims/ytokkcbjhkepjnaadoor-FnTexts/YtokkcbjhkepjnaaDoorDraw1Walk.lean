/- Contracts of what is drawn for chapter 1. -/
import Derived.Test.YtokkcbjhkepjnaaDoorRows
import Derived.Test.YtokkcbjhkepjnaaDoorDrawWalk
import Derived.Test.YtokkcbjhkepjnaaDoorIntMarks
namespace Go.Proofs.YtokkcbjhkepjnaaDoor
open Go.RowKit

set_option maxRecDepth 100000 in
set_option maxHeartbeats 2000000 in
theorem l1Some (D B : Nat) (ao : Option Addr) (len cap : Nat) (w : World) (hcur : Cur D B ao len cap w) :
    Calls Tryd.prog 54 #[.pointer (some ⟨B, 0, none⟩)] w fun e w' => ∃ z : ByteArray, z.size ≤ 1000 ∧ e = .returned (.string z) ∧ Cur D B ao len cap w' ∧ w.grownBy w' (some B) := by
  have HC : Hid (Cur D B ao len cap w) := hcur
  clear hcur
  go_enter Tryd.func54, Tryd.ntmps54
  go_wp2_with fail
  refine (l1Below 6 _ _ _ _ _ _ (by omega) (by omega) HC.out).mono ?_
  rintro e wa ⟨x, hx0, hx1, rfl, ca, ga⟩
  have CA : Hid (Cur D B ao len cap wa) := ca
  clear ca
  obtain ⟨n, rfl⟩ := Int.eq_ofNat_of_zero_le hx0
  go_wp2_with fail
  go_loopw [3, 4] (fun a i wr => ∃ (k : Nat) (z : ByteArray), k ≤ n ∧ i = .int .i64 k ∧ a = .string z ∧ z.size + 20 * k ≤ 20 * n ∧ Cur D B ao len cap wr ∧ w.grownBy wr (some B)) (fun _ i _ => (intOf i).toNat)
  case atStart => exact ⟨n, ⟨#[]⟩, Nat.le_refl _, rfl, rfl, by simp [ByteArray.size], CA.out, ga⟩
  case round =>
    obtain ⟨k, z, hk, rfl, rfl, hz, hcu, hgr⟩ := hrel
    have HU : Hid (Cur D B ao len cap wr) := hcu
    have hB := hcu.lt
    clear hcu
    by_cases hp : 0 < k
    · go_wp2_with fail
      refine (l1StrX 20 14 _ 14 0 _ _ _ _ _ _ _ (by omega) (by omega) (HU.out.alloc _) (World.ownsRow_lit wr _ 14 (Nat.zero_le _) (by decide) rfl) (by omega) (by decide)).mono ?_
      rintro e wc ⟨y, hy, rfl, cc, gc⟩
      have CC : Hid (Cur D B ao len cap wc) := cc
      have G := grow_trans (grow_alloc hgr _) gc
      clear cc gc hgr
      go_wp2_with fail
      go_roundw
      case rel => exact ⟨k - 1, z ++ y, by omega, by go_num, rfl, by rw [ByteArray.size_append]; omega, CC.out, G⟩
      case measure => simp [intOf]; omega
    · go_wp2_with fail
      go_ret
      exact ⟨z, by omega, rfl, HU.out, hgr⟩

set_option maxRecDepth 100000 in
set_option maxHeartbeats 2000000 in
theorem l1RuneAny (D B : Nat) (ao : Option Addr) (len cap : Nat) (w : World) (hcur : Cur D B ao len cap w) :
    Calls Tryd.prog 44 #[.pointer (some ⟨B, 0, none⟩)] w fun e w' => ∃ z : Int, e = .returned (.int .i64 z) ∧ Cur D B ao len cap w' ∧ w.grownBy w' (some B) := by
  have HC : Hid (Cur D B ao len cap w) := hcur
  clear hcur
  go_enter Tryd.func44, Tryd.ntmps44
  go_wp2_with fail
  refine (l1Below 3000 _ _ _ _ _ _ (by omega) (by omega) HC.out).mono ?_
  rintro e wa ⟨x, hx0, hx1, rfl, ca, ga⟩
  have CA : Hid (Cur D B ao len cap wa) := ca
  have hB := ca.lt
  clear ca
  go_wp2_with fail
  refine (l1IntX 17 _ 17 0 _ _ _ _ _ _ _ (by omega) (by omega) (CA.out.alloc _) (World.ownsRow_lit wa _ 17 (Nat.zero_le _) (by decide) rfl) (by omega) rfl).mono ?_
  rintro e wc ⟨y, rfl, cc, gc⟩
  have CC : Hid (Cur D B ao len cap wc) := cc
  have G := grow_trans (grow_alloc ga _) gc
  clear cc gc ga
  go_wp2_with fail
  go_ret
  exact ⟨y, rfl, CC.out, G⟩

set_option maxRecDepth 100000 in
set_option maxHeartbeats 4000000 in
theorem drawPutRunes (ao : Option Addr) (len cap : Nat) (w : World) (hl : len ≤ 1048576) (hcode : CodeRow w.heap.size w ao len) :
    Calls Tryd.prog 14 #[.slice ao len cap] w fun e w' => ∃ (v : Value) (zl : List Int), zl.length ≤ 100 ∧ e = .returned v ∧ w'.ownsRow w.heap.size 3 1 v zl.length (icells zl) ∧ Below w.heap.size w w' := by
  go_enter Tryd.func14, Tryd.ntmps14
  go_wp2_with fail
  refine (l1New _ _ _ _ hl hcode).mono ?_
  rintro e wa ⟨B, rfl, hB, ca, ba⟩
  have CA : Hid (Cur w.heap.size B ao len cap wa) := ca
  have za := ba.size
  have hBlt := ca.lt
  clear ca hcode
  go_wp2_with fail
  refine (l1Below 6 _ _ _ _ _ _ (by omega) (by omega) (CA.out.alloc _)).mono ?_
  rintro e wb ⟨x, hx0, hx1, rfl, cb, gb⟩
  have CB : Hid (Cur w.heap.size B ao len cap wb) := cb
  have Bb : Below w.heap.size w wb := (ba.alloc za _).grown gb (by simp; omega) (fun k hk => by cases hk; exact hB)
  have ob : wb.ownsRow w.heap.size 3 1 (.slice (some ⟨wa.heap.size, 0, none⟩) 0 0) 0 (icells []) :=
    (World.ownsRow_lit wa #[] 0 za (by decide) rfl).kept gb (by right; simp [Value.ownBlock]; omega)
  clear cb gb ba
  obtain ⟨n, rfl⟩ := Int.eq_ofNat_of_zero_le hx0
  go_wp2_with fail
  go_loopw [4, 5] (fun v i wr => ∃ (k : Nat) (zl : List Int), k ≤ n ∧ i = .int .i64 k ∧ zl.length + k = n ∧ wr.ownsRow w.heap.size 3 1 v zl.length (icells zl) ∧ some B ≠ v.ownBlock ∧ Cur w.heap.size B ao len cap wr ∧ Below w.heap.size w wr) (fun _ i _ => (intOf i).toNat)
  case atStart => exact ⟨n, [], Nat.le_refl _, rfl, by simp, ob, by simp [Value.ownBlock]; omega, CB.out, Bb⟩
  case round =>
    clear ob Bb
    obtain ⟨k, zl, hk, rfl, hz, hown, hne, hcu, hbel⟩ := hrel
    have HU : Hid (Cur w.heap.size B ao len cap wr) := hcu
    have HZ : Hid (zl.length + k = n) := hz
    have HN : Hid (some B ≠ u4.ownBlock) := hne
    have hzl : zl.length ≤ n := by omega
    have hBr := hcu.lt
    have hsz := hbel.size
    clear hcu hz hne
    by_cases hp : 0 < k
    · go_wp2_with fail
      refine (l1RuneAny _ _ _ _ _ _ HU.out).mono ?_
      rintro e wc ⟨y, rfl, cc, gc⟩
      have CC : Hid (Cur w.heap.size B ao len cap wc) := cc
      have oc := hown.kept gc (.inr (fun h => HN.out h.symm))
      have Bc : Below w.heap.size w wc := hbel.grown gc hsz (fun k hk => by cases hk; exact hB)
      have zc := Bc.size
      have hBc := cc.lt
      clear cc gc hown hbel
      go_wp2_with (at_builtin; refine wpList_append_newG _ rfl _ _ 24 rfl w.heap.size 3 (.int .i64 0) 8 Tryd.underlying24 Tryd.infoInt rfl _ _ _ rfl oc #[.int .i64 y] 1 rfl rfl (by intro u hu; simp at hu; subst hu; rfl) (by omega) (by unfold maxLen; omega) zc ?_)
      intro v' w1 hown' hb1 hkeep
      have C1 : Cur w.heap.size B ao len cap w1 := CC.out.keep (hkeep B hBc HN.out) hb1.block
      have N1 : some B ≠ v'.ownBlock := by
        intro hx
        have h1 := (hown'.cells (g := B) hx.symm) 0
        obtain ⟨i', h', hc, _⟩ := C1
        rcases hown'.2 with ⟨rfl, _⟩ | ⟨g, cap', cur, rfl, _, hg, _⟩
        · simp [Value.ownBlock] at hx
        · simp [Value.ownBlock] at hx
          subst hx
          rw [hc] at hg
          simp at hg
      have B1 := Bc.trans hb1
      have O1 : w1.ownsRow w.heap.size 3 1 v' (zl ++ [y]).length (icells (zl ++ [y])) := by rw [icells_snoc, List.length_append]; exact hown'
      clear hown' hb1 hkeep oc Bc
      go_wp2_with fail
      go_roundw
      case rel => exact ⟨k - 1, zl ++ [y], by omega, by go_num, by have := HZ.out; simp; omega, O1, N1, C1, B1⟩
      case measure => simp [intOf]; omega
    · go_wp2_with fail
      refine (l1Once 6 _ _ _ _ _ _ (by omega) (by omega) HU.out).mono ?_
      rintro e wc ⟨b, rfl, cc, gc⟩
      have CC : Hid (Cur w.heap.size B ao len cap wc) := cc
      have oc := hown.kept gc (.inr (fun h => HN.out h.symm))
      have Bc : Below w.heap.size w wc := hbel.grown gc hsz (fun k hk => by cases hk; exact hB)
      have zc := Bc.size
      have hBc := cc.lt
      clear cc gc hown hbel
      cases b with
      | false =>
        go_wp2_with fail
        go_ret
        exact ⟨_, zl, by omega, rfl, oc, Bc⟩
      | true =>
        go_wp2_with fail
        refine (l1IntX 4 _ 4 0 _ _ _ _ _ _ _ (by omega) (by omega) (CC.out.alloc _) (World.ownsRow_lit wc _ 4 (Nat.zero_le _) (by decide) rfl) (by omega) rfl).mono ?_
        rintro e wd ⟨y, rfl, cd, gd⟩
        have od := (oc.alloc (.cells #[.int .i64 (-1), .int .i64 55296, .int .i64 57343, .int .i64 1114112] 3)).kept gd (.inr (fun h => HN.out h.symm))
        have Bd : Below w.heap.size w wd := (Bc.alloc zc _).grown gd (by simp; omega) (fun k hk => by cases hk; exact hB)
        have zd := Bd.size
        clear cd gd oc Bc
        go_wp2_with (at_builtin; refine wpList_append_new _ rfl _ _ 24 rfl w.heap.size 3 (.int .i64 0) 8 Tryd.underlying24 Tryd.infoInt rfl _ _ _ rfl od #[.int .i64 y] 1 rfl rfl (by intro u hu; simp at hu; subst hu; rfl) (by omega) (by unfold maxLen; omega) zd ?_)
        intro v' w1 hown' hb1
        have B1 := Bd.trans hb1
        have O1 : w1.ownsRow w.heap.size 3 1 v' (zl ++ [y]).length (icells (zl ++ [y])) := by rw [icells_snoc, List.length_append]; exact hown'
        clear hown' hb1 od Bd
        go_wp2_with fail
        go_ret
        exact ⟨_, zl ++ [y], by simp; omega, rfl, O1, B1⟩

set_option maxRecDepth 100000 in
set_option maxHeartbeats 4000000 in
theorem drawRunes (ao : Option Addr) (len cap : Nat) (w : World) (hl : len ≤ 1048576) (hcode : CodeRow w.heap.size w ao len) :
    Calls Tryd.prog 18 #[.slice ao len cap] w fun e w' => ∃ z : ByteArray, z.size ≤ 5000 ∧ e = .returned (.string z) ∧ Below w.heap.size w w' := by
  go_enter Tryd.func18, Tryd.ntmps18
  go_wp2_with fail
  refine (l1New _ _ _ _ hl hcode).mono ?_
  rintro e wa ⟨B, rfl, hB, ca, ba⟩
  have CA : Hid (Cur w.heap.size B ao len cap wa) := ca
  have za := ba.size
  clear ca hcode
  go_wp2_with fail
  refine (l1Once 4 _ _ _ _ _ _ (by omega) (by omega) CA.out).mono ?_
  rintro e wb ⟨b, rfl, cb, gb⟩
  have CB : Hid (Cur w.heap.size B ao len cap wb) := cb
  have hBb := cb.lt
  have Bb : Below w.heap.size w wb := ba.grown gb za (fun k hk => by cases hk; exact hB)
  have zb := Bb.size
  clear cb gb ba
  cases b with
  | true =>
    go_wp2_with fail
    refine (l1StrX 20 9 _ 9 0 _ _ _ _ _ _ _ (by omega) (by omega) (CB.out.alloc _) (World.ownsRow_lit wb _ 9 (Nat.zero_le _) (by decide) rfl) (by omega) (by decide)).mono ?_
    rintro e wc ⟨y, hy, rfl, cc, gc⟩
    have Bc : Below w.heap.size w wc := (Bb.alloc zb _).grown gc (by simp; omega) (fun k hk => by cases hk; exact hB)
    clear cc gc Bb
    go_wp2_with fail
    go_ret
    exact ⟨y, by omega, rfl, Bc⟩
  | false =>
    go_wp2_with fail
    refine (l1Some _ _ _ _ _ _ CB.out).mono ?_
    rintro e wc ⟨y, hy, rfl, cc, gc⟩
    have Bc : Below w.heap.size w wc := Bb.grown gc zb (fun k hk => by cases hk; exact hB)
    clear cc gc Bb
    go_wp2_with fail
    go_ret
    exact ⟨y, by omega, rfl, Bc⟩

set_option maxRecDepth 100000 in
set_option maxHeartbeats 4000000 in
theorem drawFields (ao : Option Addr) (len cap : Nat) (w : World) (hl : len ≤ 1048576) (hcode : CodeRow w.heap.size w ao len) :
    Calls Tryd.prog 21 #[.slice ao len cap] w fun e w' => ∃ (z : ByteArray) (b : Int), z.size ≤ 5000 ∧ 0 ≤ b ∧ b ≤ 255 ∧ e = .returned (.tuple #[.string z, .int .u8 b]) ∧ Below w.heap.size w w' := by
  go_enter Tryd.func21, Tryd.ntmps21
  go_wp2_with fail
  refine (l1New _ _ _ _ hl hcode).mono ?_
  rintro e wa ⟨B, rfl, hB, ca, ba⟩
  have CA : Hid (Cur w.heap.size B ao len cap wa) := ca
  have za := ba.size
  clear ca hcode
  go_wp2_with fail
  refine (l1Some _ _ _ _ _ _ CA.out).mono ?_
  rintro e wb ⟨y, hy, rfl, cb, gb⟩
  have CB : Hid (Cur w.heap.size B ao len cap wb) := cb
  have hBb := cb.lt
  have Bb : Below w.heap.size w wb := ba.grown gb za (fun k hk => by cases hk; exact hB)
  have zb := Bb.size
  clear cb gb ba
  go_wp2_with fail
  refine (l1IntX 4 _ 4 0 _ _ _ _ _ _ _ (by omega) (by omega) (CB.out.alloc _) (World.ownsRow_lit wb _ 4 (Nat.zero_le _) (by decide) rfl) (by omega) rfl).mono ?_
  rintro e wc ⟨x, rfl, cc, gc⟩
  have Bc : Below w.heap.size w wc := (Bb.alloc zb _).grown gc (by simp; omega) (fun k hk => by cases hk; exact hB)
  clear cc gc Bb
  go_wp2_with fail
  go_ret2
  exact ⟨y, x % 256, by omega, by omega, by omega, rfl, Bc⟩

set_option maxRecDepth 100000 in
set_option maxHeartbeats 4000000 in
theorem drawTrim (ao : Option Addr) (len cap : Nat) (w : World) (hl : len ≤ 1048576) (hcode : CodeRow w.heap.size w ao len) :
    Calls Tryd.prog 23 #[.slice ao len cap] w fun e w' => ∃ z : ByteArray, z.size ≤ 5000 ∧ e = .returned (.string z) ∧ Below w.heap.size w w' := by
  go_enter Tryd.func23, Tryd.ntmps23
  go_wp2_with fail
  refine (l1New _ _ _ _ hl hcode).mono ?_
  rintro e wa ⟨B, rfl, hB, ca, ba⟩
  have CA : Hid (Cur w.heap.size B ao len cap wa) := ca
  have hBa := ca.lt
  have za := ba.size
  clear ca hcode
  go_wp2_with fail
  refine (l1StrX 20 5 _ 5 0 _ _ _ _ _ _ _ (by omega) (by omega) (CA.out.alloc _) (World.ownsRow_lit wa _ 5 (Nat.zero_le _) (by decide) rfl) (by omega) (by decide)).mono ?_
  rintro e wb ⟨x, hx, rfl, cb, gb⟩
  have CB : Hid (Cur w.heap.size B ao len cap wb) := cb
  have Bb : Below w.heap.size w wb := (ba.alloc za _).grown gb (by simp; omega) (fun k hk => by cases hk; exact hB)
  have zb := Bb.size
  clear cb gb ba
  go_wp2_with fail
  refine (l1Some _ _ _ _ _ _ CB.out).mono ?_
  rintro e wc ⟨y, hy, rfl, cc, gc⟩
  have CC : Hid (Cur w.heap.size B ao len cap wc) := cc
  have hBc := cc.lt
  have Bc : Below w.heap.size w wc := Bb.grown gc zb (fun k hk => by cases hk; exact hB)
  have zc := Bc.size
  clear cc gc Bb
  go_wp2_with fail
  refine (l1StrX 20 3 _ 3 0 _ _ _ _ _ _ _ (by omega) (by omega) (CC.out.alloc _) (World.ownsRow_lit wc _ 3 (Nat.zero_le _) (by decide) rfl) (by omega) (by decide)).mono ?_
  rintro e wd ⟨z, hz, rfl, cd, gd⟩
  have Bd : Below w.heap.size w wd := (Bc.alloc zc _).grown gd (by simp; omega) (fun k hk => by cases hk; exact hB)
  clear cd gd Bc
  go_wp2_with fail
  go_ret
  exact ⟨x ++ y ++ z, by rw [ByteArray.size_append, ByteArray.size_append]; omega, rfl, Bd⟩
end Go.Proofs.YtokkcbjhkepjnaaDoor
