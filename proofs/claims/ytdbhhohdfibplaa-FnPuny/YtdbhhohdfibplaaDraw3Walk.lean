/- Contracts of what is drawn for chapter 3. -/
import Derived.Test.YtdbhhohdfibplaaRows
import Derived.Test.YtdbhhohdfibplaaDrawWalk
import Derived.Test.YtdbhhohdfibplaaIntMarks
import Derived.Test.YtdbhhohdfibplaaEncBoth
namespace Go.Proofs.Ytdbhhohdfibplaa
open Go.RowKit

theorem grow_low {w w1 w2 : World} {row : Option Nat} (h : w.grownBy w1 row) (hb : Below w.heap.size w1 w2) : w.grownBy w2 row :=
  ⟨hb.os.trans h.os, hb.tape.trans h.tape, hb.output.trans h.output, Nat.le_trans h.size hb.size, fun k hk hne => (hb.block k hk).trans (h.block k hk hne)⟩
theorem below_grow {w w1 : World} {B : Nat} {b : Nat} (h : w.grownBy w1 (some B)) (hB : b ≤ B) (hs : b ≤ w.heap.size) : Below b w w1 := (Below.refl b w).grown h hs (fun k hk => by cases hk; exact hB)

theorem bytesAt.grow {W V : World} {g : Nat} {l : List UInt8} {row : Option Nat} (h : bytesAt W g l) (hg : W.grownBy V row) (hlt : g < W.heap.size) (hne : some g ≠ row) : bytesAt V g l := by
  intro j hj
  have e := hg.block g hlt hne
  have e1 : V.cell? ⟨g, j, none⟩ = W.cell? ⟨g, j, none⟩ := by simp only [World.cell?, e]
  have e2 : V.frozen? ⟨g, j, none⟩ = W.frozen? ⟨g, j, none⟩ := by simp only [World.frozen?, e]
  rw [e1, e2]
  exact h j hj
theorem u8_of (z : Int) : z % 256 = ((UInt8.ofNat (z % 256).toNat).toNat : Int) := by
  have h0 : 0 ≤ z % 256 := Int.emod_nonneg _ (by decide)
  have h1 : z % 256 < 256 := Int.emod_lt_of_pos _ (by decide)
  simp
  omega
theorem made_zero (n : Nat) : (madeCells #[Value.int .i64 0] n).toList = icells (List.replicate n 0) := by
  simp only [madeCells, icells, Array.toList_map, Array.toList_range, List.map_replicate]
  rw [List.eq_replicate_iff]
  refine ⟨by simp, fun v hv => ?_⟩
  obtain ⟨k, _, rfl⟩ := List.mem_map.1 hv
  simp [Nat.mod_one]

set_option maxRecDepth 100000 in
set_option maxHeartbeats 4000000 in
theorem l3Draw (D B : Nat) (ao : Option Addr) (len cap : Nat) (w : World) (hcur : Cur D B ao len cap w) :
    Calls Try.prog 25 #[.pointer (some ⟨B, 0, none⟩)] w fun e w' => ∃ (v : Value) (zl : List Int), zl.length ≤ 8 ∧ e = .returned v ∧ w'.ownsRow w.heap.size 3 1 v zl.length (icells zl) ∧ Cur D B ao len cap w' ∧ w.grownBy w' (some B) := by
  have HC : Hid (Cur D B ao len cap w) := hcur
  have hBw := hcur.lt
  clear hcur
  go_enter Try.func25, Try.ntmps25
  go_wp2_with fail
  refine (l1Below 8 _ _ _ _ _ _ (by omega) (by omega) (HC.out.alloc _)).mono ?_
  rintro e wb ⟨x, hx0, hx1, rfl, cb, gb⟩
  have CB : Hid (Cur D B ao len cap wb) := cb
  have Gb : w.grownBy wb (some B) := grow_trans (World.grownBy_alloc w _ (some B)) gb
  have ob : wb.ownsRow w.heap.size 3 1 (.slice (some ⟨w.heap.size, 0, none⟩) 0 0) 0 (icells []) :=
    (World.ownsRow_lit w #[] 0 (Nat.le_refl _) (by decide) rfl).kept gb (by right; simp [Value.ownBlock]; omega)
  clear cb gb
  obtain ⟨n, rfl⟩ := Int.eq_ofNat_of_zero_le hx0
  go_wp2_with fail
  go_loopw [3, 4] (fun v i wr => ∃ (k : Nat) (zl : List Int), k ≤ n ∧ i = .int .i64 k ∧ zl.length + k = n ∧ wr.ownsRow w.heap.size 3 1 v zl.length (icells zl) ∧ Cur D B ao len cap wr ∧ w.grownBy wr (some B)) (fun _ i _ => (intOf i).toNat)
  case atStart => exact ⟨n, [], Nat.le_refl _, rfl, by simp, ob, CB.out, Gb⟩
  case round =>
    clear ob Gb
    obtain ⟨k, zl, hk, rfl, hz, hown, hcu, hgr⟩ := hrel
    have HU : Hid (Cur D B ao len cap wr) := hcu
    have HZ : Hid (zl.length + k = n) := hz
    have HN : Hid (some B ≠ u3.ownBlock) := fun h => by
      have := (hown.lt B h.symm).1
      omega
    have hzl : zl.length ≤ n := by omega
    have hBr := hcu.lt
    have hsz := hgr.size
    clear hcu hz
    by_cases hp : 0 < k
    · go_wp2_with fail
      refine (l1Below 3000 _ _ _ _ _ _ (by omega) (by omega) HU.out).mono ?_
      rintro e wc ⟨y, hy0, hy1, rfl, cc, gc⟩
      have CC : Hid (Cur D B ao len cap wc) := cc
      have hBc := cc.lt
      have oc := hown.kept gc (.inr (fun h => HN.out h.symm))
      have Gc := grow_trans hgr gc
      clear cc gc hown hgr
      go_wp2_with fail
      refine (l1IntX 11 _ 11 0 _ _ _ _ _ _ _ (by omega) (by omega) (CC.out.alloc _) (World.ownsRow_lit wc _ 11 (Nat.zero_le _) (by decide) rfl) (by omega) rfl).mono ?_
      rintro e wd ⟨z, rfl, cd, gd⟩
      have CD : Hid (Cur D B ao len cap wd) := cd
      have od := (oc.alloc _).kept gd (.inr (fun h => HN.out h.symm))
      have Gd := grow_trans (grow_alloc Gc _) gd
      have zd := Gd.size
      have hBd := cd.lt
      clear cd gd oc Gc
      go_wp2_with (at_builtin; refine wpList_append_newG _ rfl _ _ 24 rfl w.heap.size 3 (.int .i64 0) 8 Try.underlying24 Try.infoInt rfl _ _ _ rfl od #[.int .i64 z] 1 rfl rfl (by intro u hu; simp at hu; subst hu; rfl) (by omega) (by unfold maxLen; omega) zd ?_)
      intro v' w1 hown' hb1 hkeep
      have C1 : Cur D B ao len cap w1 := CD.out.keep (hkeep B hBd HN.out) (fun k hk => hb1.block k (by have := HC.out.le; omega))
      have G1 := grow_low Gd hb1
      have O1 : w1.ownsRow w.heap.size 3 1 v' (zl ++ [z]).length (icells (zl ++ [z])) := by rw [icells_snoc, List.length_append]; exact hown'
      clear hown' hb1 hkeep od Gd
      go_wp2_with fail
      go_roundw
      case rel => exact ⟨k - 1, zl ++ [z], by omega, by go_num, by have := HZ.out; simp; omega, O1, C1, G1⟩
      case measure => simp [intOf]; omega
    · go_wp2_with fail
      go_ret
      exact ⟨_, zl, by omega, rfl, hown, HU.out, hgr⟩

set_option maxRecDepth 100000 in
set_option maxHeartbeats 4000000 in
theorem drawPunyEncode (ao : Option Addr) (len cap : Nat) (w : World) (hl : len ≤ 1048576) (hcode : CodeRow w.heap.size w ao len) :
    Calls Try.prog 9 #[.slice ao len cap] w fun e w' => ∃ (v : Value) (zl : List Int), zl.length ≤ 100 ∧ e = .returned v ∧ w'.ownsRow w.heap.size 3 1 v zl.length (icells zl) ∧ Below w.heap.size w w' := by
  obtain ⟨i0, hi, hz0, hz1, hz2⟩ := info_parts Try.infoInt
  go_enter Try.func9, Try.ntmps9
  go_wp2_with fail
  refine (l1New _ _ _ _ hl hcode).mono ?_
  rintro e wa ⟨B, rfl, hB, ca, ba⟩
  have CA : Hid (Cur w.heap.size B ao len cap wa) := ca
  have za := ba.size
  clear ca hcode
  go_wp2_with fail
  refine (l3Draw _ _ _ _ _ _ CA.out).mono ?_
  rintro e wb ⟨v, zl, hzl, rfl, ob, cb, gb⟩
  have CB : Hid (Cur w.heap.size B ao len cap wb) := cb
  have hBa := CA.out.lt
  have Bb : Below w.heap.size w wb := ba.grown gb za (fun k hk => by cases hk; exact hB)
  have zb := Bb.size
  have NB : Hid (some B ≠ v.ownBlock) := fun h => by
    have := (ob.lt B h.symm).1
    omega
  have ob2 : wb.ownsRow w.heap.size 3 1 v zl.length (icells zl) := own_wide ob za
  clear cb gb ba ob
  go_wp2_with fail
  refine (l1Once 10 _ _ _ _ _ _ (by omega) (by omega) CB.out).mono ?_
  rintro e wc ⟨b, rfl, cc, gc⟩
  have CC : Hid (Cur w.heap.size B ao len cap wc) := cc
  have oc := ob2.kept gc (.inr (fun h => NB.out h.symm))
  have Bc : Below w.heap.size w wc := Bb.grown gc zb (fun k hk => by cases hk; exact hB)
  have zc := Bc.size
  have hBc := cc.lt
  clear cc gc ob2 Bb
  cases b with
  | false =>
    obtain ⟨zlx, OX, hzx⟩ : ∃ zlx : List Int, wc.ownsRow w.heap.size 3 1 v zlx.length (icells zlx) ∧ zlx.length ≤ 9 := ⟨zl, oc, by omega⟩
    have CX : Hid (Cur w.heap.size B ao len cap wc) := CC.out
    have BX := Bc
    have NX := NB
    have zx := zc
    clear oc Bc
    go_wp2_with fail
    refine (l1Once 30 _ _ _ _ _ _ (by omega) (by omega) CX.out).mono ?_
    rintro e wy ⟨b2, rfl, cy, gy⟩
    have CY : Hid (Cur w.heap.size B ao len cap wy) := cy
    have oy := OX.kept gy (.inr (fun h => NX.out h.symm))
    have By : Below w.heap.size w wy := BX.grown gy zx (fun k hk => by cases hk; exact hB)
    have zy := By.size
    clear cy gy OX BX
    cases b2 with
    | false =>
      go_wp2_with fail
      go_ret
      exact ⟨_, zlx, by omega, rfl, oy, By⟩
    | true =>
      go_wp2_with fail
      refine (l1Below 2 _ _ _ _ _ _ (by omega) (by omega) CY.out).mono ?_
      rintro e wz ⟨y, hy0, hy1, rfl, cz, gz⟩
      have Bz : Below w.heap.size w wz := By.grown gz zy (fun k hk => by cases hk; exact hB)
      have zz := Bz.size
      clear cz gz oy By
      obtain ⟨m, rfl⟩ := Int.eq_ofNat_of_zero_le hy0
      go_wp2_with (at_make; refine wpList_make_full _ rfl _ _ 24 rfl w.heap.size 3 i0 (.int .i64 0) 1 Try.underlying24 hi hz0 hz1 _ _ _ _ (60 + m) rfl rfl (by omega) (by omega) (by rw [hz2]; omega) (by unfold maxLen; omega) zz ?_)
      intro wm hmo hgm
      have Bm : Below w.heap.size w wm := Bz.grown hgm zz (fun k hk => by cases hk)
      obtain ⟨xs0, hmo, hxs⟩ : ∃ xs0 : List Int, wm.ownsRow w.heap.size 3 1 (.slice (some ⟨wz.heap.size, 0, none⟩) (60 + m) (60 + m)) (60 + m) (icells xs0) ∧ xs0.length = 60 + m := ⟨List.replicate (60 + m) 0, by rw [made_zero] at hmo; exact hmo, by simp⟩
      have HX : Hid (xs0.length = 60 + m) := hxs
      have cf := own_frozen hmo 0
      obtain ⟨u0, cb⟩ := own_some hmo 0 (by omega)
      have hset := own_set hmo 0 (.int .i64 252)
      rw [show (icells xs0).set 0 (.int .i64 252) = icells (xs0.set 0 252) by simp [icells, List.map_set]] at hset
      have hblk := own_block hmo
      have HSET : Hid ((wm.setCell ⟨wz.heap.size, 0, none⟩ (.int .i64 252)).ownsRow w.heap.size 3 1 (.slice (some ⟨wz.heap.size, 0, none⟩) (60 + m) (60 + m)) (60 + m) (icells (xs0.set 0 252))) := hset
      have HBS : Hid (Below w.heap.size w (wm.setCell ⟨wz.heap.size, 0, none⟩ (.int .i64 252))) := Bm.setCell (p := ⟨wz.heap.size, 0, none⟩) hblk _
      clear hset hmo hgm Bm Bz hxs
      go_wp2_with fail
      go_ret
      exact ⟨_, xs0.set 0 252, by rw [List.length_set, HX.out]; omega, rfl, by rw [List.length_set, HX.out]; exact HSET.out, HBS.out⟩
  | true =>
    go_wp2_with fail
    refine (l1IntX 4 _ 4 0 _ _ _ _ _ _ _ (by omega) (by omega) (CC.out.alloc _) (World.ownsRow_lit wc _ 4 (Nat.zero_le _) (by decide) rfl) (by omega) rfl).mono ?_
    rintro e wd ⟨y, rfl, cd, gd⟩
    have CD : Hid (Cur w.heap.size B ao len cap wd) := cd
    have hBd := cd.lt
    have od := (oc.alloc (.cells #[.int .i64 (-1), .int .i64 55296, .int .i64 1114112, .int .i64 65] 3)).kept gd (.inr (fun h => NB.out h.symm))
    have Bd : Below w.heap.size w wd := (Bc.alloc zc _).grown gd (by simp; omega) (fun k hk => by cases hk; exact hB)
    have zd := Bd.size
    clear cd gd oc Bc
    go_wp2_with (at_builtin; refine wpList_append_newG _ rfl _ _ 24 rfl w.heap.size 3 (.int .i64 0) 8 Try.underlying24 Try.infoInt rfl _ _ _ rfl od #[.int .i64 y] 1 rfl rfl (by intro u hu; simp at hu; subst hu; rfl) (by omega) (by unfold maxLen; omega) zd ?_)
    intro v' w1 hown' hb1 hkeep
    have CX : Hid (Cur w.heap.size B ao len cap w1) := CD.out.keep (hkeep B hBd NB.out) hb1.block
    have NX : Hid (some B ≠ v'.ownBlock) := by
      intro hx
      obtain ⟨i', h', hc, _⟩ := CX.out
      rcases hown'.2 with ⟨rfl, _⟩ | ⟨g, cap', cur, rfl, _, hg, _⟩
      · simp [Value.ownBlock] at hx
      · simp [Value.ownBlock] at hx
        subst hx
        rw [hc] at hg
        simp at hg
    have BX := Bd.trans hb1
    have zx := BX.size
    obtain ⟨zlx, OX, hzx⟩ : ∃ zlx : List Int, w1.ownsRow w.heap.size 3 1 v' zlx.length (icells zlx) ∧ zlx.length ≤ 9 := ⟨zl ++ [y], by rw [icells_snoc, List.length_append]; exact hown', by simp; omega⟩
    clear hown' hb1 hkeep od Bd
    go_wp2_with fail
    refine (l1Once 30 _ _ _ _ _ _ (by omega) (by omega) CX.out).mono ?_
    rintro e wy ⟨b2, rfl, cy, gy⟩
    have CY : Hid (Cur w.heap.size B ao len cap wy) := cy
    have oy := OX.kept gy (.inr (fun h => NX.out h.symm))
    have By : Below w.heap.size w wy := BX.grown gy zx (fun k hk => by cases hk; exact hB)
    have zy := By.size
    clear cy gy OX BX
    cases b2 with
    | false =>
      go_wp2_with fail
      go_ret
      exact ⟨_, zlx, by omega, rfl, oy, By⟩
    | true =>
      go_wp2_with fail
      refine (l1Below 2 _ _ _ _ _ _ (by omega) (by omega) CY.out).mono ?_
      rintro e wz ⟨y, hy0, hy1, rfl, cz, gz⟩
      have Bz : Below w.heap.size w wz := By.grown gz zy (fun k hk => by cases hk; exact hB)
      have zz := Bz.size
      clear cz gz oy By
      obtain ⟨m, rfl⟩ := Int.eq_ofNat_of_zero_le hy0
      go_wp2_with (at_make; refine wpList_make_full _ rfl _ _ 24 rfl w.heap.size 3 i0 (.int .i64 0) 1 Try.underlying24 hi hz0 hz1 _ _ _ _ (60 + m) rfl rfl (by omega) (by omega) (by rw [hz2]; omega) (by unfold maxLen; omega) zz ?_)
      intro wm hmo hgm
      have Bm : Below w.heap.size w wm := Bz.grown hgm zz (fun k hk => by cases hk)
      obtain ⟨xs0, hmo, hxs⟩ : ∃ xs0 : List Int, wm.ownsRow w.heap.size 3 1 (.slice (some ⟨wz.heap.size, 0, none⟩) (60 + m) (60 + m)) (60 + m) (icells xs0) ∧ xs0.length = 60 + m := ⟨List.replicate (60 + m) 0, by rw [made_zero] at hmo; exact hmo, by simp⟩
      have HX : Hid (xs0.length = 60 + m) := hxs
      have cf := own_frozen hmo 0
      obtain ⟨u0, cb⟩ := own_some hmo 0 (by omega)
      have hset := own_set hmo 0 (.int .i64 252)
      rw [show (icells xs0).set 0 (.int .i64 252) = icells (xs0.set 0 252) by simp [icells, List.map_set]] at hset
      have hblk := own_block hmo
      have HSET : Hid ((wm.setCell ⟨wz.heap.size, 0, none⟩ (.int .i64 252)).ownsRow w.heap.size 3 1 (.slice (some ⟨wz.heap.size, 0, none⟩) (60 + m) (60 + m)) (60 + m) (icells (xs0.set 0 252))) := hset
      have HBS : Hid (Below w.heap.size w (wm.setCell ⟨wz.heap.size, 0, none⟩ (.int .i64 252))) := Bm.setCell (p := ⟨wz.heap.size, 0, none⟩) hblk _
      clear hset hmo hgm Bm Bz hxs
      go_wp2_with fail
      go_ret
      exact ⟨_, xs0.set 0 252, by rw [List.length_set, HX.out]; omega, rfl, by rw [List.length_set, HX.out]; exact HSET.out, HBS.out⟩

theorem encBoth_spec (zl : List Int) (hl : zl.length ≤ 1048576) (v : Value) (B : Nat) (w : World) (h : w.ownsRow B 3 1 v zl.length (icells zl)) :
    Calls Try.prog 11 #[v] w fun e w' => ∃ (t : ByteArray) (b : Bool), t.size ≤ 600 ∧ e = .returned (.tuple #[.string t, .bool b]) ∧ Below w.heap.size w w' := by
  obtain ⟨t, b, h6, hs, _⟩ := encBoth zl hl
  exact (hs v B w h).mono fun e w' h => ⟨t, b, h6, h⟩

set_option maxRecDepth 100000 in
set_option maxHeartbeats 4000000 in
theorem drawPunyDecode (ao : Option Addr) (len cap : Nat) (w : World) (hl : len ≤ 1048576) (hcode : CodeRow w.heap.size w ao len) :
    Calls Try.prog 15 #[.slice ao len cap] w fun e w' => ∃ z : ByteArray, e = .returned (.string z) ∧ Below w.heap.size w w' := by
  go_enter Try.func15, Try.ntmps15
  go_wp2_with fail
  refine (l1New _ _ _ _ hl hcode).mono ?_
  rintro e wa ⟨B, rfl, hB, ca, ba⟩
  have CA : Hid (Cur w.heap.size B ao len cap wa) := ca
  have za := ba.size
  have hBa := ca.lt
  clear ca hcode
  go_wp2_with fail
  refine (l3Draw _ _ _ _ _ _ CA.out).mono ?_
  rintro e wb ⟨v, zl, hzl, rfl, ob, cb, gb⟩
  have CB : Hid (Cur w.heap.size B ao len cap wb) := cb
  have Bb : Below w.heap.size w wb := ba.grown gb za (fun k hk => by cases hk; exact hB)
  have zb := Bb.size
  have hBb := cb.lt
  clear cb gb ba
  go_wp2_with fail
  refine (encBoth_spec zl (by omega) _ _ _ ob).mono ?_
  rintro e wc ⟨t, b, ht6, rfl, bc⟩
  have CC : Hid (Cur w.heap.size B ao len cap wc) := CB.out.below bc.block
  have Bc : Below w.heap.size w wc := Bb.trans (bc.mono zb)
  have zc := Bc.size
  clear bc ob Bb
  obtain ⟨cp, hcp⟩ : ∃ cp, grownCap wc t.size 0 5 = cp := ⟨_, rfl⟩
  have hconv := run_bytes_of_string wc 9 22 5 t Try.underlying9 Try.underlying22 Try.underlying5
  rw [hcp] at hconv
  have hmade := bytesAt_made wc t cp 5
  generalize hC : bytesRow t cp = C at hconv hmade
  clear hC hcp
  have hszm : (wc.alloc (.cells C 5 (C.size, C.size + 1))).heap.size = wc.heap.size + 1 := by simp
  have CM : Hid (Cur w.heap.size B ao len cap (wc.alloc (.cells C 5 (C.size, C.size + 1))).drew) := CC.out.alloc _
  have BM : Hid (Below w.heap.size w (wc.alloc (.cells C 5 (C.size, C.size + 1))).drew) := (Bc.alloc zc _).drew
  have hBc := CC.out.lt
  go_wp2_with fail
  refine (l1Below 5 _ _ _ _ _ _ (by omega) (by omega) CM.out).mono ?_
  rintro e wd ⟨x, hx0, hx1, rfl, cd, gd⟩
  have CD : Hid (Cur w.heap.size B ao len cap wd) := cd
  have hBd := cd.lt
  have AD : Hid (bytesAt wd wc.heap.size t.data.toList) := bytesAt.grow (W := (wc.alloc (.cells C 5 (C.size, C.size + 1))).drew) hmade gd (by show wc.heap.size < (wc.alloc (.cells C 5 (C.size, C.size + 1))).heap.size; omega) (by intro h; injection h with h; omega)
  have BD : Hid (Below w.heap.size w wd) := BM.out.grown gd BM.out.size (fun k hk => by cases hk; exact hB)
  have zd := BD.out.size
  have hgd : wc.heap.size < wd.heap.size := by
    have := gd.size
    have : (wc.alloc (.cells C 5 (C.size, C.size + 1))).heap.size ≤ wd.heap.size := this
    omega
  clear cd gd hmade hconv BM CM hszm
  have hts : t.data.toList.length = t.size := by simp
  by_cases h0 : x = 0
  · subst h0
    go_wp2_with fail
    refine (l1StrX 20 12 _ 12 0 _ _ _ _ _ _ _ (by omega) (by omega) (CD.out.alloc _) (World.ownsRow_lit wd _ 12 (Nat.zero_le _) (by decide) rfl) (by omega) (by decide)).mono ?_
    rintro e we ⟨y, hy, rfl, ce, ge⟩
    have Be : Below w.heap.size w we := (BD.out.alloc zd _).grown ge (by simp; omega) (fun k hk => by cases hk; exact hB)
    clear ce ge
    go_wp2_with fail
    go_ret
    exact ⟨y, rfl, Be⟩
  · have hx0' : (x == 0) = false := by simpa using h0
    by_cases h1 : x = 1
    · subst h1
      by_cases ht : t.size = 0
      · have hti : ¬ 0 < (t.size : Int) := by omega
        have HO := run_string_at (P := Try.prog) wd 22 9 5 Try.underlying22 Try.underlying5 Try.underlying9 (n := t.size) (cap := cp) hts AD.out
        clear ht h0
        go_wp2_with fail
        go_ret
        exact ⟨_, rfl, BD.out⟩
      · have hti : 0 < (t.size : Int) := by omega
        have htl : (t.size : Int) ≤ 1099511627776 := by omega
        clear ht h0
        go_wp2_with fail
        refine (l1Below (t.size : Int) _ _ _ _ _ _ (by omega) htl CD.out).mono ?_
        rintro e we ⟨y, hy0, hy1, rfl, ce, ge⟩
        have CE : Hid (Cur w.heap.size B ao len cap we) := ce
        have hBe := ce.lt
        have AE : Hid (bytesAt we wc.heap.size t.data.toList) := AD.out.grow ge hgd (by intro h; injection h with h; omega)
        have BE : Hid (Below w.heap.size w we) := BD.out.grown ge zd (fun k hk => by cases hk; exact hB)
        have ze := BE.out.size
        have hge : wc.heap.size < we.heap.size := Nat.lt_of_lt_of_le hgd ge.size
        clear ce ge
        obtain ⟨j, rfl⟩ := Int.eq_ofNat_of_zero_le hy0
        go_wp2_with fail
        refine (l1IntX 6 _ 6 0 _ _ _ _ _ _ _ (by omega) (by omega) (CE.out.alloc _) (World.ownsRow_lit we _ 6 (Nat.zero_le _) (by decide) rfl) (by omega) rfl).mono ?_
        rintro e wf ⟨z, rfl, cf, gf⟩
        have AF : Hid (bytesAt wf wc.heap.size t.data.toList) := (AE.out.grow (World.grownBy_alloc we _ none) hge (by simp)).grow gf (by simp; omega) (by intro h; injection h with h; omega)
        have BF : Hid (Below w.heap.size w wf) := (BE.out.alloc ze _).grown gf (by simp; omega) (fun k hk => by cases hk; exact hB)
        clear cf gf
        have hj : j < t.data.toList.length := by omega
        obtain ⟨cj, fj⟩ := AF.out j hj
        have HO := run_string_at (P := Try.prog) (wf.setCell ⟨wc.heap.size, j, none⟩ (.int .u8 (z % 256))) 22 9 5 Try.underlying22 Try.underlying5 Try.underlying9 (n := t.size) (cap := cp) (by rw [List.length_set]; exact hts) (AF.out.set j hj (UInt8.ofNat (z % 256).toNat) (u8_of z))
        have BG : Hid (Below w.heap.size w (wf.setCell ⟨wc.heap.size, j, none⟩ (.int .u8 (z % 256)))) := BF.out.setCell (p := ⟨wc.heap.size, j, none⟩) zc _
        generalize t.data.toList[j] = c0 at cj
        clear hts hj
        go_wp2_with fail
        go_ret
        exact ⟨_, rfl, BG.out⟩
    · have HO := run_string_at (P := Try.prog) wd 22 9 5 Try.underlying22 Try.underlying5 Try.underlying9 (n := t.size) (cap := cp) hts AD.out
      have hx1' : (x == 1) = false := by simpa using h1
      clear h0 h1
      go_wp2_with fail
      go_ret
      exact ⟨_, rfl, BD.out⟩

set_option maxRecDepth 100000 in
set_option maxHeartbeats 4000000 in
theorem drawAdapt (ao : Option Addr) (len cap : Nat) (w : World) (hl : len ≤ 1048576) (hcode : CodeRow w.heap.size w ao len) :
    Calls Try.prog 17 #[.slice ao len cap] w fun e w' => ∃ (d n : Int) (b : Bool), e = .returned (.tuple #[.int .i64 d, .int .i64 n, .bool b]) ∧ Below w.heap.size w w' := by
  go_enter Try.func17, Try.ntmps17
  go_wp2_with fail
  refine (l1New _ _ _ _ hl hcode).mono ?_
  rintro e wa ⟨B, rfl, hB, ca, ba⟩
  have CA : Hid (Cur w.heap.size B ao len cap wa) := ca
  have za := ba.size
  have hBa := ca.lt
  clear ca hcode
  go_wp2_with fail
  refine (l1Below 100000 _ _ _ _ _ _ (by omega) (by omega) CA.out).mono ?_
  rintro e wb ⟨x, hx0, hx1, rfl, cb, gb⟩
  have CB : Hid (Cur w.heap.size B ao len cap wb) := cb
  have hBb := cb.lt
  have Bb : Below w.heap.size w wb := ba.grown gb za (fun k hk => by cases hk; exact hB)
  have zb := Bb.size
  clear cb gb ba
  go_wp2_with fail
  refine (l1IntX 8 _ 8 0 _ _ _ _ _ _ _ (by omega) (by omega) (CB.out.alloc _) (World.ownsRow_lit wb _ 8 (Nat.zero_le _) (by decide) rfl) (by omega) rfl).mono ?_
  rintro e wc ⟨d, rfl, cc, gc⟩
  have CC : Hid (Cur w.heap.size B ao len cap wc) := cc
  have hBc := cc.lt
  have Bc : Below w.heap.size w wc := (Bb.alloc zb _).grown gc (by simp; omega) (fun k hk => by cases hk; exact hB)
  have zc := Bc.size
  clear cc gc Bb
  go_wp2_with fail
  refine (l1IntX 7 _ 7 0 _ _ _ _ _ _ _ (by omega) (by omega) (CC.out.alloc _) (World.ownsRow_lit wc _ 7 (Nat.zero_le _) (by decide) rfl) (by omega) rfl).mono ?_
  rintro e wd ⟨n, rfl, cd, gd⟩
  have CD : Hid (Cur w.heap.size B ao len cap wd) := cd
  have Bd : Below w.heap.size w wd := (Bc.alloc zc _).grown gd (by simp; omega) (fun k hk => by cases hk; exact hB)
  have zd := Bd.size
  clear cd gd Bc
  go_wp2_with fail
  refine (l1Once 2 _ _ _ _ _ _ (by omega) (by omega) CD.out).mono ?_
  rintro e we ⟨b, rfl, ce, ge⟩
  have Be : Below w.heap.size w we := Bd.grown ge zd (fun k hk => by cases hk; exact hB)
  clear ce ge Bd
  go_wp2_with fail
  go_ret3
  exact ⟨d, n, b, rfl, Be⟩
end Go.Proofs.Ytdbhhohdfibplaa
