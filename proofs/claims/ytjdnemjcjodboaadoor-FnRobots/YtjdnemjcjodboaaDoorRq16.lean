/- DrawX. -/
import Derived.Test.YtjdnemjcjodboaaDoorRq15
set_option maxHeartbeats 2000000
set_option maxRecDepth 100000
namespace Go.Proofs.YtjdnemjcjodboaaDoor
open Go.RowKit
set_option linter.unusedVariables false
def CodeX (cs : Nat → Int) (D : Nat) (w : World) (ao : Option Addr) (len : Nat) : Prop :=
 len = 0 ∨ ∃ b off, ao = some ⟨b, off, none⟩ ∧ b < D ∧ ∀ j, j < len → w.cell? ⟨b, off + j, none⟩ = some (.int .u8 (cs j)) ∧ 0 ≤ cs j ∧ cs j ≤ 255
theorem CodeX.grown {cs : Nat → Int} {D : Nat} {w w' : World} {ao : Option Addr} {len : Nat} (h : CodeX cs D w ao len) (hb : ∀ k, k < D → w'.heap[k]? = w.heap[k]?) : CodeX cs D w' ao len := by
 rcases h with h | ⟨b, off, h1, h2, h3⟩
 ·exact .inl h
 exact .inr ⟨b, off, h1, h2, fun j hj => ⟨(World.cell?_of_block (w := w) (a := ⟨b, off + j, none⟩) (hb b h2)).trans (h3 j hj).1, (h3 j hj).2⟩⟩
def CurX (cs : Nat → Int) (D B : Nat) (ao : Option Addr) (len cap : Nat) (s : Nat × Int) (w : World) : Prop :=
 w.heap[B]? = some (.cells #[.slice ao len cap, .int .i64 (s.1 : Int), .int .i64 s.2] 73 (0, 0)) ∧ s.1 ≤ len ∧ len ≤ 1048576 ∧ D ≤ B ∧ CodeX cs D w ao len
theorem CurX.lt {cs : Nat → Int} {D B : Nat} {ao : Option Addr} {len cap : Nat} {s : Nat × Int} {w : World} (h : CurX cs D B ao len cap s w) : B < w.heap.size := (Array.getElem?_eq_some_iff.1 h.1).1
theorem CurX.keep {cs : Nat → Int} {D B : Nat} {ao : Option Addr} {len cap : Nat} {s : Nat × Int} {w w' : World} (h : CurX cs D B ao len cap s w) (hB : w'.heap[B]? = w.heap[B]?) (hD : ∀ k, k < D → w'.heap[k]? = w.heap[k]?) : CurX cs D B ao len cap s w' :=
 ⟨hB.trans h.1, h.2.1, h.2.2.1, h.2.2.2.1, h.2.2.2.2.grown hD⟩
theorem CurX.alloc {cs : Nat → Int} {D B : Nat} {ao : Option Addr} {len cap : Nat} {s : Nat × Int} {w : World} (h : CurX cs D B ao len cap s w) (o : Obj) : CurX cs D B ao len cap s (w.alloc o) :=
 h.keep (Below.heap_alloc w o B h.lt) fun k hk => Below.heap_alloc w o k (by have := h.lt; have := h.2.2.2.1; omega)
theorem CurX.seth {cs : Nat → Int} {D B : Nat} {ao : Option Addr} {len cap : Nat} {s : Nat × Int} {w : World} (hc : CurX cs D B ao len cap s w) (h' : Int) :
  CurX cs D B ao len cap (s.1, h') (w.setCell ⟨B, 2, none⟩ (.int .i64 h')) ∧ w.grownBy (w.setCell ⟨B, 2, none⟩ (.int .i64 h')) (some B) := by
 obtain ⟨h1, h2, h3, h4, h5⟩ := hc
 refine ⟨⟨?_, h2, h3, h4, h5.grown fun k hk => Below.heap_setCell _ _ _ _ (by simp; omega)⟩, ⟨rfl, rfl, rfl, by simp [World.setCell], fun k _ hk => Below.heap_setCell _ _ _ _ (fun e => hk (by simp [e]))⟩⟩
 rw [heap_set3 _ h1]
 rfl
theorem CurX.seti {cs : Nat → Int} {D B : Nat} {ao : Option Addr} {len cap : Nat} {s : Nat × Int} {w : World} (hc : CurX cs D B ao len cap s w) (i' : Nat) (h0 : i' ≤ len) :
  CurX cs D B ao len cap (i', s.2) (w.setCell ⟨B, 1, none⟩ (.int .i64 (i' : Int))) ∧ w.grownBy (w.setCell ⟨B, 1, none⟩ (.int .i64 (i' : Int))) (some B) := by
 obtain ⟨h1, h2, h3, h4, h5⟩ := hc
 refine ⟨⟨?_, h0, h3, h4, h5.grown fun k hk => Below.heap_setCell _ _ _ _ (by simp; omega)⟩, ⟨rfl, rfl, rfl, by simp [World.setCell], fun k _ hk => Below.heap_setCell _ _ _ _ (fun e => hk (by simp [e]))⟩⟩
 rw [heap_set3 _ h1]
 rfl
theorem CurX.drewN {cs : Nat → Int} {D B : Nat} {ao : Option Addr} {len cap : Nat} {s : Nat × Int} {w : World} (h : CurX cs D B ao len cap s w) (n : Nat) : CurX cs D B ao len cap s (w.drewN n) := h
def hF (h : Int) : Int := wrap64 (wrap64 (h * 6364136223846793005) + 1442695040888963407)
def xF (h : Int) : Int := bits .and .i64 (bits .xor .i64 (h / 8589934592) (h / 140737488355328)) 255
def nF (h c : Int) : Int := bits .and .i64 (wrap64 (wrap64 (wrap64 (h * 137) + c) + 11)) 1073741823
def newF (cs : Nat → Int) (h : Int) : Nat → Int
 | 0 => h
 | k + 1 => nF (newF cs h k) (cs k)
def seedF (cs : Nat → Int) (len : Nat) : Int := newF cs (363363 + (len : Int)) (min len 4000)
def byteF (cs : Nat → Int) (len : Nat) (s : Nat × Int) : Int × (Nat × Int) :=
 if s.1 < len then (bits .and .i64 (xF (hF s.2) + cs s.1) 255, (s.1 + 1, hF s.2)) else (xF (hF s.2), (s.1, hF s.2))
theorem xF_bounds (h : Int) : 0 ≤ xF h ∧ xF h ≤ 255 := by unfold xF; rw [i64_and255]; omega
theorem l1ByteX (cs : Nat → Int) (s : Nat × Int) (D B : Nat) (ao : Option Addr) (len cap : Nat) (w : World) (hcur : CurX cs D B ao len cap s w) :
  Calls Tryd.prog 74 #[.pointer (some ⟨B, 0, none⟩)] w fun e w' => e = .returned (.int .i64 (byteF cs len s).1) ∧ 0 ≤ (byteF cs len s).1 ∧ (byteF cs len s).1 ≤ 255 ∧ CurX cs D B ao len cap (byteF cs len s).2 w' ∧ w.grownBy w' (some B) := by
 obtain ⟨i, h⟩ := s
 have hc := hcur.1
 obtain ⟨c0, c1, c2, cf⟩ := cur_cells hc
 have f2 := cf 2
 have HS : Hid (∀ h', CurX cs D B ao len cap (i, h') (w.setCell ⟨B, 2, none⟩ (.int .i64 h')) ∧ w.grownBy (w.setCell ⟨B, 2, none⟩ (.int .i64 h')) (some B)) := fun h' => hcur.seth h'
 have hil : i ≤ len := hcur.2.1
 have hlm : len ≤ 1048576 := hcur.2.2.1
 clear hc cf hcur
 go_enter Tryd.func74, Tryd.ntmps74
 go_upto_region 1 with fail
 go_cut [] (fun w1 => CurX cs D B ao len cap (i, hF h) w1 ∧ w.grownBy w1 (some B))
 case first =>
  go_wp2_with fail
  go_meet
  case rel => exact HS.out (hF h)
 clear HS c0 c1 c2 f2
 go_upto_region 2 with fail
 go_cut [3] (fun v w1 => v = .int .i64 (xF (hF h)) ∧ CurX cs D B ao len cap (i, hF h) w1 ∧ w.grownBy w1 (some B))
 case first =>
  obtain ⟨hcu, hgr⟩ := hcut
  have HU : Hid (CurX cs D B ao len cap (i, hF h) wc) := hcu
  have hc := hcu.1
  obtain ⟨c0, c1, c2, cf⟩ := cur_cells hc
  clear hc hcu cf
  go_quiet (fail)
  go_wp2_with fail
  go_meet
  case rel => exact ⟨rfl, HU.out.drewN _, grow_drewN hgr _⟩
 obtain ⟨rfl, hcu, hgr⟩ := hcut
 have HU : Hid (CurX cs D B ao len cap (i, hF h) wc) := hcu
 have hc := hcu.1
 have hcode := hcu.2.2.2.2
 have hxb := xF_bounds (hF h)
 have hx0 := hxb.1
 have hx1 := hxb.2
 clear hxb
 obtain ⟨c0, c1, c2, cf⟩ := cur_cells hc
 have f1 := cf 1
 clear hc cf hcu
 by_cases hlt : i < len
 ·rcases hcode with hz | ⟨b, off, rfl, hb, hcells⟩
  ·omega
  obtain ⟨cy, hy0, hy1⟩ := hcells i hlt
  have HI := HU.out.seti (i + 1) (by omega)
  have HB : Hid (byteF cs len (i, h) = (bits .and .i64 (xF (hF h) + cs i) 255, (i + 1, hF h))) := by show _ = _; unfold byteF; rw [if_pos hlt]
  have HH : Hid (CurX cs D B (some ⟨b, off, none⟩) len cap (i + 1, hF h) (wc.setCell ⟨B, 1, none⟩ (.int .i64 ((i + 1 : Nat) : Int))) ∧ w.grownBy (wc.setCell ⟨B, 1, none⟩ (.int .i64 ((i + 1 : Nat) : Int))) (some B)) := ⟨HI.1, grow_trans hgr HI.2⟩
  have hlti : (i : Int) < (len : Int) := by omega
  clear hcells c2 HI hgr HU
  generalize xF (hF h) = x at *
  go_wp2_with fail
  go_quiet (fail)
  go_wp2_with fail
  go_quiet (fail)
  go_wp2_with fail
  go_ret
  rw [HB.out]
  refine ⟨rfl, ?_, ?_, HH.out.1, ?_⟩
  ·rw [i64_and255]; omega
  ·rw [i64_and255]; omega
  have g := HH.out.2
  exact ⟨g.os, g.tape, g.output, g.size, g.block⟩
 have HB : Hid (byteF cs len (i, h) = (xF (hF h), (i, hF h))) := by show _ = _; unfold byteF; rw [if_neg hlt]
 have hlti : ¬ (i : Int) < (len : Int) := by omega
 clear hcode c2 f1
 go_wp2_with fail
 go_quiet (fail)
 go_wp2_with fail
 go_ret
 rw [HB.out]
 exact ⟨rfl, hx0, hx1, HU.out.drewN _, grow_drewN hgr _⟩
def belowF (cs : Nat → Int) (len : Nat) (n : Int) (s : Nat × Int) : Int × (Nat × Int) := ((byteF cs len s).1 % n, (byteF cs len s).2)
theorem l1BelowX (n : Int) (cs : Nat → Int) (s : Nat × Int) (D B : Nat) (ao : Option Addr) (len cap : Nat) (w : World) (hn : 0 < n) (hn1 : n ≤ 256) (hcur : CurX cs D B ao len cap s w) :
  Calls Tryd.prog 47 #[.pointer (some ⟨B, 0, none⟩), .int .i64 n] w fun e w' => e = .returned (.int .i64 (belowF cs len n s).1) ∧ 0 ≤ (belowF cs len n s).1 ∧ (belowF cs len n s).1 < n ∧ CurX cs D B ao len cap (belowF cs len n s).2 w' ∧ w.grownBy w' (some B) := by
 have hz : ¬ n ≤ 0 := by omega
 have hne : (n == 0) = false := by simp; omega
 have HC : Hid (CurX cs D B ao len cap s w) := hcur
 clear hcur
 go_enter Tryd.func47, Tryd.ntmps47
 go_wp2_with fail
 refine (l1ByteX _ _ _ _ _ _ _ _ HC.out).mono ?_
 rintro e wa ⟨rfl, hx0, hx1, ca, ga⟩
 have CA : Hid (CurX cs D B ao len cap (byteF cs len s).2 wa) := ca
 have HB1 : Hid ((belowF cs len n s).1 = (byteF cs len s).1 % n) := rfl
 have HB2 : Hid ((belowF cs len n s).2 = (byteF cs len s).2) := rfl
 clear ca HC
 generalize (byteF cs len s).1 = x at *
 go_wp2_with fail
 go_ret
 rw [HB2.out]
 refine ⟨?_, ?_, ?_, CA.out, ga⟩
 ·rw [HB1.out]; first | rfl | (rw [Int.tmod_eq_emod_of_nonneg hx0])
 ·rw [HB1.out]; exact Int.emod_nonneg _ (by omega)
 rw [HB1.out]; exact Int.emod_lt_of_pos _ hn
theorem l1OnceX (n : Int) (cs : Nat → Int) (s : Nat × Int) (D B : Nat) (ao : Option Addr) (len cap : Nat) (w : World) (hn : 0 < n) (hn1 : n ≤ 256) (hcur : CurX cs D B ao len cap s w) :
  Calls Tryd.prog 22 #[.pointer (some ⟨B, 0, none⟩), .int .i64 n] w fun e w' => e = .returned (.bool ((belowF cs len n s).1 == 0)) ∧ CurX cs D B ao len cap (belowF cs len n s).2 w' ∧ w.grownBy w' (some B) := by
 have HC : Hid (CurX cs D B ao len cap s w) := hcur
 clear hcur
 go_enter Tryd.func22, Tryd.ntmps22
 go_wp2_with fail
 refine (l1BelowX n _ _ _ _ _ _ _ _ hn hn1 HC.out).mono ?_
 rintro e wa ⟨rfl, hx0, hx1, ca, ga⟩
 have CA : Hid (CurX cs D B ao len cap (belowF cs len n s).2 wa) := ca
 clear ca
 go_wp2_with fail
 go_ret
 exact ⟨rfl, CA.out, ga⟩
def strF (fs : List ByteArray) (cs : Nat → Int) (len : Nat) (s : Nat × Int) : ByteArray := fs.getD (belowF cs len fs.length s).1.toNat ByteArray.empty
theorem l1StrZ (m g cp G : Nat) (fs : List ByteArray) (cs : Nat → Int) (s : Nat × Int) (D B : Nat) (ao : Option Addr) (len cap : Nat) (w : World) (hm : 0 < m) (hm1 : m ≤ 256) (hcur : CurX cs D B ao len cap s w)
  (hown : w.ownsRow G 9 1 (.slice (some ⟨g, 0, none⟩) m cp) m (scells fs)) (hgB : g ≠ B) :
  Calls Tryd.prog 48 #[.pointer (some ⟨B, 0, none⟩), .slice (some ⟨g, 0, none⟩) m cp] w fun e w' => strF fs cs len s ∈ fs ∧ e = .returned (.string (strF fs cs len s)) ∧ CurX cs D B ao len cap (belowF cs len m s).2 w' ∧ w.grownBy w' (some B) := by
 have HC : Hid (CurX cs D B ao len cap s w) := hcur
 clear hcur
 have hl : fs.length = m := by have := hown.1; simpa [scells] using this
 go_enter Tryd.func48, Tryd.ntmps48
 go_wp2_with fail
 refine (l1BelowX (m : Int) _ _ _ _ _ _ _ _ (by omega) (by omega) HC.out).mono ?_
 rintro e wa ⟨rfl, hx0, hx1, ca, ga⟩
 have CA : Hid (CurX cs D B ao len cap (belowF cs len m s).2 wa) := ca
 have oa : wa.ownsRow G 9 1 (.slice (some ⟨g, 0, none⟩) m cp) m (scells fs) := hown.kept ga (by simp [Value.ownBlock, hgB])
 have HST : Hid (strF fs cs len s = fs.getD (belowF cs len m s).1.toNat ByteArray.empty) := by show _ = _; unfold strF; rw [hl]
 clear HC ca
 generalize hbf : (belowF cs len m s).1 = x at *
 clear hbf
 obtain ⟨k, rfl⟩ := Int.eq_ofNat_of_zero_le hx0
 have cc := scell_at oa k (by omega)
 have HM : Hid (fs.getD k ByteArray.empty ∈ fs) := by
  show _ ∈ _
  rw [List.getD_eq_getElem?_getD, List.getElem?_eq_getElem (by omega)]
  exact List.getElem_mem _
 have HST2 : Hid (strF fs cs len s = fs.getD k ByteArray.empty) := HST.out
 clear oa hown hl HST
 generalize fs.getD k ByteArray.empty = z at *
 go_wp2_with fail
 go_ret
 rw [HST2.out]
 exact ⟨HM.out, rfl, CA.out, ga⟩
theorem l1NewX (cs : Nat → Int) (ao : Option Addr) (len cap : Nat) (w : World) (hl : len ≤ 1048576) (hcode : CodeX cs w.heap.size w ao len) :
  Calls Tryd.prog 20 #[.slice ao len cap] w fun e w' => ∃ B : Nat, e = .returned (.pointer (some ⟨B, 0, none⟩)) ∧ w.heap.size ≤ B ∧ CurX cs w.heap.size B ao len cap (0, seedF cs len) w' ∧ Below w.heap.size w w' := by
 have HC : Hid (CurX cs w.heap.size w.heap.size ao len cap (0, seedF cs len) (w.alloc (.cells #[.slice ao len cap, .int .i64 0, .int .i64 (seedF cs len)] 73))) :=
  ⟨heap_alloc_new w _, by omega, hl, Nat.le_refl _, hcode.grown fun k hk => Below.heap_alloc w _ k hk⟩
 have HD : Hid (CodeX cs w.heap.size w ao len) := hcode
 clear hcode
 go_enter Tryd.func20, Tryd.ntmps20
 go_wp2
 go_loop [3, 4] (fun a i => ∃ (k : Nat) (h : Int), k ≤ len ∧ k ≤ 4000 ∧ i = .int .i64 k ∧ a = .int .i64 h ∧ Hid (h = newF cs (363363 + (len : Int)) k)) (fun _ i => len - (intOf i).toNat)
 case atStart => exact ⟨0, _, Nat.zero_le _, Nat.zero_le _, rfl, rfl, rfl⟩
 obtain ⟨k, h, hk, hk4, rfl, rfl, HN⟩ := hrel
 by_cases hlt : k < len
 ·by_cases h4 : (k : Int) < 4000
  ·rcases HD.out with hz | ⟨b, off, rfl, hb, hcells⟩
   ·omega
   obtain ⟨cy, hy0, hy1⟩ := hcells k hlt
   clear hcells
   have HN1 : Hid (nF h (cs k) = newF cs (363363 + (len : Int)) (k + 1)) := by show _ = nF _ _; rw [HN.out]
   clear HN
   go_wp2
   go_round
   case rel => exact ⟨k + 1, nF h (cs k), by omega, by omega, by go_num, rfl, HN1⟩
   case measure => simp [intOf]; omega
  have HS : Hid (h = seedF cs len) := by show _ = _; unfold seedF; rw [HN.out, show min len 4000 = k by omega]
  clear HN
  go_wp2
  go_ret
  rw [HS.out]
  exact ⟨w.heap.size, rfl, Nat.le_refl _, HC.out, (Below.refl _ _).alloc (Nat.le_refl _) _⟩
 have HS : Hid (h = seedF cs len) := by show _ = _; unfold seedF; rw [HN.out, show min len 4000 = k by omega]
 clear HN
 go_wp2
 go_ret
 rw [HS.out]
 exact ⟨w.heap.size, rfl, Nat.le_refl _, HC.out, (Below.refl _ _).alloc (Nat.le_refl _) _⟩
end Go.Proofs.YtjdnemjcjodboaaDoor
