/- Grp6Spec. -/
import Derived.Test.YtidecdlaeomfoaaGreatQA13
set_option maxHeartbeats 8000000
set_option maxRecDepth 20000
namespace Go.Proofs.YtidecdlaeomfoaaGreat
open Go.RowKit
theorem Tryz.infoI5 : (Tryz.prog.info? 3).map (fun i => (i.zero, i.size, i.bytes)) = some (some (.int .i64 0), 1, 8) := by kernel_rfl
def toI (gs : List Nat) : List Int := gs.map (fun n : Nat => (n : Int))
theorem toI_snoc (gs : List Nat) (n : Nat) : toI (gs ++ [n]) = toI gs ++ [(n : Int)] := by simp [toI]
theorem toI_len (gs : List Nat) : (toI gs).length = gs.length := by simp [toI]
def grpAns (w w' : World) (r : Option (List Nat)) (e : Ending) : Prop :=
 ∃ (v : Value) (l : List Nat), e = .returned (.tuple #[v, .bool r.isSome]) ∧ w'.ownsRow w.heap.size 3 1 v l.length (icells (toI l)) ∧ l.length ≤ 1048580 ∧ ∀ gs, r = some gs → l = gs
theorem grp_step (t : Bool) (fs : List ByteArray) (k : Nat) (h : k < fs.length) : grp t ((fs.drop k).map toL) = match (if t = true ∧ k + 1 = fs.length then p4 (toL (fs.getD k ByteArray.empty)) else none) with
  | some n => some [n / 65536, n % 65536]
  | none => match g16 (toL (fs.getD k ByteArray.empty)) with
   | none => none
   | some v => (grp t ((fs.drop (k + 1)).map toL)).map (v :: ·) := by
 rw [drop_bytes fs k h, List.map_cons, grp]
 have e : (t && ((fs.drop (k + 1)).map toL).isEmpty) = decide (t = true ∧ k + 1 = fs.length) := by
  have e2 : ((fs.drop (k + 1)).map toL).isEmpty = decide (k + 1 = fs.length) := by
   by_cases h2 : k + 1 = fs.length
   ·rw [decide_eq_true h2, List.drop_of_length_le (by omega)]; rfl
   rw [decide_eq_false h2, drop_bytes fs (k + 1) (by omega)]; rfl
  rw [e2]
  cases t <;> simp
 rw [e]
 by_cases c : t = true ∧ k + 1 = fs.length
 ·rw [decide_eq_true c, if_pos c]; rfl
 rw [decide_eq_false c, if_neg c]; rfl
theorem grp_end (t : Bool) (fs : List ByteArray) (k : Nat) (h : ¬ k < fs.length) : grp t ((fs.drop k).map toL) = some [] := by
 rw [List.drop_of_length_le (by omega)]; rfl
theorem g16_nil {y : ByteArray} (h : y.size = 0) : g16 (toL y) = none := by
 have : toL y = [] := List.eq_nil_of_length_eq_zero (by simpa [toL] using h)
 rw [this]; rfl
theorem g16_num {y : ByteArray} (h : 0 < y.size) : g16 (toL y) = numL 16 4 (toL y) := by
 unfold g16
 rw [show (toL y).isEmpty = false by unfold toL; rw [toL_one y h]; rfl]
 rfl
theorem g16_lt {l : List UInt8} {v : Nat} (h : numL 16 4 l = some v) : v < 65536 := by
 have key : ∀ (l : List UInt8) (n : Nat) (m v : Nat), n < 16 ^ m → digF 16 n l = some v → v < 16 ^ (m + l.length) := by
  intro l
  induction l with
  | nil => intro n m v hn h; cases h; simpa using hn
  | cons c r ih =>
   intro n m v hn h
   rw [digF] at h
   split at h
   ·rename_i hc
    have := ih _ (m + 1) v (pow_room (base := 16) (by omega) (by omega) hn) h
    rw [List.length_cons, show m + (r.length + 1) = m + 1 + r.length by omega]
    exact this
   cases h
 unfold numL at h
 split at h
 ·rename_i hl
  have h1 := key l 0 0 v (by decide) h
  exact Nat.lt_of_lt_of_le h1 (Nat.le_trans (Nat.pow_le_pow_right (n := 16) (j := 4) (by decide) (by omega)) (by decide))
 cases h
theorem grpS_nil {t : Bool} {s : ByteArray} (h : s.size = 0) : grpS t s.data.toList = some [] := by
 have : s.data.toList = [] := List.eq_nil_of_length_eq_zero (by simpa using h)
 rw [this]; rfl
theorem grpS_fields {t : Bool} {s : ByteArray} (h : 0 < s.size) : grpS t s.data.toList = grp t ((fieldsL s 58).map toL) := by
 unfold grpS
 rw [show s.data.toList.isEmpty = false by rw [toL_one s h]; rfl, fieldsL_58]
 rfl
theorem fields_sizes58 (s : ByteArray) (hs : s.size ≤ 1048576) : ∀ x ∈ fieldsL s 58, x.size ≤ 1048576 := fun x hx => Nat.le_trans (fieldsL_sizes s 58 x hx) hs
theorem specGroups (s : ByteArray) (t : Bool) (w : World) (hs : s.size ≤ 1048576) :
  Calls Tryz.prog 73 #[.string s, .bool t] w fun e w' => grpAns w w' (grpS t s.data.toList) e ∧ Below w.heap.size w w' := by
 have HO : (w.alloc (.cells #[] 3)).ownsRow w.heap.size 3 1 (.slice (some ⟨w.heap.size, 0, none⟩) 0 0) 0 [] := World.ownsRow_lit w #[] 0 (Nat.le_refl _) (by decide) rfl
 by_cases h0 : s.size = 0
 ·have hem := empty_yes h0
  have HZ : Hid (grpS t s.data.toList = some []) := grpS_nil h0
  clear h0
  go_enter Tryz.func73, Tryz.ntmps73
  go_wp2_with fail
  go_ret2
  exact ⟨⟨_, [], by rw [HZ.out]; rfl, HO, by simp, fun gs h => by rw [HZ.out] at h; cases h; rfl⟩, (Below.refl _ _).alloc (Nat.le_refl _) _⟩
 have hp : 0 < s.size := by omega
 have hem := empty_no hp
 have HF : Hid (grpS t s.data.toList = grp t ((fieldsL s 58).map toL)) := grpS_fields hp
 have hpos : 0 < (fieldsL s 58).length := by simp [fieldsL]
 have hlen : (fieldsL s 58).length ≤ 1048577 := by
  have := (fieldsTo_le s 58 s.size).2
  simp [fieldsL]; omega
 have HSZ : Hid (∀ x ∈ fieldsL s 58, x.size ≤ 1048576) := fields_sizes58 s hs
 have CF : Hid (∀ W, Calls Tryz.prog 74 #[.string s, .int .u8 58] W fun e w' => ∃ v, e = .returned v ∧ w'.ownsRow W.heap.size 9 1 v (fieldsL s 58).length (scells (fieldsL s 58)) ∧ Below W.heap.size W w') := fun W => specFields s 58 W hs
 generalize fieldsL s 58 = fs at HF hpos hlen HSZ CF
 clear h0
 go_enter Tryz.func73, Tryz.ntmps73
 go_wp2_with fail
 refine (CF.out _).mono ?_
 rintro e wa ⟨va, rfl, oa, ba⟩
 have OA := own_below HO ba
 rcases own_shape oa with ⟨h, _⟩ | ⟨_, g, cap, rfl⟩
 ·omega
 have hg := (oa.lt g rfl).1
 have hg2 := (oa.lt g rfl).2
 have B0 : Below w.heap.size w wa := ((Below.refl _ w).alloc (Nat.le_refl _) _).trans (ba.mono (by simp))
 have HC0 : Hid (∀ j, j < fs.length → wa.cell? ⟨g, j, none⟩ = some (.string (fs.getD j ByteArray.empty))) := fun j hj => scell_at oa j hj
 clear ba HO oa CF
 go_wp2_with fail
 go_loopw [6, 8] (fun v i wr => ∃ (k : Nat) (acc : List Nat), k ≤ fs.length ∧ i = .int .i64 k ∧ acc.length ≤ k ∧ grp t (fs.map toL) = (grp t ((fs.drop k).map toL)).map (acc ++ ·) ∧ wr.ownsRow w.heap.size 3 1 v acc.length (icells (toI acc)) ∧ (∀ j, j < fs.length → wr.cell? ⟨g, j, none⟩ = some (.string (fs.getD j ByteArray.empty))) ∧ some g ≠ v.ownBlock ∧ g < wr.heap.size ∧ Below w.heap.size w wr)
  (fun _ i _ => fs.length - (intOf i).toNat)
 case atStart =>
  refine ⟨0, [], Nat.zero_le _, rfl, by simp, by simp, OA, HC0.out, ?_, hg2, B0⟩
  simp [Value.ownBlock]
  simp at hg
  omega
 obtain ⟨k, acc, hk, rfl, hal, hr, ow, hcell, hne, hgl, hbel⟩ := hrel
 have HR : Hid (grp t (fs.map toL) = (grp t ((fs.drop k).map toL)).map (acc ++ ·)) := hr
 have HCL : Hid (∀ j, j < fs.length → wr.cell? ⟨g, j, none⟩ = some (.string (fs.getD j ByteArray.empty))) := hcell
 have hsz := hbel.size
 clear hr OA B0 HC0
 by_cases hlt : k < fs.length
 ·have hc := hcell k hlt
  have hsy := HSZ.out _ (mem_getD (k := k) hlt)
  have HS : Hid (_ = _) := grp_step t fs k hlt
  have CP : Hid (∀ W, CB 85 #[.string (fs.getD k ByteArray.empty)] W (numA (p4 (toL (fs.getD k ByteArray.empty))))) := fun W => specParseIp4 _ W hsy
  have CN : Hid (∀ W, CS 50 #[.string (fs.getD k ByteArray.empty), .int .i64 16, .int .i64 4] W (.int .i64 (numZ (numL 16 4 (toL (fs.getD k ByteArray.empty)))))) := fun W => spec5Number _ 16 4 W (by omega) (by omega)
  have HCK : Hid (∀ W, Below wr.heap.size wr W → W.cell? ⟨g, k, none⟩ = some (.string (fs.getD k ByteArray.empty))) := fun W hb => cell_later hb (HCL.out k hlt)
  clear hcell
  generalize fs.getD k ByteArray.empty = y at hc hsy HS CP CN HCK
  have hki : (k : Int) < (fs.length : Int) := by omega
  clear hsy
  go_wp2_with fail
  refine (CP.out _).mono ?_
  rintro e wb ⟨rfl, bb⟩
  have hcb := HCK.out _ bb
  have o2 := own_below ow bb
  have B2 := hbel.trans (bb.mono hsz)
  have z2 := B2.size
  have hgl2 : g < wb.heap.size := Nat.lt_of_lt_of_le hgl bb.size
  have HC2 : Hid (∀ j, j < fs.length → wb.cell? ⟨g, j, none⟩ = some (.string (fs.getD j ByteArray.empty))) := fun j hj => cell_later bb (HCL.out j hj)
  clear hc ow hbel bb HCL HCK
  cases hp4 : p4 (toL y) with
  | none =>
   have HN0 : Hid ((if t = true ∧ k + 1 = fs.length then p4 (toL y) else none) = none) := by
    show _ = _
    rw [hp4]
    split <;> rfl
   clear hp4
   simp only [numA]
   by_cases he : y.size = 0
   ·have HZ : Hid (grpS t s.data.toList = none) := by
     show _ = _
     rw [HF.out, HR.out, HS.out, HN0.out, g16_nil he]
     rfl
    have hem := empty_yes he
    clear he
    generalize numZ (numL 16 4 (toL y)) = zz at CN
    go_wp2_with fail
    refine (CN.out _).mono ?_
    rintro e w' ⟨rfl, rfl⟩
    go_wp2_with fail
    go_ret2
    exact ⟨⟨_, acc, by rw [HZ.out]; rfl, o2, by omega, fun gs h => by rw [HZ.out] at h; cases h⟩, B2⟩
   have hpy : 0 < y.size := by omega
   have hem := empty_no hpy
   have HS1 : Hid (g16 (toL y) = numL 16 4 (toL y)) := g16_num hpy
   clear he
   cases hv : numL 16 4 (toL y) with
   | none =>
    rw [hv] at CN HS1
    have HZ : Hid (grpS t s.data.toList = none) := by
     show _ = _
     rw [HF.out, HR.out, HS.out, HN0.out, HS1.out]
     rfl
    clear hv
    go_wp2_with fail
    refine (CN.out _).mono ?_
    rintro e w' ⟨rfl, rfl⟩
    simp only [numZ]
    go_wp2_with fail
    go_ret2
    exact ⟨⟨_, acc, by rw [HZ.out]; rfl, o2, by omega, fun gs h => by rw [HZ.out] at h; cases h⟩, B2⟩
   | some v =>
    have hvl := g16_lt hv
    rw [hv] at CN HS1
    have HG : Hid (grp t (fs.map toL) = (grp t ((fs.drop (k + 1)).map toL)).map ((acc ++ [v]) ++ ·)) := by
     show _ = _
     rw [HR.out, HS.out, HN0.out, HS1.out]
     simp only
     cases grp t ((fs.drop (k + 1)).map toL) <;> simp
    clear hv
    obtain ⟨x, hx⟩ : ∃ x : Int, (v : Int) = x := ⟨_, rfl⟩
    have HX : Hid ((v : Int) = x) := hx
    have hx0 : ¬ x < 0 := by omega
    clear hx hvl
    go_wp2_with fail
    refine (CN.out _).mono ?_
    rintro e w' ⟨rfl, rfl⟩
    simp only [numZ]
    rw [HX.out]
    go_wp2_with (at_builtin; refine wpList_append_newAt _ rfl _ _ 57 rfl w.heap.size 3 (.int .i64 0) 8 Tryz.underlying57 Tryz.infoI5 rfl _ _ _ rfl o2 #[.int .i64 x] 1 rfl rfl (by intro u hu; simp at hu; subst hu; rfl) (by omega) (by unfold maxLen; omega) z2 ?_)
    intro v' w1 ow' gr hat
    have R : w1.ownsRow w.heap.size 3 1 v' (acc ++ [v]).length (icells (toI (acc ++ [v]))) := by
     rw [toI_snoc, HX.out, icells_snoc, List.length_append]
     exact ow'
    have B3 : Below w.heap.size w w1 := B2.grown gr z2 (fun k hk => (o2.lt k hk).1)
    have hgw : w1.heap[g]? = wb.heap[g]? := gr.block g hgl2 hne
    have C1 : Hid (∀ j, j < fs.length → w1.cell? ⟨g, j, none⟩ = some (.string (fs.getD j ByteArray.empty))) := fun j hj =>
     (World.cell?_of_block (w := wb) (a := ⟨g, j, none⟩) hgw).trans (HC2.out j hj)
    have hne1 : some g ≠ v'.ownBlock := by
     rcases hat with h | h
     ·rw [h]; exact hne
     rw [h]; intro h2; cases h2; omega
    have hgl1 : g < w1.heap.size := Nat.lt_of_lt_of_le hgl2 gr.size
    clear o2 ow' gr hat B2 hgw HC2
    go_wp2_with fail
    go_roundw
    case rel => exact ⟨k + 1, acc ++ [v], by omega, by go_num, by rw [List.length_append]; simp; omega, HG.out, R, C1.out, hne1, hgl1, B3⟩
    case measure => simp [intOf]; omega
  | some n =>
   have hn4 := (p4_some hp4).1
   by_cases hit : t = true ∧ k + 1 = fs.length
   ·obtain ⟨rfl, hk1⟩ := hit
    have HZ : Hid (grpS true s.data.toList = some (acc ++ [n / 65536, n % 65536])) := by
     show _ = _
     rw [HF.out, HR.out, HS.out, if_pos ⟨rfl, hk1⟩, hp4]
     rfl
    have hkq : ((k : Int) == (fs.length : Int) - 1) = true := by simp; omega
    obtain ⟨x, hx⟩ : ∃ x : Int, (n : Int) = x := ⟨_, rfl⟩
    have HX : Hid ((n : Int) = x) := hx
    have hx0 : 0 ≤ x := by omega
    have hx1 : x < 4294967296 := by omega
    have b2 : bits .and .i64 x 65535 = x % 65536 := i64_low 16 65535 rfl _ (by omega) (by omega) (by decide)
    clear hp4 hn4 hx
    simp only [numA]
    rw [HX.out]
    go_wp2_with (at_builtin; refine wpList_append_new _ rfl _ _ 57 rfl w.heap.size 3 (.int .i64 0) 8 Tryz.underlying57 Tryz.infoI5 rfl _ _ _ rfl o2 #[.int .i64 (x / 65536), .int .i64 (x % 65536)] 2 rfl rfl (by intro u hu; simp at hu; rcases hu with rfl | rfl <;> rfl) (by omega) (by unfold maxLen; omega) z2 ?_)
    intro v' w1 ow' b3
    have R : w1.ownsRow w.heap.size 3 1 v' (acc ++ [n / 65536, n % 65536]).length (icells (toI (acc ++ [n / 65536, n % 65536]))) := by
     have e1 : ((n / 65536 : Nat) : Int) = x / 65536 := by have := HX.out; omega
     have e2 : ((n % 65536 : Nat) : Int) = x % 65536 := by have := HX.out; omega
     have e3 : icells (toI (acc ++ [n / 65536, n % 65536])) = icells (toI acc) ++ [.int .i64 (x / 65536), .int .i64 (x % 65536)] := by
      simp only [toI, icells, List.map_append, List.map_cons, List.map_nil, e1, e2]
     rw [e3, List.length_append]
     exact ow'
    have B3 := B2.trans b3
    clear ow' b3 o2 B2
    go_wp2_with fail
    go_ret2
    exact ⟨⟨_, _, by rw [HZ.out]; rfl, R, by rw [List.length_append]; simp; omega, fun gs h => by rw [HZ.out] at h; cases h; rfl⟩, B3⟩
   have HN0 : Hid ((if t = true ∧ k + 1 = fs.length then p4 (toL y) else none) = none) := by
    show _ = _
    rw [if_neg hit]
   clear hp4 hn4
   simp only [numA]
   cases t with
   | false =>
    clear hit
    by_cases he : y.size = 0
    ·have HZ : Hid (grpS false s.data.toList = none) := by
      show _ = _
      rw [HF.out, HR.out, HS.out, HN0.out, g16_nil he]
      rfl
     have hem := empty_yes he
     clear he
     generalize numZ (numL 16 4 (toL y)) = zz at CN
     go_wp2_with fail
     refine (CN.out _).mono ?_
     rintro e w' ⟨rfl, rfl⟩
     go_wp2_with fail
     go_ret2
     exact ⟨⟨_, acc, by rw [HZ.out]; rfl, o2, by omega, fun gs h => by rw [HZ.out] at h; cases h⟩, B2⟩
    have hpy : 0 < y.size := by omega
    have hem := empty_no hpy
    have HS1 : Hid (g16 (toL y) = numL 16 4 (toL y)) := g16_num hpy
    clear he
    cases hv : numL 16 4 (toL y) with
    | none =>
     rw [hv] at CN HS1
     have HZ : Hid (grpS false s.data.toList = none) := by
      show _ = _
      rw [HF.out, HR.out, HS.out, HN0.out, HS1.out]
      rfl
     clear hv
     go_wp2_with fail
     refine (CN.out _).mono ?_
     rintro e w' ⟨rfl, rfl⟩
     simp only [numZ]
     go_wp2_with fail
     go_ret2
     exact ⟨⟨_, acc, by rw [HZ.out]; rfl, o2, by omega, fun gs h => by rw [HZ.out] at h; cases h⟩, B2⟩
    | some v =>
     have hvl := g16_lt hv
     rw [hv] at CN HS1
     have HG : Hid (grp false (fs.map toL) = (grp false ((fs.drop (k + 1)).map toL)).map ((acc ++ [v]) ++ ·)) := by
      show _ = _
      rw [HR.out, HS.out, HN0.out, HS1.out]
      simp only
      cases grp false ((fs.drop (k + 1)).map toL) <;> simp
     clear hv
     obtain ⟨x, hx⟩ : ∃ x : Int, (v : Int) = x := ⟨_, rfl⟩
     have HX : Hid ((v : Int) = x) := hx
     have hx0 : ¬ x < 0 := by omega
     clear hx hvl
     go_wp2_with fail
     refine (CN.out _).mono ?_
     rintro e w' ⟨rfl, rfl⟩
     simp only [numZ]
     rw [HX.out]
     go_wp2_with (at_builtin; refine wpList_append_newAt _ rfl _ _ 57 rfl w.heap.size 3 (.int .i64 0) 8 Tryz.underlying57 Tryz.infoI5 rfl _ _ _ rfl o2 #[.int .i64 x] 1 rfl rfl (by intro u hu; simp at hu; subst hu; rfl) (by omega) (by unfold maxLen; omega) z2 ?_)
     intro v' w1 ow' gr hat
     have R : w1.ownsRow w.heap.size 3 1 v' (acc ++ [v]).length (icells (toI (acc ++ [v]))) := by
      rw [toI_snoc, HX.out, icells_snoc, List.length_append]
      exact ow'
     have B3 : Below w.heap.size w w1 := B2.grown gr z2 (fun k hk => (o2.lt k hk).1)
     have hgw : w1.heap[g]? = wb.heap[g]? := gr.block g hgl2 hne
     have C1 : Hid (∀ j, j < fs.length → w1.cell? ⟨g, j, none⟩ = some (.string (fs.getD j ByteArray.empty))) := fun j hj =>
      (World.cell?_of_block (w := wb) (a := ⟨g, j, none⟩) hgw).trans (HC2.out j hj)
     have hne1 : some g ≠ v'.ownBlock := by
      rcases hat with h | h
      ·rw [h]; exact hne
      rw [h]; intro h2; cases h2; omega
     have hgl1 : g < w1.heap.size := Nat.lt_of_lt_of_le hgl2 gr.size
     clear o2 ow' gr hat B2 hgw HC2
     go_wp2_with fail
     go_roundw
     case rel => exact ⟨k + 1, acc ++ [v], by omega, by go_num, by rw [List.length_append]; simp; omega, HG.out, R, C1.out, hne1, hgl1, B3⟩
     case measure => simp [intOf]; omega
   | true =>
    have hkq : ((k : Int) == (fs.length : Int) - 1) = false := by
     have h2 : ¬ k + 1 = fs.length := fun h => hit ⟨rfl, h⟩
     simp
     omega
    clear hit
    by_cases he : y.size = 0
    ·have HZ : Hid (grpS true s.data.toList = none) := by
      show _ = _
      rw [HF.out, HR.out, HS.out, HN0.out, g16_nil he]
      rfl
     have hem := empty_yes he
     clear he
     generalize numZ (numL 16 4 (toL y)) = zz at CN
     go_wp2_with fail
     refine (CN.out _).mono ?_
     rintro e w' ⟨rfl, rfl⟩
     go_wp2_with fail
     go_ret2
     exact ⟨⟨_, acc, by rw [HZ.out]; rfl, o2, by omega, fun gs h => by rw [HZ.out] at h; cases h⟩, B2⟩
    have hpy : 0 < y.size := by omega
    have hem := empty_no hpy
    have HS1 : Hid (g16 (toL y) = numL 16 4 (toL y)) := g16_num hpy
    clear he
    cases hv : numL 16 4 (toL y) with
    | none =>
     rw [hv] at CN HS1
     have HZ : Hid (grpS true s.data.toList = none) := by
      show _ = _
      rw [HF.out, HR.out, HS.out, HN0.out, HS1.out]
      rfl
     clear hv
     go_wp2_with fail
     refine (CN.out _).mono ?_
     rintro e w' ⟨rfl, rfl⟩
     simp only [numZ]
     go_wp2_with fail
     go_ret2
     exact ⟨⟨_, acc, by rw [HZ.out]; rfl, o2, by omega, fun gs h => by rw [HZ.out] at h; cases h⟩, B2⟩
    | some v =>
     have hvl := g16_lt hv
     rw [hv] at CN HS1
     have HG : Hid (grp true (fs.map toL) = (grp true ((fs.drop (k + 1)).map toL)).map ((acc ++ [v]) ++ ·)) := by
      show _ = _
      rw [HR.out, HS.out, HN0.out, HS1.out]
      simp only
      cases grp true ((fs.drop (k + 1)).map toL) <;> simp
     clear hv
     obtain ⟨x, hx⟩ : ∃ x : Int, (v : Int) = x := ⟨_, rfl⟩
     have HX : Hid ((v : Int) = x) := hx
     have hx0 : ¬ x < 0 := by omega
     clear hx hvl
     go_wp2_with fail
     refine (CN.out _).mono ?_
     rintro e w' ⟨rfl, rfl⟩
     simp only [numZ]
     rw [HX.out]
     go_wp2_with (at_builtin; refine wpList_append_newAt _ rfl _ _ 57 rfl w.heap.size 3 (.int .i64 0) 8 Tryz.underlying57 Tryz.infoI5 rfl _ _ _ rfl o2 #[.int .i64 x] 1 rfl rfl (by intro u hu; simp at hu; subst hu; rfl) (by omega) (by unfold maxLen; omega) z2 ?_)
     intro v' w1 ow' gr hat
     have R : w1.ownsRow w.heap.size 3 1 v' (acc ++ [v]).length (icells (toI (acc ++ [v]))) := by
      rw [toI_snoc, HX.out, icells_snoc, List.length_append]
      exact ow'
     have B3 : Below w.heap.size w w1 := B2.grown gr z2 (fun k hk => (o2.lt k hk).1)
     have hgw : w1.heap[g]? = wb.heap[g]? := gr.block g hgl2 hne
     have C1 : Hid (∀ j, j < fs.length → w1.cell? ⟨g, j, none⟩ = some (.string (fs.getD j ByteArray.empty))) := fun j hj =>
      (World.cell?_of_block (w := wb) (a := ⟨g, j, none⟩) hgw).trans (HC2.out j hj)
     have hne1 : some g ≠ v'.ownBlock := by
      rcases hat with h | h
      ·rw [h]; exact hne
      rw [h]; intro h2; cases h2; omega
     have hgl1 : g < w1.heap.size := Nat.lt_of_lt_of_le hgl2 gr.size
     clear o2 ow' gr hat B2 hgw HC2
     go_wp2_with fail
     go_roundw
     case rel => exact ⟨k + 1, acc ++ [v], by omega, by go_num, by rw [List.length_append]; simp; omega, HG.out, R, C1.out, hne1, hgl1, B3⟩
     case measure => simp [intOf]; omega
 have HZ : Hid (grpS t s.data.toList = some acc) := by
  show _ = _
  rw [HF.out, HR.out, grp_end t fs k hlt]
  simp
 have hki : ¬ (k : Int) < (fs.length : Int) := by omega
 clear hcell HCL
 go_wp2_with fail
 go_ret2
 exact ⟨⟨_, acc, by rw [HZ.out]; rfl, ow, by omega, fun gs h => by rw [HZ.out] at h; cases h; rfl⟩, hbel⟩
end Go.Proofs.YtidecdlaeomfoaaGreat
