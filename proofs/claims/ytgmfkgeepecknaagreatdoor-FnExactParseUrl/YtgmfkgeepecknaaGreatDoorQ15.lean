/- Par6Impl, Parse6Impl, ArrMarks, Par6Eight, DrawWalk, Draw5Walk, AddrBack. -/
import Derived.Test.YtgmfkgeepecknaaGreatDoorQ14
import Derived.Laws.CopyOwn
set_option maxHeartbeats 8000000
set_option maxRecDepth 20000
namespace Go.Proofs.YtgmfkgeepecknaaGreatDoor
open Go.RowKit
theorem index_dbl : ∀ l : List UInt8, Lib.index l [58, 58] = dblZ (dblN l)
 | [] => rfl
 | c :: r => by
  rw [Lib.index, dblN, index_dbl r]
  by_cases h : c = 58 ∧ r.head? = some 58
  ·rw [if_pos h, if_pos]
   ·rfl
   obtain ⟨rfl, h2⟩ := h
   cases r with
   | nil => simp at h2
   | cons d q => simp at h2; subst h2; simp [List.isPrefixOf]
  rw [if_neg h, if_neg]
  ·cases hr : dblN r with
   | none => simp [dblZ]
   | some k =>
    have : ((k : Int) == -1) = false := by simp
    simp [dblZ, this]
  intro h2
  apply h
  cases r with
  | nil => simp [List.isPrefixOf] at h2
  | cons d q =>
   simp [List.isPrefixOf] at h2
   exact ⟨h2.1.symm, by rw [h2.2]; rfl⟩
theorem cut_dbl (l : List UInt8) : Lib.cut l [58, 58] = match cut6L l with
  | none => (l, [], false)
  | some (a, b) => (a, b, true) := by
 unfold Lib.cut
 rw [index_dbl, dbl_cut]
 cases hd : dblN l with
 | none => rfl
 | some k =>
  have h : (0 : Int) ≤ dblZ (some k) := by simp [dblZ]
  rw [if_pos h]
  simp [dblZ]
theorem implManyFit (many : Int) (cut : Bool) (w : World) :
  Calls Tryz.prog 251 #[.int .i64 many, .bool cut] w fun e w' => e = .returned (.bool (if cut then decide (many < 8) else (many == 8))) ∧ w = w' := by
 cases cut with
 | true =>
  go_enter Tryz.func251, Tryz.ntmps251
  go_wp2
  go_ret
  exact ⟨rfl, rfl⟩
 | false =>
  go_enter Tryz.func251, Tryz.ntmps251
  go_wp2
  go_ret
  exact ⟨rfl, rfl⟩
def grpAnsI (w w' : World) (r : Option (List Nat)) (e : Ending) : Prop := match r with
 | none => e = .returned (.tuple #[.slice none 0 0, .bool false])
 | some gs => ∃ v : Value, e = .returned (.tuple #[v, .bool true]) ∧ w'.ownsRow w.heap.size 3 1 v gs.length (icells (toI gs))
theorem implReadGroups (s : ByteArray) (w : World) (hs : s.size ≤ 1048576) :
  Calls Tryz.prog 250 #[.string s] w fun e w' => grpAnsI w w' (grpS false s.data.toList) e ∧ Below w.heap.size w w' := by
 have HO : (w.alloc (.cells #[] 3)).ownsRow w.heap.size 3 1 (.slice (some ⟨w.heap.size, 0, none⟩) 0 0) 0 [] := World.ownsRow_lit w #[] 0 (Nat.le_refl _) (by decide) rfl
 by_cases h0 : s.size = 0
 ·have hem := empty_yes h0
  have HZ : Hid (grpS false s.data.toList = some []) := grpS_nil h0
  clear h0
  go_enter Tryz.func250, Tryz.ntmps250
  go_wp2_with fail
  go_ret2
  rw [HZ.out]
  exact ⟨⟨_, rfl, HO⟩, (Below.refl _ _).alloc (Nat.le_refl _) _⟩
 have hp : 0 < s.size := by omega
 have hem := empty_no hp
 have HF : Hid (grpS false s.data.toList = grp false ((fieldsL s 58).map toL)) := grpS_fields hp
 have hpos : 0 < (fieldsL s 58).length := by simp [fieldsL]
 have hlen : (fieldsL s 58).length ≤ 1048577 := by
  have := (fieldsTo_le s 58 s.size).2
  simp [fieldsL]; omega
 have HSZ : Hid (∀ x ∈ fieldsL s 58, x.size ≤ 1048576) := fields_sizes58 s hs
 have CF : Hid (∀ W, Calls Tryz.prog 114 #[.string s, .int .u8 58] W fun e w' => ∃ v, e = .returned v ∧ w'.ownsRow W.heap.size 9 1 v (fieldsL s 58).length (scells (fieldsL s 58)) ∧ Below W.heap.size W w') := fun W => implFields s 58 W hs
 generalize fieldsL s 58 = fs at HF hpos hlen HSZ CF
 clear h0
 go_enter Tryz.func250, Tryz.ntmps250
 go_wp2_with fail
 refine (CF.out _).mono ?_
 rintro e wa ⟨va, rfl, oa, ba⟩
 have OA := own_below HO ba
 rcases own_shape oa with ⟨h, _⟩ | ⟨_, g, cap, rfl⟩
 ·omega
 have hg := (oa.lt g rfl).1
 have hg2 := (oa.lt g rfl).2
 have B0 : Below w.heap.size w wa := ((Below.refl _ w).alloc (Nat.le_refl _) _).trans (ba.mono (by simp))
 have HC0 : Hid (∀ j, j < fs.length → wa.cell? ⟨g, j, none⟩ = some (.string (fs.getD j ByteArray.empty))) := fun j hj => scell_at oa j hj
 clear ba HO oa CF
 go_wp2_with fail
 go_loopw [4, 16] (fun v i wr => ∃ (k : Nat) (acc : List Nat), k ≤ fs.length ∧ i = .int .i64 k ∧ acc.length ≤ k ∧ grp false (fs.map toL) = (grp false ((fs.drop k).map toL)).map (acc ++ ·) ∧ wr.ownsRow w.heap.size 3 1 v acc.length (icells (toI acc)) ∧ (∀ j, j < fs.length → wr.cell? ⟨g, j, none⟩ = some (.string (fs.getD j ByteArray.empty))) ∧ some g ≠ v.ownBlock ∧ g < wr.heap.size ∧ Below w.heap.size w wr)
  (fun _ i _ => fs.length - (intOf i).toNat)
 case atStart =>
  refine ⟨0, [], Nat.zero_le _, rfl, by simp, by simp, OA, HC0.out, ?_, hg2, B0⟩
  simp [Value.ownBlock]
  simp at hg
  omega
 obtain ⟨k, acc, hk, rfl, hal, hr, ow, hcell, hne, hgl, hbel⟩ := hrel
 have HR : Hid (grp false (fs.map toL) = (grp false ((fs.drop k).map toL)).map (acc ++ ·)) := hr
 have HC2 : Hid (∀ j, j < fs.length → wr.cell? ⟨g, j, none⟩ = some (.string (fs.getD j ByteArray.empty))) := hcell
 have hsz := hbel.size
 clear hr OA B0 HC0
 by_cases hlt : k < fs.length
 ·have hc := hcell k hlt
  have HS : Hid (_ = _) := grp_step false fs k hlt
  have CN : Hid (∀ W, CS 185 #[.string (fs.getD k ByteArray.empty), .int .i64 16, .int .i64 4] W (numA (numL 16 4 (toL (fs.getD k ByteArray.empty))))) := fun W => implDigits _ 16 4 W (by omega) (by omega)
  clear hcell
  generalize fs.getD k ByteArray.empty = y at hc HS CN
  have HN0 : Hid ((if false = true ∧ k + 1 = fs.length then p4 (toL y) else none) = none) := by
   show _ = _
   rw [if_neg (by simp)]
  have hki : (k : Int) < (fs.length : Int) := by omega
  cases hv : numL 16 4 (toL y) with
  | none =>
   have hg16 : g16 (toL y) = none := by
    unfold g16
    split
    ·rfl
    exact hv
   rw [hv] at CN
   have HZ : Hid (grpS false s.data.toList = none) := by
    show _ = _
    rw [HF.out, HR.out, HS.out, HN0.out, hg16]
    rfl
   clear hv hg16
   go_wp2_with fail
   refine (CN.out _).mono ?_
   rintro e w' ⟨rfl, rfl⟩
   simp only [numA]
   go_wp2_with fail
   go_ret2
   rw [HZ.out]
   exact ⟨rfl, hbel⟩
  | some v =>
   have hvl := g16_lt hv
   rw [hv] at CN
   obtain ⟨x, hx⟩ : ∃ x : Int, (v : Int) = x := ⟨_, rfl⟩
   have HX : Hid ((v : Int) = x) := hx
   by_cases he : y.size = 0
   ·have HZ : Hid (grpS false s.data.toList = none) := by
     show _ = _
     rw [HF.out, HR.out, HS.out, HN0.out, g16_nil he]
     rfl
    have hem2 := empty_yes he
    clear he hv hvl hx
    go_wp2_with fail
    refine (CN.out _).mono ?_
    rintro e w' ⟨rfl, rfl⟩
    simp only [numA]
    rw [HX.out]
    go_wp2_with fail
    go_ret2
    rw [HZ.out]
    exact ⟨rfl, hbel⟩
   have hpy : 0 < y.size := by omega
   have hem2 := empty_no hpy
   have HG : Hid (grp false (fs.map toL) = (grp false ((fs.drop (k + 1)).map toL)).map ((acc ++ [v]) ++ ·)) := by
    show _ = _
    rw [HR.out, HS.out, HN0.out, g16_num hpy, hv]
    simp only
    cases grp false ((fs.drop (k + 1)).map toL) <;> simp
   clear he hv hvl hx
   go_wp2_with fail
   refine (CN.out _).mono ?_
   rintro e w' ⟨rfl, rfl⟩
   simp only [numA]
   rw [HX.out]
   go_wp2_with (at_builtin; refine wpList_append_newAt _ rfl _ _ 82 rfl w.heap.size 3 (.int .i64 0) 8 Tryz.underlying82 Tryz.infoI5 rfl _ _ _ rfl ow #[.int .i64 x] 1 rfl rfl (by intro u hu; simp at hu; subst hu; rfl) (by omega) (by unfold maxLen; omega) hsz ?_)
   intro v' w1 ow' gr hat
   have R : w1.ownsRow w.heap.size 3 1 v' (acc ++ [v]).length (icells (toI (acc ++ [v]))) := by
    rw [toI_snoc, HX.out, icells_snoc, List.length_append]
    exact ow'
   have B3 : Below w.heap.size w w1 := hbel.grown gr hsz (fun k hk => (ow.lt k hk).1)
   have hgw : w1.heap[g]? = wr.heap[g]? := gr.block g hgl hne
   have C1 : Hid (∀ j, j < fs.length → w1.cell? ⟨g, j, none⟩ = some (.string (fs.getD j ByteArray.empty))) := fun j hj =>
    (World.cell?_of_block (w := wr) (a := ⟨g, j, none⟩) hgw).trans (HC2.out j hj)
   have hne1 : some g ≠ v'.ownBlock := by
    rcases hat with h | h
    ·rw [h]; exact hne
    rw [h]; intro h2; cases h2; omega
   have hgl1 : g < w1.heap.size := Nat.lt_of_lt_of_le hgl gr.size
   clear ow ow' gr hat hbel hgw HC2 hc
   go_wp2_with fail
   go_roundw
   case rel => exact ⟨k + 1, acc ++ [v], by omega, by go_num, by rw [List.length_append]; simp; omega, HG.out, R, C1.out, hne1, hgl1, B3⟩
   case measure => simp [intOf]; omega
 have HZ : Hid (grpS false s.data.toList = some acc) := by
  show _ = _
  rw [HF.out, HR.out, grp_end false fs k hlt]
  simp
 have hki : ¬ (k : Int) < (fs.length : Int) := by omega
 clear hcell HC2
 go_wp2_with fail
 go_ret2
 rw [HZ.out]
 exact ⟨⟨_, rfl, ow⟩, hbel⟩
theorem hexdec {a b : Nat} (ha : a < 256) (hb : b < 256) : (hex4 (a * 256 + b)).length ≤ (dec3 a).length + 1 + (dec3 b).length := by
 have h1 : 1 ≤ (dec3 b).length := by unfold dec3; split; simp; split <;> simp
 by_cases c1 : a < 10
 ·have h2 : 1 ≤ (dec3 a).length := by unfold dec3; rw [if_pos c1]; simp
  have h3 : (hex4 (a * 256 + b)).length ≤ 3 := by
   unfold hex4
   split
   ·simp
   split
   ·simp
   rw [if_pos (by omega)]; simp
  omega
 have h2 : 2 ≤ (dec3 a).length := by unfold dec3; rw [if_neg c1]; split <;> simp
 have h3 := (hex4_len (a * 256 + b)).2
 omega
theorem two4_len {n : Nat} (h : n < 4294967296) : (two4 n).length ≤ (ip4L n).length := by
 have e1 : n / 65536 = (n / 16777216) * 256 + n / 65536 % 256 := by omega
 have e2 : n % 65536 = (n / 256 % 256) * 256 + n % 256 := by omega
 have h1 := hexdec (a := n / 16777216) (b := n / 65536 % 256) (by omega) (by omega)
 have h2 := hexdec (a := n / 256 % 256) (b := n % 256) (by omega) (by omega)
 rw [← e1] at h1
 rw [← e2] at h2
 unfold two4 ip4L
 simp only [jl, List.length_append, List.length_cons]
 omega
theorem last_colon (s : ByteArray) : ∃ b : Nat, b ≤ s.size ∧ Lib.lastIndexByte s 58 + 1 = (b : Int) ∧ endsOk (s.data.toList.take b) ∧ ∀ c ∈ s.data.toList.drop b, c ≠ 58 := by
 rcases Lib.lastIndexByte_spec s 58 with ⟨h1, h2⟩ | ⟨i, h0, h1, h2, h3⟩
 ·refine ⟨0, Nat.zero_le _, by rw [h1]; rfl, .inl (by simp), ?_⟩
  intro c hc e
  rw [List.drop_zero] at hc
  obtain ⟨j, hj, rfl⟩ := List.getElem_of_mem hc
  have hj' : j < s.size := by simpa using hj
  apply h2 j hj'
  rw [getElem!_pos s.data j hj']
  have : s.data[j] = 58 := by simpa using e
  rw [this]; rfl
 refine ⟨i + 1, h0, by rw [h1]; simp, .inr ⟨s.data.toList.take i, ?_⟩, ?_⟩
 ·rw [take_snoc s i h0]
  congr 2
  apply u8_is
  rw [getElem!_pos s.data i h0] at h2
  show s.data[i].toNat = 58
  omega
 intro c hc e
 obtain ⟨j, hj, rfl⟩ := List.getElem_of_mem hc
 rw [List.length_drop] at hj
 have hj' : i + 1 + j < s.size := by simp at hj; omega
 apply h3 (i + 1 + j) (by omega) hj'
 rw [getElem!_pos s.data _ hj']
 have : s.data[i + 1 + j] = 58 := by simpa using e
 rw [this]; rfl
theorem slice_str (s : ByteArray) (b : Nat) (hb : b ≤ s.size) (W : World) : (Instr.slice 9 (.string s) none (some (.int .i64 (b : Int))) none).run Tryz.prog W = .ok (.string (s.extract 0 b)) W := by
 simp [Instr.slice, run_underlying Tryz.underlying9, Instr.sliceBounds, run_sliceBound, go_sem, hb]
theorem implEnd (s : ByteArray) (w : World) (hs : s.size ≤ 1048576) (hT : Pow w) (hD : Bruijn w) :
  Calls Tryz.prog 249 #[.string s] w fun e w' => ∃ T : ByteArray, e = .returned (.string T) ∧ par6g T.data.toList = par6 s.data.toList ∧ T.size ≤ 1048576 ∧ Below w.heap.size w w' := by
 obtain ⟨b, hb, hlb, hpre, htl⟩ := last_colon s
 have CL : Hid (∀ W, CS 184 #[.string s, .int .u8 58] W (.int .i64 (Lib.lastIndexByte s 58))) := fun W => (Tryz.strings_LastIndexByte s 58 (by omega) W).mono fun e w' h => ⟨h.1, h.2.symm⟩
 have et : (s.extract b s.size).data.toList = s.data.toList.drop b := by rw [extract_list, take_all s s.size (Nat.le_refl _)]
 have ep : (s.extract 0 b).data.toList = s.data.toList.take b := by rw [extract_list]; simp
 have CP : Hid (∀ W, Pow W → CB 258 #[.string (s.extract b s.size)] W (numA (p4 (s.data.toList.drop b)))) := fun W h => by
  rw [← et]
  exact implParseIp4 _ W (by rw [ByteArray.size_extract]; omega) h
 have HT : Hid (Pow w) := hT
 have HD : Hid (Bruijn w) := hD
 have hcat : s.data.toList.take b ++ s.data.toList.drop b = s.data.toList := List.take_append_drop b _
 clear hT hD
 have hbi : (b : Int) ≤ (s.size : Int) := by omega
 have hl0 : Lib.lastIndexByte s 58 = (b : Int) - 1 := by omega
 rw [hl0] at CL
 clear hlb hl0
 cases hp : p4 (s.data.toList.drop b) with
 | none =>
  have HZ : Hid (par6g s.data.toList = par6 s.data.toList) := by
   have h := par6_plain hpre htl hp
   rw [hcat] at h
   exact h
  rw [hp] at CP
  clear hp hpre htl et ep hcat
  go_enter Tryz.func249, Tryz.ntmps249
  go_wp2_with fail
  refine (CL.out _).mono ?_
  rintro e w' ⟨rfl, rfl⟩
  go_wp2_with fail
  refine (CP.out _ HT.out).mono ?_
  rintro e w1 ⟨rfl, b1⟩
  simp only [numA]
  go_wp2_with fail
  go_ret
  exact ⟨s, rfl, HZ.out, hs, b1⟩
 | some n =>
  have hn4 := (p4_some hp).1
  have HTL : Hid (s.data.toList.drop b = ip4L n) := (p4_some hp).2
  have HZ : Hid (par6g (s.data.toList.take b ++ two4 n) = par6 s.data.toList) := by
   have h := par6_four hpre htl hp
   rw [hcat] at h
   exact h
  rw [hp] at CP
  clear hp hpre htl et hcat
  obtain ⟨x, hx⟩ : ∃ x : Int, (n : Int) = x := ⟨_, rfl⟩
  have HX : Hid ((n : Int) = x) := hx
  have hx0 : 0 ≤ x := by omega
  have hx1 : x < 4294967296 := by omega
  have b2 : bits .and .i64 x 65535 = x % 65536 := i64_low 16 65535 rfl _ (by omega) (by omega) (by decide)
  clear hx
  go_enter Tryz.func249, Tryz.ntmps249
  go_wp2_with fail
  refine (CL.out _).mono ?_
  rintro e w' ⟨rfl, rfl⟩
  go_wp2_with fail
  refine (CP.out _ HT.out).mono ?_
  rintro e w1 ⟨rfl, b1⟩
  simp only [numA]
  rw [HX.out]
  have CG : Hid (Calls Tryz.prog 168 #[.slice (some ⟨w1.heap.size, 0, none⟩) 2 2] ((w1.alloc (.cells #[.int .i64 (x / 65536), .int .i64 (x % 65536)] 3)).drew) fun e w' => e = .returned (.string ⟨(two4 n).toArray⟩) ∧ Below w1.heap.size w1 w') := by
   have hB : Below w1.heap.size w1 (w1.alloc (.cells #[.int .i64 (x / 65536), .int .i64 (x % 65536)] 3)).drew := ((Below.refl _ w1).alloc (Nat.le_refl _) _).drew
   have h := implGroupsText w1.heap.size 0 2 [n / 65536, n % 65536] ((w1.alloc (.cells #[.int .i64 (x / 65536), .int .i64 (x % 65536)] 3)).drew) (by simp) (by
    intro y hy
    simp at hy
    omega) (by
    intro j hj
    have hj2 : j = 0 ∨ j = 1 := by simp at hj; omega
    show (w1.alloc (.cells #[.int .i64 (x / 65536), .int .i64 (x % 65536)] 3)).cell? _ = _
    rw [World.cell?_alloc_at _ _ _ _ rfl]
    have := HX.out
    rcases hj2 with rfl | rfl
    ·simp
     omega
    simp
    omega) (bruijn_below (bruijn_below HD.out b1) hB)
   refine h.mono fun e w' q => ⟨?_, hB.trans (q.2.mono hB.size)⟩
   rw [q.1]
   rfl
  have HB1 : Hid (Below w.heap.size w w1) := b1
  have hs2 : (two4 n).length ≤ 100 := by
   have h1 := (hex4_len (n / 65536)).2
   have h2 := (hex4_len (n % 65536)).2
   simp [two4, jl]
   omega
  have HSZ : Hid ((s.extract 0 b).size + (⟨(two4 n).toArray⟩ : ByteArray).size ≤ 1048576) := by
   show _ ≤ _
   have h1 := two4_len hn4
   have h2 := congrArg List.length HTL.out
   rw [List.length_drop] at h2
   have h3 : s.data.toList.length = s.size := by simp
   rw [ByteArray.size_extract, show (⟨(two4 n).toArray⟩ : ByteArray).size = (two4 n).length from List.size_toArray]
   omega
  have HEQ : Hid ((s.extract 0 b ++ ⟨(two4 n).toArray⟩).data.toList = s.data.toList.take b ++ two4 n) := by
   show _ = _
   rw [ByteArray.data_append, Array.toList_append, ep]
  have z2 : (⟨(two4 n).toArray⟩ : ByteArray).size ≤ 100 := by rw [show (⟨(two4 n).toArray⟩ : ByteArray).size = (two4 n).length from List.size_toArray]; exact hs2
  generalize (⟨(two4 n).toArray⟩ : ByteArray) = T2 at CG HSZ HEQ z2
  have z1 : (s.extract 0 b).size ≤ 1048576 := by rw [ByteArray.size_extract]; omega
  have hsx : ∀ W : World, (Instr.slice 9 (.string s) none (some (.int .i64 (b : Int))) none).run Tryz.prog W = .ok (.string (s.extract 0 b)) W := fun W => slice_str s b hb W
  generalize s.extract 0 b = T1 at HSZ HEQ z1 hsx
  clear b1 hs2 HTL hn4 ep
  go_wp2_with fail
  go_region_with (go_at_call 168; with_reducible refine CG.out.mono ?_; rintro e w2 ⟨rfl, k2⟩)
  all_goals
   go_wp2_with fail
   go_ret
   refine ⟨T1 ++ T2, rfl, by rw [HEQ.out]; exact HZ.out, ?_, HB1.out.trans (k2.mono HB1.out.size)⟩
   rw [ByteArray.size_append]
   exact HSZ.out
def headL (l : List UInt8) : List UInt8 := match cut6L l with
 | none => l
 | some (a, _) => a
def tailL (l : List UInt8) : List UInt8 := match cut6L l with
 | none => []
 | some (_, b) => b
theorem cut_parts (l : List UInt8) : Lib.cut l [58, 58] = (headL l, tailL l, (cut6L l).isSome) := by
 rw [cut_dbl]
 unfold headL tailL
 cases cut6L l <;> rfl
theorem parts_len (l : List UInt8) : (headL l).length ≤ l.length ∧ (tailL l).length ≤ l.length := by
 unfold headL tailL
 cases h : cut6L l with
 | none => simp
 | some p =>
  obtain ⟨a, b⟩ := p
  have := congrArg List.length (cutL_split h)
  simp at this ⊢
  omega
theorem par6g_parts (l : List UInt8) : par6g l = match grpS false (headL l), grpS false (tailL l) with
  | some x, some y => if (if (cut6L l).isSome then x.length + y.length < 8 else x.length + y.length = 8) then some (fill8 x y) else none
  | _, _ => none := by
 unfold par6g headL tailL
 cases h : cut6L l with
 | none =>
  simp only
  rw [show grpS false [] = some [] from rfl]
  cases grpS false l with
  | none => rfl
  | some g =>
   simp only [Option.isSome_none, Bool.false_eq_true, if_false, List.length_nil, Nat.add_zero]
   by_cases h8 : g.length = 8
   ·rw [if_pos h8, if_pos h8]
    simp [fill8, h8]
   rw [if_neg h8, if_neg h8]
 | some p =>
  obtain ⟨a, b⟩ := p
  simp only
  cases grpS false a with
  | none => rfl
  | some x =>
   cases grpS false b with
   | none => rfl
   | some y =>
    simp only [Option.isSome_some, if_true]
    by_cases h7 : x.length + y.length ≤ 7
    ·rw [if_pos h7, if_pos (by omega)]
    rw [if_neg h7, if_neg (by omega)]
theorem implCutStr (T : ByteArray) (w : World) (hs : T.size ≤ 1048576) (hM : MaxI w) :
  Calls Tryz.prog 88 #[.string T, .string ⟨#[58, 58]⟩] w fun e w' => e = .returned (.tuple #[.string ⟨(headL T.data.toList).toArray⟩, .string ⟨(tailL T.data.toList).toArray⟩, .bool (cut6L T.data.toList).isSome]) ∧ Below w.heap.size w w' := by
 obtain ⟨m, hm⟩ := hM
 refine (Tryz.strings_Cut T ⟨#[58, 58]⟩ m w (by omega) hm).mono ?_
 rintro e w' ⟨rfl, n, rfl⟩
 refine ⟨?_, ⟨rfl, rfl, rfl, Nat.le_refl _, fun _ _ => rfl⟩⟩
 rw [show (⟨#[58, 58]⟩ : ByteArray).data.toList = [58, 58] from rfl, cut_parts]
theorem list_eight {z : List Int} (h : z.length = 8) : ∃ a b c d e f g i : Int, z = [a, b, c, d, e, f, g, i] := by
 match z, h with
 | [a, b, c, d, e, f, g, i], _ => exact ⟨a, b, c, d, e, f, g, i, rfl⟩
theorem blk_cell {w : World} {g : Nat} {cs : Array Value} {t : TypeId} {fz : Nat × Nat} (h : w.heap[g]? = some (.cells cs t fz)) (j : Nat) : w.cell? ⟨g, j, none⟩ = cs[j]? := by
 unfold World.cell?
 simp [h]
theorem grp_len : ∀ {fs : List (List UInt8)} {gs : List Nat}, grp false fs = some gs → gs.length = fs.length
 | [], gs, h => by cases h; rfl
 | x :: r, gs, h => by
  rw [grp_cons_f] at h
  cases hx : g16 x with
  | none => rw [hx] at h; cases h
  | some v =>
   rw [hx] at h
   simp only at h
   cases hr : grp false r with
   | none => rw [hr] at h; cases h
   | some q =>
    rw [hr] at h
    cases h
    simp [grp_len hr]
theorem spl_len (b : UInt8) : ∀ l : List UInt8, (spl b l).length ≤ l.length + 1
 | [] => by simp [spl]
 | c :: r => by
  have ih := spl_len b r
  rw [spl]
  split
  ·simp; omega
  cases hs : spl b r with
  | nil => simp
  | cons x xs => rw [hs] at ih; simp at ih ⊢; omega
theorem grpS_len {l : List UInt8} {gs : List Nat} (h : grpS false l = some gs) : gs.length ≤ l.length + 1 := by
 unfold grpS at h
 split at h
 ·cases h; simp
 rw [grp_len h]
 exact spl_len 58 l
theorem splice_fill {a b : List Nat} (h : a.length + b.length ≤ 8) : splice (splice [.int .i64 0, .int .i64 0, .int .i64 0, .int .i64 0, .int .i64 0, .int .i64 0, .int .i64 0, .int .i64 0] 0 (icells (toI a))) (8 - b.length) (icells (toI b)) = icells (toI (fill8 a b)) := by
 have e0 : ([.int .i64 0, .int .i64 0, .int .i64 0, .int .i64 0, .int .i64 0, .int .i64 0, .int .i64 0, .int .i64 0] : List Value) = List.replicate 8 (.int .i64 0) := rfl
 have la : (icells (toI a)).length = a.length := by rw [icells_length, toI_len]
 have lb : (icells (toI b)).length = b.length := by rw [icells_length, toI_len]
 have e1 : splice (List.replicate 8 (Value.int .i64 0)) 0 (icells (toI a)) = icells (toI a) ++ List.replicate (8 - a.length) (Value.int .i64 0) := by
  unfold splice
  rw [List.take_zero, List.nil_append, la, Nat.zero_add, List.drop_replicate]
 rw [e0, e1]
 unfold splice
 rw [List.take_append, la, lb, List.take_of_length_le (by rw [la]; omega), List.take_replicate, List.drop_of_length_le (by rw [List.length_append, la, List.length_replicate]; omega), List.append_nil, show min (8 - b.length - a.length) (8 - a.length) = 8 - a.length - b.length by omega]
 unfold fill8
 simp [icells, toI]
theorem implParseIp6 (s : ByteArray) (w : World) (hs : s.size ≤ 1048576) (hT : Pow w) (hD : Bruijn w) (hM : MaxI w) :
  Calls Tryz.prog 237 #[.string s] w fun e w' => e = .returned (parV (par6 s.data.toList)) ∧ Below w.heap.size w w' := by
 have CE : Hid (∀ W, Pow W → Bruijn W → Calls Tryz.prog 249 #[.string s] W fun e w' => ∃ T : ByteArray, e = .returned (.string T) ∧ par6g T.data.toList = par6 s.data.toList ∧ T.size ≤ 1048576 ∧ Below W.heap.size W w') := fun W a b => implEnd s W hs a b
 have HT : Hid (Pow w) := hT
 have HD : Hid (Bruijn w) := hD
 have HM : Hid (MaxI w) := hM
 clear hT hD hM
 have AR := hid_arr (arr_new w)
 have B0 : Hid (Below w.heap.size w (w.alloc (.cells #[.int .i64 0, .int .i64 0, .int .i64 0, .int .i64 0, .int .i64 0, .int .i64 0, .int .i64 0, .int .i64 0] 24))) := (Below.refl _ w).alloc (Nat.le_refl _) _
 have Z0 : Hid ((w.alloc (.cells #[.int .i64 0, .int .i64 0, .int .i64 0, .int .i64 0, .int .i64 0, .int .i64 0, .int .i64 0, .int .i64 0] 24)).heap.size = w.heap.size + 1) := by show _ = _; simp
 go_enter Tryz.func237, Tryz.ntmps237
 go_wp2_with fail
 refine (CE.out _ (pow_below HT.out B0.out) (bruijn_below HD.out B0.out)).mono ?_
 rintro e w1 ⟨T, rfl, hpt, hts, b1⟩
 have HPT : Hid (par6g T.data.toList = par6 s.data.toList) := hpt
 have B1 := B0.out.trans (b1.mono B0.out.size)
 have CC : Hid (CB 88 #[.string T, .string ⟨#[58, 58]⟩] w1 (.tuple #[.string ⟨(headL T.data.toList).toArray⟩, .string ⟨(tailL T.data.toList).toArray⟩, .bool (cut6L T.data.toList).isSome])) := implCutStr T w1 hts (max_below HM.out B1)
 have hpl := parts_len T.data.toList
 have htl : T.data.toList.length = T.size := by simp
 rw [htl] at hpl
 have CH : Hid (∀ W, Calls Tryz.prog 250 #[.string ⟨(headL T.data.toList).toArray⟩] W fun e w' => grpAnsI W w' (grpS false (headL T.data.toList)) e ∧ Below W.heap.size W w') := fun W => implReadGroups ⟨(headL T.data.toList).toArray⟩ W (by show (headL T.data.toList).toArray.size ≤ _; rw [List.size_toArray]; omega)
 have CR : Hid (∀ W, Calls Tryz.prog 250 #[.string ⟨(tailL T.data.toList).toArray⟩] W fun e w' => grpAnsI W w' (grpS false (tailL T.data.toList)) e ∧ Below W.heap.size W w') := fun W => implReadGroups ⟨(tailL T.data.toList).toArray⟩ W (by show (tailL T.data.toList).toArray.size ≤ _; rw [List.size_toArray]; omega)
 have HP : Hid (par6 s.data.toList = match grpS false (headL T.data.toList), grpS false (tailL T.data.toList) with
  | some x, some y => if (if (cut6L T.data.toList).isSome then x.length + y.length < 8 else x.length + y.length = 8) then some (fill8 x y) else none
  | _, _ => none) := HPT.out.symm.trans (par6g_parts _)
 clear hpt HPT CE HT HD HM
 generalize (⟨(headL T.data.toList).toArray⟩ : ByteArray) = TH at CC CH
 generalize (⟨(tailL T.data.toList).toArray⟩ : ByteArray) = TT at CC CR
 have HBH : Hid (∀ gs, grpS false (headL T.data.toList) = some gs → gs.length ≤ 1048577) := fun gs h => by have := grpS_len h; omega
 have HBT : Hid (∀ gs, grpS false (tailL T.data.toList) = some gs → gs.length ≤ 1048577) := fun gs h => by have := grpS_len h; omega
 clear hpl htl
 generalize grpS false (headL T.data.toList) = rh at CH HP HBH
 generalize grpS false (tailL T.data.toList) = rt at CR HP HBT
 generalize (cut6L T.data.toList).isSome = ct at CC HP
 go_wp2_with fail
 refine CC.out.mono ?_
 rintro e w2 ⟨rfl, b2⟩
 go_wp2_with fail
 refine (CH.out _).mono ?_
 rintro e w3 ⟨hh, b3⟩
 have b12 := b1.trans (b2.mono b1.size)
 have b13 := b12.trans (b3.mono b12.size)
 have k2 : w.heap.size + 1 ≤ w2.heap.size := by have := Z0.out; have := b12.size; omega
 have k3 : w.heap.size + 1 ≤ w3.heap.size := Nat.le_trans k2 b3.size
 cases rh with
 | none =>
  obtain rfl : e = .returned (.tuple #[.slice none 0 0, .bool false]) := hh
  have HZ : Hid (parV (par6 s.data.toList) = parV none) := by show _ = _; rw [HP.out]
  go_wp2_with fail
  refine (CR.out _).mono ?_
  rintro e w4 ⟨ht, b4⟩
  have b14 := b13.trans (b4.mono b13.size)
  have AR3 := hid_arr (AR.out.later b14)
  have B3 : Hid (Below w.heap.size w w4) := B0.out.trans (b14.mono B0.out.size)
  clear b1 b2 b3 b4 b12 b13 b14 B1 k2 k3 AR B0 Z0
  cases rt with
  | none =>
   obtain rfl : e = .returned (.tuple #[.slice none 0 0, .bool false]) := ht
   have RA := AR3.out
   have r0 := (RA.2 0 (by decide)).1
   have r1 := (RA.2 1 (by decide)).1
   have r2 := (RA.2 2 (by decide)).1
   have r3 := (RA.2 3 (by decide)).1
   have r4 := (RA.2 4 (by decide)).1
   have r5 := (RA.2 5 (by decide)).1
   have r6 := (RA.2 6 (by decide)).1
   have r7 := (RA.2 7 (by decide)).1
   have f0 := (RA.2 0 (by decide)).2
   have f1 := (RA.2 1 (by decide)).2
   have f2 := (RA.2 2 (by decide)).2
   have f3 := (RA.2 3 (by decide)).2
   have f4 := (RA.2 4 (by decide)).2
   have f5 := (RA.2 5 (by decide)).2
   have f6 := (RA.2 6 (by decide)).2
   have f7 := (RA.2 7 (by decide)).2
   have HRA := hid_arr RA
   clear RA
   go_wp2_with fail
   refine bodyPost_ret (arr_results rfl _ _ w.heap.size false 0 0 0 0 0 0 0 0 rfl rfl (arr_store HRA.out 0 0 0 0 0 0 0 0)) rfl ⟨by rw [HZ.out]; rfl, below_store B3.out (Nat.le_refl _) 0 0 0 0 0 0 0 0⟩
  | some gt =>
   obtain ⟨vt, rfl, ot⟩ : ∃ v : Value, e = .returned (.tuple #[v, .bool true]) ∧ _ := ht
   clear ot
   have RA := AR3.out
   have r0 := (RA.2 0 (by decide)).1
   have r1 := (RA.2 1 (by decide)).1
   have r2 := (RA.2 2 (by decide)).1
   have r3 := (RA.2 3 (by decide)).1
   have r4 := (RA.2 4 (by decide)).1
   have r5 := (RA.2 5 (by decide)).1
   have r6 := (RA.2 6 (by decide)).1
   have r7 := (RA.2 7 (by decide)).1
   have f0 := (RA.2 0 (by decide)).2
   have f1 := (RA.2 1 (by decide)).2
   have f2 := (RA.2 2 (by decide)).2
   have f3 := (RA.2 3 (by decide)).2
   have f4 := (RA.2 4 (by decide)).2
   have f5 := (RA.2 5 (by decide)).2
   have f6 := (RA.2 6 (by decide)).2
   have f7 := (RA.2 7 (by decide)).2
   have HRA := hid_arr RA
   clear RA
   go_wp2_with fail
   refine bodyPost_ret (arr_results rfl _ _ w.heap.size false 0 0 0 0 0 0 0 0 rfl rfl (arr_store HRA.out 0 0 0 0 0 0 0 0)) rfl ⟨by rw [HZ.out]; rfl, below_store B3.out (Nat.le_refl _) 0 0 0 0 0 0 0 0⟩
 | some gh =>
  obtain ⟨vh, rfl, oh⟩ : ∃ v : Value, e = .returned (.tuple #[v, .bool true]) ∧ w3.ownsRow w2.heap.size 3 1 v gh.length (icells (toI gh)) := hh
  go_wp2_with fail
  refine (CR.out _).mono ?_
  rintro e w4 ⟨ht, b4⟩
  have b14 := b13.trans (b4.mono b13.size)
  have AR3 := hid_arr (AR.out.later b14)
  have B3 : Hid (Below w.heap.size w w4) := B0.out.trans (b14.mono B0.out.size)
  have oh' := own_below oh b4
  obtain ⟨aoh, caph, rfl, rh0⟩ := row_view oh' (toI_len gh)
  have HRH : Hid (RowAt w4 (w.heap.size + 1) aoh (toI gh)) := fun h0 => by
   obtain ⟨g, h1, h2, h3⟩ := rh0 h0
   exact ⟨g, h1, by omega, h3⟩
  clear oh oh' rh0 b1 b2 b3 b4 b12 b13 b14 B1 AR B0 Z0
  cases rt with
  | none =>
   obtain rfl : e = .returned (.tuple #[.slice none 0 0, .bool false]) := ht
   have HZ : Hid (parV (par6 s.data.toList) = parV none) := by show _ = _; rw [HP.out]
   have RA := AR3.out
   have r0 := (RA.2 0 (by decide)).1
   have r1 := (RA.2 1 (by decide)).1
   have r2 := (RA.2 2 (by decide)).1
   have r3 := (RA.2 3 (by decide)).1
   have r4 := (RA.2 4 (by decide)).1
   have r5 := (RA.2 5 (by decide)).1
   have r6 := (RA.2 6 (by decide)).1
   have r7 := (RA.2 7 (by decide)).1
   have f0 := (RA.2 0 (by decide)).2
   have f1 := (RA.2 1 (by decide)).2
   have f2 := (RA.2 2 (by decide)).2
   have f3 := (RA.2 3 (by decide)).2
   have f4 := (RA.2 4 (by decide)).2
   have f5 := (RA.2 5 (by decide)).2
   have f6 := (RA.2 6 (by decide)).2
   have f7 := (RA.2 7 (by decide)).2
   have HRA := hid_arr RA
   clear RA
   go_wp2_with fail
   refine bodyPost_ret (arr_results rfl _ _ w.heap.size false 0 0 0 0 0 0 0 0 rfl rfl (arr_store HRA.out 0 0 0 0 0 0 0 0)) rfl ⟨by rw [HZ.out]; rfl, below_store B3.out (Nat.le_refl _) 0 0 0 0 0 0 0 0⟩
  | some gt =>
   obtain ⟨vt, rfl, ot⟩ : ∃ v : Value, e = .returned (.tuple #[v, .bool true]) ∧ w4.ownsRow w3.heap.size 3 1 v gt.length (icells (toI gt)) := ht
   obtain ⟨aot, capt, rfl, rt0⟩ := row_view ot (toI_len gt)
   have HRT : Hid (RowAt w4 (w.heap.size + 1) aot (toI gt)) := fun h0 => by
    obtain ⟨g, h1, h2, h3⟩ := rt0 h0
    exact ⟨g, h1, by omega, h3⟩
   clear ot rt0 k2 k3
   simp only at HP
   have hbh : (gh.length : Int) ≤ 1048577 := by have := HBH.out gh rfl; omega
   have hbt : (gt.length : Int) ≤ 1048577 := by have := HBT.out gt rfl; omega
   have CM : Hid (∀ W, CS 251 #[.int .i64 ((gh.length : Int) + (gt.length : Int)), .bool ct] W (.bool (if ct then decide ((gh.length : Int) + (gt.length : Int) < 8) else ((gh.length : Int) + (gt.length : Int) == 8)))) := fun W => implManyFit _ ct W
   by_cases hf : (if ct then gh.length + gt.length < 8 else gh.length + gt.length = 8)
   ·have hb : (if ct then decide ((gh.length : Int) + (gt.length : Int) < 8) else ((gh.length : Int) + (gt.length : Int) == 8)) = true := by
     cases ct with
     | true => simp at hf ⊢; omega
     | false => simp at hf ⊢; omega
    rw [hb] at CM
    have hsum : gh.length + gt.length ≤ 8 := by cases ct <;> simp at hf <;> omega
    have HZ : Hid (parV (par6 s.data.toList) = .tuple #[.agg ((toI (fill8 gh gt)).map (Value.int .i64)).toArray, .bool true]) := by
     show _ = _
     rw [HP.out, if_pos hf]
     rfl
    clear hf hb HP
    go_wp2_with fail
    refine (CM.out _).mono ?_
    rintro e w' ⟨rfl, rfl⟩
    obtain ⟨fr, hfr⟩ : ∃ fr : Nat, 8 - gt.length = fr := ⟨_, rfl⟩
    have hfi : (8 : Int) - (gt.length : Int) = (fr : Int) := by omega
    have hfr8 : fr ≤ 8 := by omega
    have sl1 := slice_hm w4.heap.size fr hfr8
    have sl2 := slice_l w4.heap.size fr hfr8
    have HSP : Hid (splice (splice [.int .i64 0, .int .i64 0, .int .i64 0, .int .i64 0, .int .i64 0, .int .i64 0, .int .i64 0, .int .i64 0] 0 (icells (toI gh))) fr (icells (toI gt)) = icells (toI (fill8 gh gt))) := by
     show _ = _
     rw [← hfr]
     exact splice_fill hsum
    have HFR : Hid (8 - gt.length = fr) := hfr
    have HL1 : Hid ((icells (toI gh)).length = gh.length ∧ (icells (toI gt)).length = gt.length) := ⟨by rw [icells_length, toI_len], by rw [icells_length, toI_len]⟩
    have H1 : Hid (∀ v ∈ icells (toI gh), v.oneCell' = true) := fun v hv => by
     obtain ⟨z, _, rfl⟩ := List.mem_map.1 hv
     rfl
    have H2 : Hid (∀ v ∈ icells (toI gt), v.oneCell' = true) := fun v hv => by
     obtain ⟨z, _, rfl⟩ := List.mem_map.1 hv
     rfl
    have HBA : Hid (Below w4.heap.size w4 (w4.alloc (.cells #[.int .i64 0, .int .i64 0, .int .i64 0, .int .i64 0, .int .i64 0, .int .i64 0, .int .i64 0, .int .i64 0] 24))) := (Below.refl _ w4).alloc (Nat.le_refl _) _
    have HG4 : Hid ((w4.alloc (.cells #[.int .i64 0, .int .i64 0, .int .i64 0, .int .i64 0, .int .i64 0, .int .i64 0, .int .i64 0, .int .i64 0] 24)).heap[w4.heap.size]? = some (.cells ([.int .i64 0, .int .i64 0, .int .i64 0, .int .i64 0, .int .i64 0, .int .i64 0, .int .i64 0, .int .i64 0] : List Value).toArray 24 (0, 0))) := heap_alloc_new w4 _
    have HS1 : Hid (∀ W, Below w4.heap.size w4 W → 0 < (icells (toI gh)).length → ∃ ad, aoh = some ad ∧ ∀ (j : Nat) (v : Value), (icells (toI gh))[j]? = some v → W.cell? (ad.add j) = some v) := fun W hb h0 => by
     obtain ⟨g, h1, _, h3⟩ := HRH.out (by rw [icells_length] at h0; exact h0)
     refine ⟨⟨g, 0, none⟩, h1, fun j v hj => ?_⟩
     obtain ⟨hjl, rfl⟩ := List.getElem?_eq_some_iff.1 hj
     rw [icells_length] at hjl
     rw [Addr.add_lit, Nat.zero_add, cell_later hb (h3 j hjl)]
     simp [icells, List.getD, hjl]
    have HS2 : Hid (∀ W, Below w4.heap.size w4 W → 0 < (icells (toI gt)).length → ∃ ad, aot = some ad ∧ ∀ (j : Nat) (v : Value), (icells (toI gt))[j]? = some v → W.cell? (ad.add j) = some v) := fun W hb h0 => by
     obtain ⟨g, h1, _, h3⟩ := HRT.out (by rw [icells_length] at h0; exact h0)
     refine ⟨⟨g, 0, none⟩, h1, fun j v hj => ?_⟩
     obtain ⟨hjl, rfl⟩ := List.getElem?_eq_some_iff.1 hj
     rw [icells_length] at hjl
     rw [Addr.add_lit, Nat.zero_add, cell_later hb (h3 j hjl)]
     simp [icells, List.getD, hjl]
    have HTG : Hid (0 < gt.length → (if 8 = fr then 0 else fr) = fr) := fun h => if_neg (by omega)
    generalize (if 8 = fr then 0 else fr) = o2 at sl2 HTG
    have HFL : Hid ((toI (fill8 gh gt)).length = 8) := by
     show _ = _
     rw [toI_len]
     unfold fill8
     simp
     omega
    clear hfr
    generalize icells (toI gh) = c1 at HSP HL1 H1 HS1
    generalize icells (toI gt) = c2 at HSP HL1 H2 HS2
    have hi1 : (Tryz.prog.info? 3).map (·.size) = some 1 := by kernel_rfl
    go_wp2_with ((with_reducible show wpList _ _ _ ({ dst := _, op := Op.call { callee := Callee.builtin Builtin.copy, args := _, argTypes := _ }, type := _, pos := _, after := _, guard := _ } :: _) _ _); refine wpList_copy_splice (by rfl) _ _ 82 82 (by rfl) 3 Tryz.underlying82 hi1 (some ⟨w4.heap.size, 0, none⟩) aoh fr fr gh.length caph (by rfl) (by rfl) w4.heap.size 0 [.int .i64 0, .int .i64 0, .int .i64 0, .int .i64 0, .int .i64 0, .int .i64 0, .int .i64 0, .int .i64 0] 24 HG4.out c1 (by rw [HL1.out.1]; have := HFR.out; exact (Nat.min_eq_left (by omega)).symm) (fun h => ⟨rfl, HS1.out _ HBA.out h⟩) (by have := HL1.out; simp; omega) H1.out w4.heap.size w4 HBA.out (Nat.le_refl _) ?_)
    intro w5 HG5 hB5
    go_wp2_with ((with_reducible show wpList _ _ _ ({ dst := _, op := Op.call { callee := Callee.builtin Builtin.copy, args := _, argTypes := _ }, type := _, pos := _, after := _, guard := _ } :: _) _ _); refine wpList_copy_splice (by rfl) _ _ 82 82 (by rfl) 3 Tryz.underlying82 hi1 (some ⟨w4.heap.size, o2, none⟩) aot (8 - fr) (8 - fr) gt.length capt (by rfl) (by rfl) w4.heap.size fr (splice [.int .i64 0, .int .i64 0, .int .i64 0, .int .i64 0, .int .i64 0, .int .i64 0, .int .i64 0, .int .i64 0] 0 c1) 24 HG5.out c2 (by rw [HL1.out.2]; have := HFR.out; exact (Nat.min_eq_left (by omega)).symm) (fun h => ⟨by rw [HTG.out (by have := HL1.out; omega)], HS2.out _ hB5 h⟩) (by have := HL1.out; have := HFR.out; rw [length_splice _ _ _ (by simp; omega)]; simp; omega) H2.out w4.heap.size w4 hB5 (Nat.le_refl _) ?_)
    intro w6 HG6 hB6
    have hg6 := HG6.out
    rw [HSP.out] at hg6
    obtain ⟨x0, x1, x2, x3, x4, x5, x6, x7, hx⟩ := list_eight HFL.out
    rw [hx] at hg6 HZ
    have o0 := blk_cell hg6 0
    have o1 := blk_cell hg6 1
    have o2 := blk_cell hg6 2
    have o3 := blk_cell hg6 3
    have o4 := blk_cell hg6 4
    have o5 := blk_cell hg6 5
    have o6 := blk_cell hg6 6
    have o7 := blk_cell hg6 7
    simp [icells] at o0 o1 o2 o3 o4 o5 o6 o7
    have RA := AR3.out.later hB6
    have B6 := B3.out.trans (hB6.mono B3.out.size)
    clear hg6 HG6 HG5 hB5 hB6 hx HSP HS1 HS2 H1 H2 HG4
    have r0 := (RA.2 0 (by decide)).1
    have r1 := (RA.2 1 (by decide)).1
    have r2 := (RA.2 2 (by decide)).1
    have r3 := (RA.2 3 (by decide)).1
    have r4 := (RA.2 4 (by decide)).1
    have r5 := (RA.2 5 (by decide)).1
    have r6 := (RA.2 6 (by decide)).1
    have r7 := (RA.2 7 (by decide)).1
    have f0 := (RA.2 0 (by decide)).2
    have f1 := (RA.2 1 (by decide)).2
    have f2 := (RA.2 2 (by decide)).2
    have f3 := (RA.2 3 (by decide)).2
    have f4 := (RA.2 4 (by decide)).2
    have f5 := (RA.2 5 (by decide)).2
    have f6 := (RA.2 6 (by decide)).2
    have f7 := (RA.2 7 (by decide)).2
    have HRA := hid_arr RA
    clear RA
    go_wp2_with fail
    refine bodyPost_ret (arr_results rfl _ _ w.heap.size true x0 x1 x2 x3 x4 x5 x6 x7 rfl rfl (arr_store HRA.out x0 x1 x2 x3 x4 x5 x6 x7)) rfl ⟨by rw [HZ.out]; rfl, below_store B6 (Nat.le_refl _) x0 x1 x2 x3 x4 x5 x6 x7⟩
   have hb : (if ct then decide ((gh.length : Int) + (gt.length : Int) < 8) else ((gh.length : Int) + (gt.length : Int) == 8)) = false := by
    cases ct with
    | true => simp at hf ⊢; omega
    | false => simp at hf ⊢; omega
   rw [hb] at CM
   have HZ : Hid (parV (par6 s.data.toList) = parV none) := by
    show _ = _
    rw [HP.out, if_neg hf]
   clear hf hb HP
   go_wp2_with fail
   refine (CM.out _).mono ?_
   rintro e w' ⟨rfl, rfl⟩
   have RA := AR3.out
   have r0 := (RA.2 0 (by decide)).1
   have r1 := (RA.2 1 (by decide)).1
   have r2 := (RA.2 2 (by decide)).1
   have r3 := (RA.2 3 (by decide)).1
   have r4 := (RA.2 4 (by decide)).1
   have r5 := (RA.2 5 (by decide)).1
   have r6 := (RA.2 6 (by decide)).1
   have r7 := (RA.2 7 (by decide)).1
   have f0 := (RA.2 0 (by decide)).2
   have f1 := (RA.2 1 (by decide)).2
   have f2 := (RA.2 2 (by decide)).2
   have f3 := (RA.2 3 (by decide)).2
   have f4 := (RA.2 4 (by decide)).2
   have f5 := (RA.2 5 (by decide)).2
   have f6 := (RA.2 6 (by decide)).2
   have f7 := (RA.2 7 (by decide)).2
   have HRA := hid_arr RA
   clear RA
   go_wp2_with fail
   refine bodyPost_ret (arr_results rfl _ _ w.heap.size false 0 0 0 0 0 0 0 0 rfl rfl (arr_store HRA.out 0 0 0 0 0 0 0 0)) rfl ⟨by rw [HZ.out]; rfl, below_store B3.out (Nat.le_refl _) 0 0 0 0 0 0 0 0⟩
theorem eqIntA8 (x0 x1 x2 x3 x4 x5 x6 x7 : Int) (w : World) :
  Calls Tryz.prog 108 #[.agg #[.int .i64 x0, .int .i64 x1, .int .i64 x2, .int .i64 x3, .int .i64 x4, .int .i64 x5, .int .i64 x6, .int .i64 x7], .agg #[.int .i64 x0, .int .i64 x1, .int .i64 x2, .int .i64 x3, .int .i64 x4, .int .i64 x5, .int .i64 x6, .int .i64 x7]] w fun e w' => e = .returned (.bool true) ∧ Below w.heap.size w w' := by
 have H1 : Hid (∀ k, k < 8 → ((w.alloc (.cells #[.int .i64 x0, .int .i64 x1, .int .i64 x2, .int .i64 x3, .int .i64 x4, .int .i64 x5, .int .i64 x6, .int .i64 x7] 24)).alloc (.cells #[.int .i64 x0, .int .i64 x1, .int .i64 x2, .int .i64 x3, .int .i64 x4, .int .i64 x5, .int .i64 x6, .int .i64 x7] 24)).cell? ⟨w.heap.size, k, none⟩ = some (.int .i64 ([x0, x1, x2, x3, x4, x5, x6, x7].getD k 0))) := fun k hk => cell_later ((Below.refl _ _).alloc (Nat.le_refl _) _) (cell8 w x0 x1 x2 x3 x4 x5 x6 x7 k hk)
 have H2 : Hid (∀ k, k < 8 → ((w.alloc (.cells #[.int .i64 x0, .int .i64 x1, .int .i64 x2, .int .i64 x3, .int .i64 x4, .int .i64 x5, .int .i64 x6, .int .i64 x7] 24)).alloc (.cells #[.int .i64 x0, .int .i64 x1, .int .i64 x2, .int .i64 x3, .int .i64 x4, .int .i64 x5, .int .i64 x6, .int .i64 x7] 24)).cell? ⟨w.heap.size + 1, k, none⟩ = some (.int .i64 ([x0, x1, x2, x3, x4, x5, x6, x7].getD k 0))) := fun k hk => by
  have h := cell8 (w.alloc (.cells #[.int .i64 x0, .int .i64 x1, .int .i64 x2, .int .i64 x3, .int .i64 x4, .int .i64 x5, .int .i64 x6, .int .i64 x7] 24)) x0 x1 x2 x3 x4 x5 x6 x7 k hk
  rw [show (w.alloc (.cells #[.int .i64 x0, .int .i64 x1, .int .i64 x2, .int .i64 x3, .int .i64 x4, .int .i64 x5, .int .i64 x6, .int .i64 x7] 24)).heap.size = w.heap.size + 1 by simp] at h
  exact h
 generalize [x0, x1, x2, x3, x4, x5, x6, x7] = z at H1 H2
 go_enter Tryz.func108, Tryz.ntmps108
 go_wp2
 have B1 : Below w.heap.size w ((w.alloc (.cells #[.int .i64 x0, .int .i64 x1, .int .i64 x2, .int .i64 x3, .int .i64 x4, .int .i64 x5, .int .i64 x6, .int .i64 x7] 24)).alloc (.cells #[.int .i64 x0, .int .i64 x1, .int .i64 x2, .int .i64 x3, .int .i64 x4, .int .i64 x5, .int .i64 x6, .int .i64 x7] 24)) := ((Below.refl _ w).alloc (Nat.le_refl _) _).alloc (by simp) _
 generalize ((w.alloc (.cells #[.int .i64 x0, .int .i64 x1, .int .i64 x2, .int .i64 x3, .int .i64 x4, .int .i64 x5, .int .i64 x6, .int .i64 x7] 24)).alloc (.cells #[.int .i64 x0, .int .i64 x1, .int .i64 x2, .int .i64 x3, .int .i64 x4, .int .i64 x5, .int .i64 x6, .int .i64 x7] 24)) = W at H1 H2 B1 ⊢
 go_loopw [5] (fun i wr => ∃ k : Nat, k ≤ 8 ∧ i = .int .i64 k ∧ Below W.heap.size W wr) (fun i _ => 8 - (intOf i).toNat)
 case atStart => exact ⟨0, Nat.zero_le _, rfl, Below.refl _ _⟩
 obtain ⟨k, hk, rfl, hbel⟩ := hrel
 by_cases hlt : k < 8
 ·have ca := cell_later hbel (H1.out k hlt)
  have cb := cell_later hbel (H2.out k hlt)
  generalize z.getD k 0 = x at ca cb
  have hki : (k : Int) < 8 := by omega
  go_wp2
  go_quiet (fail)
  go_wp2
  go_roundw
  case rel => exact ⟨k + 1, by omega, by go_num, ⟨hbel.os, hbel.tape, hbel.output, hbel.size, hbel.block⟩⟩
  case measure => simp [intOf]; omega
 have hki : ¬ (k : Int) < 8 := by omega
 go_wp2
 go_ret
 exact ⟨rfl, B1.trans (hbel.mono B1.size)⟩
theorem par6_eight (l : List UInt8) : ∀ gs, par6 l = some gs → gs.length = 8 := by
 intro gs h
 unfold par6 at h
 split at h
 ·split at h
  ·cases h
  split at h
  ·cases h; assumption
  cases h
 split at h
 ·split at h
  ·cases h
   unfold fill8
   simp
   omega
  cases h
 cases h
theorem parV_eight {r : Option (List Nat)} (h : ∀ gs, r = some gs → gs.length = 8) : ∃ (x0 x1 x2 x3 x4 x5 x6 x7 : Int) (b : Bool), parV r = .tuple #[.agg #[.int .i64 x0, .int .i64 x1, .int .i64 x2, .int .i64 x3, .int .i64 x4, .int .i64 x5, .int .i64 x6, .int .i64 x7], .bool b] := by
 cases r with
 | none => exact ⟨0, 0, 0, 0, 0, 0, 0, 0, false, rfl⟩
 | some gs =>
  obtain ⟨x0, x1, x2, x3, x4, x5, x6, x7, hx⟩ := list_eight (z := toI gs) (by rw [toI_len]; exact h gs rfl)
  refine ⟨x0, x1, x2, x3, x4, x5, x6, x7, true, ?_⟩
  show Value.tuple #[.agg ((toI gs).map (Value.int .i64)).toArray, .bool true] = _
  rw [hx]
  rfl
def CodeRow (D : Nat) (w : World) (ao : Option Addr) (len : Nat) : Prop :=
 len = 0 ∨ ∃ b off, ao = some ⟨b, off, none⟩ ∧ b < D ∧ ∀ j, j < len → ∃ x : Int, w.cell? ⟨b, off + j, none⟩ = some (.int .u8 x) ∧ 0 ≤ x ∧ x ≤ 255
def Cur (D B : Nat) (ao : Option Addr) (len cap : Nat) (w : World) : Prop :=
 ∃ i h : Int, w.heap[B]? = some (.cells #[.slice ao len cap, .int .i64 i, .int .i64 h] 80 (0, 0)) ∧ 0 ≤ i ∧ i ≤ len ∧ len ≤ 1048576 ∧ D ≤ B ∧ CodeRow D w ao len
theorem CodeRow.grown {D : Nat} {w w' : World} {ao : Option Addr} {len : Nat} (h : CodeRow D w ao len) (hb : ∀ k, k < D → w'.heap[k]? = w.heap[k]?) : CodeRow D w' ao len := by
 rcases h with h | ⟨b, off, h1, h2, h3⟩
 ·exact .inl h
 refine .inr ⟨b, off, h1, h2, fun j hj => ?_⟩
 obtain ⟨x, h4, h5⟩ := h3 j hj
 exact ⟨x, (World.cell?_of_block (w := w) (a := ⟨b, off + j, none⟩) (hb b h2)).trans h4, h5⟩
theorem Cur.drewN {D B : Nat} {ao : Option Addr} {len cap : Nat} {w : World} (h : Cur D B ao len cap w) (n : Nat) : Cur D B ao len cap (w.drewN n) := h
theorem Cur.lt {D B : Nat} {ao : Option Addr} {len cap : Nat} {w : World} (h : Cur D B ao len cap w) : B < w.heap.size := by
 obtain ⟨i, h', hc, _⟩ := h
 exact (Array.getElem?_eq_some_iff.1 hc).1
theorem Cur.keep {D B : Nat} {ao : Option Addr} {len cap : Nat} {w w' : World} (h : Cur D B ao len cap w) (hB : w'.heap[B]? = w.heap[B]?) (hD : ∀ k, k < D → w'.heap[k]? = w.heap[k]?) : Cur D B ao len cap w' := by
 obtain ⟨i, h', hc, h0, h1, hl, hDB, hcode⟩ := h
 exact ⟨i, h', hB.trans hc, h0, h1, hl, hDB, hcode.grown hD⟩
theorem Cur.le {D B : Nat} {ao : Option Addr} {len cap : Nat} {w : World} (h : Cur D B ao len cap w) : D ≤ B := by
 obtain ⟨i, h', hc, h0, h1, hl, hDB, hcode⟩ := h
 exact hDB
theorem Cur.below {D B : Nat} {ao : Option Addr} {len cap : Nat} {w w' : World} (h : Cur D B ao len cap w) (hb : ∀ k, k < w.heap.size → w'.heap[k]? = w.heap[k]?) : Cur D B ao len cap w' := by
 have hlt := h.lt
 have hle := h.le
 exact h.keep (hb B hlt) fun k hk => hb k (by omega)
theorem Cur.alloc {D B : Nat} {ao : Option Addr} {len cap : Nat} {w : World} (h : Cur D B ao len cap w) (o : Obj) : Cur D B ao len cap (w.alloc o) := h.below fun k hk => Below.heap_alloc w o k hk
theorem CodeRow.le {D D' : Nat} {w : World} {ao : Option Addr} {len : Nat} (h : CodeRow D w ao len) (hD : D ≤ D') : CodeRow D' w ao len := by
 rcases h with h | ⟨b, off, h1, h2, h3⟩
 ·exact .inl h
 exact .inr ⟨b, off, h1, by omega, h3⟩
theorem CodeRow.later {w w' : World} {ao : Option Addr} {len : Nat} (h : CodeRow w.heap.size w ao len) (hb : Below w.heap.size w w') : CodeRow w'.heap.size w' ao len :=
 (h.grown hb.block).le hb.size
theorem ArrAt.kept {w w' : World} {B' B : Nat} {z : List Int} (h : ArrAt w B' z) (g : w.grownBy w' (some B)) (hne : B' ≠ B) : ArrAt w' B' z := by
 have hlt : B' < w.heap.size := World.block_lt_of_cell? w ⟨B', 0, none⟩ (h.2 0 (by decide)).1
 have e : w'.heap[B']? = w.heap[B']? := g.block B' hlt (by simp [hne])
 refine ⟨h.1, fun j hj => ⟨(World.cell?_of_block (w := w) (a := ⟨B', j, none⟩) e).trans (h.2 j hj).1, ?_⟩⟩
 have := (h.2 j hj).2
 unfold World.frozen? at this ⊢
 simp only [e]
 exact this
theorem Cur.set {D B : Nat} {ao : Option Addr} {len cap : Nat} {wr : World} (h : Cur D B ao len cap wr) {C k : Nat} (hC : B < C) (v : Value) : Cur D B ao len cap (wr.setCell ⟨C, k, none⟩ v) := by
 have b := (Below.refl C wr).setCell (p := ⟨C, k, none⟩) (Nat.le_refl _) v
 have hle := h.le
 exact h.keep (b.block B hC) fun j hj => b.block j (by omega)

end Go.Proofs.YtgmfkgeepecknaaGreatDoor
