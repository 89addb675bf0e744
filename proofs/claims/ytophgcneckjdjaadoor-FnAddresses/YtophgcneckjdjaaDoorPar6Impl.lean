/- Contracts of the program's endAsGroups, readGroups and manyFit. -/
import Derived.Test.YtophgcneckjdjaaDoorRows
import Derived.Test.YtophgcneckjdjaaDoorGrp6Spec
import Derived.Test.YtophgcneckjdjaaDoorGroupsText
import Derived.Test.YtophgcneckjdjaaDoorShelf
namespace Go.Proofs.YtophgcneckjdjaaDoor
open Go.RowKit

theorem index_dbl : ∀ l : List UInt8, Lib.index l [58, 58] = dblZ (dblN l)
  | [] => rfl
  | c :: r => by
    rw [Lib.index, dblN, index_dbl r]
    by_cases h : c = 58 ∧ r.head? = some 58
    · rw [if_pos h, if_pos]
      · rfl
      · obtain ⟨rfl, h2⟩ := h
        cases r with
        | nil => simp at h2
        | cons d q => simp at h2; subst h2; simp [List.isPrefixOf]
    · rw [if_neg h, if_neg]
      · cases hr : dblN r with
        | none => simp [dblZ]
        | some k =>
          have : ((k : Int) == -1) = false := by simp
          simp [dblZ, this]
      · intro h2
        apply h
        cases r with
        | nil => simp [List.isPrefixOf] at h2
        | cons d q =>
          simp [List.isPrefixOf] at h2
          exact ⟨h2.1.symm, by rw [h2.2]; rfl⟩

theorem cut_dbl (l : List UInt8) : Lib.cut l [58, 58] = match cut6L l with
    | none => (l, [], false)
    | some (a, b) => (a, b, true) := by
  unfold Lib.cut
  rw [index_dbl, dbl_cut]
  cases hd : dblN l with
  | none => rfl
  | some k =>
    have h : (0 : Int) ≤ dblZ (some k) := by simp [dblZ]
    rw [if_pos h]
    simp [dblZ]

set_option maxHeartbeats 1000000 in
theorem implManyFit (many : Int) (cut : Bool) (w : World) :
    Calls Tryd.prog 37 #[.int .i64 many, .bool cut] w fun e w' => e = .returned (.bool (if cut then decide (many < 8) else (many == 8))) ∧ w = w' := by
  cases cut with
  | true =>
    go_enter Tryd.func37, Tryd.ntmps37
    go_wp2
    go_ret
    exact ⟨rfl, rfl⟩
  | false =>
    go_enter Tryd.func37, Tryd.ntmps37
    go_wp2
    go_ret
    exact ⟨rfl, rfl⟩

/-- What is answered of groups by the code: the row; nothing where they are none. -/
def grpAnsI (w w' : World) (r : Option (List Nat)) (e : Ending) : Prop := match r with
  | none => e = .returned (.tuple #[.slice none 0 0, .bool false])
  | some gs => ∃ v : Value, e = .returned (.tuple #[v, .bool true]) ∧ w'.ownsRow w.heap.size 3 1 v gs.length (icells (toI gs))

set_option maxRecDepth 20000 in
set_option maxHeartbeats 8000000 in
theorem implReadGroups (s : ByteArray) (w : World) (hs : s.size ≤ 1048576) :
    Calls Tryd.prog 36 #[.string s] w fun e w' => grpAnsI w w' (grpS false s.data.toList) e ∧ Below w.heap.size w w' := by
  have HO : (w.alloc (.cells #[] 3)).ownsRow w.heap.size 3 1 (.slice (some ⟨w.heap.size, 0, none⟩) 0 0) 0 [] := World.ownsRow_lit w #[] 0 (Nat.le_refl _) (by decide) rfl
  by_cases h0 : s.size = 0
  · have hem := empty_yes h0
    have HZ : Hid (grpS false s.data.toList = some []) := grpS_nil h0
    clear h0
    go_enter Tryd.func36, Tryd.ntmps36
    go_wp2_with fail
    go_ret2
    rw [HZ.out]
    exact ⟨⟨_, rfl, HO⟩, (Below.refl _ _).alloc (Nat.le_refl _) _⟩
  · have hp : 0 < s.size := by omega
    have hem := empty_no hp
    have HF : Hid (grpS false s.data.toList = grp false ((fieldsL s 58).map toL)) := grpS_fields hp
    have hpos : 0 < (fieldsL s 58).length := by simp [fieldsL]
    have hlen : (fieldsL s 58).length ≤ 1048577 := by
      have := (fieldsTo_le s 58 s.size).2
      simp [fieldsL]; omega
    have HSZ : Hid (∀ x ∈ fieldsL s 58, x.size ≤ 1048576) := fields_sizes58 s hs
    have CF : Hid (∀ W, Calls Tryd.prog 28 #[.string s, .int .u8 58] W fun e w' => ∃ v, e = .returned v ∧ w'.ownsRow W.heap.size 9 1 v (fieldsL s 58).length (scells (fieldsL s 58)) ∧ Below W.heap.size W w') := fun W => implFields s 58 W hs
    generalize fieldsL s 58 = fs at HF hpos hlen HSZ CF
    clear h0
    go_enter Tryd.func36, Tryd.ntmps36
    go_wp2_with fail
    refine (CF.out _).mono ?_
    rintro e wa ⟨va, rfl, oa, ba⟩
    have OA := own_below HO ba
    rcases own_shape oa with ⟨h, _⟩ | ⟨_, g, cap, rfl⟩
    · omega
    · have hg := (oa.lt g rfl).1
      have hg2 := (oa.lt g rfl).2
      have B0 : Below w.heap.size w wa := ((Below.refl _ w).alloc (Nat.le_refl _) _).trans (ba.mono (by simp))
      have HC0 : Hid (∀ j, j < fs.length → wa.cell? ⟨g, j, none⟩ = some (.string (fs.getD j ByteArray.empty))) := fun j hj => scell_at oa j hj
      clear ba HO oa CF
      go_wp2_with fail
      go_loopw [4, 16] (fun v i wr => ∃ (k : Nat) (acc : List Nat), k ≤ fs.length ∧ i = .int .i64 k ∧ acc.length ≤ k ∧ grp false (fs.map toL) = (grp false ((fs.drop k).map toL)).map (acc ++ ·) ∧ wr.ownsRow w.heap.size 3 1 v acc.length (icells (toI acc)) ∧ (∀ j, j < fs.length → wr.cell? ⟨g, j, none⟩ = some (.string (fs.getD j ByteArray.empty))) ∧ some g ≠ v.ownBlock ∧ g < wr.heap.size ∧ Below w.heap.size w wr)
        (fun _ i _ => fs.length - (intOf i).toNat)
      case atStart =>
        refine ⟨0, [], Nat.zero_le _, rfl, by simp, by simp, OA, HC0.out, ?_, hg2, B0⟩
        simp [Value.ownBlock]
        simp at hg
        omega
      case round =>
        obtain ⟨k, acc, hk, rfl, hal, hr, ow, hcell, hne, hgl, hbel⟩ := hrel
        have HR : Hid (grp false (fs.map toL) = (grp false ((fs.drop k).map toL)).map (acc ++ ·)) := hr
        have HC2 : Hid (∀ j, j < fs.length → wr.cell? ⟨g, j, none⟩ = some (.string (fs.getD j ByteArray.empty))) := hcell
        have hsz := hbel.size
        clear hr OA B0 HC0
        by_cases hlt : k < fs.length
        · have hc := hcell k hlt
          have HS : Hid (_ = _) := grp_step false fs k hlt
          have CN : Hid (∀ W, Calls Tryd.prog 54 #[.string (fs.getD k ByteArray.empty), .int .i64 16, .int .i64 4] W fun e w' => e = .returned (numA (numL 16 4 (toL (fs.getD k ByteArray.empty)))) ∧ W = w') := fun W => implDigits _ 16 4 W (by omega) (by omega)
          clear hcell
          generalize fs.getD k ByteArray.empty = y at hc HS CN
          have HN0 : Hid ((if false = true ∧ k + 1 = fs.length then p4 (toL y) else none) = none) := by
            show _ = _
            rw [if_neg (by simp)]
          have hki : (k : Int) < (fs.length : Int) := by omega
          cases hv : numL 16 4 (toL y) with
          | none =>
            have hg16 : g16 (toL y) = none := by
              unfold g16
              split
              · rfl
              · exact hv
            rw [hv] at CN
            have HZ : Hid (grpS false s.data.toList = none) := by
              show _ = _
              rw [HF.out, HR.out, HS.out, HN0.out, hg16]
              rfl
            clear hv hg16
            go_wp2_with fail
            refine (CN.out _).mono ?_
            rintro e w' ⟨rfl, rfl⟩
            simp only [numA]
            go_wp2_with fail
            go_ret2
            rw [HZ.out]
            exact ⟨rfl, hbel⟩
          | some v =>
            have hvl := g16_lt hv
            rw [hv] at CN
            obtain ⟨x, hx⟩ : ∃ x : Int, (v : Int) = x := ⟨_, rfl⟩
            have HX : Hid ((v : Int) = x) := hx
            by_cases he : y.size = 0
            · have HZ : Hid (grpS false s.data.toList = none) := by
                show _ = _
                rw [HF.out, HR.out, HS.out, HN0.out, g16_nil he]
                rfl
              have hem2 := empty_yes he
              clear he hv hvl hx
              go_wp2_with fail
              refine (CN.out _).mono ?_
              rintro e w' ⟨rfl, rfl⟩
              simp only [numA]
              rw [HX.out]
              go_wp2_with fail
              go_ret2
              rw [HZ.out]
              exact ⟨rfl, hbel⟩
            · have hpy : 0 < y.size := by omega
              have hem2 := empty_no hpy
              have HG : Hid (grp false (fs.map toL) = (grp false ((fs.drop (k + 1)).map toL)).map ((acc ++ [v]) ++ ·)) := by
                show _ = _
                rw [HR.out, HS.out, HN0.out, g16_num hpy, hv]
                simp only
                cases grp false ((fs.drop (k + 1)).map toL) <;> simp
              clear he hv hvl hx
              go_wp2_with fail
              refine (CN.out _).mono ?_
              rintro e w' ⟨rfl, rfl⟩
              simp only [numA]
              rw [HX.out]
              go_wp2_with (at_builtin; refine wpList_append_newAt _ rfl _ _ 51 rfl w.heap.size 3 (.int .i64 0) 8 Tryd.underlying51 Tryd.infoI5 rfl _ _ _ rfl ow #[.int .i64 x] 1 rfl rfl (by intro u hu; simp at hu; subst hu; rfl) (by omega) (by unfold maxLen; omega) hsz ?_)
              intro v' w1 ow' gr hat
              have R : w1.ownsRow w.heap.size 3 1 v' (acc ++ [v]).length (icells (toI (acc ++ [v]))) := by
                rw [toI_snoc, HX.out, icells_snoc, List.length_append]
                exact ow'
              have B3 : Below w.heap.size w w1 := hbel.grown gr hsz (fun k hk => (ow.lt k hk).1)
              have hgw : w1.heap[g]? = wr.heap[g]? := gr.block g hgl hne
              have C1 : Hid (∀ j, j < fs.length → w1.cell? ⟨g, j, none⟩ = some (.string (fs.getD j ByteArray.empty))) := fun j hj =>
                (World.cell?_of_block (w := wr) (a := ⟨g, j, none⟩) hgw).trans (HC2.out j hj)
              have hne1 : some g ≠ v'.ownBlock := by
                rcases hat with h | h
                · rw [h]; exact hne
                · rw [h]; intro h2; cases h2; omega
              have hgl1 : g < w1.heap.size := Nat.lt_of_lt_of_le hgl gr.size
              clear ow ow' gr hat hbel hgw HC2 hc
              go_wp2_with fail
              go_roundw
              case rel => exact ⟨k + 1, acc ++ [v], by omega, by go_num, by rw [List.length_append]; simp; omega, HG.out, R, C1.out, hne1, hgl1, B3⟩
              case measure => simp [intOf]; omega
        · have HZ : Hid (grpS false s.data.toList = some acc) := by
            show _ = _
            rw [HF.out, HR.out, grp_end false fs k hlt]
            simp
          have hki : ¬ (k : Int) < (fs.length : Int) := by omega
          clear hcell HC2
          go_wp2_with fail
          go_ret2
          rw [HZ.out]
          exact ⟨⟨_, rfl, ow⟩, hbel⟩

theorem hexdec {a b : Nat} (ha : a < 256) (hb : b < 256) : (hex4 (a * 256 + b)).length ≤ (dec3 a).length + 1 + (dec3 b).length := by
  have h1 : 1 ≤ (dec3 b).length := by unfold dec3; split; simp; split <;> simp
  by_cases c1 : a < 10
  · have h2 : 1 ≤ (dec3 a).length := by unfold dec3; rw [if_pos c1]; simp
    have h3 : (hex4 (a * 256 + b)).length ≤ 3 := by
      unfold hex4
      split
      · simp
      · split
        · simp
        · rw [if_pos (by omega)]; simp
    omega
  · have h2 : 2 ≤ (dec3 a).length := by unfold dec3; rw [if_neg c1]; split <;> simp
    have h3 := (hex4_len (a * 256 + b)).2
    omega

theorem two4_len {n : Nat} (h : n < 4294967296) : (two4 n).length ≤ (ip4L n).length := by
  have e1 : n / 65536 = (n / 16777216) * 256 + n / 65536 % 256 := by omega
  have e2 : n % 65536 = (n / 256 % 256) * 256 + n % 256 := by omega
  have h1 := hexdec (a := n / 16777216) (b := n / 65536 % 256) (by omega) (by omega)
  have h2 := hexdec (a := n / 256 % 256) (b := n % 256) (by omega) (by omega)
  rw [← e1] at h1
  rw [← e2] at h2
  unfold two4 ip4L
  simp only [jl, List.length_append, List.length_cons]
  omega

/-- What stands behind the last colon, and ahead of it. -/
theorem last_colon (s : ByteArray) : ∃ b : Nat, b ≤ s.size ∧ Lib.lastIndexByte s 58 + 1 = (b : Int) ∧ endsOk (s.data.toList.take b) ∧ ∀ c ∈ s.data.toList.drop b, c ≠ 58 := by
  rcases Lib.lastIndexByte_spec s 58 with ⟨h1, h2⟩ | ⟨i, h0, h1, h2, h3⟩
  · refine ⟨0, Nat.zero_le _, by rw [h1]; rfl, .inl (by simp), ?_⟩
    intro c hc e
    rw [List.drop_zero] at hc
    obtain ⟨j, hj, rfl⟩ := List.getElem_of_mem hc
    have hj' : j < s.size := by simpa using hj
    apply h2 j hj'
    rw [getElem!_pos s.data j hj']
    have : s.data[j] = 58 := by simpa using e
    rw [this]; rfl
  · refine ⟨i + 1, h0, by rw [h1]; simp, .inr ⟨s.data.toList.take i, ?_⟩, ?_⟩
    · rw [take_snoc s i h0]
      congr 2
      apply u8_is
      rw [getElem!_pos s.data i h0] at h2
      show s.data[i].toNat = 58
      omega
    · intro c hc e
      obtain ⟨j, hj, rfl⟩ := List.getElem_of_mem hc
      rw [List.length_drop] at hj
      have hj' : i + 1 + j < s.size := by simp at hj; omega
      apply h3 (i + 1 + j) (by omega) hj'
      rw [getElem!_pos s.data _ hj']
      have : s.data[i + 1 + j] = 58 := by simpa using e
      rw [this]; rfl

theorem slice_str (s : ByteArray) (b : Nat) (hb : b ≤ s.size) (W : World) : (Instr.slice 9 (.string s) none (some (.int .i64 (b : Int))) none).run Tryd.prog W = .ok (.string (s.extract 0 b)) W := by
  simp [Instr.slice, run_underlying Tryd.underlying9, Instr.sliceBounds, run_sliceBound, go_sem, hb]

set_option maxRecDepth 20000 in
set_option maxHeartbeats 4000000 in
theorem implEnd (s : ByteArray) (w : World) (hs : s.size ≤ 1048576) (hT : Pow w) (hD : Bruijn w) :
    Calls Tryd.prog 35 #[.string s] w fun e w' => ∃ T : ByteArray, e = .returned (.string T) ∧ par6g T.data.toList = par6 s.data.toList ∧ T.size ≤ 1048576 ∧ Below w.heap.size w w' := by
  obtain ⟨b, hb, hlb, hpre, htl⟩ := last_colon s
  have CL : Hid (∀ W, Calls Tryd.prog 56 #[.string s, .int .u8 58] W fun e w' => e = .returned (.int .i64 (Lib.lastIndexByte s 58)) ∧ W = w') := fun W => (Tryd.strings_LastIndexByte s 58 (by omega) W).mono fun e w' h => ⟨h.1, h.2.symm⟩
  have et : (s.extract b s.size).data.toList = s.data.toList.drop b := by rw [extract_list, take_all s s.size (Nat.le_refl _)]
  have ep : (s.extract 0 b).data.toList = s.data.toList.take b := by rw [extract_list]; simp
  have CP : Hid (∀ W, Pow W → Calls Tryd.prog 12 #[.string (s.extract b s.size)] W fun e w' => e = .returned (numA (p4 (s.data.toList.drop b))) ∧ Below W.heap.size W w') := fun W h => by
    rw [← et]
    exact implParseIp4 _ W (by rw [ByteArray.size_extract]; omega) h
  have HT : Hid (Pow w) := hT
  have HD : Hid (Bruijn w) := hD
  have hcat : s.data.toList.take b ++ s.data.toList.drop b = s.data.toList := List.take_append_drop b _
  clear hT hD
  have hbi : (b : Int) ≤ (s.size : Int) := by omega
  have hl0 : Lib.lastIndexByte s 58 = (b : Int) - 1 := by omega
  rw [hl0] at CL
  clear hlb hl0
  cases hp : p4 (s.data.toList.drop b) with
  | none =>
    have HZ : Hid (par6g s.data.toList = par6 s.data.toList) := by
      have h := par6_plain hpre htl hp
      rw [hcat] at h
      exact h
    rw [hp] at CP
    clear hp hpre htl et ep hcat
    go_enter Tryd.func35, Tryd.ntmps35
    go_wp2_with fail
    refine (CL.out _).mono ?_
    rintro e w' ⟨rfl, rfl⟩
    go_wp2_with fail
    refine (CP.out _ HT.out).mono ?_
    rintro e w1 ⟨rfl, b1⟩
    simp only [numA]
    go_wp2_with fail
    go_ret
    exact ⟨s, rfl, HZ.out, hs, b1⟩
  | some n =>
    have hn4 := (p4_some hp).1
    have HTL : Hid (s.data.toList.drop b = ip4L n) := (p4_some hp).2
    have HZ : Hid (par6g (s.data.toList.take b ++ two4 n) = par6 s.data.toList) := by
      have h := par6_four hpre htl hp
      rw [hcat] at h
      exact h
    rw [hp] at CP
    clear hp hpre htl et hcat
    obtain ⟨x, hx⟩ : ∃ x : Int, (n : Int) = x := ⟨_, rfl⟩
    have HX : Hid ((n : Int) = x) := hx
    have hx0 : 0 ≤ x := by omega
    have hx1 : x < 4294967296 := by omega
    have b2 : bits .and .i64 x 65535 = x % 65536 := i64_low 16 65535 rfl _ (by omega) (by omega) (by decide)
    clear hx
    go_enter Tryd.func35, Tryd.ntmps35
    go_wp2_with fail
    refine (CL.out _).mono ?_
    rintro e w' ⟨rfl, rfl⟩
    go_wp2_with fail
    refine (CP.out _ HT.out).mono ?_
    rintro e w1 ⟨rfl, b1⟩
    simp only [numA]
    rw [HX.out]
    have CG : Hid (Calls Tryd.prog 33 #[.slice (some ⟨w1.heap.size, 0, none⟩) 2 2] ((w1.alloc (.cells #[.int .i64 (x / 65536), .int .i64 (x % 65536)] 3)).drew) fun e w' => e = .returned (.string ⟨(two4 n).toArray⟩) ∧ Below w1.heap.size w1 w') := by
      have hB : Below w1.heap.size w1 (w1.alloc (.cells #[.int .i64 (x / 65536), .int .i64 (x % 65536)] 3)).drew := ((Below.refl _ w1).alloc (Nat.le_refl _) _).drew
      have h := implGroupsText w1.heap.size 0 2 [n / 65536, n % 65536] ((w1.alloc (.cells #[.int .i64 (x / 65536), .int .i64 (x % 65536)] 3)).drew) (by simp) (by
        intro y hy
        simp at hy
        omega) (by
        intro j hj
        have hj2 : j = 0 ∨ j = 1 := by simp at hj; omega
        show (w1.alloc (.cells #[.int .i64 (x / 65536), .int .i64 (x % 65536)] 3)).cell? _ = _
        rw [World.cell?_alloc_at _ _ _ _ rfl]
        have := HX.out
        rcases hj2 with rfl | rfl
        · simp
          omega
        · simp
          omega) (bruijn_below (bruijn_below HD.out b1) hB)
      refine h.mono fun e w' q => ⟨?_, hB.trans (q.2.mono hB.size)⟩
      rw [q.1]
      rfl
    have HB1 : Hid (Below w.heap.size w w1) := b1
    have hs2 : (two4 n).length ≤ 100 := by
      have h1 := (hex4_len (n / 65536)).2
      have h2 := (hex4_len (n % 65536)).2
      simp [two4, jl]
      omega
    have HSZ : Hid ((s.extract 0 b).size + (⟨(two4 n).toArray⟩ : ByteArray).size ≤ 1048576) := by
      show _ ≤ _
      have h1 := two4_len hn4
      have h2 := congrArg List.length HTL.out
      rw [List.length_drop] at h2
      have h3 : s.data.toList.length = s.size := by simp
      rw [ByteArray.size_extract, show (⟨(two4 n).toArray⟩ : ByteArray).size = (two4 n).length from List.size_toArray]
      omega
    have HEQ : Hid ((s.extract 0 b ++ ⟨(two4 n).toArray⟩).data.toList = s.data.toList.take b ++ two4 n) := by
      show _ = _
      rw [ByteArray.data_append, Array.toList_append, ep]
    have z2 : (⟨(two4 n).toArray⟩ : ByteArray).size ≤ 100 := by rw [show (⟨(two4 n).toArray⟩ : ByteArray).size = (two4 n).length from List.size_toArray]; exact hs2
    generalize (⟨(two4 n).toArray⟩ : ByteArray) = T2 at CG HSZ HEQ z2
    have z1 : (s.extract 0 b).size ≤ 1048576 := by rw [ByteArray.size_extract]; omega
    have hsx : ∀ W : World, (Instr.slice 9 (.string s) none (some (.int .i64 (b : Int))) none).run Tryd.prog W = .ok (.string (s.extract 0 b)) W := fun W => slice_str s b hb W
    generalize s.extract 0 b = T1 at HSZ HEQ z1 hsx
    clear b1 hs2 HTL hn4 ep
    go_wp2_with fail
    go_region_with (go_at_call 33; with_reducible refine CG.out.mono ?_; rintro e w2 ⟨rfl, k2⟩)
    all_goals
      go_wp2_with fail
      go_ret
      refine ⟨T1 ++ T2, rfl, by rw [HEQ.out]; exact HZ.out, ?_, HB1.out.trans (k2.mono HB1.out.size)⟩
      rw [ByteArray.size_append]
      exact HSZ.out
end Go.Proofs.YtophgcneckjdjaaDoor
