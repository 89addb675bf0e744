/- Contract of the program's ParseIp6. -/
import Derived.Test.YtophgcneckjdjaaDoorRows
import Derived.Test.YtophgcneckjdjaaDoorParse6Spec
import Derived.Test.YtophgcneckjdjaaDoorPar6Impl
import Derived.Test.YtophgcneckjdjaaDoorLaidPow
import Derived.Laws.CopyOwn
namespace Go.Proofs.YtophgcneckjdjaaDoor
open Go.RowKit

/-- What stands ahead of a double colon, and behind it. -/
def headL (l : List UInt8) : List UInt8 := match cut6L l with
  | none => l
  | some (a, _) => a
def tailL (l : List UInt8) : List UInt8 := match cut6L l with
  | none => []
  | some (_, b) => b
theorem cut_parts (l : List UInt8) : Lib.cut l [58, 58] = (headL l, tailL l, (cut6L l).isSome) := by
  rw [cut_dbl]
  unfold headL tailL
  cases cut6L l <;> rfl
theorem parts_len (l : List UInt8) : (headL l).length ≤ l.length ∧ (tailL l).length ≤ l.length := by
  unfold headL tailL
  cases h : cut6L l with
  | none => simp
  | some p =>
    obtain ⟨a, b⟩ := p
    have := congrArg List.length (cutL_split h)
    simp at this ⊢
    omega
theorem par6g_parts (l : List UInt8) : par6g l = match grpS false (headL l), grpS false (tailL l) with
    | some x, some y => if (if (cut6L l).isSome then x.length + y.length < 8 else x.length + y.length = 8) then some (fill8 x y) else none
    | _, _ => none := by
  unfold par6g headL tailL
  cases h : cut6L l with
  | none =>
    simp only
    rw [show grpS false [] = some [] from rfl]
    cases grpS false l with
    | none => rfl
    | some g =>
      simp only [Option.isSome_none, Bool.false_eq_true, if_false, List.length_nil, Nat.add_zero]
      by_cases h8 : g.length = 8
      · rw [if_pos h8, if_pos h8]
        simp [fill8, h8]
      · rw [if_neg h8, if_neg h8]
  | some p =>
    obtain ⟨a, b⟩ := p
    simp only
    cases grpS false a with
    | none => rfl
    | some x =>
      cases grpS false b with
      | none => rfl
      | some y =>
        simp only [Option.isSome_some, if_true]
        by_cases h7 : x.length + y.length ≤ 7
        · rw [if_pos h7, if_pos (by omega)]
        · rw [if_neg h7, if_neg (by omega)]

theorem implCutStr (T : ByteArray) (w : World) (hs : T.size ≤ 1048576) (hM : MaxI w) :
    Calls Tryd.prog 34 #[.string T, .string ⟨#[58, 58]⟩] w fun e w' => e = .returned (.tuple #[.string ⟨(headL T.data.toList).toArray⟩, .string ⟨(tailL T.data.toList).toArray⟩, .bool (cut6L T.data.toList).isSome]) ∧ Below w.heap.size w w' := by
  obtain ⟨m, hm⟩ := hM
  refine (Tryd.strings_Cut T ⟨#[58, 58]⟩ m w (by omega) hm).mono ?_
  rintro e w' ⟨rfl, n, rfl⟩
  refine ⟨?_, ⟨rfl, rfl, rfl, Nat.le_refl _, fun _ _ => rfl⟩⟩
  rw [show (⟨#[58, 58]⟩ : ByteArray).data.toList = [58, 58] from rfl, cut_parts]

theorem list_eight {z : List Int} (h : z.length = 8) : ∃ a b c d e f g i : Int, z = [a, b, c, d, e, f, g, i] := by
  match z, h with
  | [a, b, c, d, e, f, g, i], _ => exact ⟨a, b, c, d, e, f, g, i, rfl⟩
theorem blk_cell {w : World} {g : Nat} {cs : Array Value} {t : TypeId} {fz : Nat × Nat} (h : w.heap[g]? = some (.cells cs t fz)) (j : Nat) : w.cell? ⟨g, j, none⟩ = cs[j]? := by
  unfold World.cell?
  simp [h]
theorem grp_len : ∀ {fs : List (List UInt8)} {gs : List Nat}, grp false fs = some gs → gs.length = fs.length
  | [], gs, h => by cases h; rfl
  | x :: r, gs, h => by
    rw [grp_cons_f] at h
    cases hx : g16 x with
    | none => rw [hx] at h; cases h
    | some v =>
      rw [hx] at h
      simp only at h
      cases hr : grp false r with
      | none => rw [hr] at h; cases h
      | some q =>
        rw [hr] at h
        cases h
        simp [grp_len hr]
theorem spl_len (b : UInt8) : ∀ l : List UInt8, (spl b l).length ≤ l.length + 1
  | [] => by simp [spl]
  | c :: r => by
    have ih := spl_len b r
    rw [spl]
    split
    · simp; omega
    · cases hs : spl b r with
      | nil => simp
      | cons x xs => rw [hs] at ih; simp at ih ⊢; omega
theorem grpS_len {l : List UInt8} {gs : List Nat} (h : grpS false l = some gs) : gs.length ≤ l.length + 1 := by
  unfold grpS at h
  split at h
  · cases h; simp
  · rw [grp_len h]
    exact spl_len 58 l
theorem splice_fill {a b : List Nat} (h : a.length + b.length ≤ 8) : splice (splice [.int .i64 0, .int .i64 0, .int .i64 0, .int .i64 0, .int .i64 0, .int .i64 0, .int .i64 0, .int .i64 0] 0 (icells (toI a))) (8 - b.length) (icells (toI b)) = icells (toI (fill8 a b)) := by
  have e0 : ([.int .i64 0, .int .i64 0, .int .i64 0, .int .i64 0, .int .i64 0, .int .i64 0, .int .i64 0, .int .i64 0] : List Value) = List.replicate 8 (.int .i64 0) := rfl
  have la : (icells (toI a)).length = a.length := by rw [icells_length, toI_len]
  have lb : (icells (toI b)).length = b.length := by rw [icells_length, toI_len]
  have e1 : splice (List.replicate 8 (Value.int .i64 0)) 0 (icells (toI a)) = icells (toI a) ++ List.replicate (8 - a.length) (Value.int .i64 0) := by
    unfold splice
    rw [List.take_zero, List.nil_append, la, Nat.zero_add, List.drop_replicate]
  rw [e0, e1]
  unfold splice
  rw [List.take_append, la, lb, List.take_of_length_le (by rw [la]; omega), List.take_replicate, List.drop_of_length_le (by rw [List.length_append, la, List.length_replicate]; omega), List.append_nil, show min (8 - b.length - a.length) (8 - a.length) = 8 - a.length - b.length by omega]
  unfold fill8
  simp [icells, toI]



set_option maxRecDepth 20000 in
set_option maxHeartbeats 8000000 in
theorem implParseIp6 (s : ByteArray) (w : World) (hs : s.size ≤ 1048576) (hT : Pow w) (hD : Bruijn w) (hM : MaxI w) :
    Calls Tryd.prog 15 #[.string s] w fun e w' => e = .returned (parV (par6 s.data.toList)) ∧ Below w.heap.size w w' := by
  have CE : Hid (∀ W, Pow W → Bruijn W → Calls Tryd.prog 35 #[.string s] W fun e w' => ∃ T : ByteArray, e = .returned (.string T) ∧ par6g T.data.toList = par6 s.data.toList ∧ T.size ≤ 1048576 ∧ Below W.heap.size W w') := fun W a b => implEnd s W hs a b
  have HT : Hid (Pow w) := hT
  have HD : Hid (Bruijn w) := hD
  have HM : Hid (MaxI w) := hM
  clear hT hD hM
  have AR := hid_arr (arr_new w)
  have B0 : Hid (Below w.heap.size w (w.alloc (.cells #[.int .i64 0, .int .i64 0, .int .i64 0, .int .i64 0, .int .i64 0, .int .i64 0, .int .i64 0, .int .i64 0] 24))) := (Below.refl _ w).alloc (Nat.le_refl _) _
  have Z0 : Hid ((w.alloc (.cells #[.int .i64 0, .int .i64 0, .int .i64 0, .int .i64 0, .int .i64 0, .int .i64 0, .int .i64 0, .int .i64 0] 24)).heap.size = w.heap.size + 1) := by show _ = _; simp
  go_enter Tryd.func15, Tryd.ntmps15
  go_wp2_with fail
  refine (CE.out _ (pow_below HT.out B0.out) (bruijn_below HD.out B0.out)).mono ?_
  rintro e w1 ⟨T, rfl, hpt, hts, b1⟩
  have HPT : Hid (par6g T.data.toList = par6 s.data.toList) := hpt
  have B1 := B0.out.trans (b1.mono B0.out.size)
  have CC : Hid (Calls Tryd.prog 34 #[.string T, .string ⟨#[58, 58]⟩] w1 fun e w' => e = .returned (.tuple #[.string ⟨(headL T.data.toList).toArray⟩, .string ⟨(tailL T.data.toList).toArray⟩, .bool (cut6L T.data.toList).isSome]) ∧ Below w1.heap.size w1 w') := implCutStr T w1 hts (max_below HM.out B1)
  have hpl := parts_len T.data.toList
  have htl : T.data.toList.length = T.size := by simp
  rw [htl] at hpl
  have CH : Hid (∀ W, Calls Tryd.prog 36 #[.string ⟨(headL T.data.toList).toArray⟩] W fun e w' => grpAnsI W w' (grpS false (headL T.data.toList)) e ∧ Below W.heap.size W w') := fun W => implReadGroups ⟨(headL T.data.toList).toArray⟩ W (by show (headL T.data.toList).toArray.size ≤ _; rw [List.size_toArray]; omega)
  have CR : Hid (∀ W, Calls Tryd.prog 36 #[.string ⟨(tailL T.data.toList).toArray⟩] W fun e w' => grpAnsI W w' (grpS false (tailL T.data.toList)) e ∧ Below W.heap.size W w') := fun W => implReadGroups ⟨(tailL T.data.toList).toArray⟩ W (by show (tailL T.data.toList).toArray.size ≤ _; rw [List.size_toArray]; omega)
  have HP : Hid (par6 s.data.toList = match grpS false (headL T.data.toList), grpS false (tailL T.data.toList) with
    | some x, some y => if (if (cut6L T.data.toList).isSome then x.length + y.length < 8 else x.length + y.length = 8) then some (fill8 x y) else none
    | _, _ => none) := HPT.out.symm.trans (par6g_parts _)
  clear hpt HPT CE HT HD HM
  generalize (⟨(headL T.data.toList).toArray⟩ : ByteArray) = TH at CC CH
  generalize (⟨(tailL T.data.toList).toArray⟩ : ByteArray) = TT at CC CR
  have HBH : Hid (∀ gs, grpS false (headL T.data.toList) = some gs → gs.length ≤ 1048577) := fun gs h => by have := grpS_len h; omega
  have HBT : Hid (∀ gs, grpS false (tailL T.data.toList) = some gs → gs.length ≤ 1048577) := fun gs h => by have := grpS_len h; omega
  clear hpl htl
  generalize grpS false (headL T.data.toList) = rh at CH HP HBH
  generalize grpS false (tailL T.data.toList) = rt at CR HP HBT
  generalize (cut6L T.data.toList).isSome = ct at CC HP
  go_wp2_with fail
  refine CC.out.mono ?_
  rintro e w2 ⟨rfl, b2⟩
  go_wp2_with fail
  refine (CH.out _).mono ?_
  rintro e w3 ⟨hh, b3⟩
  have b12 := b1.trans (b2.mono b1.size)
  have b13 := b12.trans (b3.mono b12.size)
  have k2 : w.heap.size + 1 ≤ w2.heap.size := by have := Z0.out; have := b12.size; omega
  have k3 : w.heap.size + 1 ≤ w3.heap.size := Nat.le_trans k2 b3.size
  cases rh with
  | none =>
    obtain rfl : e = .returned (.tuple #[.slice none 0 0, .bool false]) := hh
    have HZ : Hid (parV (par6 s.data.toList) = parV none) := by show _ = _; rw [HP.out]
    go_wp2_with fail
    refine (CR.out _).mono ?_
    rintro e w4 ⟨ht, b4⟩
    have b14 := b13.trans (b4.mono b13.size)
    have AR3 := hid_arr (AR.out.later b14)
    have B3 : Hid (Below w.heap.size w w4) := B0.out.trans (b14.mono B0.out.size)
    clear b1 b2 b3 b4 b12 b13 b14 B1 k2 k3 AR B0 Z0
    cases rt with
    | none =>
      obtain rfl : e = .returned (.tuple #[.slice none 0 0, .bool false]) := ht
      have RA := AR3.out
      have r0 := (RA.2 0 (by decide)).1
      have r1 := (RA.2 1 (by decide)).1
      have r2 := (RA.2 2 (by decide)).1
      have r3 := (RA.2 3 (by decide)).1
      have r4 := (RA.2 4 (by decide)).1
      have r5 := (RA.2 5 (by decide)).1
      have r6 := (RA.2 6 (by decide)).1
      have r7 := (RA.2 7 (by decide)).1
      have f0 := (RA.2 0 (by decide)).2
      have f1 := (RA.2 1 (by decide)).2
      have f2 := (RA.2 2 (by decide)).2
      have f3 := (RA.2 3 (by decide)).2
      have f4 := (RA.2 4 (by decide)).2
      have f5 := (RA.2 5 (by decide)).2
      have f6 := (RA.2 6 (by decide)).2
      have f7 := (RA.2 7 (by decide)).2
      have HRA := hid_arr RA
      clear RA
      go_wp2_with fail
      refine bodyPost_ret (arr_results rfl _ _ w.heap.size false 0 0 0 0 0 0 0 0 rfl rfl (arr_store HRA.out 0 0 0 0 0 0 0 0)) rfl ⟨by rw [HZ.out]; rfl, below_store B3.out (Nat.le_refl _) 0 0 0 0 0 0 0 0⟩
    | some gt =>
      obtain ⟨vt, rfl, ot⟩ : ∃ v : Value, e = .returned (.tuple #[v, .bool true]) ∧ _ := ht
      clear ot
      have RA := AR3.out
      have r0 := (RA.2 0 (by decide)).1
      have r1 := (RA.2 1 (by decide)).1
      have r2 := (RA.2 2 (by decide)).1
      have r3 := (RA.2 3 (by decide)).1
      have r4 := (RA.2 4 (by decide)).1
      have r5 := (RA.2 5 (by decide)).1
      have r6 := (RA.2 6 (by decide)).1
      have r7 := (RA.2 7 (by decide)).1
      have f0 := (RA.2 0 (by decide)).2
      have f1 := (RA.2 1 (by decide)).2
      have f2 := (RA.2 2 (by decide)).2
      have f3 := (RA.2 3 (by decide)).2
      have f4 := (RA.2 4 (by decide)).2
      have f5 := (RA.2 5 (by decide)).2
      have f6 := (RA.2 6 (by decide)).2
      have f7 := (RA.2 7 (by decide)).2
      have HRA := hid_arr RA
      clear RA
      go_wp2_with fail
      refine bodyPost_ret (arr_results rfl _ _ w.heap.size false 0 0 0 0 0 0 0 0 rfl rfl (arr_store HRA.out 0 0 0 0 0 0 0 0)) rfl ⟨by rw [HZ.out]; rfl, below_store B3.out (Nat.le_refl _) 0 0 0 0 0 0 0 0⟩
  | some gh =>
    obtain ⟨vh, rfl, oh⟩ : ∃ v : Value, e = .returned (.tuple #[v, .bool true]) ∧ w3.ownsRow w2.heap.size 3 1 v gh.length (icells (toI gh)) := hh
    go_wp2_with fail
    refine (CR.out _).mono ?_
    rintro e w4 ⟨ht, b4⟩
    have b14 := b13.trans (b4.mono b13.size)
    have AR3 := hid_arr (AR.out.later b14)
    have B3 : Hid (Below w.heap.size w w4) := B0.out.trans (b14.mono B0.out.size)
    have oh' := own_below oh b4
    obtain ⟨aoh, caph, rfl, rh0⟩ := row_view oh' (toI_len gh)
    have HRH : Hid (RowAt w4 (w.heap.size + 1) aoh (toI gh)) := fun h0 => by
      obtain ⟨g, h1, h2, h3⟩ := rh0 h0
      exact ⟨g, h1, by omega, h3⟩
    clear oh oh' rh0 b1 b2 b3 b4 b12 b13 b14 B1 AR B0 Z0
    cases rt with
    | none =>
      obtain rfl : e = .returned (.tuple #[.slice none 0 0, .bool false]) := ht
      have HZ : Hid (parV (par6 s.data.toList) = parV none) := by show _ = _; rw [HP.out]
      have RA := AR3.out
      have r0 := (RA.2 0 (by decide)).1
      have r1 := (RA.2 1 (by decide)).1
      have r2 := (RA.2 2 (by decide)).1
      have r3 := (RA.2 3 (by decide)).1
      have r4 := (RA.2 4 (by decide)).1
      have r5 := (RA.2 5 (by decide)).1
      have r6 := (RA.2 6 (by decide)).1
      have r7 := (RA.2 7 (by decide)).1
      have f0 := (RA.2 0 (by decide)).2
      have f1 := (RA.2 1 (by decide)).2
      have f2 := (RA.2 2 (by decide)).2
      have f3 := (RA.2 3 (by decide)).2
      have f4 := (RA.2 4 (by decide)).2
      have f5 := (RA.2 5 (by decide)).2
      have f6 := (RA.2 6 (by decide)).2
      have f7 := (RA.2 7 (by decide)).2
      have HRA := hid_arr RA
      clear RA
      go_wp2_with fail
      refine bodyPost_ret (arr_results rfl _ _ w.heap.size false 0 0 0 0 0 0 0 0 rfl rfl (arr_store HRA.out 0 0 0 0 0 0 0 0)) rfl ⟨by rw [HZ.out]; rfl, below_store B3.out (Nat.le_refl _) 0 0 0 0 0 0 0 0⟩
    | some gt =>
      obtain ⟨vt, rfl, ot⟩ : ∃ v : Value, e = .returned (.tuple #[v, .bool true]) ∧ w4.ownsRow w3.heap.size 3 1 v gt.length (icells (toI gt)) := ht
      obtain ⟨aot, capt, rfl, rt0⟩ := row_view ot (toI_len gt)
      have HRT : Hid (RowAt w4 (w.heap.size + 1) aot (toI gt)) := fun h0 => by
        obtain ⟨g, h1, h2, h3⟩ := rt0 h0
        exact ⟨g, h1, by omega, h3⟩
      clear ot rt0 k2 k3
      simp only at HP
      have hbh : (gh.length : Int) ≤ 1048577 := by have := HBH.out gh rfl; omega
      have hbt : (gt.length : Int) ≤ 1048577 := by have := HBT.out gt rfl; omega
      have CM : Hid (∀ W, Calls Tryd.prog 37 #[.int .i64 ((gh.length : Int) + (gt.length : Int)), .bool ct] W fun e w' => e = .returned (.bool (if ct then decide ((gh.length : Int) + (gt.length : Int) < 8) else ((gh.length : Int) + (gt.length : Int) == 8))) ∧ W = w') := fun W => implManyFit _ ct W
      by_cases hf : (if ct then gh.length + gt.length < 8 else gh.length + gt.length = 8)
      · have hb : (if ct then decide ((gh.length : Int) + (gt.length : Int) < 8) else ((gh.length : Int) + (gt.length : Int) == 8)) = true := by
          cases ct with
          | true => simp at hf ⊢; omega
          | false => simp at hf ⊢; omega
        rw [hb] at CM
        have hsum : gh.length + gt.length ≤ 8 := by cases ct <;> simp at hf <;> omega
        have HZ : Hid (parV (par6 s.data.toList) = .tuple #[.agg ((toI (fill8 gh gt)).map (Value.int .i64)).toArray, .bool true]) := by
          show _ = _
          rw [HP.out, if_pos hf]
          rfl
        clear hf hb HP
        go_wp2_with fail
        refine (CM.out _).mono ?_
        rintro e w' ⟨rfl, rfl⟩
        obtain ⟨fr, hfr⟩ : ∃ fr : Nat, 8 - gt.length = fr := ⟨_, rfl⟩
        have hfi : (8 : Int) - (gt.length : Int) = (fr : Int) := by omega
        have hfr8 : fr ≤ 8 := by omega
        have sl1 := slice_hm w4.heap.size fr hfr8
        have sl2 := slice_l w4.heap.size fr hfr8
        have HSP : Hid (splice (splice [.int .i64 0, .int .i64 0, .int .i64 0, .int .i64 0, .int .i64 0, .int .i64 0, .int .i64 0, .int .i64 0] 0 (icells (toI gh))) fr (icells (toI gt)) = icells (toI (fill8 gh gt))) := by
          show _ = _
          rw [← hfr]
          exact splice_fill hsum
        have HFR : Hid (8 - gt.length = fr) := hfr
        have HL1 : Hid ((icells (toI gh)).length = gh.length ∧ (icells (toI gt)).length = gt.length) := ⟨by rw [icells_length, toI_len], by rw [icells_length, toI_len]⟩
        have H1 : Hid (∀ v ∈ icells (toI gh), v.oneCell' = true) := fun v hv => by
          obtain ⟨z, _, rfl⟩ := List.mem_map.1 hv
          rfl
        have H2 : Hid (∀ v ∈ icells (toI gt), v.oneCell' = true) := fun v hv => by
          obtain ⟨z, _, rfl⟩ := List.mem_map.1 hv
          rfl
        have HBA : Hid (Below w4.heap.size w4 (w4.alloc (.cells #[.int .i64 0, .int .i64 0, .int .i64 0, .int .i64 0, .int .i64 0, .int .i64 0, .int .i64 0, .int .i64 0] 24))) := (Below.refl _ w4).alloc (Nat.le_refl _) _
        have HG4 : Hid ((w4.alloc (.cells #[.int .i64 0, .int .i64 0, .int .i64 0, .int .i64 0, .int .i64 0, .int .i64 0, .int .i64 0, .int .i64 0] 24)).heap[w4.heap.size]? = some (.cells ([.int .i64 0, .int .i64 0, .int .i64 0, .int .i64 0, .int .i64 0, .int .i64 0, .int .i64 0, .int .i64 0] : List Value).toArray 24 (0, 0))) := heap_alloc_new w4 _
        have HS1 : Hid (∀ W, Below w4.heap.size w4 W → 0 < (icells (toI gh)).length → ∃ ad, aoh = some ad ∧ ∀ (j : Nat) (v : Value), (icells (toI gh))[j]? = some v → W.cell? (ad.add j) = some v) := fun W hb h0 => by
          obtain ⟨g, h1, _, h3⟩ := HRH.out (by rw [icells_length] at h0; exact h0)
          refine ⟨⟨g, 0, none⟩, h1, fun j v hj => ?_⟩
          obtain ⟨hjl, rfl⟩ := List.getElem?_eq_some_iff.1 hj
          rw [icells_length] at hjl
          rw [Addr.add_lit, Nat.zero_add, cell_later hb (h3 j hjl)]
          simp [icells, List.getD, hjl]
        have HS2 : Hid (∀ W, Below w4.heap.size w4 W → 0 < (icells (toI gt)).length → ∃ ad, aot = some ad ∧ ∀ (j : Nat) (v : Value), (icells (toI gt))[j]? = some v → W.cell? (ad.add j) = some v) := fun W hb h0 => by
          obtain ⟨g, h1, _, h3⟩ := HRT.out (by rw [icells_length] at h0; exact h0)
          refine ⟨⟨g, 0, none⟩, h1, fun j v hj => ?_⟩
          obtain ⟨hjl, rfl⟩ := List.getElem?_eq_some_iff.1 hj
          rw [icells_length] at hjl
          rw [Addr.add_lit, Nat.zero_add, cell_later hb (h3 j hjl)]
          simp [icells, List.getD, hjl]
        have HTG : Hid (0 < gt.length → (if 8 = fr then 0 else fr) = fr) := fun h => if_neg (by omega)
        generalize (if 8 = fr then 0 else fr) = o2 at sl2 HTG
        have HFL : Hid ((toI (fill8 gh gt)).length = 8) := by
          show _ = _
          rw [toI_len]
          unfold fill8
          simp
          omega
        clear hfr
        generalize icells (toI gh) = c1 at HSP HL1 H1 HS1
        generalize icells (toI gt) = c2 at HSP HL1 H2 HS2
        have hi1 : (Tryd.prog.info? 3).map (·.size) = some 1 := by kernel_rfl
        go_wp2_with ((with_reducible show wpList _ _ _ ({ dst := _, op := Op.call { callee := Callee.builtin Builtin.copy, args := _, argTypes := _ }, type := _, pos := _, after := _, guard := _ } :: _) _ _); refine wpList_copy_splice (by rfl) _ _ 51 51 (by rfl) 3 Tryd.underlying51 hi1 (some ⟨w4.heap.size, 0, none⟩) aoh fr fr gh.length caph (by rfl) (by rfl) w4.heap.size 0 [.int .i64 0, .int .i64 0, .int .i64 0, .int .i64 0, .int .i64 0, .int .i64 0, .int .i64 0, .int .i64 0] 24 HG4.out c1 (by rw [HL1.out.1]; have := HFR.out; exact (Nat.min_eq_left (by omega)).symm) (fun h => ⟨rfl, HS1.out _ HBA.out h⟩) (by have := HL1.out; simp; omega) H1.out w4.heap.size w4 HBA.out (Nat.le_refl _) ?_)
        intro w5 HG5 hB5
        go_wp2_with ((with_reducible show wpList _ _ _ ({ dst := _, op := Op.call { callee := Callee.builtin Builtin.copy, args := _, argTypes := _ }, type := _, pos := _, after := _, guard := _ } :: _) _ _); refine wpList_copy_splice (by rfl) _ _ 51 51 (by rfl) 3 Tryd.underlying51 hi1 (some ⟨w4.heap.size, o2, none⟩) aot (8 - fr) (8 - fr) gt.length capt (by rfl) (by rfl) w4.heap.size fr (splice [.int .i64 0, .int .i64 0, .int .i64 0, .int .i64 0, .int .i64 0, .int .i64 0, .int .i64 0, .int .i64 0] 0 c1) 24 HG5.out c2 (by rw [HL1.out.2]; have := HFR.out; exact (Nat.min_eq_left (by omega)).symm) (fun h => ⟨by rw [HTG.out (by have := HL1.out; omega)], HS2.out _ hB5 h⟩) (by have := HL1.out; have := HFR.out; rw [length_splice _ _ _ (by simp; omega)]; simp; omega) H2.out w4.heap.size w4 hB5 (Nat.le_refl _) ?_)
        intro w6 HG6 hB6
        have hg6 := HG6.out
        rw [HSP.out] at hg6
        obtain ⟨x0, x1, x2, x3, x4, x5, x6, x7, hx⟩ := list_eight HFL.out
        rw [hx] at hg6 HZ
        have o0 := blk_cell hg6 0
        have o1 := blk_cell hg6 1
        have o2 := blk_cell hg6 2
        have o3 := blk_cell hg6 3
        have o4 := blk_cell hg6 4
        have o5 := blk_cell hg6 5
        have o6 := blk_cell hg6 6
        have o7 := blk_cell hg6 7
        simp [icells] at o0 o1 o2 o3 o4 o5 o6 o7
        have RA := AR3.out.later hB6
        have B6 := B3.out.trans (hB6.mono B3.out.size)
        clear hg6 HG6 HG5 hB5 hB6 hx HSP HS1 HS2 H1 H2 HG4
        have r0 := (RA.2 0 (by decide)).1
        have r1 := (RA.2 1 (by decide)).1
        have r2 := (RA.2 2 (by decide)).1
        have r3 := (RA.2 3 (by decide)).1
        have r4 := (RA.2 4 (by decide)).1
        have r5 := (RA.2 5 (by decide)).1
        have r6 := (RA.2 6 (by decide)).1
        have r7 := (RA.2 7 (by decide)).1
        have f0 := (RA.2 0 (by decide)).2
        have f1 := (RA.2 1 (by decide)).2
        have f2 := (RA.2 2 (by decide)).2
        have f3 := (RA.2 3 (by decide)).2
        have f4 := (RA.2 4 (by decide)).2
        have f5 := (RA.2 5 (by decide)).2
        have f6 := (RA.2 6 (by decide)).2
        have f7 := (RA.2 7 (by decide)).2
        have HRA := hid_arr RA
        clear RA
        go_wp2_with fail
        refine bodyPost_ret (arr_results rfl _ _ w.heap.size true x0 x1 x2 x3 x4 x5 x6 x7 rfl rfl (arr_store HRA.out x0 x1 x2 x3 x4 x5 x6 x7)) rfl ⟨by rw [HZ.out]; rfl, below_store B6 (Nat.le_refl _) x0 x1 x2 x3 x4 x5 x6 x7⟩
      · have hb : (if ct then decide ((gh.length : Int) + (gt.length : Int) < 8) else ((gh.length : Int) + (gt.length : Int) == 8)) = false := by
          cases ct with
          | true => simp at hf ⊢; omega
          | false => simp at hf ⊢; omega
        rw [hb] at CM
        have HZ : Hid (parV (par6 s.data.toList) = parV none) := by
          show _ = _
          rw [HP.out, if_neg hf]
        clear hf hb HP
        go_wp2_with fail
        refine (CM.out _).mono ?_
        rintro e w' ⟨rfl, rfl⟩
        have RA := AR3.out
        have r0 := (RA.2 0 (by decide)).1
        have r1 := (RA.2 1 (by decide)).1
        have r2 := (RA.2 2 (by decide)).1
        have r3 := (RA.2 3 (by decide)).1
        have r4 := (RA.2 4 (by decide)).1
        have r5 := (RA.2 5 (by decide)).1
        have r6 := (RA.2 6 (by decide)).1
        have r7 := (RA.2 7 (by decide)).1
        have f0 := (RA.2 0 (by decide)).2
        have f1 := (RA.2 1 (by decide)).2
        have f2 := (RA.2 2 (by decide)).2
        have f3 := (RA.2 3 (by decide)).2
        have f4 := (RA.2 4 (by decide)).2
        have f5 := (RA.2 5 (by decide)).2
        have f6 := (RA.2 6 (by decide)).2
        have f7 := (RA.2 7 (by decide)).2
        have HRA := hid_arr RA
        clear RA
        go_wp2_with fail
        refine bodyPost_ret (arr_results rfl _ _ w.heap.size false 0 0 0 0 0 0 0 0 rfl rfl (arr_store HRA.out 0 0 0 0 0 0 0 0)) rfl ⟨by rw [HZ.out]; rfl, below_store B3.out (Nat.le_refl _) 0 0 0 0 0 0 0 0⟩
end Go.Proofs.YtophgcneckjdjaaDoor
