/- Contracts and plain laws: TokImpl2, TokImpl3, TokImpl4, TokIter, TokTop. -/
import Derived.Test.YtjdmmmohaiiocaaDoorRows
import Derived.Test.YtjdmmmohaiiocaaDoorTokImpl1
import Derived.Test.YtjdmmmohaiiocaaDoorUnImpl
import Derived.Test.YtjdmmmohaiiocaaDoorMaxLaid
import Derived.Test.YtjdmmmohaiiocaaDoorTokRow
import Derived.Deep.RegionHeld3
import Derived.Test.YtjdmmmohaiiocaaDoorTokSpec6
import Derived.Test.YtjdmmmohaiiocaaDoorAppAt
import Derived.RangeFuncNested
import Derived.RangeFuncBound
import Derived.RangeFuncCalls
import Derived.RangeFuncLeaves
import Derived.RangeFuncBox
import Derived.Shelf.Abstract
import Derived.Shelf.RegionOpen
import Derived.WalkKit
import Derived.OwnWalkIn
import Derived.TacticsInMore
import Derived.LoopNIn
import Derived.LoopIn
import Derived.Maps.AppendAt
import Derived.Maps.OwnIn
import Derived.Scope
namespace Go.Proofs.YtjdmmmohaiiocaaDoor
open Go.RowKit
set_option linter.unusedVariables false
set_option linter.unusedSimpArgs false

/-- What a reader of a piece answers: tokens, what stands behind the piece, a code. -/
def PieceA (W : World) (m : MR) (r : List UInt8) (e : Ending) (w' : World) : Prop :=
  ∃ (v : Value) (y : ByteArray), e = .returned (.tuple #[v, .string y, .int .i64 (m.code : Int)]) ∧ w'.ownsRow W.heap.size 33 2 v m.ts.length (tcells m.ts) ∧ (m.code = 0 → y.data.toList = r.drop m.n) ∧ Below W.heap.size W w'
theorem PieceA.bad {W w' : World} {m : MR} {r : List UInt8} {c : Nat} (hm : m = noMR c) (hc : c ≠ 0) (hb : Below W.heap.size W w') : PieceA W m r (.returned (.tuple #[.slice none 0 0, .string ⟨#[]⟩, .int .i64 (c : Int)])) w' := by
  subst hm
  exact ⟨_, _, rfl, World.ownsRow_nil _ _ _ _, fun h => absurd h hc, hb⟩
theorem cut_cases (s m : List UInt8) : (Lib.index s m = -1 ∧ Lib.cut s m = (s, [], false)) ∨ ∃ k : Nat, Lib.index s m = (k : Int) ∧ Lib.cut s m = (s.take k, s.drop (k + m.length), true) := by
  by_cases h : 0 ≤ Lib.index s m
  · obtain ⟨k, hk⟩ := Int.eq_ofNat_of_zero_le h
    refine .inr ⟨k, hk, ?_⟩
    unfold Lib.cut
    rw [if_pos h, hk]
    rfl
  · have := Lib.index_ge s m
    refine .inl ⟨by omega, ?_⟩
    unfold Lib.cut
    rw [if_neg h]
theorem own_tok1 (W : World) (B : Nat) (hB : B ≤ W.heap.size) (k : Int) (s : ByteArray) : (W.alloc (.cells #[.int .i64 k, .string s] 33)).ownsRow B 33 2 (.slice (some ⟨W.heap.size, 0, none⟩) 1 1) ([⟨k, s⟩] : List TV).length (tcells [⟨k, s⟩]) :=
  World.ownsRow_lit W #[.int .i64 k, .string s] 1 hB (by decide) rfl
theorem strCut (s m : ByteArray) (w : World) (hs : s.size ≤ 16777216) (hM : MaxI w) :
    Calls Tryd.prog 24 #[.string s, .string m] w fun e w' => e = .returned (.tuple #[.string ⟨(Lib.cut s.data.toList m.data.toList).1.toArray⟩, .string ⟨(Lib.cut s.data.toList m.data.toList).2.1.toArray⟩, .bool (Lib.cut s.data.toList m.data.toList).2.2]) ∧ Below w.heap.size w w' := by
  obtain ⟨mx, hmx⟩ := hM
  refine (Tryd.strings_Cut s m mx w (by omega) hmx).mono ?_
  rintro e w' ⟨rfl, n, rfl⟩
  exact ⟨rfl, below_drewN (Below.refl _ _) _⟩
theorem slice_from (s : ByteArray) (b : Nat) (hb : b ≤ s.size) (z : Int) (hz : z = (b : Int)) (W : World) : (Instr.slice 9 (.string s) (some (.int .i64 z)) none none).run Tryd.prog W = .ok (.string (s.extract b s.size)) W := by
  subst hz
  simp [Instr.slice, run_underlying Tryd.underlying9, Instr.sliceBounds, run_sliceBound, go_sem, hb]
set_option maxHeartbeats 1000000 in
theorem implPassed (s m : ByteArray) (w : World) (hs : s.size ≤ 16777216) (hM : MaxI w) :
    Calls Tryd.prog 56 #[.string s, .string m] w fun e w' => PieceA w (skipR s.data.toList m.data.toList) s.data.toList e w' := by
  have CC := strCut s m w hs hM
  rcases cut_cases s.data.toList m.data.toList with ⟨h1, h2⟩ | ⟨k, h1, h2⟩
  · rw [h2] at CC
    have HR : Hid (skipR s.data.toList m.data.toList = noMR 1) := by show _ = _; unfold skipR; rw [if_pos h1]
    have CC' := hidU CC
    clear CC h1 h2 hM
    go_enter Tryd.func56, Tryd.ntmps56
    go_wp2_with fail
    refine CC'.out.mono ?_
    rintro e w1 ⟨rfl, b1⟩
    go_wp2_with fail
    go_ret3
    exact PieceA.bad HR.out (by decide) b1
  · rw [h2] at CC
    have HR : Hid (skipR s.data.toList m.data.toList = ⟨[], k + m.data.toList.length, 0⟩) := by show _ = _; unfold skipR; rw [if_neg (by omega), h1]; rfl
    obtain ⟨y, hy⟩ : ∃ y : ByteArray, (⟨(s.data.toList.drop (k + m.data.toList.length)).toArray⟩ : ByteArray) = y := ⟨_, rfl⟩
    have HY : Hid (y.data.toList = s.data.toList.drop (k + m.data.toList.length)) := by show _ = _; rw [← hy]
    rw [hy] at CC
    generalize (⟨(s.data.toList.take k).toArray⟩ : ByteArray) = x at CC
    have CC' := hidU CC
    clear CC h1 h2 hM hy
    go_enter Tryd.func56, Tryd.ntmps56
    go_wp2_with fail
    refine CC'.out.mono ?_
    rintro e w1 ⟨rfl, b1⟩
    go_wp2_with fail
    go_ret3
    rw [HR.out]
    exact ⟨_, y, rfl, World.ownsRow_nil _ _ _ _, fun _ => HY.out, b1⟩
set_option maxHeartbeats 1000000 in
theorem implCData (s : ByteArray) (w : World) (hs : s.size ≤ 16777216) (hM : MaxI w) :
    Calls Tryd.prog 57 #[.string s] w fun e w' => PieceA w (cdataR s.data.toList) s.data.toList e w' := by
  have CC : Calls Tryd.prog 24 #[.string s, .string ⟨#[93, 93, 62]⟩] w fun e w' => e = .returned (.tuple #[.string ⟨(Lib.cut s.data.toList [93, 93, 62]).1.toArray⟩, .string ⟨(Lib.cut s.data.toList [93, 93, 62]).2.1.toArray⟩, .bool (Lib.cut s.data.toList [93, 93, 62]).2.2]) ∧ Below w.heap.size w w' := strCut s ⟨#[93, 93, 62]⟩ w hs hM
  rcases cut_cases s.data.toList [93, 93, 62] with ⟨h1, h2⟩ | ⟨k, h1, h2⟩
  · rw [h2] at CC
    have HR : Hid (cdataR s.data.toList = noMR 1) := by show _ = _; unfold cdataR; rw [if_pos h1]
    have CC' := hidU CC
    clear CC h1 h2 hM
    go_enter Tryd.func57, Tryd.ntmps57
    go_wp2_with fail
    refine CC'.out.mono ?_
    rintro e w1 ⟨rfl, b1⟩
    go_wp2_with fail
    go_ret3
    exact PieceA.bad HR.out (by decide) b1
  · rw [h2] at CC
    have hroom := Lib.index_room s.data.toList [93, 93, 62] (by omega)
    rw [h1] at hroom
    have hl3 : ([93, 93, 62] : List UInt8).length = 3 := rfl
    rw [hl3] at hroom CC
    have hsl : s.data.toList.length = s.size := by simp
    obtain ⟨y, hy⟩ : ∃ y : ByteArray, (⟨(s.data.toList.drop (k + 3)).toArray⟩ : ByteArray) = y := ⟨_, rfl⟩
    have HY : Hid (y.data.toList = s.data.toList.drop (k + 3)) := by show _ = _; rw [← hy]
    obtain ⟨x, hx⟩ : ∃ x : ByteArray, (⟨(s.data.toList.take k).toArray⟩ : ByteArray) = x := ⟨_, rfl⟩
    have HX : Hid (x = bytesV (s.data.toList.take k)) := hx.symm
    have hxs : x.size = k := by
      rw [← hx]
      show (s.data.toList.take k).length = k
      rw [List.length_take]
      omega
    rw [show (s.data.toList.take k, s.data.toList.drop (k + 3), true).fst = s.data.toList.take k from rfl, show (s.data.toList.take k, s.data.toList.drop (k + 3), true).snd.fst = s.data.toList.drop (k + 3) from rfl, hy, hx] at CC
    have CC' : Hid (Calls Tryd.prog 24 #[.string s, .string ⟨#[93, 93, 62]⟩] w fun e w' => e = .returned (.tuple #[.string x, .string y, .bool true]) ∧ Below w.heap.size w w') := CC
    by_cases hk0 : k = 0
    · have HR : Hid (cdataR s.data.toList = ⟨[], 3, 0⟩) := by show _ = _; unfold cdataR; rw [if_neg (by omega), if_pos (by rw [h1, hk0]; rfl)]
      have hem := empty_yes (hxs.trans hk0)
      have HY0 : Hid (y.data.toList = s.data.toList.drop 3) := by show _ = _; rw [HY.out, hk0]
      clear CC h1 h2 hM hy hx hroom hsl hk0 hxs
      go_enter Tryd.func57, Tryd.ntmps57
      go_wp2_with fail
      refine CC'.out.mono ?_
      rintro e w1 ⟨rfl, b1⟩
      go_wp2_with fail
      go_ret3
      rw [HR.out]
      exact ⟨_, y, rfl, World.ownsRow_nil _ _ _ _, fun _ => HY0.out, b1⟩
    · have HR : Hid (cdataR s.data.toList = ⟨[⟨3, x⟩], k + 3, 0⟩) := by show _ = _; unfold cdataR; rw [if_neg (by omega), if_neg (by omega), h1, HX.out]; rfl
      have hem := empty_no (show 0 < x.size by omega)
      have CN : Hid (∀ W, Calls Tryd.prog 73 #[.int .i64 3, .string x] W fun e w' => e = .returned (.agg #[.int .i64 3, .string x]) ∧ Below W.heap.size W w') := fun W => implNewToken 3 x W (by omega)
      clear CC h1 h2 hM hy hx hroom hsl hk0 hxs HX
      go_enter Tryd.func57, Tryd.ntmps57
      go_wp2_with fail
      refine CC'.out.mono ?_
      rintro e w1 ⟨rfl, b1⟩
      go_wp2_with fail
      refine (CN.out _).mono ?_
      rintro e w2 ⟨rfl, b2⟩
      have B2 := b1.trans (b2.mono b1.size)
      clear b1 b2 CC' CN
      go_wp2_with fail
      go_ret3
      rw [HR.out]
      exact ⟨_, y, rfl, own_tok1 w2 _ B2.size 3 x, fun _ => HY.out, B2.alloc B2.size _⟩
set_option maxRecDepth 100000 in
set_option maxHeartbeats 2000000 in
theorem implReadClose (s : ByteArray) (w : World) (hs : s.size ≤ 16777216) :
    Calls Tryd.prog 58 #[.string s] w fun e w' => PieceA w (closeI s.data.toList) s.data.toList e w' := by
  have hsl : s.data.toList.length = s.size := by simp
  have CI : ∀ W, Calls Tryd.prog 74 #[.string s, .int .u8 62] W fun e w' => e = .returned (.int .i64 (if s.data.toList.contains 62 then ((upB 62 s.data.toList).length : Int) else -1)) ∧ W = w' := fun W => (Tryd.strings_IndexByte s 62 W).mono fun e w' h => ⟨by rw [h.1, show (62 : Int).toNat.toUInt8 = (62 : UInt8) from rfl, ← Lib.index_one, index_while], h.2.symm⟩
  cases hc : s.data.toList.contains 62 with
  | false =>
    rw [hc] at CI
    have CI' : Hid (∀ W, Calls Tryd.prog 74 #[.string s, .int .u8 62] W fun e w' => e = .returned (.int .i64 (-1)) ∧ W = w') := CI
    have HR : Hid (closeI s.data.toList = noMR 1) := by show _ = _; unfold closeI; rw [hc]; rfl
    clear CI hc hsl
    go_enter Tryd.func58, Tryd.ntmps58
    go_wp2_with fail
    refine (CI'.out _).mono ?_
    rintro e w' ⟨rfl, rfl⟩
    go_wp2_with fail
    go_ret3
    exact PieceA.bad HR.out (by decide) (Below.refl _ _)
  | true =>
    have hw := close_way s.data.toList hc
    have hub := (up_beh 62 s.data.toList).1 hc
    obtain ⟨E, hE⟩ : ∃ E, (upB 62 s.data.toList).length = E := ⟨_, rfl⟩
    have hlen := congrArg List.length hub
    rw [List.length_append, List.length_cons, hE, hsl] at hlen
    rw [hc, if_pos rfl, hE] at CI
    have CI' : Hid (∀ W, Calls Tryd.prog 74 #[.string s, .int .u8 62] W fun e w' => e = .returned (.int .i64 (E : Int)) ∧ W = w') := CI
    have hup : (s.extract 0 E).data.toList = upB 62 s.data.toList := by
      rw [take_data, ← hE]
      unfold upB
      exact take_tw _ _
    have CC := fun W => implCutName (s.extract 0 E) W (by simp; omega)
    rw [hup] at CC
    obtain ⟨nm, hnm⟩ : ∃ x : ByteArray, (⟨((upB 62 s.data.toList).takeWhile nmB).toArray⟩ : ByteArray) = x := ⟨_, rfl⟩
    obtain ⟨bh, hbh⟩ : ∃ x : ByteArray, (⟨((upB 62 s.data.toList).dropWhile nmB).toArray⟩ : ByteArray) = x := ⟨_, rfl⟩
    have hnd : nm.data.toList = (upB 62 s.data.toList).takeWhile nmB := by rw [← hnm]
    have hbd : bh.data.toList = (upB 62 s.data.toList).dropWhile nmB := by rw [← hbh]
    have hns : nm.size ≤ 16777216 := by
      have h1 := (List.takeWhile_sublist nmB (l := upB 62 s.data.toList)).length_le
      have h2 : nm.size = nm.data.toList.length := by simp
      rw [h2, hnd]
      omega
    have hbs : bh.size ≤ 16777216 := by
      have h1 := (List.dropWhile_sublist nmB (l := upB 62 s.data.toList)).length_le
      have h2 : bh.size = bh.data.toList.length := by simp
      rw [h2, hbd]
      omega
    rw [hnm, hbh] at CC
    have CC' : Hid (∀ W, Calls Tryd.prog 75 #[.string (s.extract 0 E)] W fun e w' => e = .returned (.tuple #[.string nm, .string bh]) ∧ Below W.heap.size W w') := CC
    rw [hE, ← hnd, ← hbd] at hw
    have HW : Hid (closeI s.data.toList = if nameOkB nm.data.toList = true ∧ bh.data.toList.all blkB = true then ⟨[⟨2, nm⟩], E + 1, 0⟩ else noMR 2) := by
      show _ = _
      rw [hw]
      unfold bytesV
      rw [Lib.mk_data]
    have CO : Hid (∀ W, Calls Tryd.prog 76 #[.string nm] W fun e w' => e = .returned (.bool (nameOkB nm.data.toList)) ∧ W = w') := fun W => implNameOk nm W
    have CT : Hid (∀ W, Calls Tryd.prog 77 #[.string bh] W fun e w' => e = .returned (.string ⟨(Lib.trimS bh.data.toList blanks4).toArray⟩) ∧ Below W.heap.size W w') := fun W => implTrim bh W (by omega)
    have CN : Hid (∀ W, Calls Tryd.prog 73 #[.int .i64 2, .string nm] W fun e w' => e = .returned (.agg #[.int .i64 2, .string nm]) ∧ Below W.heap.size W w') := fun W => implNewToken 2 nm W hns
    have hElt : E + 1 ≤ s.size := by omega
    have hE0 : ¬ (E : Int) < 0 := by omega
    have hEu : (E : Int) ≤ 16777216 := by omega
    have hwr : IntKind.i64.wrap ((E : Int) + 1) = (E : Int) + 1 := by rw [IntKind.wrap_i64]; omega
    have hEa : (E : Int) + 1 ≤ (s.size : Int) := by omega
    have hEb : 0 ≤ (E : Int) + 1 := by omega
    have hEc : ((E : Int) + 1).toNat = E + 1 := by omega
    have HY : Hid ((s.extract (E + 1) s.size).data.toList = s.data.toList.drop (E + 1)) := drop_data s (E + 1)
    clear CI hc hsl hw hub hE hlen hup CC hnm hbh hnd hbd
    cases hok : nameOkB nm.data.toList with
    | false =>
      rw [hok] at CO
      have HR : Hid (closeI s.data.toList = noMR 2) := by have := HW.out; rw [hok, if_neg (by simp)] at this; exact this
      clear HW hok
      go_enter Tryd.func58, Tryd.ntmps58
      go_wp2_with fail
      refine (CI'.out _).mono ?_
      rintro e w' ⟨rfl, rfl⟩
      go_wp2_with fail
      refine (CC'.out _).mono ?_
      rintro e w1 ⟨rfl, b1⟩
      go_wp2_with fail
      refine (CO.out _).mono ?_
      rintro e w' ⟨rfl, rfl⟩
      go_wp2_with fail
      go_ret3
      exact PieceA.bad HR.out (by decide) b1
    | true =>
      rw [hok] at CO
      obtain ⟨tr, htr⟩ : ∃ x : ByteArray, (⟨(Lib.trimS bh.data.toList blanks4).toArray⟩ : ByteArray) = x := ⟨_, rfl⟩
      have htd : tr.data.toList = Lib.trimS bh.data.toList blanks4 := by rw [← htr]
      have htl : tr.data.toList.length = tr.size := by simp
      have hti := trim_none bh.data.toList
      rw [htr] at CT
      cases hal : bh.data.toList.all blkB with
      | false =>
        have HR : Hid (closeI s.data.toList = noMR 2) := by have := HW.out; rw [hok, hal, if_neg (by simp)] at this; exact this
        have hne : 0 < tr.size := by
          rw [← htl, htd]
          refine List.length_pos_iff.2 fun e => ?_
          have := hti.1 e
          rw [hal] at this
          cases this
        have hem := empty_no hne
        clear HW hok hal hti htl htd htr hne
        go_enter Tryd.func58, Tryd.ntmps58
        go_wp2_with fail
        refine (CI'.out _).mono ?_
        rintro e w' ⟨rfl, rfl⟩
        go_wp2_with fail
        refine (CC'.out _).mono ?_
        rintro e w1 ⟨rfl, b1⟩
        go_wp2_with fail
        refine (CO.out _).mono ?_
        rintro e w' ⟨rfl, rfl⟩
        go_wp2_with fail
        refine (CT.out _).mono ?_
        rintro e w2 ⟨rfl, b2⟩
        have B2 := b1.trans (b2.mono b1.size)
        go_wp2_with fail
        go_ret3
        exact PieceA.bad HR.out (by decide) B2
      | true =>
        have HR : Hid (closeI s.data.toList = ⟨[⟨2, nm⟩], E + 1, 0⟩) := by have := HW.out; rw [hok, hal, if_pos ⟨rfl, rfl⟩] at this; exact this
        have hz : tr.size = 0 := by rw [← htl, htd, hti.2 hal]; rfl
        have hem := empty_yes hz
        clear HW hok hal hti htl htd htr hz
        go_enter Tryd.func58, Tryd.ntmps58
        go_wp2_with fail
        refine (CI'.out _).mono ?_
        rintro e w' ⟨rfl, rfl⟩
        go_wp2_with fail
        refine (CC'.out _).mono ?_
        rintro e w1 ⟨rfl, b1⟩
        go_wp2_with fail
        refine (CO.out _).mono ?_
        rintro e w' ⟨rfl, rfl⟩
        go_wp2_with fail
        refine (CT.out _).mono ?_
        rintro e w2 ⟨rfl, b2⟩
        have B2 := b1.trans (b2.mono b1.size)
        clear b1 b2 CI' CC' CO CT
        go_wp2_with fail
        go_upto_region 7 with fail
        refine wp_region_held_drew (S := fun W => Below w.heap.size w W) (by kernel_rfl) B2.drew (fun h0 => ?_)
        clear B2
        refine wpAnyH_take (i := 0) (v := ?_) rfl (by kernel_rfl) (by kernel_rfl) (by kernel_rfl) (fun _ _ _ h => h) (Or.inl ⟨by rfl, fun W hW => ?_⟩) h0 ?_
        rotate_left
        · clear hW
          go_simp
          try with_reducible rfl
        simp only [Act.put, List.getElem_toArray, List.getElem_cons_zero, List.getElem_cons_succ, List.setIfInBounds_toArray, List.set_cons_zero, List.set_cons_succ]
        refine wpAnyH_take (i := 3) (v := ?_) rfl (by kernel_rfl) (by kernel_rfl) (by kernel_rfl) (fun _ _ _ h => h) (Or.inl ⟨by rfl, fun W hW => ?_⟩) h0 ?_
        rotate_left
        · clear hW
          go_simp
          try with_reducible rfl
        simp only [Act.put, List.getElem_toArray, List.getElem_cons_zero, List.getElem_cons_succ, List.setIfInBounds_toArray, List.set_cons_zero, List.set_cons_succ]
        refine wpAnyH_take (i := 4) (v := ?_) rfl (by kernel_rfl) (by kernel_rfl) (by kernel_rfl) (fun _ _ _ h => h) (Or.inl ⟨by rfl, fun W hW => ?_⟩) h0 ?_
        rotate_left
        · clear hW
          go_simp
          try with_reducible rfl
        simp only [Act.put, List.getElem_toArray, List.getElem_cons_zero, List.getElem_cons_succ, List.setIfInBounds_toArray, List.set_cons_zero, List.set_cons_succ]
        refine wpAnyH_take (i := 5) (v := ?_) rfl (by kernel_rfl) (by kernel_rfl) (by kernel_rfl) (fun _ _ _ h => h) (Or.inl ⟨by rfl, fun W hW => ?_⟩) h0 ?_
        rotate_left
        · clear hW
          go_simp
          try with_reducible rfl
        simp only [Act.put, List.getElem_toArray, List.getElem_cons_zero, List.getElem_cons_succ, List.setIfInBounds_toArray, List.set_cons_zero, List.set_cons_succ]
        refine wpAnyH_take (i := 6) (v := ?_) rfl (by kernel_rfl) (by kernel_rfl) (by kernel_rfl) (fun _ _ _ h => h) (Or.inl ⟨by rfl, fun W hW => ?_⟩) h0 ?_
        rotate_left
        · clear hW
          go_simp
          try with_reducible rfl
        simp only [Act.put, List.getElem_toArray, List.getElem_cons_zero, List.getElem_cons_succ, List.setIfInBounds_toArray, List.set_cons_zero, List.set_cons_succ]
        refine wpAnyH_ready (rs := [1]) (by kernel_rfl) (by simp) (AllReadyH.cons rfl (fun K hK => ?_) AllReadyH.nil)
        go_simp
        go_wp2_with (go_at_call 73; refine (CN.out _).mono ?_; rintro e w3 ⟨rfl, bq⟩)
        refine hK.out _ _ (h0.trans (bq.mono h0.size)) (fun h1 => ?_)
        clear hK K bq h0
        have hs1 := h1.size
        refine wpAnyH_ready (rs := [2]) (by kernel_rfl) (by simp) (AllReadyH.cons rfl (fun K hK => ?_) AllReadyH.nil)
        go_simp
        refine hK.out _ _ (h1.alloc h1.size _) (fun h2 => ?_)
        clear hK K h1
        refine wpAnyH_take (i := 7) (v := ?_) rfl (by kernel_rfl) (by kernel_rfl) (by kernel_rfl) (fun _ _ _ h => h) (Or.inl ⟨by rfl, fun W hW => ?_⟩) h2 ?_
        rotate_left
        · clear hW
          go_simp
          try with_reducible rfl
        simp only [Act.put, List.getElem_toArray, List.getElem_cons_zero, List.getElem_cons_succ, List.setIfInBounds_toArray, List.set_cons_zero, List.set_cons_succ]
        refine wpAnyH_take (i := 8) (v := ?_) rfl (by kernel_rfl) (by kernel_rfl) (by kernel_rfl) (fun _ _ _ h => h) (Or.inl ⟨by rfl, fun W hW => ?_⟩) h2 ?_
        rotate_left
        · clear hW
          go_simp
          try with_reducible rfl
        simp only [Act.put, List.getElem_toArray, List.getElem_cons_zero, List.getElem_cons_succ, List.setIfInBounds_toArray, List.set_cons_zero, List.set_cons_succ]
        refine wpAnyH_take (i := 9) (v := ?_) rfl (by kernel_rfl) (by kernel_rfl) (by kernel_rfl) (fun _ _ _ h => h) (Or.inl ⟨by rfl, fun W hW => ?_⟩) h2 ?_
        rotate_left
        · clear hW
          go_simp
          try with_reducible rfl
        simp only [Act.put, List.getElem_toArray, List.getElem_cons_zero, List.getElem_cons_succ, List.setIfInBounds_toArray, List.set_cons_zero, List.set_cons_succ]
        refine wpAnyH_done (by kernel_rfl) ?_ _
        go_wp2_with fail
        go_ret3
        rw [HR.out]
        exact ⟨_, _, rfl, own_tok1 w3 _ hs1 2 nm, fun _ => HY.out, h2⟩
end Go.Proofs.YtjdmmmohaiiocaaDoor

namespace Go.Proofs.YtjdmmmohaiiocaaDoor
open Go.RowKit
set_option linter.unusedVariables false
set_option linter.unusedSimpArgs false

theorem suf_last (l : List UInt8) : Lib.hasSuffix l [47] = decide (l.getLast? = some 47) := by
  unfold Lib.hasSuffix
  by_cases h : l.getLast? = some 47
  · rw [decide_eq_true h, List.isSuffixOf_iff_suffix]
    obtain ⟨t, ht⟩ := List.getLast?_eq_some_iff.1 h
    exact ⟨t, ht.symm⟩
  · rw [decide_eq_false h]
    cases hs : ([47] : List UInt8).isSuffixOf l with
    | false => rfl
    | true =>
      obtain ⟨t, ht⟩ := List.isSuffixOf_iff_suffix.1 hs
      exact absurd (List.getLast?_eq_some_iff.2 ⟨t, ht.symm⟩) h
set_option maxRecDepth 100000 in
set_option maxHeartbeats 4000000 in
theorem implReadOpen (s : ByteArray) (w : World) (hs : s.size ≤ 16777216) :
    Calls Tryd.prog 59 #[.string s] w fun e w' => PieceA w (openR s.data.toList) s.data.toList e w' := by
  have hsl : s.data.toList.length = s.size := by simp
  have CI := fun W => implMarkEnd s W hs
  have hw := open_way s.data.toList
  have hle := scQ_le s.data.toList 0
  by_cases hc : scQ 0 s.data.toList = s.data.toList.length
  · rw [endZ_none hc] at CI
    have CI' : Hid (∀ W, Calls Tryd.prog 78 #[.string s] W fun e w' => e = .returned (.int .i64 (-1)) ∧ W = w') := CI
    have HR : Hid (openR s.data.toList = noMR 1) := by show _ = _; rw [hw, if_pos hc]
    clear CI hc hsl hw hle
    go_enter Tryd.func59, Tryd.ntmps59
    go_wp2_with fail
    refine (CI'.out _).mono ?_
    rintro e w' ⟨rfl, rfl⟩
    go_wp2_with fail
    go_ret3
    exact PieceA.bad HR.out (by decide) (Below.refl _ _)
  · obtain ⟨E, hE⟩ : ∃ E, scQ 0 s.data.toList = E := ⟨_, rfl⟩
    rw [if_neg hc] at hw
    rw [hE] at hw hc hle
    have hEl : E < s.size := by omega
    rw [endZ_at hE (by omega)] at CI
    have CI' : Hid (∀ W, Calls Tryd.prog 78 #[.string s] W fun e w' => e = .returned (.int .i64 (E : Int)) ∧ W = w') := CI
    have hup : (s.extract 0 E).data.toList = s.data.toList.take E := take_data s E
    have CC := fun W => implCutName (s.extract 0 E) W (by simp; omega)
    rw [hup] at CC
    obtain ⟨nm, hnm⟩ : ∃ x : ByteArray, (⟨((s.data.toList.take E).takeWhile nmB).toArray⟩ : ByteArray) = x := ⟨_, rfl⟩
    obtain ⟨bt, hbt⟩ : ∃ x : ByteArray, (⟨((s.data.toList.take E).dropWhile nmB).toArray⟩ : ByteArray) = x := ⟨_, rfl⟩
    have hnd : nm.data.toList = (s.data.toList.take E).takeWhile nmB := by rw [← hnm]
    have hbd : bt.data.toList = (s.data.toList.take E).dropWhile nmB := by rw [← hbt]
    have htl : (s.data.toList.take E).length ≤ s.size := by rw [List.length_take]; omega
    have hns : nm.size ≤ 16777216 := by
      have h1 := (List.takeWhile_sublist nmB (l := s.data.toList.take E)).length_le
      have h2 : nm.size = nm.data.toList.length := by simp
      rw [h2, hnd]
      omega
    have hbs : bt.size ≤ 16777216 := by
      have h1 := (List.dropWhile_sublist nmB (l := s.data.toList.take E)).length_le
      have h2 : bt.size = bt.data.toList.length := by simp
      rw [h2, hbd]
      omega
    rw [hnm, hbt] at CC
    have CC' : Hid (∀ W, Calls Tryd.prog 75 #[.string (s.extract 0 E)] W fun e w' => e = .returned (.tuple #[.string nm, .string bt]) ∧ Below W.heap.size W w') := CC
    rw [← hnd, ← hbd] at hw
    have HW : Hid (openR s.data.toList = if nameOkB nm.data.toList = true ∧ badM bt.data.toList = false then ⟨⟨1, nm⟩ :: (if bt.data.toList.getLast? = some 47 then [⟨2, nm⟩] else []), E + 1, 0⟩ else noMR 2) := by
      show _ = _
      rw [hw]
      unfold bytesV
      rw [Lib.mk_data]
    have CO : Hid (∀ W, Calls Tryd.prog 76 #[.string nm] W fun e w' => e = .returned (.bool (nameOkB nm.data.toList)) ∧ W = w') := fun W => implNameOk nm W
    have CA : Hid (∀ W, Calls Tryd.prog 79 #[.string bt] W fun e w' => e = .returned (.bool (!badM bt.data.toList)) ∧ W = w') := fun W => implAfterOk bt W
    have CN : Hid (∀ (k : Int) (W : World), Calls Tryd.prog 73 #[.int .i64 k, .string nm] W fun e w' => e = .returned (.agg #[.int .i64 k, .string nm]) ∧ Below W.heap.size W w') := fun k W => implNewToken k nm W hns
    have CS : Hid (∀ W, Calls Tryd.prog 80 #[.string bt, .string ⟨#[47]⟩] W fun e w' => e = .returned (.bool (decide (bt.data.toList.getLast? = some 47))) ∧ W = w') := fun W => (Tryd.strings_HasSuffix bt ⟨#[47]⟩ W (by omega)).mono fun e w' h => ⟨by rw [h.1, show (⟨#[47]⟩ : ByteArray).data.toList = [47] from rfl, suf_last], h.2.symm⟩
    have hE0 : ¬ (E : Int) < 0 := by omega
    have hEu : (E : Int) ≤ 16777216 := by omega
    have hwr : IntKind.i64.wrap ((E : Int) + 1) = (E : Int) + 1 := by rw [IntKind.wrap_i64]; omega
    have hEa : (E : Int) + 1 ≤ (s.size : Int) := by omega
    have hEb : 0 ≤ (E : Int) + 1 := by omega
    have hEc : ((E : Int) + 1).toNat = E + 1 := by omega
    have HY : Hid ((s.extract (E + 1) s.size).data.toList = s.data.toList.drop (E + 1)) := drop_data s (E + 1)
    clear CI hc hsl hw hE hle hup CC hnm hbt hnd hbd htl
    cases hok : nameOkB nm.data.toList with
    | false =>
      rw [hok] at CO
      have HR : Hid (openR s.data.toList = noMR 2) := by have := HW.out; rw [hok, if_neg (by simp)] at this; exact this
      clear HW hok
      go_enter Tryd.func59, Tryd.ntmps59
      go_wp2_with fail
      refine (CI'.out _).mono ?_
      rintro e w' ⟨rfl, rfl⟩
      go_wp2_with fail
      refine (CC'.out _).mono ?_
      rintro e w1 ⟨rfl, b1⟩
      go_wp2_with fail
      refine (CO.out _).mono ?_
      rintro e w' ⟨rfl, rfl⟩
      go_wp2_with fail
      go_ret3
      exact PieceA.bad HR.out (by decide) b1
    | true =>
      rw [hok] at CO
      cases hbm : badM bt.data.toList with
      | true =>
        rw [hbm] at CA
        have HR : Hid (openR s.data.toList = noMR 2) := by have := HW.out; rw [hok, hbm, if_neg (by simp)] at this; exact this
        clear HW hok hbm
        go_enter Tryd.func59, Tryd.ntmps59
        go_wp2_with fail
        refine (CI'.out _).mono ?_
        rintro e w' ⟨rfl, rfl⟩
        go_wp2_with fail
        refine (CC'.out _).mono ?_
        rintro e w1 ⟨rfl, b1⟩
        go_wp2_with fail
        refine (CO.out _).mono ?_
        rintro e w' ⟨rfl, rfl⟩
        go_wp2_with fail
        refine (CA.out _).mono ?_
        rintro e w' ⟨rfl, rfl⟩
        go_wp2_with fail
        go_ret3
        exact PieceA.bad HR.out (by decide) b1
      | false =>
        rw [hbm] at CA
        by_cases hla : bt.data.toList.getLast? = some 47
        · rw [decide_eq_true hla] at CS
          have HR : Hid (openR s.data.toList = ⟨[⟨1, nm⟩, ⟨2, nm⟩], E + 1, 0⟩) := by have := HW.out; rw [hok, hbm, if_pos ⟨rfl, rfl⟩, if_pos hla] at this; exact this
          clear HW hok hbm hla
          go_enter Tryd.func59, Tryd.ntmps59
          go_wp2_with fail
          refine (CI'.out _).mono ?_
          rintro e w' ⟨rfl, rfl⟩
          go_wp2_with fail
          refine (CC'.out _).mono ?_
          rintro e w1 ⟨rfl, b1⟩
          go_wp2_with fail
          refine (CO.out _).mono ?_
          rintro e w' ⟨rfl, rfl⟩
          go_wp2_with fail
          refine (CA.out _).mono ?_
          rintro e w' ⟨rfl, rfl⟩
          go_wp2_with fail
          refine (CN.out _ _).mono ?_
          rintro e w2 ⟨rfl, b2⟩
          have B2 := b1.trans (b2.mono b1.size)
          obtain ⟨U, hU⟩ : ∃ U, U = w2.alloc (.cells #[.int .i64 1, .string nm] 33) := ⟨_, rfl⟩
          have O2 : Hid (U.ownsRow w2.heap.size 33 2 (.slice (some ⟨w2.heap.size, 0, none⟩) 1 1) 1 (tcells [⟨1, nm⟩])) := by rw [hU]; exact World.ownsRow_lit w2 #[.int .i64 1, .string nm] 1 (Nat.le_refl _) (by decide) rfl
          have BU : Below w.heap.size w U := by rw [hU]; exact B2.alloc B2.size _
          have hUs : w2.heap.size ≤ U.heap.size := by rw [hU]; simp
          have hws := B2.size
          clear b1 b2 B2
          go_upto_region 8 with fail
          rw [← hU]
          clear hU
          generalize w2.heap.size = D at *
          go_wp2_with fail
          refine (CS.out _).mono ?_
          rintro e w' ⟨rfl, rfl⟩
          go_wp2_with fail
          refine (CN.out _ _).mono ?_
          rintro e w3 ⟨rfl, b3⟩
          have B3 := BU.trans (b3.mono BU.size)
          have O3 : Hid (w3.ownsRow D 33 2 (.slice (some ⟨D, 0, none⟩) 1 1) 1 (tcells [⟨1, nm⟩])) := own_below O2.out b3
          have hs3 := b3.size
          clear b3 BU O2 CI' CC' CO CA CS CN
          have hq : TokRow _ _ _ := TokRow.of_own' (own_tok1 w3 _ (Nat.le_refl _) 2 nm)
          have hown := O3.out.alloc (.cells #[.int .i64 2, .string nm] 33)
          go_wp2_with (at_builtin; refine wpList_append_toks rfl _ _ 28 rfl D 33 (.agg #[.int .i64 0, .string ⟨#[]⟩]) 24 Tryd.underlying28 Tryd.infoTk rfl _ [⟨1, nm⟩] rfl hown _ [⟨2, nm⟩] rfl hq (show (1 + 1) * 24 ≤ 140737488355328 by decide) (show 1 + 1 ≤ maxLen by unfold maxLen; decide) (by simp; omega) ?_)
          intro v4 w4 o4 g4 _
          have R4 : TokRow w4 v4 [⟨1, nm⟩, ⟨2, nm⟩] := TokRow.of_own' o4
          have B4 : Below w.heap.size w w4 := (B3.alloc B3.size _).grown g4 (by simp; have := B3.size; omega) (fun b hb => by have := (O3.out.lt b hb).1; omega)
          obtain ⟨ao, co, rfl⟩ := R4.slice
          have W4 : w4.ownsRow w.heap.size 33 2 (.slice ao 2 co) ([⟨1, nm⟩, ⟨2, nm⟩] : List TV).length (tcells [⟨1, nm⟩, ⟨2, nm⟩]) := own_base o4 hws
          clear o4 g4 hown hq O3 B3
          go_upto_region 10 with fail
          refine wp_region_held_drew (S := fun W => Below w.heap.size w W ∧ W.ownsRow w.heap.size 33 2 (.slice ao 2 co) ([⟨1, nm⟩, ⟨2, nm⟩] : List TV).length (tcells [⟨1, nm⟩, ⟨2, nm⟩])) (by kernel_rfl) ⟨B4.drew, W4⟩ (fun h0 => ?_)
          clear B4 W4
          refine wpAnyH_take (i := 0) (v := ?_) rfl (by kernel_rfl) (by kernel_rfl) (by kernel_rfl) (fun _ _ _ h => h) (Or.inl ⟨by rfl, fun W hW => ?_⟩) h0 ?_
          rotate_left
          · clear hW
            go_simp
            try with_reducible rfl
          simp only [Act.put, List.getElem_toArray, List.getElem_cons_zero, List.getElem_cons_succ, List.setIfInBounds_toArray, List.set_cons_zero, List.set_cons_succ]
          refine wpAnyH_take (i := 1) (v := ?_) rfl (by kernel_rfl) (by kernel_rfl) (by kernel_rfl) (fun _ _ _ h => h) (Or.inl ⟨by rfl, fun W hW => ?_⟩) h0 ?_
          rotate_left
          · clear hW
            go_simp
            try with_reducible rfl
          simp only [Act.put, List.getElem_toArray, List.getElem_cons_zero, List.getElem_cons_succ, List.setIfInBounds_toArray, List.set_cons_zero, List.set_cons_succ]
          refine wpAnyH_take (i := 2) (v := ?_) rfl (by kernel_rfl) (by kernel_rfl) (by kernel_rfl) (fun _ _ _ h => h) (Or.inl ⟨by rfl, fun W hW => ?_⟩) h0 ?_
          rotate_left
          · clear hW
            go_simp
            try with_reducible rfl
          simp only [Act.put, List.getElem_toArray, List.getElem_cons_zero, List.getElem_cons_succ, List.setIfInBounds_toArray, List.set_cons_zero, List.set_cons_succ]
          refine wpAnyH_take (i := 3) (v := ?_) rfl (by kernel_rfl) (by kernel_rfl) (by kernel_rfl) (fun _ _ _ h => h) (Or.inl ⟨by rfl, fun W hW => ?_⟩) h0 ?_
          rotate_left
          · clear hW
            go_simp
            try with_reducible rfl
          simp only [Act.put, List.getElem_toArray, List.getElem_cons_zero, List.getElem_cons_succ, List.setIfInBounds_toArray, List.set_cons_zero, List.set_cons_succ]
          refine wpAnyH_take (i := 4) (v := ?_) rfl (by kernel_rfl) (by kernel_rfl) (by kernel_rfl) (fun _ _ _ h => h) (Or.inl ⟨by rfl, fun W hW => ?_⟩) h0 ?_
          rotate_left
          · clear hW
            go_simp
            try with_reducible rfl
          simp only [Act.put, List.getElem_toArray, List.getElem_cons_zero, List.getElem_cons_succ, List.setIfInBounds_toArray, List.set_cons_zero, List.set_cons_succ]
          refine wpAnyH_take (i := 5) (v := ?_) rfl (by kernel_rfl) (by kernel_rfl) (by kernel_rfl) (fun _ _ _ h => h) (Or.inl ⟨by rfl, fun W hW => ?_⟩) h0 ?_
          rotate_left
          · clear hW
            go_simp
            try with_reducible rfl
          simp only [Act.put, List.getElem_toArray, List.getElem_cons_zero, List.getElem_cons_succ, List.setIfInBounds_toArray, List.set_cons_zero, List.set_cons_succ]
          refine wpAnyH_take (i := 6) (v := ?_) rfl (by kernel_rfl) (by kernel_rfl) (by kernel_rfl) (fun _ _ _ h => h) (Or.inl ⟨by rfl, fun W hW => ?_⟩) h0 ?_
          rotate_left
          · clear hW
            go_simp
            try with_reducible rfl
          simp only [Act.put, List.getElem_toArray, List.getElem_cons_zero, List.getElem_cons_succ, List.setIfInBounds_toArray, List.set_cons_zero, List.set_cons_succ]
          refine wpAnyH_take (i := 7) (v := ?_) rfl (by kernel_rfl) (by kernel_rfl) (by kernel_rfl) (fun _ _ _ h => h) (Or.inl ⟨by rfl, fun W hW => ?_⟩) h0 ?_
          rotate_left
          · clear hW
            go_simp
            try with_reducible rfl
          simp only [Act.put, List.getElem_toArray, List.getElem_cons_zero, List.getElem_cons_succ, List.setIfInBounds_toArray, List.set_cons_zero, List.set_cons_succ]
          refine wpAnyH_done (by kernel_rfl) ?_ _
          go_wp2_with fail
          go_ret3
          rw [HR.out]
          exact ⟨_, _, rfl, h0.2, fun _ => HY.out, h0.1⟩
        · rw [decide_eq_false hla] at CS
          have HR : Hid (openR s.data.toList = ⟨[⟨1, nm⟩], E + 1, 0⟩) := by have := HW.out; rw [hok, hbm, if_pos ⟨rfl, rfl⟩, if_neg hla] at this; exact this
          clear HW hok hbm hla
          go_enter Tryd.func59, Tryd.ntmps59
          go_wp2_with fail
          refine (CI'.out _).mono ?_
          rintro e w' ⟨rfl, rfl⟩
          go_wp2_with fail
          refine (CC'.out _).mono ?_
          rintro e w1 ⟨rfl, b1⟩
          go_wp2_with fail
          refine (CO.out _).mono ?_
          rintro e w' ⟨rfl, rfl⟩
          go_wp2_with fail
          refine (CA.out _).mono ?_
          rintro e w' ⟨rfl, rfl⟩
          go_wp2_with fail
          refine (CN.out _ _).mono ?_
          rintro e w2 ⟨rfl, b2⟩
          have B2 := b1.trans (b2.mono b1.size)
          obtain ⟨U, hU⟩ : ∃ U, U = w2.alloc (.cells #[.int .i64 1, .string nm] 33) := ⟨_, rfl⟩
          have R2 : U.ownsRow w.heap.size 33 2 (.slice (some ⟨w2.heap.size, 0, none⟩) 1 1) ([⟨1, nm⟩] : List TV).length (tcells [⟨1, nm⟩]) := by rw [hU]; exact own_tok1 w2 _ B2.size 1 nm
          have BU : Below w.heap.size w U := by rw [hU]; exact B2.alloc B2.size _
          clear b1 b2 B2
          go_upto_region 8 with fail
          rw [← hU]
          clear hU
          generalize w2.heap.size = D at *
          go_wp2_with fail
          refine (CS.out _).mono ?_
          rintro e w' ⟨rfl, rfl⟩
          clear CI' CC' CO CA CS CN
          go_upto_region 10 with fail
          refine wp_region_held_drew (S := fun W => Below w.heap.size w W ∧ W.ownsRow w.heap.size 33 2 (.slice (some ⟨D, 0, none⟩) 1 1) ([⟨1, nm⟩] : List TV).length (tcells [⟨1, nm⟩])) (by kernel_rfl) ⟨BU.drew, R2⟩ (fun h0 => ?_)
          clear BU R2
          refine wpAnyH_take (i := 0) (v := ?_) rfl (by kernel_rfl) (by kernel_rfl) (by kernel_rfl) (fun _ _ _ h => h) (Or.inl ⟨by rfl, fun W hW => ?_⟩) h0 ?_
          rotate_left
          · clear hW
            go_simp
            try with_reducible rfl
          simp only [Act.put, List.getElem_toArray, List.getElem_cons_zero, List.getElem_cons_succ, List.setIfInBounds_toArray, List.set_cons_zero, List.set_cons_succ]
          refine wpAnyH_take (i := 1) (v := ?_) rfl (by kernel_rfl) (by kernel_rfl) (by kernel_rfl) (fun _ _ _ h => h) (Or.inl ⟨by rfl, fun W hW => ?_⟩) h0 ?_
          rotate_left
          · clear hW
            go_simp
            try with_reducible rfl
          simp only [Act.put, List.getElem_toArray, List.getElem_cons_zero, List.getElem_cons_succ, List.setIfInBounds_toArray, List.set_cons_zero, List.set_cons_succ]
          refine wpAnyH_take (i := 2) (v := ?_) rfl (by kernel_rfl) (by kernel_rfl) (by kernel_rfl) (fun _ _ _ h => h) (Or.inl ⟨by rfl, fun W hW => ?_⟩) h0 ?_
          rotate_left
          · clear hW
            go_simp
            try with_reducible rfl
          simp only [Act.put, List.getElem_toArray, List.getElem_cons_zero, List.getElem_cons_succ, List.setIfInBounds_toArray, List.set_cons_zero, List.set_cons_succ]
          refine wpAnyH_take (i := 3) (v := ?_) rfl (by kernel_rfl) (by kernel_rfl) (by kernel_rfl) (fun _ _ _ h => h) (Or.inl ⟨by rfl, fun W hW => ?_⟩) h0 ?_
          rotate_left
          · clear hW
            go_simp
            try with_reducible rfl
          simp only [Act.put, List.getElem_toArray, List.getElem_cons_zero, List.getElem_cons_succ, List.setIfInBounds_toArray, List.set_cons_zero, List.set_cons_succ]
          refine wpAnyH_take (i := 4) (v := ?_) rfl (by kernel_rfl) (by kernel_rfl) (by kernel_rfl) (fun _ _ _ h => h) (Or.inl ⟨by rfl, fun W hW => ?_⟩) h0 ?_
          rotate_left
          · clear hW
            go_simp
            try with_reducible rfl
          simp only [Act.put, List.getElem_toArray, List.getElem_cons_zero, List.getElem_cons_succ, List.setIfInBounds_toArray, List.set_cons_zero, List.set_cons_succ]
          refine wpAnyH_take (i := 5) (v := ?_) rfl (by kernel_rfl) (by kernel_rfl) (by kernel_rfl) (fun _ _ _ h => h) (Or.inl ⟨by rfl, fun W hW => ?_⟩) h0 ?_
          rotate_left
          · clear hW
            go_simp
            try with_reducible rfl
          simp only [Act.put, List.getElem_toArray, List.getElem_cons_zero, List.getElem_cons_succ, List.setIfInBounds_toArray, List.set_cons_zero, List.set_cons_succ]
          refine wpAnyH_take (i := 6) (v := ?_) rfl (by kernel_rfl) (by kernel_rfl) (by kernel_rfl) (fun _ _ _ h => h) (Or.inl ⟨by rfl, fun W hW => ?_⟩) h0 ?_
          rotate_left
          · clear hW
            go_simp
            try with_reducible rfl
          simp only [Act.put, List.getElem_toArray, List.getElem_cons_zero, List.getElem_cons_succ, List.setIfInBounds_toArray, List.set_cons_zero, List.set_cons_succ]
          refine wpAnyH_take (i := 7) (v := ?_) rfl (by kernel_rfl) (by kernel_rfl) (by kernel_rfl) (fun _ _ _ h => h) (Or.inl ⟨by rfl, fun W hW => ?_⟩) h0 ?_
          rotate_left
          · clear hW
            go_simp
            try with_reducible rfl
          simp only [Act.put, List.getElem_toArray, List.getElem_cons_zero, List.getElem_cons_succ, List.setIfInBounds_toArray, List.set_cons_zero, List.set_cons_succ]
          refine wpAnyH_done (by kernel_rfl) ?_ _
          go_wp2_with fail
          go_ret3
          rw [HR.out]
          exact ⟨_, _, rfl, h0.2, fun _ => HY.out, h0.1⟩
end Go.Proofs.YtjdmmmohaiiocaaDoor

namespace Go.Proofs.YtjdmmmohaiiocaaDoor
open Go.RowKit
set_option linter.unusedVariables false
set_option linter.unusedSimpArgs false

theorem byte_whole (s : ByteArray) : s.extract 0 s.size = s := by
  have h := take_data s s.size
  rw [List.take_of_length_le (by simp)] at h
  cases s
  rw [← Lib.mk_data (ByteArray.extract _ _ _), h]
/-- A text up to the next mark. -/
def textR (r : List UInt8) : MR := match unF (upB 60 r) with
  | some t => ⟨[⟨3, bytesV t⟩], (upB 60 r).length, 0⟩
  | none => noMR 2
set_option maxRecDepth 100000 in
set_option maxHeartbeats 2000000 in
theorem implReadText (s : ByteArray) (w : World) (hs : s.size ≤ 16777216) (hE : Esc w) :
    Calls Tryd.prog 60 #[.string s] w fun e w' => PieceA w (textR s.data.toList) s.data.toList e w' := by
  have hsl : s.data.toList.length = s.size := by simp
  obtain ⟨E, hEq⟩ : ∃ E, (upB 60 s.data.toList).length = E := ⟨_, rfl⟩
  have hup : (s.extract 0 E).data.toList = upB 60 s.data.toList := by
    rw [take_data, ← hEq]
    unfold upB
    exact take_tw _ _
  have hEl : E ≤ s.size := by
    have := (List.takeWhile_sublist (fun x : UInt8 => x != 60) (l := s.data.toList)).length_le
    unfold upB at hEq
    omega
  have HEs : Hid (Esc w) := hE
  have CU := fun W (hW : Below w.heap.size w W) => implUnescape (s.extract 0 E) W (by simp; omega) (HEs.out.later hW)
  rw [hup] at CU
  have HY : Hid ((s.extract E s.size).data.toList = s.data.toList.drop E) := drop_data s E
  have CI : ∃ z : Int, Hid (∀ W, Calls Tryd.prog 81 #[.string s, .string ⟨#[60]⟩] W fun e w' => e = .returned (.int .i64 z) ∧ W = w') ∧ (z = (E : Int) ∨ (z = -1 ∧ s.size = E)) := by
    refine ⟨if s.data.toList.contains 60 then ((upB 60 s.data.toList).length : Int) else -1, fun W => (Tryd.strings_Index_one s 60 W).mono fun e w' h => ⟨by rw [h.1, ← Lib.index_one, index_while], h.2.symm⟩, ?_⟩
    cases hc : s.data.toList.contains 60 with
    | true => exact .inl (by rw [if_pos rfl, hEq])
    | false =>
      refine .inr ⟨rfl, ?_⟩
      rw [← hEq, ((up_beh 60 s.data.toList).2.1 hc).1, hsl]
  obtain ⟨z, CI', hz⟩ := CI
  have hEu : (E : Int) ≤ 16777216 := by omega
  have hEa : (E : Int) ≤ (s.size : Int) := by omega
  have hE0 : 0 ≤ (E : Int) := by omega
  clear hE
  cases hu : unF (upB 60 s.data.toList) with
  | none =>
    rw [hu] at CU
    have HR : Hid (textR s.data.toList = noMR 2) := by show _ = _; unfold textR; rw [hu]
    have CU' : Hid (∀ W, Below w.heap.size w W → Calls Tryd.prog 11 #[.string (s.extract 0 E)] W fun e w' => e = .returned (.tuple #[.string ⟨#[]⟩, .bool false]) ∧ Below W.heap.size W w') := CU
    clear CU hu hup hEq hsl
    rcases hz with rfl | ⟨rfl, hz2⟩
    · have hzz : ¬ (E : Int) < 0 := by omega
      go_enter Tryd.func60, Tryd.ntmps60
      go_wp2_with fail
      refine (CI'.out _).mono ?_
      rintro e w' ⟨rfl, rfl⟩
      go_wp2_with fail
      refine (CU'.out _ (Below.refl _ _)).mono ?_
      rintro e w1 ⟨rfl, b1⟩
      go_wp2_with fail
      go_ret3
      exact PieceA.bad HR.out (by decide) b1
    · have hex : s.extract 0 E = s := by rw [← hz2]; exact byte_whole s
      rw [hex] at CU'
      clear hex
      go_enter Tryd.func60, Tryd.ntmps60
      go_wp2_with fail
      refine (CI'.out _).mono ?_
      rintro e w' ⟨rfl, rfl⟩
      clear hEa hE0 hEu
      have HZ2 : Hid (s.size = E) := hz2
      clear hz2
      go_wp2_with fail
      refine (CU'.out _ (Below.refl _ _)).mono ?_
      rintro e w1 ⟨rfl, b1⟩
      go_wp2_with fail
      go_ret3
      exact PieceA.bad HR.out (by decide) b1
  | some t =>
    rw [hu] at CU
    obtain ⟨x, hx⟩ : ∃ x : ByteArray, (⟨t.toArray⟩ : ByteArray) = x := ⟨_, rfl⟩
    have HR : Hid (textR s.data.toList = ⟨[⟨3, x⟩], E, 0⟩) := by show _ = _; unfold textR; rw [hu, ← hx, ← hEq]; rfl
    have CU' : Hid (∀ W, Below w.heap.size w W → Calls Tryd.prog 11 #[.string (s.extract 0 E)] W fun e w' => e = .returned (.tuple #[.string x, .bool true]) ∧ Below W.heap.size W w') := by rw [← hx]; exact CU
    clear CU hu hup hEq hsl hx
    rcases hz with rfl | ⟨rfl, hz2⟩
    · have hzz : ¬ (E : Int) < 0 := by omega
      go_enter Tryd.func60, Tryd.ntmps60
      go_wp2_with fail
      refine (CI'.out _).mono ?_
      rintro e w' ⟨rfl, rfl⟩
      go_wp2_with fail
      refine (CU'.out _ (Below.refl _ _)).mono ?_
      rintro e w1 ⟨rfl, b1⟩
      clear CI' CU' HEs
      go_upto_region 7 with fail
      refine wp_region_held_drew (S := fun W => Below w.heap.size w W) (by kernel_rfl) b1.drew (fun h0 => ?_)
      clear b1
      refine wpAnyH_take (i := 0) (v := ?_) rfl (by kernel_rfl) (by kernel_rfl) (by kernel_rfl) (fun _ _ _ h => h) (Or.inl ⟨by rfl, fun W hW => ?_⟩) h0 ?_
      rotate_left
      · clear hW
        go_simp
        try with_reducible rfl
      simp only [Act.put, List.getElem_toArray, List.getElem_cons_zero, List.getElem_cons_succ, List.setIfInBounds_toArray, List.set_cons_zero, List.set_cons_succ]
      refine wpAnyH_take (i := 1) (v := ?_) rfl (by kernel_rfl) (by kernel_rfl) (by kernel_rfl) (fun _ _ _ h => h) (Or.inl ⟨by rfl, fun W hW => ?_⟩) h0 ?_
      rotate_left
      · clear hW
        go_simp
        try with_reducible rfl
      simp only [Act.put, List.getElem_toArray, List.getElem_cons_zero, List.getElem_cons_succ, List.setIfInBounds_toArray, List.set_cons_zero, List.set_cons_succ]
      refine wpAnyH_take (i := 3) (v := ?_) rfl (by kernel_rfl) (by kernel_rfl) (by kernel_rfl) (fun _ _ _ h => h) (Or.inl ⟨by rfl, fun W hW => ?_⟩) h0 ?_
      rotate_left
      · clear hW
        go_simp
        try with_reducible rfl
      simp only [Act.put, List.getElem_toArray, List.getElem_cons_zero, List.getElem_cons_succ, List.setIfInBounds_toArray, List.set_cons_zero, List.set_cons_succ]
      refine wpAnyH_take (i := 4) (v := ?_) rfl (by kernel_rfl) (by kernel_rfl) (by kernel_rfl) (fun _ _ _ h => h) (Or.inl ⟨by rfl, fun W hW => ?_⟩) h0 ?_
      rotate_left
      · clear hW
        go_simp
        try with_reducible rfl
      simp only [Act.put, List.getElem_toArray, List.getElem_cons_zero, List.getElem_cons_succ, List.setIfInBounds_toArray, List.set_cons_zero, List.set_cons_succ]
      refine wpAnyH_take (i := 5) (v := ?_) rfl (by kernel_rfl) (by kernel_rfl) (by kernel_rfl) (fun _ _ _ h => h) (Or.inl ⟨by rfl, fun W hW => ?_⟩) h0 ?_
      rotate_left
      · clear hW
        go_simp
        try with_reducible rfl
      simp only [Act.put, List.getElem_toArray, List.getElem_cons_zero, List.getElem_cons_succ, List.setIfInBounds_toArray, List.set_cons_zero, List.set_cons_succ]
      have hs1 := h0.size
      refine wpAnyH_ready (rs := [2]) (by kernel_rfl) (by simp) (AllReadyH.cons rfl (fun K hK => ?_) AllReadyH.nil)
      go_simp
      refine hK.out _ _ (h0.alloc h0.size _) (fun h2 => ?_)
      clear hK K h0
      refine wpAnyH_take (i := 6) (v := ?_) rfl (by kernel_rfl) (by kernel_rfl) (by kernel_rfl) (fun _ _ _ h => h) (Or.inl ⟨by rfl, fun W hW => ?_⟩) h2 ?_
      rotate_left
      · clear hW
        go_simp
        try with_reducible rfl
      simp only [Act.put, List.getElem_toArray, List.getElem_cons_zero, List.getElem_cons_succ, List.setIfInBounds_toArray, List.set_cons_zero, List.set_cons_succ]
      refine wpAnyH_take (i := 7) (v := ?_) rfl (by kernel_rfl) (by kernel_rfl) (by kernel_rfl) (fun _ _ _ h => h) (Or.inl ⟨by rfl, fun W hW => ?_⟩) h2 ?_
      rotate_left
      · clear hW
        go_simp
        try with_reducible rfl
      simp only [Act.put, List.getElem_toArray, List.getElem_cons_zero, List.getElem_cons_succ, List.setIfInBounds_toArray, List.set_cons_zero, List.set_cons_succ]
      refine wpAnyH_take (i := 8) (v := ?_) rfl (by kernel_rfl) (by kernel_rfl) (by kernel_rfl) (fun _ _ _ h => h) (Or.inl ⟨by rfl, fun W hW => ?_⟩) h2 ?_
      rotate_left
      · clear hW
        go_simp
        try with_reducible rfl
      simp only [Act.put, List.getElem_toArray, List.getElem_cons_zero, List.getElem_cons_succ, List.setIfInBounds_toArray, List.set_cons_zero, List.set_cons_succ]
      refine wpAnyH_done (by kernel_rfl) ?_ _
      go_wp2_with fail
      go_ret3
      rw [HR.out]
      exact ⟨_, _, rfl, own_tok1 _ _ hs1 3 x, fun _ => HY.out, h2⟩
    · have hex : s.extract 0 E = s := by rw [← hz2]; exact byte_whole s
      rw [hex] at CU'
      clear hex
      go_enter Tryd.func60, Tryd.ntmps60
      go_wp2_with fail
      refine (CI'.out _).mono ?_
      rintro e w' ⟨rfl, rfl⟩
      clear hEa hE0 hEu
      have HZ2 : Hid (s.size = E) := hz2
      clear hz2
      go_wp2_with fail
      refine (CU'.out _ (Below.refl _ _)).mono ?_
      rintro e w1 ⟨rfl, b1⟩
      clear CI' CU' HEs
      have HYE : Hid (ByteArray.empty.data.toList = s.data.toList.drop E) := by
        show _ = _
        rw [List.drop_eq_nil_of_le (by rw [← HZ2.out]; simp)]
        rfl
      go_upto_region 7 with fail
      refine wp_region_held_drew (S := fun W => Below w.heap.size w W) (by kernel_rfl) b1.drew (fun h0 => ?_)
      clear b1
      refine wpAnyH_take (i := 0) (v := ?_) rfl (by kernel_rfl) (by kernel_rfl) (by kernel_rfl) (fun _ _ _ h => h) (Or.inl ⟨by rfl, fun W hW => ?_⟩) h0 ?_
      rotate_left
      · clear hW
        go_simp
        try with_reducible rfl
      simp only [Act.put, List.getElem_toArray, List.getElem_cons_zero, List.getElem_cons_succ, List.setIfInBounds_toArray, List.set_cons_zero, List.set_cons_succ]
      refine wpAnyH_take (i := 1) (v := ?_) rfl (by kernel_rfl) (by kernel_rfl) (by kernel_rfl) (fun _ _ _ h => h) (Or.inl ⟨by rfl, fun W hW => ?_⟩) h0 ?_
      rotate_left
      · clear hW
        go_simp
        try with_reducible rfl
      simp only [Act.put, List.getElem_toArray, List.getElem_cons_zero, List.getElem_cons_succ, List.setIfInBounds_toArray, List.set_cons_zero, List.set_cons_succ]
      refine wpAnyH_take (i := 3) (v := ?_) rfl (by kernel_rfl) (by kernel_rfl) (by kernel_rfl) (fun _ _ _ h => h) (Or.inl ⟨by rfl, fun W hW => ?_⟩) h0 ?_
      rotate_left
      · clear hW
        go_simp
        try with_reducible rfl
      simp only [Act.put, List.getElem_toArray, List.getElem_cons_zero, List.getElem_cons_succ, List.setIfInBounds_toArray, List.set_cons_zero, List.set_cons_succ]
      refine wpAnyH_take (i := 4) (v := ?_) rfl (by kernel_rfl) (by kernel_rfl) (by kernel_rfl) (fun _ _ _ h => h) (Or.inl ⟨by rfl, fun W hW => ?_⟩) h0 ?_
      rotate_left
      · clear hW
        go_simp
        try with_reducible rfl
      simp only [Act.put, List.getElem_toArray, List.getElem_cons_zero, List.getElem_cons_succ, List.setIfInBounds_toArray, List.set_cons_zero, List.set_cons_succ]
      refine wpAnyH_take (i := 5) (v := ?_) rfl (by kernel_rfl) (by kernel_rfl) (by kernel_rfl) (fun _ _ _ h => h) (Or.inl ⟨by rfl, fun W hW => ?_⟩) h0 ?_
      rotate_left
      · clear hW
        go_simp
        try with_reducible rfl
      simp only [Act.put, List.getElem_toArray, List.getElem_cons_zero, List.getElem_cons_succ, List.setIfInBounds_toArray, List.set_cons_zero, List.set_cons_succ]
      have hs1 := h0.size
      refine wpAnyH_ready (rs := [2]) (by kernel_rfl) (by simp) (AllReadyH.cons rfl (fun K hK => ?_) AllReadyH.nil)
      go_simp
      refine hK.out _ _ (h0.alloc h0.size _) (fun h2 => ?_)
      clear hK K h0
      refine wpAnyH_take (i := 6) (v := ?_) rfl (by kernel_rfl) (by kernel_rfl) (by kernel_rfl) (fun _ _ _ h => h) (Or.inl ⟨by rfl, fun W hW => ?_⟩) h2 ?_
      rotate_left
      · clear hW
        go_simp
        try with_reducible rfl
      simp only [Act.put, List.getElem_toArray, List.getElem_cons_zero, List.getElem_cons_succ, List.setIfInBounds_toArray, List.set_cons_zero, List.set_cons_succ]
      refine wpAnyH_take (i := 7) (v := ?_) rfl (by kernel_rfl) (by kernel_rfl) (by kernel_rfl) (fun _ _ _ h => h) (Or.inl ⟨by rfl, fun W hW => ?_⟩) h2 ?_
      rotate_left
      · clear hW
        go_simp
        try with_reducible rfl
      simp only [Act.put, List.getElem_toArray, List.getElem_cons_zero, List.getElem_cons_succ, List.setIfInBounds_toArray, List.set_cons_zero, List.set_cons_succ]
      refine wpAnyH_take (i := 8) (v := ?_) rfl (by kernel_rfl) (by kernel_rfl) (by kernel_rfl) (fun _ _ _ h => h) (Or.inl ⟨by rfl, fun W hW => ?_⟩) h2 ?_
      rotate_left
      · clear hW
        go_simp
        try with_reducible rfl
      simp only [Act.put, List.getElem_toArray, List.getElem_cons_zero, List.getElem_cons_succ, List.setIfInBounds_toArray, List.set_cons_zero, List.set_cons_succ]
      refine wpAnyH_done (by kernel_rfl) ?_ _
      go_wp2_with fail
      go_ret3
      rw [HR.out]
      exact ⟨_, _, rfl, own_tok1 _ _ hs1 3 x, fun _ => HYE.out, h2⟩
theorem PieceA.shift {W w' : World} {m : MR} {r : List UInt8} {e : Ending} (k : Nat) (h : PieceA W m (r.drop k) e w') : PieceA W (shMR k m) r e w' := by
  obtain ⟨v, y, h1, h2, h3, h4⟩ := h
  refine ⟨v, y, h1, h2, fun hc => ?_, h4⟩
  rw [h3 hc, List.drop_drop]
  rfl
theorem PieceA.named {W w' : World} {m : MR} {r : List UInt8} {e : Ending} (h : PieceA W m r e w') : ∃ (c : Int) (v : Value) (y : ByteArray), e = .returned (.tuple #[v, .string y, .int .i64 c]) ∧ Hid (PieceA W m r (.returned (.tuple #[v, .string y, .int .i64 c])) w') := by
  obtain ⟨v, y, rfl, h2⟩ := h
  exact ⟨_, v, y, rfl, v, y, rfl, h2⟩
theorem step_chain (r : List UInt8) : stepI r =
    if Lib.hasPrefix r [60, 33, 45, 45] = true then shMR 4 (skipR (r.drop 4) [45, 45, 62])
    else if Lib.hasPrefix r [60, 63] = true then shMR 2 (skipR (r.drop 2) [63, 62])
    else if Lib.hasPrefix r [60, 33, 91, 67, 68, 65, 84, 65, 91] = true then shMR 9 (cdataR (r.drop 9))
    else if Lib.hasPrefix r [60, 47] = true then shMR 2 (closeI (r.drop 2))
    else if Lib.hasPrefix r [60] = true then shMR 1 (openR (r.drop 1))
    else textR r := by
  have two : ∀ (a b : UInt8) (p : List UInt8), b ≠ 47 → Lib.hasPrefix r (a :: b :: p) = true → Lib.hasPrefix r [60, 47] = false := fun a b p hb h => by
    unfold Lib.hasPrefix at h ⊢
    obtain ⟨t, ht⟩ := List.isPrefixOf_iff_prefix.1 h
    rw [← ht]
    simp [List.isPrefixOf]
    exact fun _ e => hb e.symm
  have hh : ∀ p, Lib.hasPrefix r (60 :: p) = true → r.head? = some 60 := fun p h => by
    unfold Lib.hasPrefix at h
    obtain ⟨t, ht⟩ := List.isPrefixOf_iff_prefix.1 h
    rw [← ht]
    rfl
  unfold stepI
  cases h1 : Lib.hasPrefix r [60, 33, 45, 45] with
  | true => rw [two _ _ _ (by decide) h1, if_neg (by decide), if_pos rfl, step_mark13 (hh _ h1)]; unfold markR; rw [if_pos h1]
  | false =>
    rw [if_neg (show ¬ (false = true) by decide)]
    cases h2 : Lib.hasPrefix r [60, 63] with
    | true => rw [two _ _ _ (by decide) h2, if_neg (by decide), if_pos rfl, step_mark13 (hh _ h2)]; unfold markR; rw [if_neg (by rw [h1]; decide), if_pos h2]
    | false =>
      rw [if_neg (show ¬ (false = true) by decide)]
      cases h3 : Lib.hasPrefix r [60, 33, 91, 67, 68, 65, 84, 65, 91] with
      | true => rw [two _ _ _ (by decide) h3, if_neg (by decide), if_pos rfl, step_mark13 (hh _ h3)]; unfold markR; rw [if_neg (by rw [h1]; decide), if_neg (by rw [h2]; decide), if_pos h3]
      | false =>
        rw [if_neg (show ¬ (false = true) by decide)]
        cases h4 : Lib.hasPrefix r [60, 47] with
        | true => rw [if_pos rfl, if_pos rfl]
        | false =>
          rw [if_neg (by decide), if_neg (by decide)]
          cases h5 : Lib.hasPrefix r [60] with
          | true => rw [if_pos rfl, step_mark13 (hh _ h5)]; unfold markR; rw [if_neg (by rw [h1]; decide), if_neg (by rw [h2]; decide), if_neg (by rw [h3]; decide), if_neg (by rw [h4]; decide)]
          | false =>
            rw [if_neg (by decide), step_text13 (fun e => ?_)]
            · rfl
            · cases r with
              | nil => cases e
              | cons c t =>
                rw [List.head?_cons] at e
                injection e with e
                subst e
                simp [Lib.hasPrefix, List.isPrefixOf] at h5
theorem pre_parts (s p : ByteArray) : ∃ (x : ByteArray), Hid (∀ W, Calls Tryd.prog 52 #[.string s, .string p] W fun e w' => e = .returned (.tuple #[.string x, .bool (Lib.hasPrefix s.data.toList p.data.toList)]) ∧ W = w') ∧ (Lib.hasPrefix s.data.toList p.data.toList = true → x.data.toList = s.data.toList.drop p.data.toList.length) ∧ x.size ≤ s.size := by
  refine ⟨⟨(Lib.trimPrefix s.data.toList p.data.toList).toArray⟩, fun W => (Tryd.strings_CutPrefix s p W).mono fun e w' h => ⟨h.1, h.2.symm⟩, fun h => ?_, ?_⟩
  · show Lib.trimPrefix s.data.toList p.data.toList = _
    unfold Lib.trimPrefix
    rw [if_pos h]
  · show (Lib.trimPrefix s.data.toList p.data.toList).length ≤ _
    have hl : s.data.toList.length = s.size := by simp
    unfold Lib.trimPrefix
    split
    · rw [List.length_drop]; omega
    · omega
set_option maxRecDepth 100000 in
set_option maxHeartbeats 4000000 in
theorem implReadPiece (s : ByteArray) (w : World) (hs : s.size ≤ 16777216) (hE : Esc w) (hM : MaxI w) :
    Calls Tryd.prog 41 #[.string s] w fun e w' => PieceA w (stepI s.data.toList) s.data.toList e w' := by
  have HE : Hid (Esc w) := hE
  have HM : Hid (MaxI w) := hM
  have hch := step_chain s.data.toList
  obtain ⟨x1, P1, q1, z1⟩ := pre_parts s ⟨#[60, 33, 45, 45]⟩
  obtain ⟨x2, P2, q2, z2⟩ := pre_parts s ⟨#[60, 63]⟩
  obtain ⟨x3, P3, q3, z3⟩ := pre_parts s ⟨#[60, 33, 91, 67, 68, 65, 84, 65, 91]⟩
  obtain ⟨x4, P4, q4, z4⟩ := pre_parts s ⟨#[60, 47]⟩
  obtain ⟨x5, P5, q5, z5⟩ := pre_parts s ⟨#[60]⟩
  have C1 : Hid (Lib.hasPrefix s.data.toList [60, 33, 45, 45] = true → Calls Tryd.prog 56 #[.string x1, .string ⟨#[45, 45, 62]⟩] w fun e w' => PieceA w (shMR 4 (skipR (s.data.toList.drop 4) [45, 45, 62])) s.data.toList e w') := fun h => (implPassed x1 ⟨#[45, 45, 62]⟩ w (by omega) hM).mono fun e w' hp => by rw [q1 h] at hp; exact hp.shift 4
  have C2 : Hid (Lib.hasPrefix s.data.toList [60, 63] = true → Calls Tryd.prog 56 #[.string x2, .string ⟨#[63, 62]⟩] w fun e w' => PieceA w (shMR 2 (skipR (s.data.toList.drop 2) [63, 62])) s.data.toList e w') := fun h => (implPassed x2 ⟨#[63, 62]⟩ w (by omega) hM).mono fun e w' hp => by rw [q2 h] at hp; exact hp.shift 2
  have C3 : Hid (Lib.hasPrefix s.data.toList [60, 33, 91, 67, 68, 65, 84, 65, 91] = true → Calls Tryd.prog 57 #[.string x3] w fun e w' => PieceA w (shMR 9 (cdataR (s.data.toList.drop 9))) s.data.toList e w') := fun h => (implCData x3 w (by omega) hM).mono fun e w' hp => by rw [q3 h] at hp; exact hp.shift 9
  have C4 : Hid (Lib.hasPrefix s.data.toList [60, 47] = true → Calls Tryd.prog 58 #[.string x4] w fun e w' => PieceA w (shMR 2 (closeI (s.data.toList.drop 2))) s.data.toList e w') := fun h => (implReadClose x4 w (by omega)).mono fun e w' hp => by rw [q4 h] at hp; exact hp.shift 2
  have C5 : Hid (Lib.hasPrefix s.data.toList [60] = true → Calls Tryd.prog 59 #[.string x5] w fun e w' => PieceA w (shMR 1 (openR (s.data.toList.drop 1))) s.data.toList e w') := fun h => (implReadOpen x5 w (by omega)).mono fun e w' hp => by rw [q5 h] at hp; exact hp.shift 1
  have C6 : Hid (Calls Tryd.prog 60 #[.string s] w fun e w' => PieceA w (textR s.data.toList) s.data.toList e w') := implReadText s w hs hE
  clear hE hM q1 q2 q3 q4 q5 HE HM
  change Hid (∀ W, Calls _ _ _ W fun e w' => e = .returned (.tuple #[.string x1, .bool (Lib.hasPrefix s.data.toList [60, 33, 45, 45])]) ∧ W = w') at P1
  change Hid (∀ W, Calls _ _ _ W fun e w' => e = .returned (.tuple #[.string x2, .bool (Lib.hasPrefix s.data.toList [60, 63])]) ∧ W = w') at P2
  change Hid (∀ W, Calls _ _ _ W fun e w' => e = .returned (.tuple #[.string x3, .bool (Lib.hasPrefix s.data.toList [60, 33, 91, 67, 68, 65, 84, 65, 91])]) ∧ W = w') at P3
  change Hid (∀ W, Calls _ _ _ W fun e w' => e = .returned (.tuple #[.string x4, .bool (Lib.hasPrefix s.data.toList [60, 47])]) ∧ W = w') at P4
  change Hid (∀ W, Calls _ _ _ W fun e w' => e = .returned (.tuple #[.string x5, .bool (Lib.hasPrefix s.data.toList [60])]) ∧ W = w') at P5
  rw [hch]
  clear hch
  generalize Lib.hasPrefix s.data.toList [60, 33, 45, 45] = b1 at *
  generalize Lib.hasPrefix s.data.toList [60, 63] = b2 at *
  generalize Lib.hasPrefix s.data.toList [60, 33, 91, 67, 68, 65, 84, 65, 91] = b3 at *
  generalize Lib.hasPrefix s.data.toList [60, 47] = b4 at *
  generalize Lib.hasPrefix s.data.toList [60] = b5 at *
  generalize shMR 1 (openR (s.data.toList.drop 1)) = m5 at *
  go_enter Tryd.func41, Tryd.ntmps41
  cases b1 with
  | true =>
    go_wp2_with fail
    refine (P1.out _).mono ?_
    rintro e w' ⟨rfl, rfl⟩
    go_wp2_with fail
    refine (C1.out trivial).mono ?_
    rintro e w' hA
    obtain ⟨c, v, y, rfl, HA⟩ := hA.named
    clear hA
    go_wp2_with fail
    go_ret3
    exact HA.out
  | false =>
    go_wp2_with fail
    refine (P1.out _).mono ?_
    rintro e w' ⟨rfl, rfl⟩
    cases b2 with
    | true =>
      go_wp2_with fail
      refine (P2.out _).mono ?_
      rintro e w' ⟨rfl, rfl⟩
      go_wp2_with fail
      refine (C2.out trivial).mono ?_
      rintro e w' hA
      obtain ⟨c, v, y, rfl, HA⟩ := hA.named
      clear hA
      go_wp2_with fail
      go_ret3
      exact HA.out
    | false =>
      go_wp2_with fail
      refine (P2.out _).mono ?_
      rintro e w' ⟨rfl, rfl⟩
      cases b3 with
      | true =>
        go_wp2_with fail
        refine (P3.out _).mono ?_
        rintro e w' ⟨rfl, rfl⟩
        go_wp2_with fail
        refine (C3.out trivial).mono ?_
        rintro e w' hA
        obtain ⟨c, v, y, rfl, HA⟩ := hA.named
        clear hA
        go_wp2_with fail
        go_ret3
        exact HA.out
      | false =>
        go_wp2_with fail
        refine (P3.out _).mono ?_
        rintro e w' ⟨rfl, rfl⟩
        cases b4 with
        | true =>
          go_wp2_with fail
          refine (P4.out _).mono ?_
          rintro e w' ⟨rfl, rfl⟩
          go_wp2_with fail
          refine (C4.out trivial).mono ?_
          rintro e w' hA
          obtain ⟨c, v, y, rfl, HA⟩ := hA.named
          clear hA
          go_wp2_with fail
          go_ret3
          exact HA.out
        | false =>
          go_wp2_with fail
          refine (P4.out _).mono ?_
          rintro e w' ⟨rfl, rfl⟩
          cases b5 with
          | true =>
            go_wp2_with fail
            refine (P5.out _).mono ?_
            rintro e w' ⟨rfl, rfl⟩
            go_wp2_with fail
            refine (C5.out trivial).mono ?_
            rintro e w' hA
            obtain ⟨c, v, y, rfl, HA⟩ := hA.named
            clear hA
            go_wp2_with fail
            go_ret3
            exact HA.out
          | false =>
            go_wp2_with fail
            refine (P5.out _).mono ?_
            rintro e w' ⟨rfl, rfl⟩
            go_wp2_with fail
            refine C6.out.mono ?_
            rintro e w' hA
            obtain ⟨c, v, y, rfl, HA⟩ := hA.named
            clear hA
            go_wp2_with fail
            go_ret3
            exact HA.out
end Go.Proofs.YtjdmmmohaiiocaaDoor

namespace Go.Proofs.YtjdmmmohaiiocaaDoor
open Go.RowKit Go.Shelf
attribute [local go_sem] Oper.semAt_some
set_option linter.unusedVariables false
set_option linter.unusedSimpArgs false

/-- What a round is handed: a token and a code. -/
abbrev TX := TV × Int
def encT (x : TX) : Array Value := #[.agg #[.int .i64 x.1.k, .string x.1.s], .int .i64 x.2]
def goods (l : List TV) : List TX := l.map fun t => (t, 0)
theorem goods_snoc (l : List TV) (t : TV) : goods l ++ [(t, 0)] = goods (l ++ [t]) := by unfold goods; simp
theorem goods_len (l : List TV) : (goods l).length = l.length := by unfold goods; simp
/-- The block is no row that the variable at b holds. -/
def NotRow (b : Nat) (W : World) (g : Nat) : Prop := ∀ v, W.cell? ⟨b, 0, none⟩ = some v → v.ownBlock ≠ some g
/-- The row that the variable at b holds is there. -/
def RowIn (b : Nat) (W : World) : Prop := ∀ v k, W.cell? ⟨b, 0, none⟩ = some v → v.ownBlock = some k → k < W.heap.size
def IsC (W : World) (g : Nat) : Prop := ∃ o : Obj, W.heap[g]? = some o ∧ o.isCells = true
/-- What a round keeps: all below B, and from L on every block of cells but its own row. -/
def KpT (B L b : Nat) (W W' : World) : Prop := Below B W W' ∧ (RowIn b W → RowIn b W' ∧ ∀ g, L ≤ g → IsC W g → NotRow b W g → (W'.heap[g]? = W.heap[g]? ∧ NotRow b W' g))
theorem IsC.lt {W : World} {g : Nat} (h : IsC W g) : g < W.heap.size := by
  obtain ⟨o, h1, _⟩ := h
  exact (Array.getElem?_eq_some_iff.1 h1).1
theorem kpT_t {B L b : Nat} {X Y Z : World} (h : KpT B L b X Y) (k : KpT B L b Y Z) : KpT B L b X Z := by
  refine ⟨h.1.trans k.1, fun hr => ?_⟩
  obtain ⟨r1, h1⟩ := h.2 hr
  obtain ⟨r2, h2⟩ := k.2 r1
  refine ⟨r2, fun g hg hc hn => ?_⟩
  obtain ⟨e1, n1⟩ := h1 g hg hc hn
  obtain ⟨o, ho, hoc⟩ := hc
  obtain ⟨e2, n2⟩ := h2 g hg ⟨o, e1.trans ho, hoc⟩ n1
  exact ⟨e2.trans e1, n2⟩
theorem kpT_below {B L b : Nat} {W W' : World} (hB : B ≤ W.heap.size) (hb : b < W.heap.size) (h : Below W.heap.size W W') : KpT B L b W W' := by
  have hc : W'.cell? ⟨b, 0, none⟩ = W.cell? ⟨b, 0, none⟩ := h.cell (p := ⟨b, 0, none⟩) hb
  refine ⟨h.mono hB, fun hr => ⟨fun v k hv hk => ?_, fun g hg hcs hn => ⟨h.block g hcs.lt, fun v hv => hn v (hc ▸ hv)⟩⟩⟩
  have := hr v k (hc ▸ hv) hk
  have := h.size
  omega
theorem kpT_b {B L b : Nat} {w : World} (hn : B ≤ w.heap.size) (hb : b < w.heap.size) (W : World) (l : Nat) (o o' : Obj) (hl : w.heap.size ≤ l) (h : W.heap[l]? = some o) (ho : o.isCells = false) (hw : o.isWalk = false) : KpT B L b W (W.putObj l o') := by
  have hg := grownBy_putObj' W l o'
  have hlt := (Array.getElem?_eq_some_iff.1 h).1
  have hc : (W.putObj l o').cell? ⟨b, 0, none⟩ = W.cell? ⟨b, 0, none⟩ := World.cell?_of_block (a := ⟨b, 0, none⟩) (hg.block b (by omega) (fun e => by injection e with e; omega))
  refine ⟨belowK_b hn W l o o' hl h ho hw, fun hr => ⟨fun v k hv hk => ?_, fun g hg1 hcs hn1 => ⟨hg.block g hcs.lt (fun e => ?_), fun v hv => hn1 v (hc ▸ hv)⟩⟩⟩
  · have := hr v k (hc ▸ hv) hk
    have := hg.size
    omega
  · injection e with e
    obtain ⟨o2, h2, h3⟩ := hcs
    rw [e, h] at h2
    cases h2
    rw [ho] at h3
    cases h3
/-- What comes when the text is read with a fault. -/
def FaultL (r : List UInt8) (xs : List TX) : Prop := ∃ (l : List TV) (c : Nat), xs = goods l ++ [(tv0, (c : Int))] ∧ c ≠ 0 ∧ tokH [] r = ([], c)
def AllT (r : List UInt8) (xs : List TX) : Prop := (∃ l, xs = goods l ∧ tokH [] r = (l, 0)) ∨ FaultL r xs
def PartT (r : List UInt8) (xs : List TX) : Prop := (∃ l, xs = goods l) ∨ FaultL r xs
theorem grow_none {W W' : World} (b : Below W.heap.size W W') : W.grownBy W' none := ⟨b.os, b.tape, b.output, b.size, fun k hk _ => b.block k hk⟩
theorem stepI_two {r : List UInt8} (h : (stepI r).code = 0) : (stepI r).ts.length ≤ 2 := by
  have e := stepI_back h
  rw [e] at h ⊢
  exact step_two _ h
set_option maxHeartbeats 1000000 in
theorem implTokensOf (n : Nat) (s : ByteArray) (w : World) :
    CallsIn Fence.wide n Tryd.prog 26 #[.string s] w fun e w' => e = .returned (.func (.func 40) #[] #[.pointer (some ⟨w.heap.size, 0, none⟩)]) ∧ w' = w.alloc (.cells #[.string s] 9) := by
  refine callsIn_of_wp Tryd.func26 rfl trivial ?_ rfl
  simp only [Tryd.ntmps26, List.size_toArray, List.length_cons, List.length_nil, Nat.reduceAdd, Nat.reduceSub, Array.replicate_succ, Array.replicate_zero, List.push_toArray, List.append_toArray, List.nil_append, List.cons_append]
  gi_wp2
  go_ret
  exact ⟨rfl, rfl⟩
set_option maxRecDepth 100000 in
set_option maxHeartbeats 4000000 in
theorem implTokensOf1 (n : Nat) (hn : 1 ≤ n) (Bs B L b : Nat) (s : ByteArray) (w : World) (hs : s.size ≤ 16777216) (hE : Esc w) (hM : MaxI w) (hB : B ≤ w.heap.size) (hL : L ≤ w.heap.size) (hEB : 0 < B) (hMB : 1 < B) (hb : b < w.heap.size) (hr : RowIn b w) (hBs : w.cell? ⟨Bs, 0, none⟩ = some (.string s)) (hBl : Bs < w.heap.size) :
    SeqStopsK Fence.wide n Tryd.prog 40 #[.pointer (some ⟨Bs, 0, none⟩)] encT (KpT B L b) (AllT s.data.toList) (PartT s.data.toList) (2 * s.size + 2) w := fun l J Jx W hW hJ hJx hY h0 => by
  have HY : Hid (∀ pre x W1, J pre W1 → pre.length < 2 * s.size + 2 → YieldAt Fence.wide (n - 1) Tryd.prog l (encT x) W1 fun e W' => (e = .returned (.bool true) ∧ J (pre ++ [x]) W' ∧ KpT B L b W1 W') ∨ (e = .returned (.bool false) ∧ Jx (pre ++ [x]) W')) := hY
  have HJ : Hid (∀ pre W1 W2, J pre W1 → Below W1.heap.size W1 W2 → J pre W2) := fun pre W1 W2 h hb => hJ pre W1 W2 none h (grow_none hb) (fun r e => by cases e)
  have HRP : Hid (∀ (y : ByteArray) (W1 : World), y.size ≤ s.size → Below B w W1 → Calls Tryd.prog 41 #[.string y] W1 fun e w' => PieceA W1 (stepI y.data.toList) y.data.toList e w') := fun y W1 hy hW1 => implReadPiece y W1 (by omega) (hE.below hEB hW1) (by
    obtain ⟨m, hm⟩ := hM
    exact ⟨m, (hW1.cell (p := ⟨1, 0, none⟩) hMB).trans hm⟩)
  have hc0 : W.cell? ⟨Bs, 0, none⟩ = some (.string s) := (hW.cell (p := ⟨Bs, 0, none⟩) hBl).trans hBs
  have BW : Below B w W := hW.mono hB
  have RW : Hid (RowIn b W) := fun v k hv hk => by
    rw [hW.cell (p := ⟨b, 0, none⟩) hb] at hv
    have := hr v k hv hk
    have := hW.size
    omega
  have hWs := hW.size
  clear hY hJ hJx hE hM hW hr hBs
  refine callsIn_of_wp Tryd.func40 rfl trivial ?_ rfl
  simp only [Tryd.ntmps40, List.size_toArray, List.length_cons, List.length_nil, Nat.reduceAdd, Nat.reduceSub, Array.replicate_succ, Array.replicate_zero, List.push_toArray, List.append_toArray, List.nil_append, List.cons_append]
  gi_wp2
  gi_loopw [3] (fun p wr => ∃ (y : ByteArray) (acc : List TV), p = .string y ∧ y.size ≤ s.size ∧ acc.length + 2 * y.size ≤ 2 * s.size ∧ Hid (tokH [] s.data.toList = tokH acc y.data.toList) ∧ J (goods acc) wr ∧ Below B w wr ∧ Hid (RowIn b wr) ∧ w.heap.size ≤ wr.heap.size) (fun p _ => match p with | .string y => y.size | _ => 0)
  case atStart => exact ⟨s, [], rfl, Nat.le_refl _, by simp, rfl, h0, BW, RW, hWs⟩
  case round =>
    obtain ⟨y, acc, rfl, hy, hacc, HT, hJ1, hB1, RI, hsz⟩ := hrel
    by_cases hy0 : y.size = 0
    · have hem := empty_yes hy0
      have HF : Hid (tokH [] s.data.toList = (acc, 0)) := by
        show _ = _
        rw [HT.out, List.eq_nil_of_length_eq_zero (l := y.data.toList) (by simpa using hy0), tokH_nil]
      gi_wp2
      go_end0
      exact ⟨⟨_, rfl⟩, .inl ⟨_, .inl ⟨acc, rfl, HF.out⟩, hJ1⟩⟩
    · have hem := empty_no (Nat.pos_of_ne_zero hy0)
      have hne : y.data.toList ≠ [] := fun e => hy0 (by have : y.data.toList.length = y.size := by simp
                                                        rw [← this, e]; rfl)
      have hyl : y.data.toList.length = y.size := by simp
      obtain ⟨m, hm⟩ : ∃ m, stepI y.data.toList = m := ⟨_, rfl⟩
      have hRP := HRP.out y wr hy hB1
      rw [hm] at hRP
      have CP := hidU hRP
      have HBad : Hid (m.code ≠ 0 → tokH [] s.data.toList = ([], m.code)) := fun hc => by
        rw [HT.out, ← hm]
        exact tokH_bad hne (by rw [hm]; exact hc)
      have HGood : Hid (m.code = 0 → tokH [] s.data.toList = tokH (acc ++ m.ts) (y.data.toList.drop m.n) ∧ m.ts.length ≤ 2 ∧ 1 ≤ m.n ∧ m.n ≤ y.size) := fun hc => by
        have h1 := stepI_le hne (by rw [hm]; exact hc)
        have h2 := stepI_two (r := y.data.toList) (by rw [hm]; exact hc)
        have h3 := tokH_next (acc := acc) hne (by rw [hm]; exact hc)
        rw [hm] at h1 h2 h3
        exact ⟨by rw [HT.out, h3], h2, h1.1, by omega⟩
      have hbw : b < wr.heap.size := by omega
      clear hRP hm hne hyl HT hy0 HRP
      gi_wp2_with fail
      refine ⟨trivial, ?_⟩
      refine (callsIn_wide.2 CP.out).mono ?_
      rintro e w1 ⟨v, z, rfl, o1, hz, b1⟩
      have B1 : Below B w w1 := hB1.trans (b1.mono (by omega))
      have J1 := HJ.out _ _ _ hJ1 b1
      have K1 := kpT_below (B := B) (L := L) (b := b) (by omega) hbw b1
      have R1 : Hid (RowIn b w1) := (K1.2 RI.out).1
      have hs1 := b1.size
      have hcb : w1.cell? ⟨b, 0, none⟩ = wr.cell? ⟨b, 0, none⟩ := b1.cell (p := ⟨b, 0, none⟩) hbw
      have HNR : Hid (∀ g, wr.heap.size ≤ g → NotRow b w1 g) := fun g hg v hv e => by
        rw [hcb] at hv
        have := RI.out v g hv e
        omega
      have HZ := hidU hz
      have O1 := hidU o1
      clear K1 b1 hcb hz o1 hJ1 RI CP hB1
      by_cases hc : m.code = 0
      · obtain ⟨g1, g2, g3, g4⟩ := HGood.out hc
        have HG1 := hidU g1
        have HZ2 : Hid (z.data.toList = y.data.toList.drop m.n) := HZ.out hc
        have hzs : z.size + m.n = y.size := by
          have h1 := congrArg List.length HZ2.out
          rw [List.length_drop] at h1
          have h2 : z.data.toList.length = z.size := by simp
          have h3 : y.data.toList.length = y.size := by simp
          omega
        rw [hc]
        clear g1 HGood HBad HZ hc
        generalize m.n = mn at *
        generalize m.ts = T at *
        by_cases hT0 : T.length = 0
        · obtain rfl : T = [] := List.eq_nil_of_length_eq_zero hT0
          rw [List.append_nil] at HG1
          obtain ⟨ao, cp, rfl⟩ : ∃ ao cp, v = .slice ao 0 cp := by
            rcases O1.out.2 with ⟨rfl, _⟩ | ⟨g, cap, cur, rfl, _⟩
            · exact ⟨_, _, rfl⟩
            · exact ⟨_, _, rfl⟩
          have HG2 : Hid (tokH [] s.data.toList = tokH acc z.data.toList) := by show _ = _; rw [HG1.out, HZ2.out]
          clear O1 HG1 HZ2 hT0 HY
          gi_wp2_with fail
          refine wpIn_loop_rounds 1 ?_
          rw [roundsIn_succ]
          gi_wp2_with fail
          go_roundw
          case rel => exact ⟨z, acc, rfl, by omega, by omega, HG2, J1, B1, R1, by omega⟩
          case measure => show z.size < y.size; omega
        · obtain ⟨g, cp, cur, rfl, hgB, hgh⟩ : ∃ g cp cur, v = .slice (some ⟨g, 0, none⟩) T.length cp ∧ wr.heap.size ≤ g ∧ w1.heap[g]? = some (.cells cur 33 (0, 0)) := by
            rcases O1.out.2 with ⟨_, h⟩ | ⟨g, cap, cur, h1, h2, h3, _⟩
            · exact absurd h hT0
            · exact ⟨g, cap, cur, h1, h2, h3⟩
          have HCells : Hid (∀ k, k < T.length → w1.cell? ⟨g, k * 2, none⟩ = some (.int .i64 (T.getD k tv0).k) ∧ w1.cell? ⟨g, k * 2 + 1, none⟩ = some (.string (T.getD k tv0).s)) := fun k hk => by
            obtain ⟨e1, e2⟩ := tcells_at T k hk
            exact ⟨(O1.out.cellAt (k * 2) (by omega)).trans e1, (O1.out.cellAt (k * 2 + 1) (by omega)).trans e2⟩
          have HGC : Hid (∀ W2 : World, W2.heap[g]? = w1.heap[g]? → IsC W2 g) := fun W2 h => ⟨_, h.trans hgh, rfl⟩
          have N1 : Hid (NotRow b w1 g) := HNR.out g hgB
          have HG2 : Hid (tokH [] s.data.toList = tokH (acc ++ T) z.data.toList) := by show _ = _; rw [HG1.out, HZ2.out]
          have HTL : Hid (0 < T.length) := by show _ < _; omega
          clear O1 HG1 HZ2 HNR hgh hT0
          gi_wp2_with fail
          generalize wr.heap.size = D0 at *
          gi_loopw [26] (fun i wx => ∃ k : Nat, k ≤ T.length ∧ i = .int .i64 (k : Int) ∧ J (goods (acc ++ T.take k)) wx ∧ Below B w wx ∧ Hid (RowIn b wx) ∧ w1.heap.size ≤ wx.heap.size ∧ Hid (wx.heap[g]? = w1.heap[g]?) ∧ Hid (NotRow b wx g)) (fun i _ => T.length - (intOf i).toNat)
          case atStart => exact ⟨0, Nat.zero_le _, rfl, by rw [List.take_zero, List.append_nil]; exact J1, B1, R1, Nat.le_refl _, rfl, N1⟩
          case round =>
            obtain ⟨k, hk, rfl, hJx1, hBx, Rx, hsx, HSame, Nx⟩ := hrel
            by_cases hlt : k < T.length
            · have hki : (k : Int) < T.length := by omega
              obtain ⟨c1, c2⟩ := HCells.out k hlt
              have c1w := (World.cell?_of_block (a := ⟨g, k * 2, none⟩) HSame.out).trans c1
              have c2w := (World.cell?_of_block (a := ⟨g, k * 2 + 1, none⟩) HSame.out).trans c2
              have HTk : Hid (acc ++ T.take k ++ [T.getD k tv0] = acc ++ T.take (k + 1)) := by
                show _ = _
                rw [List.append_assoc, List.take_add_one, List.getD_eq_getElem?_getD, List.getElem?_eq_getElem hlt]
                rfl
              obtain ⟨t, ht⟩ : ∃ t, T.getD k tv0 = t := ⟨_, rfl⟩
              rw [ht] at c1w c2w HTk
              clear c1 c2 ht
              obtain ⟨U, hU⟩ : ∃ U, U = wr.alloc (.cells #[.int .i64 t.k, .string t.s] 33) := ⟨_, rfl⟩
              have bU : Below wr.heap.size wr U := by rw [hU]; exact (Below.refl _ _).alloc (Nat.le_refl _) _
              have d0 : U.cell? ⟨wr.heap.size, 0, none⟩ = some (.int .i64 t.k) := by rw [hU, World.cell?_alloc_at _ _ _ _ rfl]; rfl
              have d1 : U.cell? ⟨wr.heap.size, 1, none⟩ = some (.string t.s) := by rw [hU, World.cell?_alloc_at _ _ _ _ rfl]; rfl
              have JU := HJ.out _ _ _ hJx1 bU
              have KU := kpT_below (B := B) (L := L) (b := b) (by omega) (by omega) bU
              have hlen : (goods (acc ++ T.take k)).length < 2 * s.size + 2 := by
                rw [goods_len, List.length_append, List.length_take]
                omega
              obtain ⟨fn, tmps, assign, body, hyy, hR⟩ := (show YieldAt Fence.wide (n - 1) Tryd.prog l #[.agg #[.int .i64 t.k, .string t.s], .int .i64 0] U _ from HY.out (goods (acc ++ T.take k)) (t, 0) U JU hlen)
              have HAft : Hid (∀ W3, KpT B L b U W3 → Below B w W3 ∧ RowIn b W3 ∧ w1.heap.size ≤ W3.heap.size ∧ W3.heap[g]? = w1.heap[g]? ∧ NotRow b W3 g) := fun W3 hk3 => by
                have hKK := kpT_t KU hk3
                obtain ⟨r1, r2⟩ := hKK.2 Rx.out
                obtain ⟨q1, q2⟩ := r2 g (by omega) (HGC.out wr HSame.out) Nx.out
                have := hKK.1.size
                exact ⟨hBx.trans hKK.1, r1, by omega, q1.trans HSame.out, q2⟩
              subst hU
              clear bU JU KU
              gi_wp2_with fail
              refine hR.mono ?_
              rintro e W3 (⟨rfl, hJ3, hk3⟩ | ⟨rfl, hJx3⟩)
              · obtain ⟨q1, q2, q3, q4, q5⟩ := HAft.out W3 hk3
                rw [goods_snoc, HTk.out] at hJ3
                gi_wp2_with fail
                go_roundw
                case rel => exact ⟨k + 1, by omega, by go_num, hJ3, q1, q2, q3, q4, q5⟩
                case measure => simp [intOf] <;> omega
              · rw [goods_snoc, HTk.out] at hJx3
                gi_wp2_with fail
                refine bodyPost_ret (results_none rfl _ _ _) rfl ?_
                exact ⟨⟨_, rfl⟩, .inr ⟨_, .inl ⟨_, rfl⟩, hJx3⟩⟩
            · have hki : ¬ (k : Int) < T.length := by omega
              obtain rfl : k = T.length := by omega
              rw [List.take_length] at hJx1
              clear HY HCells
              gi_wp2_with fail
              go_roundw
              case rel => exact ⟨z, acc ++ T, rfl, by omega, by rw [List.length_append]; omega, HG2, hJx1, hBx, Rx, by omega⟩
              case measure => show z.size < y.size; omega
      · have hci : ((m.code : Int) != 0) = true := bne_iff_ne.2 (by omega)
        have HF := hidU (HBad.out hc)
        obtain ⟨fn, tmps, assign, body, hyy, hR⟩ := (show YieldAt Fence.wide (n - 1) Tryd.prog l #[.agg #[.int .i64 0, .string ⟨#[]⟩], .int .i64 (m.code : Int)] w1 _ from HY.out (goods acc) (tv0, (m.code : Int)) w1 J1 (by rw [goods_len]; omega))
        have HC := hidU hc
        clear HBad HGood HZ O1 hc
        generalize m.code = mc at *
        gi_wp2_with fail
        refine hR.mono ?_
        rintro e W3 (⟨rfl, hJ3, hk3⟩ | ⟨rfl, hJx3⟩)
        · gi_wp2
          refine bodyPost_ret (results_none rfl _ _ _) rfl ?_
          exact ⟨⟨_, rfl⟩, .inl ⟨_, .inr ⟨acc, mc, rfl, HC.out, HF.out⟩, hJ3⟩⟩
        · gi_wp2
          refine bodyPost_ret (results_none rfl _ _ _) rfl ?_
          exact ⟨⟨_, rfl⟩, .inr ⟨_, .inr ⟨acc, mc, rfl, HC.out, HF.out⟩, hJx3⟩⟩
end Go.Proofs.YtjdmmmohaiiocaaDoor

namespace Go.Proofs.YtjdmmmohaiiocaaDoor
open Go.RowKit Go.Shelf
attribute [local go_sem] Oper.semAt_some
set_option linter.unusedVariables false
set_option linter.unusedSimpArgs false

theorem tbox_keep {W V : World} {row : Option Nat} {b : Nat} {t : TypeId} {v : Value} (h : Boxed W b t v) (hg : W.grownBy V row) (hr : ∀ r, row = some r → ∃ o : Obj, W.heap[r]? = some o ∧ o.isCells = false) : Boxed V b t v := by
  refine h.kept hg fun e => ?_
  obtain ⟨o, ho, hc⟩ := hr b e.symm
  rw [show W.heap[b]? = _ from h] at ho
  cases ho
  cases hc
theorem trow_keep {W V : World} {row : Option Nat} {B : Nat} {e : TypeId} {z : Nat} {v : Value} {n : Nat} {xs : List Value} (h : W.ownsRow B e z v n xs) (hg : W.grownBy V row) (hr : ∀ r, row = some r → ∃ o : Obj, W.heap[r]? = some o ∧ o.isCells = false) : V.ownsRow B e z v n xs := by
  refine h.kept hg ?_
  rcases h.2 with ⟨rfl, _⟩ | ⟨g, cap, cur, rfl, _, hgb, _⟩
  · exact .inl rfl
  · refine .inr fun e' => ?_
    obtain ⟨o, ho, hc⟩ := hr g (by simpa [Value.ownBlock] using e'.symm)
    rw [hgb] at ho
    cases ho
    cases hc
theorem tbelow_keep {B b : Nat} {w W V : World} {row : Option Nat} (h : Below B w W) (hg : W.grownBy V row) (hB : B ≤ b) (hs : B ≤ w.heap.size) (hr : ∀ r, row = some r → b ≤ r ∧ ∃ o : Obj, W.heap[r]? = some o ∧ o.isCells = false) : Below B w V :=
  h.grown hg (Nat.le_trans hs h.size) (fun k e => Nat.le_trans hB (hr k e).1)
/-- What stands between two rounds: the results' boxes, the row so far, the outcome. -/
def TokI (B b1 b3 b4 : Nat) (w : World) (pre : List TX) (W : World) : Prop :=
  (∀ x ∈ pre, x.2 = 0) ∧ ∃ (n g cap : Nat) (z : Int), n = min pre.length 3000 ∧ z = (if 3000 < pre.length then 3 else 0) ∧ Boxed W B 28 (.slice none 0 0) ∧ Boxed W b1 3 (.int .i64 0) ∧ Boxed W b3 28 (.slice (some ⟨g, 0, none⟩) n cap) ∧
    W.ownsRow B 33 2 (.slice (some ⟨g, 0, none⟩) n cap) n (tcells ((pre.map (·.1)).take 3000)) ∧ Boxed W b4 3 (.int .i64 z) ∧ Below B w W
/-- A round has left: a fault. -/
def TokX (B b1 : Nat) (w : World) (c : Code) (pre : List TX) (W : World) : Prop :=
  c = .ret ∧ (∃ (p : List TX) (x : TX) (g : Nat), pre = p ++ [x] ∧ x.2 ≠ 0 ∧ Boxed W B 28 (.slice (some ⟨g, 0, none⟩) 0 0) ∧ W.ownsRow B 33 2 (.slice (some ⟨g, 0, none⟩) 0 0) 0 [] ∧ Boxed W b1 3 (.int .i64 x.2)) ∧ Below B w W
def Tok2 (W : World) (Bx : Nat) (t : TV) : Prop := W.heap[Bx]? = some (.cells #[.int .i64 t.k, .string t.s] 33 (0, 0))
theorem tokI_own {B b1 b3 b4 b : Nat} {w : World} (hB : B ≤ b) (hs : B ≤ w.heap.size) : OwnFrom b (TokI B b1 b3 b4 w) := by
  rintro pre W V row ⟨h0, n, g, cap, z, hn, hz, h1, h2, h3, h4, h5, h6⟩ hg hr
  have hr' := fun r e => (hr r e).2
  exact ⟨h0, n, g, cap, z, hn, hz, tbox_keep h1 hg hr', tbox_keep h2 hg hr', tbox_keep h3 hg hr', trow_keep h4 hg hr', tbox_keep h5 hg hr', tbelow_keep h6 hg hB hs hr⟩
theorem tokX_own {B b1 b : Nat} {w : World} (hB : B ≤ b) (hs : B ≤ w.heap.size) (c : Code) : OwnFrom b (TokX B b1 w c) := by
  rintro pre W V row ⟨h0, ⟨p, x, g, hp, hx, h1, h2, h3⟩, h6⟩ hg hr
  have hr' := fun r e => (hr r e).2
  exact ⟨h0, ⟨p, x, g, hp, hx, tbox_keep h1 hg hr', trow_keep h2 hg hr', tbox_keep h3 hg hr'⟩, tbelow_keep h6 hg hB hs hr⟩
theorem tok2_keep {W V : World} {row : Option Nat} {b : Nat} {t : TV} (h : Tok2 W b t) (hg : W.grownBy V row) (hr : ∀ r, row = some r → ∃ o : Obj, W.heap[r]? = some o ∧ o.isCells = false) : Tok2 V b t := by
  refine (hg.block b (Array.getElem?_eq_some_iff.1 h).1 fun e => ?_).trans h
  obtain ⟨o, ho, hc⟩ := hr b e.symm
  rw [show W.heap[b]? = _ from h] at ho
  cases ho
  cases hc
theorem results_tok {P : Program} {fn : Func} {p q : Tmp} {t1 t2 : TypeId} (h : fn.results = #[.cell p t1, .cell q t2]) (tmps : Array Value) (w : World) (b1 b2 : Nat) (v1 v2 : Value)
    (hp : tmps[p]?.getD undef = .pointer (some ⟨b1, 0, none⟩)) (hq : tmps[q]?.getD undef = .pointer (some ⟨b2, 0, none⟩))
    (l1 : (loadVar t1 ⟨b1, 0, none⟩).run P w = .ok v1 w) (l2 : (loadVar t2 ⟨b2, 0, none⟩).run P w = .ok v2 w) :
    (results fn tmps).run P w = .ok (.tuple #[v1, v2]) w := by
  simp [results, h, hp, hq, asAddr, l1, l2, Sem.run_bind, Result.andThen]
theorem tload1 {P : Program} {w : World} {t : TypeId} {b : Nat} {v : Value} (ha : ∀ w, (isAgg t).run P w = .ok false w) (h : w.cell? ⟨b, 0, none⟩ = some v) : (loadVar t ⟨b, 0, none⟩).run P w = .ok v w := by
  simp [loadVar, go_sem, ha, h]
theorem kpT_set {B L b c : Nat} {W : World} (hBc : B ≤ c) (hcL : c < L) (hcb : c ≠ b) (v : Value) : KpT B L b W (W.setCell ⟨c, 0, none⟩ v) := by
  have hc : (W.setCell ⟨c, 0, none⟩ v).cell? ⟨b, 0, none⟩ = W.cell? ⟨b, 0, none⟩ := World.cell?_setCell_other _ _ _ _ (fun e => hcb (by have := congrArg Addr.block e; simp at this; omega))
  have hg := grownBy_setCell' W c v
  refine ⟨(Below.refl B W).setCell (p := ⟨c, 0, none⟩) hBc v, fun hr => ⟨fun u k hu hk => ?_, fun g h1 h2 h3 => ⟨hg.block g h2.lt (fun e => by injection e with e; omega), fun u hu => h3 u (hc ▸ hu)⟩⟩⟩
  have := hr u k (hc ▸ hu) hk
  have := hg.size
  omega
theorem kpT_app {B L b : Nat} {W w2 : World} {o : Obj} {v v' : Value} (hv : W.cell? ⟨b, 0, none⟩ = some v) (hb2 : (w2.cell? ⟨b, 0, none⟩).isSome) (hBb : B ≤ b) (hbL : b < L) (hB : B ≤ W.heap.size) (hg : (W.alloc o).grownBy w2 v.ownBlock) (hvb : ∀ k, v.ownBlock = some k → B ≤ k) (hat : v'.ownBlock = v.ownBlock ∨ v'.ownBlock = some (W.alloc o).heap.size) (hlt : ∀ k, v'.ownBlock = some k → k < w2.heap.size) :
    KpT B L b W (w2.setCell ⟨b, 0, none⟩ v') := by
  have hgs := grownBy_setCell' w2 b v'
  have hsz : (W.alloc o).heap.size = W.heap.size + 1 := by simp
  have hcc : (w2.setCell ⟨b, 0, none⟩ v').cell? ⟨b, 0, none⟩ = some v' := World.cell?_setCell_same' _ _ _ hb2
  have hb0 : Below B W w2 := (((Below.refl B W).alloc hB o).grown hg (by have := hg.size; omega) (fun k hk => hvb k hk))
  refine ⟨hb0.setCell (p := ⟨b, 0, none⟩) hBb v', fun hr => ⟨fun u k hu hk => ?_, fun g h1 h2 h3 => ⟨?_, fun u hu e => ?_⟩⟩⟩
  · rw [hcc] at hu
    cases hu
    have := hlt k hk
    have := hgs.size
    omega
  · have hgl := h2.lt
    have e1 : (w2.setCell ⟨b, 0, none⟩ v').heap[g]? = w2.heap[g]? := hgs.block g (by have := hg.size; omega) (fun e => by injection e with e; omega)
    have e2 : w2.heap[g]? = (W.alloc o).heap[g]? := hg.block g (by omega) (fun e => h3 v hv e.symm)
    exact (e1.trans e2).trans (Below.heap_alloc W o g hgl)
  · rw [hcc] at hu
    cases hu
    rcases hat with h | h
    · rw [h] at e
      exact h3 v hv e
    · rw [h] at e
      injection e with e
      have := h2.lt
      omega
theorem tok_news (W : World) (t : TV) : ∀ (j : Nat) (u : Value), ([.int .i64 t.k, .string t.s] : List Value)[j]? = some u → (W.alloc (.cells #[.int .i64 t.k, .string t.s] 33)).cell? ((⟨W.heap.size, 0, none⟩ : Addr).add j) = some u := fun j u h => by
  rw [Addr.add_lit, Nat.zero_add, World.cell?_alloc_at _ _ _ _ rfl]
  simpa using h
theorem tok_one (t : TV) : ∀ u ∈ ([.int .i64 t.k, .string t.s] : List Value), u.oneCell' = true := fun u hu => by
  simp at hu
  rcases hu with rfl | rfl <;> rfl
set_option maxRecDepth 100000 in
set_option maxHeartbeats 4000000 in
theorem implTokens_in (n : Nat) (hn : 4 ≤ n) (s : ByteArray) (w : World) (hs : s.size ≤ 16777216) (hE : Esc w) (hM : MaxI w) :
    CallsIn Fence.wide n Tryd.prog 12 #[.string s] w fun e w' => TokB w (toksI s.data.toList) e w' := by
  have h1 : 1 ≤ n := by omega
  have HE : Hid (Esc w) := hE
  have HM : Hid (MaxI w) := hM
  clear hE hM
  refine callsIn_of_wp_marks Tryd.func12 rfl trivial ?_ rfl
  simp only [Tryd.ntmps12, List.size_toArray, List.length_cons, List.length_nil, Nat.reduceAdd, Nat.reduceSub, Array.replicate_succ, Array.replicate_zero, List.push_toArray, List.append_toArray, List.nil_append, List.cons_append]
  gi_wp2_with fail
  refine wpIn_wide.2 (wp_scope_straight ((wpIn_wide (n := n)).1 ?_))
  gi_wp2_with fail
  obtain ⟨V0, hV0⟩ : ∃ V0, (((((w.alloc (.cells #[.slice none 0 0] 28)).alloc (.cells #[.int .i64 0] 3)).alloc (.cells #[] 33)).alloc (.cells #[.slice (some ⟨w.heap.size + 1 + 1, 0, none⟩) 0 0] 28)).alloc (.cells #[.int .i64 0] 3)) = V0 := ⟨_, rfl⟩
  have F0 : TokI w.heap.size (w.heap.size + 1) (w.heap.size + 1 + 1 + 1) (w.heap.size + 1 + 1 + 1 + 1) w [] V0 ∧ V0.heap.size = w.heap.size + 5 := by
    rw [← hV0]
    refine ⟨⟨fun x hx => (by cases hx), 0, w.heap.size + 1 + 1, 0, 0, rfl, rfl, ?_, ?_, ?_, ?_, ?_, ?_⟩, by simp⟩
    · exact ((((Boxed.new w _ _).alloc _).alloc _).alloc _).alloc _
    · have h := Boxed.new (w.alloc (.cells #[.slice none 0 0] 28)) 3 (.int .i64 0)
      simp only [World.size_alloc] at h
      exact ((h.alloc _).alloc _).alloc _
    · have h := Boxed.new (((w.alloc (.cells #[.slice none 0 0] 28)).alloc (.cells #[.int .i64 0] 3)).alloc (.cells #[] 33)) 28 (.slice (some ⟨w.heap.size + 1 + 1, 0, none⟩) 0 0)
      simp only [World.size_alloc] at h
      exact h.alloc _
    · have h := World.ownsRow_lit (base := w.heap.size) (e := 33) (size := 2) ((w.alloc (.cells #[.slice none 0 0] 28)).alloc (.cells #[.int .i64 0] 3)) #[] 0 (by simp; omega) (by decide) rfl
      simp only [World.size_alloc] at h
      exact (h.alloc _).alloc _
    · have h := Boxed.new ((((w.alloc (.cells #[.slice none 0 0] 28)).alloc (.cells #[.int .i64 0] 3)).alloc (.cells #[] 33)).alloc (.cells #[.slice (some ⟨w.heap.size + 1 + 1, 0, none⟩) 0 0] 28)) 3 (.int .i64 0)
      simp only [World.size_alloc] at h
      exact h
    · exact (((((Below.refl _ w).alloc (Nat.le_refl _) _).alloc (by simp) _).alloc (by simp; omega) _).alloc (by simp; omega) _).alloc (by simp; omega) _
  rw [hV0]
  obtain ⟨FI, hVs⟩ := F0
  clear hV0
  refine wpIn_label ?_
  obtain ⟨B, hB⟩ : ∃ B, w.heap.size = B := ⟨_, rfl⟩
  have n2 : B + 1 + 1 = B + 2 := rfl
  have n3 : B + 2 + 1 = B + 3 := rfl
  have n4 : B + 3 + 1 = B + 4 := rfl
  rw [hB, n2, n3, n4] at FI
  simp only [hB, n2, n3, n4]
  clear n2 n3 n4
  have HBe : Hid (w.heap.size = B) := hB
  have HVs : Hid (V0.heap.size = w.heap.size + 5) := hVs
  have hwB : w.heap.size ≤ B := by omega
  have hBw : B ≤ w.heap.size := by omega
  have hV5 : V0.heap.size = B + 5 := by omega
  clear hB hVs
  gi_wp2_with fail
  refine ⟨trivial, ?_⟩
  refine (implTokensOf (n - 1) s V0).mono ?_
  rintro e w' ⟨rfl, rfl⟩
  obtain ⟨W0, hW0⟩ : ∃ W0, V0.alloc (.cells #[.string s] 9) = W0 := ⟨_, rfl⟩
  have hBs : W0.cell? ⟨V0.heap.size, 0, none⟩ = some (.string s) := by rw [← hW0]; exact (Boxed.new V0 9 (.string s)).cell
  have hWs : W0.heap.size = V0.heap.size + 1 := by rw [← hW0]; simp
  have FI0 : TokI B (B + 1) (B + 3) (B + 4) w [] W0 := by
    rw [← hW0]
    exact (tokI_own (b := V0.heap.size) (by omega) (by omega)).alloc _ FI
  rw [hW0]
  clear hW0 FI
  rw [hV5] at hBs hWs ⊢
  have hW6 : B + 6 ≤ W0.heap.size := by omega
  have hW7 : W0.heap.size ≤ B + 6 := by omega
  clear hV5 HVs hWs
  have HBel : Below w.heap.size w W0 := by
    obtain ⟨_, _, _, _, _, _, _, _, _, _, _, _, h⟩ := FI0
    exact h.mono hwB
  have hR0 : RowIn (B + 3) W0 := by
    obtain ⟨_, _, g, _, _, _, _, _, _, h3, h4, _, _⟩ := FI0
    intro v k hv hk
    rw [h3.cell] at hv
    cases hv
    exact (h4.lt k hk).2
  have hE0 : Esc W0 := HE.out.later HBel
  have hM0 : MaxI W0 := max_below HM.out HBel
  have hEB : 0 < B := by have := HE.out.lt; omega
  have hMB : 1 < B := by
    obtain ⟨m, hm⟩ := HM.out
    have h5 : 1 < w.heap.size := World.block_lt_of_cell? w _ hm
    omega
  gi_wp2_with fail
  refine wpIn_rangeFunc_ownH rfl h1 (gf := 40) (lb := #[.pointer (some ⟨B + 5, 0, none⟩)]) rfl trivial (enters_of Tryd.func40 (by kernel_rfl) rfl)
    (implTokensOf1 (n - 1) (by omega) (B + 5) B W0.heap.size (B + 3) s W0 hs hE0 hM0 (by omega) (Nat.le_refl _) hEB hMB (by omega) hR0 hBs (by omega)) kpT_t (kpT_b (by omega) (by omega)) (Below.refl _ _) (fun _ => rfl)
    (TokI B (B + 1) (B + 3) (B + 4) w) (TokX B (B + 1) w) (tokI_own (by omega) hBw) (tokX_own (by omega) hBw) FI0
    (fun x a' W => ∃ Bx, B + 4 < Bx ∧ Tok2 W Bx x.1 ∧ a' = { tmps := #[.string s, undef, .pointer (some ⟨B, 0, none⟩), .pointer (some ⟨B + 1, 0, none⟩), .pointer (some ⟨B + 3, 0, none⟩), .pointer (some ⟨B + 4, 0, none⟩), .pointer (some ⟨Bx, 0, none⟩), .int .i64 x.2, .slice (some ⟨B + 2, 0, none⟩) 0 0, .string s, .func (.func 40) #[] #[.pointer (some ⟨B + 5, 0, none⟩)], .agg #[.int .i64 x.1.k, .string x.1.s], .int .i64 x.2, undef, undef, undef, undef, undef, undef, undef, undef, undef, undef, undef, undef, undef, undef, undef, undef, undef, undef], defers := [] })
    (fun x a' _ W V row ⟨Bx, h1, h2, h3⟩ hg hr => ⟨Bx, h1, tok2_keep h2 hg (fun r e => (hr r e).2), h3⟩) ?assign ?body ?done ?stop
  case assign =>
    rintro l pre x W K hi hK
    have hWl : B + 4 < W.heap.size := by
      obtain ⟨_, _, _, _, _, _, _, _, _, _, _, h, _⟩ := hi
      exact h.lt
    dsimp only [encT]
    gi_wp2
    exact hK _ _ ((KeepsOthers.alloc _ _).from _) (kpT_below (by omega) (by omega) ((Below.refl _ W).alloc (Nat.le_refl _) _)) ((tokI_own (b := W0.heap.size) (by omega) hBw).alloc _ hi) ⟨W.heap.size, by omega, World.alloc_heap_new W _, rfl⟩
  case body =>
    rintro l pre x a' W hl ⟨r, hr⟩ ⟨h0, k, g, cap, z, hk, hz, c1, c2, c3, c4, c5, hbel⟩ ⟨Bx, hBx, t2, rfl⟩ hlt
    have HA : Hid (∀ y ∈ pre, y.2 = 0) := h0
    have HK : Hid (k = min pre.length 3000) := hk
    have HZ : Hid (z = (if 3000 < pre.length then 3 else 0)) := hz
    have hBW : B ≤ W.heap.size := by have := c1.lt; omega
    clear h0 hk hz hr hl hlt
    by_cases hx : x.2 = 0
    · have e3 := c3.cell
      have e5 := c5.cell
      have f5 := c5.frozen
      have hxi : (x.2 != 0) = false := by rw [hx]; rfl
      have HA2 : Hid (∀ y ∈ pre ++ [x], y.2 = 0) := fun y hy => by
        rcases List.mem_append.1 hy with h | h
        · exact HA.out y h
        · rw [List.mem_singleton.1 h]; exact hx
      by_cases hk3 : k = 3000
      · have hki : ((k : Int) == 3000) = true := beq_iff_eq.2 (by omega)
        have hpl : 3000 ≤ pre.length := by have := HK.out; omega
        gi_wp2_with fail
        refine ⟨(KeepsOthers.setCell _ _ _).from _, kpT_set (by omega) (by omega) (by omega) _, HA2.out, k, g, cap, 3, ?_, ?_, ?_, ?_, ?_, ?_, ?_, ?_⟩
        · rw [List.length_append, List.length_singleton]; omega
        · rw [if_pos (by rw [List.length_append, List.length_singleton]; omega)]
        · exact c1.other (by omega) _
        · exact c2.other (by omega) _
        · exact c3.other (by omega) _
        · rw [List.map_append, List.take_append_of_le_length (by rw [List.length_map]; exact hpl)]
          exact c4.kept (grownBy_setCell' W (B + 4) _) (.inr (c5.not_row (by decide) c4).symm)
        · exact c5.set _
        · exact hbel.setCell (p := ⟨B + 4, 0, none⟩) (show B ≤ B + 4 by omega) _
      · have hki : ((k : Int) == 3000) = false := beq_eq_false_iff_ne.2 (by omega)
        have HPL : Hid (pre.length < 3000 ∧ k = pre.length) := by have := HK.out; show _ ∧ _; omega
        have hk3l : k < 3000 := by have := HK.out; omega
        have HX0 : Hid (x.2 = 0) := hx
        have d0 : W.cell? ⟨Bx, 0, none⟩ = some (.int .i64 x.1.k) := by simp [World.cell?, show W.heap[Bx]? = _ from t2]
        have d1 : W.cell? ⟨Bx, 1, none⟩ = some (.string x.1.s) := by simp [World.cell?, show W.heap[Bx]? = _ from t2]
        obtain ⟨i0, hi, hz0, hz1, hz2⟩ := info_parts Tryd.infoTk
        have hown := c4.alloc (.cells #[.int .i64 x.1.k, .string x.1.s] 33)
        clear hx hk3
        gi_wp2_with (gi_at_builtin; refine wpListIn_append_own_at _ rfl _ _ 28 rfl B 33 i0 (.agg #[.int .i64 0, .string ⟨#[]⟩]) 2 24 Tryd.underlying28 hi hz0 hz1 hz2 rfl (by decide) _ _ _ rfl hown ⟨W.heap.size, 0, none⟩ 1 1 [.int .i64 x.1.k, .string x.1.s] rfl rfl (tok_news W x.1) (tok_one x.1) (by unfold maxLen; omega) (by omega) (by simp; omega) ?_; intro v' w1 hown' hgrow _ hat; obtain ⟨g', cap', rfl⟩ := ownsRow_succ hown'; obtain ⟨a1, a2, a3, a4, a5⟩ := c3.appended (by decide) c4 hBW (by omega) hown' hgrow; have q1 := a1.cell; have q2 := a1.frozen)
        have kp : ∀ {b : Nat} {t : TypeId} {v : Value}, Boxed W b t v → t ≠ 33 → b ≠ B + 3 → Boxed (w1.setCell ⟨B + 3, 0, none⟩ (.slice (some ⟨g', 0, none⟩) (k + 1) cap')) b t v := fun h ht hne => ((h.alloc _).kept hgrow (h.not_row ht c4)).other hne _
        obtain ⟨p1, p2⟩ := HPL.out
        refine ⟨a4.from _, kpT_app c3.cell (by rw [a1.cell]; rfl) (by omega) (by omega) hBW hgrow (fun j e => (c4.lt j e).1) hat (fun j e => (hown'.lt j e).2), HA2.out, k + 1, g', cap', z, ?_, ?_, kp c1 (by decide) (by omega), kp c2 (by decide) (by omega), a2, ?_, kp c5 (by decide) (by omega), hbel.trans a5⟩
        · rw [List.length_append, List.length_singleton]; omega
        · rw [HZ.out, if_neg (by omega), if_neg (by rw [List.length_append, List.length_singleton]; omega)]
        · rw [List.take_of_length_le (by rw [List.length_map]; omega)] at a3
          rw [List.take_of_length_le (by rw [List.length_map, List.length_append, List.length_singleton]; omega), List.map_append, tcells_append]
          exact a3
    · have hxi : (x.2 != 0) = true := bne_iff_ne.2 hx
      have e1 := (c1.alloc (.cells #[] 33)).cell
      have f1 := (c1.alloc (.cells #[] 33)).frozen
      have e2 := (c2.alloc (.cells #[] 33)).cell
      have f2 := (c2.alloc (.cells #[] 33)).frozen
      have r0 := World.ownsRow_lit (base := B) (e := 33) (size := 2) W #[] 0 hBW (by decide) rfl
      have hlt1 := c2.lt
      gi_wp2_with fail
      refine ⟨((KeepsOthers.alloc _ _).trans ((KeepsOthers.setCell _ _ _).trans (KeepsOthers.setCell _ _ _))).from _, rfl, ⟨pre, x, W.heap.size, rfl, hx, ?_, ?_, ?_⟩, ?_⟩
      · exact ((c1.alloc _).set _).other (by omega) _
      · exact (r0.kept (grownBy_setCell' _ B _) (.inr (fun e => by simp [Value.ownBlock] at e; omega))).kept (grownBy_setCell' _ (B + 1) _) (.inr (fun e => by simp [Value.ownBlock] at e; omega))
      · exact ((c2.alloc _).other (by omega) _).set _
      · exact ((hbel.alloc hBW _).setCell (p := ⟨B, 0, none⟩) (Nat.le_refl _) _).setCell (p := ⟨B + 1, 0, none⟩) (show B ≤ B + 1 by omega) _
  case done =>
    rintro D xs W hD hS ⟨h0, k, g, cap, z, hk, hz, c1, c2, c3, c4, c5, hbel⟩ hK
    obtain ⟨T, hxs, hT⟩ : ∃ l, xs = goods l ∧ tokH [] s.data.toList = (l, 0) := by
      rcases hS with h | ⟨T, c, h1, h2, _⟩
      · exact h
      · have := h0 (tv0, (c : Int)) (by rw [h1]; simp)
        exact absurd (by simpa using this) h2
    have hxl : xs.length = T.length := by rw [hxs, goods_len]
    have hxm : xs.map (·.1) = T := by rw [hxs]; unfold goods; rw [List.map_map]; exact List.map_id' T
    rw [hxl] at hk hz
    rw [hxm] at c4
    clear hS h0 hxs hxl hxm
    have hKK : ∀ V : World, V.heap[D]? = some (.deferred (some [])) → ∀ {b : Nat} {t : TypeId} {v : Value}, Boxed V b t v → (V.putObj D (.deferred none)).cell? ⟨b, 0, none⟩ = some v := fun V hV {b t v} h => (tbox_keep h (grownBy_putObj' V D (.deferred none)) (fun r e => by cases e; exact ⟨_, hV, rfl⟩)).cell
    have hKB : ∀ V : World, V.heap[D]? = some (.deferred (some [])) → Below B w V → Below B w (V.putObj D (.deferred none)) := fun V hV h => h.trans (belowK_b (w := W0) (by omega) V D _ _ hD hV rfl rfl)
    have HKK := hidU hKK
    have HKB := hidU hKB
    have HT := hidU hT
    have HKe := hidU hk
    have HZe := hidU hz
    have hDB : B + 5 < D := by omega
    clear hKK hKB hT hk hz
    by_cases hmany : 3000 < T.length
    · obtain rfl : z = 3 := by rw [HZe.out, if_pos hmany]
      have HR : Hid (toksI s.data.toList = ([], 3)) := by
        show _ = _
        unfold toksI endT
        rw [HT.out, if_neg (by simp), if_pos hmany]
      have e1 := (c1.alloc (.cells #[] 33)).cell
      have f1 := (c1.alloc (.cells #[] 33)).frozen
      have e2 := (c2.alloc (.cells #[] 33)).cell
      have f2 := (c2.alloc (.cells #[] 33)).frozen
      have e5 := c5.cell
      have e5a := (c5.alloc (.cells #[] 33)).cell
      have r0 := World.ownsRow_lit (base := B) (e := 33) (size := 2) W #[] 0 (by have := c1.lt; omega) (by decide) rfl
      have hlt1 := c2.lt
      clear c3 c4 hmany
      gi_wp2_with fail
      gi_region
      gi_wp2_with fail
      have d1 := ((c1.alloc (.cells #[] 33)).set (.slice (some ⟨W.heap.size, 0, none⟩) 0 0)).other (B' := B + 1) (by omega) (.int .i64 3)
      have d2 := ((c2.alloc (.cells #[] 33)).other (B' := B) (by omega) (.slice (some ⟨W.heap.size, 0, none⟩) 0 0)).set (.int .i64 3)
      have d4 := (r0.kept (grownBy_setCell' _ B (.slice (some ⟨W.heap.size, 0, none⟩) 0 0)) (.inr (fun e => by simp [Value.ownBlock] at e; omega))).kept (grownBy_setCell' _ (B + 1) (.int .i64 3)) (.inr (fun e => by simp [Value.ownBlock] at e; omega))
      have db : Below B w (((W.alloc (.cells #[] 33)).setCell ⟨B, 0, none⟩ (.slice (some ⟨W.heap.size, 0, none⟩) 0 0)).setCell ⟨B + 1, 0, none⟩ (.int .i64 3)) := ((hbel.alloc (by omega) _).setCell (p := ⟨B, 0, none⟩) (Nat.le_refl _) _).setCell (p := ⟨B + 1, 0, none⟩) (show B ≤ B + 1 by omega) _
      have hK2 := ((KeepsOthers.alloc W (.cells #[] 33)).trans ((KeepsOthers.setCell _ ⟨B, 0, none⟩ (.slice (some ⟨W.heap.size, 0, none⟩) 0 0)).trans (KeepsOthers.setCell _ ⟨B + 1, 0, none⟩ (.int .i64 3)))).same D _ hK rfl
      generalize ((W.alloc (.cells #[] 33)).setCell ⟨B, 0, none⟩ (.slice (some ⟨W.heap.size, 0, none⟩) 0 0)).setCell ⟨B + 1, 0, none⟩ (.int .i64 3) = V at *
      have d1' : Boxed V.drew B 28 (.slice (some ⟨W.heap.size, 0, none⟩) 0 0) := d1
      have d2' : Boxed V.drew (B + 1) 3 (.int .i64 3) := d2
      have hK3 : V.drew.heap[D]? = some (.deferred (some [])) := hK2
      have d4' : V.drew.ownsRow B 33 2 (.slice (some ⟨W.heap.size, 0, none⟩) 0 0) 0 [] := d4
      have db' := db.drew
      refine ⟨by simp, .inl ⟨_, _, rfl, run_takeDeferred hK3, ?_⟩⟩
      refine ⟨_, results_tok rfl _ _ _ _ _ _ rfl rfl (tload1 Tryd.isAgg28 (HKK.out V.drew hK3 d1')) (tload1 Tryd.isAgg3 (HKK.out V.drew hK3 d2')), ?_⟩
      rw [HR.out]
      refine ⟨_, rfl, ?_, by rw [HBe.out]; exact HKB.out V.drew hK3 db'⟩
      rw [HBe.out]
      exact ownsRow_putObj d4' (.deferred none) hK3 rfl
    · obtain rfl : z = 0 := by rw [HZe.out, if_neg hmany]
      have HR : Hid (toksI s.data.toList = (T, 0)) := by
        show _ = _
        unfold toksI endT
        rw [HT.out, if_neg (by simp), if_neg hmany]
      have hkT : k = T.length := by have := HKe.out; omega
      rw [List.take_of_length_le (by omega)] at c4
      have e1 := c1.cell
      have e3 := c3.cell
      have e5 := c5.cell
      have f1 := c1.frozen
      have e2 := c2.cell
      have f2 := c2.frozen
      have HkT := hidU hkT
      clear hkT hmany
      gi_wp2_with fail
      have d1 := (c1.set (.slice (some ⟨g, 0, none⟩) k cap)).other (B' := B + 1) (by omega) (.int .i64 0)
      have d2 := (c2.other (B' := B) (by omega) (.slice (some ⟨g, 0, none⟩) k cap)).set (.int .i64 0)
      have d4 := (c4.kept (grownBy_setCell' W B (.slice (some ⟨g, 0, none⟩) k cap)) (.inr (c1.not_row (by decide) c4).symm)).kept (grownBy_setCell' _ (B + 1) (.int .i64 0)) (.inr (c2.not_row (by decide) c4).symm)
      have db : Below B w ((W.setCell ⟨B, 0, none⟩ (.slice (some ⟨g, 0, none⟩) k cap)).setCell ⟨B + 1, 0, none⟩ (.int .i64 0)) := (hbel.setCell (p := ⟨B, 0, none⟩) (Nat.le_refl _) _).setCell (p := ⟨B + 1, 0, none⟩) (show B ≤ B + 1 by omega) _
      have hK2 := ((KeepsOthers.setCell W ⟨B, 0, none⟩ (.slice (some ⟨g, 0, none⟩) k cap)).trans (KeepsOthers.setCell _ ⟨B + 1, 0, none⟩ (.int .i64 0))).same D _ hK rfl
      generalize (W.setCell ⟨B, 0, none⟩ (.slice (some ⟨g, 0, none⟩) k cap)).setCell ⟨B + 1, 0, none⟩ (.int .i64 0) = V at *
      refine ⟨by simp, .inl ⟨_, _, rfl, run_takeDeferred hK2, ?_⟩⟩
      refine ⟨_, results_tok rfl _ _ _ _ _ _ rfl rfl (tload1 Tryd.isAgg28 (HKK.out V hK2 d1)) (tload1 Tryd.isAgg3 (HKK.out V hK2 d2)), ?_⟩
      rw [HR.out]
      refine ⟨_, rfl, ?_, by rw [HBe.out]; exact HKB.out V hK2 db⟩
      rw [HBe.out]
      have := ownsRow_putObj d4 (.deferred none) hK2 rfl
      rw [HkT.out] at this ⊢
      exact this
  case stop =>
    rintro D c pre W hD hSp ⟨rfl, ⟨p, x, g, hp, hx, c1, c2, c3⟩, hbel⟩ hK
    obtain ⟨c, hxc, hc0, hT⟩ : ∃ c : Nat, x.2 = (c : Int) ∧ c ≠ 0 ∧ tokH [] s.data.toList = ([], c) := by
      rcases hSp with ⟨T, h1⟩ | ⟨T, c, h1, h2, h3⟩
      · have hm : x ∈ goods T := by rw [← h1, hp]; simp
        unfold goods at hm
        obtain ⟨t, _, rfl⟩ := List.mem_map.1 hm
        exact absurd rfl hx
      · rw [hp] at h1
        have := List.append_inj_right' h1 rfl
        simp at this
        exact ⟨c, by rw [this], h2, h3⟩
    rw [hxc] at c3
    have HR : Hid (toksI s.data.toList = ([], c)) := by
      show _ = _
      unfold toksI endT
      rw [hT, if_pos hc0]
    clear hSp hp hx hxc hT
    gi_wp2
    refine ⟨by simp, .inl ⟨_, _, rfl, run_takeDeferred hK, ?_⟩⟩
    have hb' : Below B w (W.putObj D (.deferred none)) := hbel.trans (belowK_b (w := W0) (by omega) W D _ _ hD hK rfl rfl)
    have hp := fun {b : Nat} {t : TypeId} {v : Value} (h : Boxed W b t v) => (tbox_keep h (grownBy_putObj' W D (.deferred none)) (fun r e => by cases e; exact ⟨_, hK, rfl⟩)).cell
    refine ⟨_, results_tok rfl _ _ _ _ _ _ rfl rfl (tload1 Tryd.isAgg28 (hp c1)) (tload1 Tryd.isAgg3 (hp c3)), ?_⟩
    rw [HR.out]
    refine ⟨_, rfl, ?_, by rw [HBe.out]; exact hb'⟩
    rw [HBe.out]
    exact ownsRow_putObj c2 _ hK rfl
theorem implTokens (s : ByteArray) (w : World) (hs : s.size ≤ 16777216) (hE : Esc w) (hM : MaxI w) :
    Calls Tryd.prog 12 #[.string s] w fun e w' => TokB w (toksI s.data.toList) e w' := callsIn_wide.1 (implTokens_in 4 (Nat.le_refl _) s w hs hE hM)
end Go.Proofs.YtjdmmmohaiiocaaDoor
