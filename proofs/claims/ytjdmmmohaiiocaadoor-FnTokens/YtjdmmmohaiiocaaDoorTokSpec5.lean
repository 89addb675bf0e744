/- The contracts of the specification's marks, and of its Tokens. -/
import Derived.Test.YtjdmmmohaiiocaaDoorRows
import Derived.Test.YtjdmmmohaiiocaaDoorTokSpec4
import Derived.Test.YtjdmmmohaiiocaaDoorXmlSpec1
namespace Go.Proofs.YtjdmmmohaiiocaaDoor
open Go.RowKit
set_option linter.unusedVariables false

theorem own_low {w : World} {B B' : Nat} {e : TypeId} {size n : Nat} {v : Value} {xs : List Value} (h : w.ownsRow B e size v n xs) (hB : B' ≤ B) : w.ownsRow B' e size v n xs := by
  refine ⟨h.1, ?_⟩
  rcases h.2 with h1 | ⟨g, cap, cur, h1, h2, h3⟩
  · exact .inl h1
  · exact .inr ⟨g, cap, cur, h1, Nat.le_trans hB h2, h3⟩
theorem nxt_sh (a k : Nat) (m : MR) : nxt (a + k) m = nxt a (shMR k m) := by
  unfold nxt shMR
  dsimp only
  split
  · congr 1; omega
  · rfl
theorem TokA.shift {w U : World} {a k : Nat} {m : MR} {e : Ending} {w' : World} (h : TokA U (a + k) m e w') (hb : Below w.heap.size w U) : ∃ v, e = .returned (.tuple #[v, .int .i64 (nxt a (shMR k m)), .int .i64 (m.code : Int)]) ∧ w'.ownsRow w.heap.size 33 2 v m.ts.length (tcells m.ts) ∧ Below w.heap.size w w' := by
  obtain ⟨v, h1, h2, h3⟩ := h
  exact ⟨v, by rw [h1, nxt_sh], own_low h2 hb.size, hb.trans (h3.mono hb.size)⟩
set_option maxRecDepth 100000 in
set_option maxHeartbeats 4000000 in
theorem spec13Mark (s : ByteArray) (a : Nat) (w : World) (hs : s.size ≤ 16777216) (ha : a < s.size) :
    Calls Tryd.prog 30 #[.string s, .int .i64 (a : Int)] w fun e w' => TokA w a (markR (s.data.toList.drop a)) e w' := by
  have hsl : (s.data.toList.drop a).length = s.size - a := by rw [List.length_drop]; simp
  have hdd : ∀ k, (s.data.toList.drop a).drop k = s.data.toList.drop (a + k) := fun k => by rw [List.drop_drop]
  obtain ⟨U, hU⟩ : ∃ U, U = w.alloc (.cells #[] 33) := ⟨_, rfl⟩
  have bU : Below w.heap.size w U := by rw [hU]; exact (Below.refl _ _).alloc (Nat.le_refl _) _
  have oU : U.ownsRow w.heap.size 33 2 (.slice (some ⟨w.heap.size, 0, none⟩) 0 0) 0 (tcells []) := by rw [hU]; exact World.ownsRow_lit w #[] 0 (Nat.le_refl _) (by decide) rfl
  have C1 : Hid (∀ W, Calls Tryd.prog 43 #[.string s, .int .i64 (a : Int), .string ⟨#[60, 33, 45, 45]⟩] W fun e w' => e = .returned (.bool (Lib.hasPrefix (s.data.toList.drop a) [60, 33, 45, 45])) ∧ W = w') := fun W => spec13Begins s ⟨#[60, 33, 45, 45]⟩ a W hs (by decide) (by omega)
  have C2 : Hid (∀ W, Calls Tryd.prog 43 #[.string s, .int .i64 (a : Int), .string ⟨#[60, 63]⟩] W fun e w' => e = .returned (.bool (Lib.hasPrefix (s.data.toList.drop a) [60, 63])) ∧ W = w') := fun W => spec13Begins s ⟨#[60, 63]⟩ a W hs (by decide) (by omega)
  have C3 : Hid (∀ W, Calls Tryd.prog 43 #[.string s, .int .i64 (a : Int), .string ⟨#[60, 33, 91, 67, 68, 65, 84, 65, 91]⟩] W fun e w' => e = .returned (.bool (Lib.hasPrefix (s.data.toList.drop a) [60, 33, 91, 67, 68, 65, 84, 65, 91])) ∧ W = w') := fun W => spec13Begins s ⟨#[60, 33, 91, 67, 68, 65, 84, 65, 91]⟩ a W hs (by decide) (by omega)
  have C4 : Hid (∀ W, Calls Tryd.prog 43 #[.string s, .int .i64 (a : Int), .string ⟨#[60, 47]⟩] W fun e w' => e = .returned (.bool (Lib.hasPrefix (s.data.toList.drop a) [60, 47])) ∧ W = w') := fun W => spec13Begins s ⟨#[60, 47]⟩ a W hs (by decide) (by omega)
  obtain ⟨m, hm⟩ : ∃ m, markR (s.data.toList.drop a) = m := ⟨_, rfl⟩
  have HM : Hid (markR (s.data.toList.drop a) = m) := hm
  unfold markR at hm
  cases h1 : Lib.hasPrefix (s.data.toList.drop a) [60, 33, 45, 45] with
  | true =>
    have hl1 := pre_len h1
    have hl2 : ([60, 33, 45, 45] : List UInt8).length = 4 := rfl
    rw [h1, if_pos rfl, hdd] at hm
    rw [h1] at C1
    have CK : Hid (Calls Tryd.prog 44 #[.string s, .int .i64 ((a : Int) + 4), .string ⟨#[45, 45, 62]⟩] U fun e w' => TokA U (a + 4) (skipR (s.data.toList.drop (a + 4)) [45, 45, 62]) e w') := by
      have := spec13Skip s ⟨#[45, 45, 62]⟩ (a + 4) U hs (by decide) (by decide) (by omega)
      rw [show ((a + 4 : Nat) : Int) = (a : Int) + 4 by omega] at this
      exact this
    have HF : Hid (∀ e w', TokA U (a + 4) (skipR (s.data.toList.drop (a + 4)) [45, 45, 62]) e w' → ∃ v x y, e = .returned (.tuple #[v, .int .i64 x, .int .i64 y]) ∧ TokA w a m (.returned (.tuple #[v, .int .i64 x, .int .i64 y])) w') := fun e w' h => by
      obtain ⟨v, h2, h3, h4⟩ := h.shift bU
      exact ⟨v, _, _, h2, by rw [← hm]; exact ⟨v, rfl, h3, h4⟩⟩
    clear h1 hm hl1 oU bU C2 C3 C4
    go_enter Tryd.func30, Tryd.ntmps30
    go_upto_region 2 with fail
    rw [← hU]
    clear hU
    go_wp2_with fail
    refine (C1.out _).mono ?_
    rintro e w' ⟨rfl, rfl⟩
    go_wp2_with fail
    refine CK.out.mono ?_
    intro e w1 h5
    obtain ⟨v, x, y, rfl, h6⟩ := HF.out _ _ h5
    have H6 : Hid (TokA w a m (.returned (.tuple #[v, .int .i64 x, .int .i64 y])) w1) := h6
    clear h5 h6
    go_wp2_with fail
    go_ret3
    exact H6.out.same HM.out.symm
  | false =>
    rw [h1, if_neg (by decide)] at hm
    rw [h1] at C1
    clear h1
    cases h2 : Lib.hasPrefix (s.data.toList.drop a) [60, 63] with
    | true =>
      have hl1 := pre_len h2
      have hl2 : ([60, 63] : List UInt8).length = 2 := rfl
      rw [h2, if_pos rfl, hdd] at hm
      rw [h2] at C2
      have CK : Hid (Calls Tryd.prog 44 #[.string s, .int .i64 ((a : Int) + 2), .string ⟨#[63, 62]⟩] U fun e w' => TokA U (a + 2) (skipR (s.data.toList.drop (a + 2)) [63, 62]) e w') := by
        have := spec13Skip s ⟨#[63, 62]⟩ (a + 2) U hs (by decide) (by decide) (by omega)
        rw [show ((a + 2 : Nat) : Int) = (a : Int) + 2 by omega] at this
        exact this
      have HF : Hid (∀ e w', TokA U (a + 2) (skipR (s.data.toList.drop (a + 2)) [63, 62]) e w' → ∃ v x y, e = .returned (.tuple #[v, .int .i64 x, .int .i64 y]) ∧ TokA w a m (.returned (.tuple #[v, .int .i64 x, .int .i64 y])) w') := fun e w' h => by
        obtain ⟨v, h2, h3, h4⟩ := h.shift bU
        exact ⟨v, _, _, h2, by rw [← hm]; exact ⟨v, rfl, h3, h4⟩⟩
      clear h2 hm hl1 oU bU C3 C4
      go_enter Tryd.func30, Tryd.ntmps30
      go_upto_region 2 with fail
      rw [← hU]
      clear hU
      go_wp2_with fail
      refine (C1.out _).mono ?_
      rintro e w' ⟨rfl, rfl⟩
      go_wp2_with fail
      refine (C2.out _).mono ?_
      rintro e w' ⟨rfl, rfl⟩
      go_wp2_with fail
      refine CK.out.mono ?_
      intro e w1 h5
      obtain ⟨v, x, y, rfl, h6⟩ := HF.out _ _ h5
      have H6 : Hid (TokA w a m (.returned (.tuple #[v, .int .i64 x, .int .i64 y])) w1) := h6
      clear h5 h6
      go_wp2_with fail
      go_ret3
      exact H6.out.same HM.out.symm
    | false =>
      rw [h2, if_neg (by decide)] at hm
      rw [h2] at C2
      clear h2
      cases h3 : Lib.hasPrefix (s.data.toList.drop a) [60, 33, 91, 67, 68, 65, 84, 65, 91] with
      | true =>
        have hl1 := pre_len h3
        have hl2 : ([60, 33, 91, 67, 68, 65, 84, 65, 91] : List UInt8).length = 9 := rfl
        rw [h3, if_pos rfl, hdd] at hm
        rw [h3] at C3
        have hml : (⟨#[93, 93, 62]⟩ : ByteArray).data.toList = [93, 93, 62] := rfl
        have CF : Hid (∀ W, Calls Tryd.prog 45 #[.string s, .int .i64 ((a : Int) + 9), .string ⟨#[93, 93, 62]⟩] W fun e w' => e = .returned (.int .i64 (findZ s.data.toList (a + 9) [93, 93, 62])) ∧ W = w') := fun W => by
          have := spec13Find s ⟨#[93, 93, 62]⟩ (a + 9) W hs (by decide) (by decide) (by omega)
          rw [show ((a + 9 : Nat) : Int) = (a : Int) + 9 by omega] at this
          exact this
        have hsl2 : s.data.toList.length = s.size := by simp
        by_cases hz : findZ s.data.toList (a + 9) [93, 93, 62] < 0
        · have hR : cdataR (s.data.toList.drop (a + 9)) = noMR 1 := by
            have h0 := Lib.index_ge (s.data.toList.drop (a + 9)) [93, 93, 62]
            unfold findZ at hz
            unfold cdataR
            split at hz
            · rename_i h4; rw [if_pos h4]
            · omega
          have HM2 : Hid (m = shMR 9 (noMR 1)) := by show _ = _; rw [← hm, hR]
          generalize findZ s.data.toList (a + 9) [93, 93, 62] = z at *
          clear h3 hm hl1 hR C4
          go_enter Tryd.func30, Tryd.ntmps30
          go_upto_region 2 with fail
          rw [← hU]
          clear hU
          go_wp2_with fail
          refine (C1.out _).mono ?_
          rintro e w' ⟨rfl, rfl⟩
          go_wp2_with fail
          refine (C2.out _).mono ?_
          rintro e w' ⟨rfl, rfl⟩
          go_wp2_with fail
          refine (C3.out _).mono ?_
          rintro e w' ⟨rfl, rfl⟩
          go_wp2_with fail
          refine (CF.out _).mono ?_
          rintro e w' ⟨rfl, rfl⟩
          go_wp2_with fail
          go_ret3
          refine TokA.same ?_ (HM2.out.symm.trans HM.out.symm)
          exact ⟨_, rfl, oU, bU⟩
        · obtain ⟨j, hj1, hj2, hj3, _⟩ := find_hit (by rw [hsl2]; omega) hz
          rw [hj1] at CF
          rw [hsl2] at hj3
          have hj4 : ([93, 93, 62] : List UInt8).length = 3 := rfl
          rw [hj4] at hj3
          by_cases hj0 : j = 0
          · have HM2 : Hid (m = shMR 9 ⟨[], 3, 0⟩) := by
              show _ = _
              rw [← hm]
              unfold cdataR
              rw [hj2, hj0, if_neg (by decide), if_pos (by decide)]
            have hji : (((a : Int) + 9 + j) == ((a : Int) + 9)) = true := beq_iff_eq.2 (by omega)
            have hji2 : ((a + 9 + j : Nat) : Int) = (a : Int) + 9 + j := by omega
            rw [hji2] at CF
            clear h3 hm hl1 C4 hj1 hj2 hz
            go_enter Tryd.func30, Tryd.ntmps30
            go_upto_region 2 with fail
            rw [← hU]
            clear hU
            go_wp2_with fail
            refine (C1.out _).mono ?_
            rintro e w' ⟨rfl, rfl⟩
            go_wp2_with fail
            refine (C2.out _).mono ?_
            rintro e w' ⟨rfl, rfl⟩
            go_wp2_with fail
            refine (C3.out _).mono ?_
            rintro e w' ⟨rfl, rfl⟩
            go_wp2_with fail
            refine (CF.out _).mono ?_
            rintro e w' ⟨rfl, rfl⟩
            go_wp2_with fail
            go_ret3
            refine TokA.same ?_ (HM2.out.symm.trans HM.out.symm)
            exact ⟨_, ret_tok (by show _ = ((a + (9 + 3) : Nat) : Int); omega), oU, bU⟩
          · have hx : s.extract (a + 9) (a + 9 + j) = bytesV ((s.data.toList.drop (a + 9)).take j) := by
              unfold bytesV
              rw [← Lib.mk_data (s.extract (a + 9) (a + 9 + j)), extract_list, List.drop_take, show a + 9 + j - (a + 9) = j by omega]
            have HM2 : Hid (m = shMR 9 ⟨[⟨3, s.extract (a + 9) (a + 9 + j)⟩], j + 3, 0⟩) := by
              show _ = _
              rw [← hm, hx]
              unfold cdataR
              rw [hj2, if_neg (by omega), if_neg (by omega)]
              rfl
            have hji : (((a : Int) + 9 + j) == ((a : Int) + 9)) = false := beq_eq_false_iff_ne.2 (by omega)
            have hji2 : ((a + 9 + j : Nat) : Int) = (a : Int) + 9 + j := by omega
            rw [hji2] at CF
            have oV : (U.alloc (.cells #[.int .i64 3, .string (s.extract (a + 9) (a + 9 + j))] 33)).ownsRow w.heap.size 33 2 (.slice (some ⟨U.heap.size, 0, none⟩) 1 1) 1 (tcells [⟨3, s.extract (a + 9) (a + 9 + j)⟩]) := World.ownsRow_lit U #[.int .i64 3, .string (s.extract (a + 9) (a + 9 + j))] 1 bU.size (by decide) rfl
            have bV := bU.alloc bU.size (.cells #[.int .i64 3, .string (s.extract (a + 9) (a + 9 + j))] 33)
            clear h3 hm hl1 C4 hj1 hj2 hz hx oU bU
            go_enter Tryd.func30, Tryd.ntmps30
            go_upto_region 2 with fail
            rw [← hU]
            clear hU
            go_wp2_with fail
            refine (C1.out _).mono ?_
            rintro e w' ⟨rfl, rfl⟩
            go_wp2_with fail
            refine (C2.out _).mono ?_
            rintro e w' ⟨rfl, rfl⟩
            go_wp2_with fail
            refine (C3.out _).mono ?_
            rintro e w' ⟨rfl, rfl⟩
            go_wp2_with fail
            refine (CF.out _).mono ?_
            rintro e w' ⟨rfl, rfl⟩
            go_wp2_with fail
            go_ret3
            refine TokA.same ?_ (HM2.out.symm.trans HM.out.symm)
            exact ⟨_, ret_tok (by show _ = ((a + (9 + (j + 3)) : Nat) : Int); omega), oV, bV⟩
      | false =>
        rw [h3, if_neg (by decide)] at hm
        rw [h3] at C3
        clear h3
        cases h4 : Lib.hasPrefix (s.data.toList.drop a) [60, 47] with
        | true =>
          have hl1 := pre_len h4
          have hl2 : ([60, 47] : List UInt8).length = 2 := rfl
          rw [h4, if_pos rfl, hdd] at hm
          rw [h4] at C4
          have CK : Hid (Calls Tryd.prog 46 #[.string s, .int .i64 ((a : Int) + 2)] U fun e w' => TokA U (a + 2) (closeR (s.data.toList.drop (a + 2))) e w') := by
            have := spec13Close s (a + 2) U hs (by omega)
            rw [show ((a + 2 : Nat) : Int) = (a : Int) + 2 by omega] at this
            exact this
          have HF : Hid (∀ e w', TokA U (a + 2) (closeR (s.data.toList.drop (a + 2))) e w' → ∃ v x y, e = .returned (.tuple #[v, .int .i64 x, .int .i64 y]) ∧ TokA w a m (.returned (.tuple #[v, .int .i64 x, .int .i64 y])) w') := fun e w' h => by
            obtain ⟨v, h2, h3, h4⟩ := h.shift bU
            exact ⟨v, _, _, h2, by rw [← hm]; exact ⟨v, rfl, h3, h4⟩⟩
          clear h4 hm hl1 oU bU
          go_enter Tryd.func30, Tryd.ntmps30
          go_upto_region 2 with fail
          rw [← hU]
          clear hU
          go_wp2_with fail
          refine (C1.out _).mono ?_
          rintro e w' ⟨rfl, rfl⟩
          go_wp2_with fail
          refine (C2.out _).mono ?_
          rintro e w' ⟨rfl, rfl⟩
          go_wp2_with fail
          refine (C3.out _).mono ?_
          rintro e w' ⟨rfl, rfl⟩
          go_wp2_with fail
          refine (C4.out _).mono ?_
          rintro e w' ⟨rfl, rfl⟩
          go_wp2_with fail
          refine CK.out.mono ?_
          intro e w1 h5
          obtain ⟨v, x, y, rfl, h6⟩ := HF.out _ _ h5
          have H6 : Hid (TokA w a m (.returned (.tuple #[v, .int .i64 x, .int .i64 y])) w1) := h6
          clear h5 h6
          go_wp2_with fail
          go_ret3
          exact H6.out.same HM.out.symm
        | false =>
          rw [h4, if_neg (by decide), hdd] at hm
          rw [h4] at C4
          have CK : Hid (Calls Tryd.prog 47 #[.string s, .int .i64 ((a : Int) + 1)] U fun e w' => TokA U (a + 1) (openR (s.data.toList.drop (a + 1))) e w') := by
            have := spec13Open s (a + 1) U hs (by omega)
            rw [show ((a + 1 : Nat) : Int) = (a : Int) + 1 by omega] at this
            exact this
          have HF : Hid (∀ e w', TokA U (a + 1) (openR (s.data.toList.drop (a + 1))) e w' → ∃ v x y, e = .returned (.tuple #[v, .int .i64 x, .int .i64 y]) ∧ TokA w a m (.returned (.tuple #[v, .int .i64 x, .int .i64 y])) w') := fun e w' h => by
            obtain ⟨v, h2, h3, h4⟩ := h.shift bU
            exact ⟨v, _, _, h2, by rw [← hm]; exact ⟨v, rfl, h3, h4⟩⟩
          clear h4 hm oU bU
          go_enter Tryd.func30, Tryd.ntmps30
          go_upto_region 2 with fail
          rw [← hU]
          clear hU
          go_wp2_with fail
          refine (C1.out _).mono ?_
          rintro e w' ⟨rfl, rfl⟩
          go_wp2_with fail
          refine (C2.out _).mono ?_
          rintro e w' ⟨rfl, rfl⟩
          go_wp2_with fail
          refine (C3.out _).mono ?_
          rintro e w' ⟨rfl, rfl⟩
          go_wp2_with fail
          refine (C4.out _).mono ?_
          rintro e w' ⟨rfl, rfl⟩
          go_wp2_with fail
          refine CK.out.mono ?_
          intro e w1 h5
          obtain ⟨v, x, y, rfl, h6⟩ := HF.out _ _ h5
          have H6 : Hid (TokA w a m (.returned (.tuple #[v, .int .i64 x, .int .i64 y])) w1) := h6
          clear h5 h6
          go_wp2_with fail
          go_ret3
          exact H6.out.same HM.out.symm
end Go.Proofs.YtjdmmmohaiiocaaDoor
