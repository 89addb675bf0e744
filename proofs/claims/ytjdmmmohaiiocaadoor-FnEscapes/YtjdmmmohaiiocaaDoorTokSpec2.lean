/- The contracts of the specification's names, of what is passed over, and of what ends. -/
import Derived.Test.YtjdmmmohaiiocaaDoorRows
import Derived.Test.YtjdmmmohaiiocaaDoorTokSpec1
namespace Go.Proofs.YtjdmmmohaiiocaaDoor
open Go.RowKit
set_option linter.unusedVariables false

theorem while_len {p : UInt8 → Bool} {l : List UInt8} {j : Nat} (hj : j ≤ l.length) (h : ∀ c ∈ l.take j, p c = true) (he : j = l.length ∨ ∃ c, l[j]? = some c ∧ p c = false) : (l.takeWhile p).length = j := by
  rw [(while_cut h).1, List.length_append, List.length_take, Nat.min_eq_left hj]
  rcases he with he | ⟨c, hc, hp⟩
  · rw [List.drop_eq_nil_of_le (by omega)]
    rfl
  · have hlt : j < l.length := by
      rcases Nat.lt_or_ge j l.length with h1 | h1
      · exact h1
      · rw [List.getElem?_eq_none h1] at hc; cases hc
    rw [List.drop_eq_getElem_cons hlt, List.takeWhile_cons]
    rw [List.getElem?_eq_getElem hlt] at hc
    injection hc with hc
    rw [hc, if_neg (by rw [hp]; decide)]
    rfl
theorem name_len {r : List UInt8} {j : Nat} (hj : j ≤ r.length) (h41 : j ≤ 41) (h : ∀ c ∈ r.take j, nmB c = true) (he : j = r.length ∨ j = 41 ∨ ∃ c, r[j]? = some c ∧ nmB c = false) : nameN r = if j = 41 then 0 else j := by
  have : ((r.take 41).takeWhile nmB).length = j := by
    refine while_len (by rw [List.length_take]; omega) (by rw [List.take_take, Nat.min_eq_left h41]; exact h) ?_
    rw [List.length_take]
    by_cases h4 : j = 41
    · exact .inl (by omega)
    · rcases he with he | he | ⟨c, hc, hp⟩
      · exact .inl (by omega)
      · exact absurd he h4
      · exact .inr ⟨c, by rw [List.getElem?_take, if_pos (by omega)]; exact hc, hp⟩
  unfold nameN
  rw [this]
theorem dig_in (d : Nat) : decide (48 ≤ d ∧ d ≤ 57) = decide ((48 : Int) ≤ (d : Int) ∧ (d : Int) ≤ 57) := by
  by_cases h : 48 ≤ d ∧ d ≤ 57
  · rw [decide_eq_true h, decide_eq_true (by omega)]
  · rw [decide_eq_false h, decide_eq_false (by omega)]
set_option maxRecDepth 100000 in
set_option maxHeartbeats 4000000 in
theorem spec13Name (s : ByteArray) (a : Nat) (w : World) (hs : s.size ≤ 16777216) (ha : a ≤ s.size) :
    Calls Tryd.prog 61 #[.string s, .int .i64 (a : Int)] w fun e w' => e = .returned (.int .i64 ((a + nameN (s.data.toList.drop a) : Nat) : Int)) ∧ w = w' := by
  have hsl : (s.data.toList.drop a).length = s.size - a := by rw [List.length_drop]; simp
  go_enter Tryd.func61, Tryd.ntmps61
  go_wp2_with fail
  go_loop [5] (fun i => ∃ j : Nat, a + j ≤ s.size ∧ j ≤ 41 ∧ i = .int .i64 ((a + j : Nat) : Int) ∧ Hid (∀ c ∈ (s.data.toList.drop a).take j, nmB c = true)) (fun i => s.size + 1 - (intOf i).toNat)
  case atStart => exact ⟨0, by omega, by omega, rfl, fun c hc => by cases hc⟩
  case round =>
    obtain ⟨j, hj, h41, rfl, HA⟩ := hrel
    by_cases hin : a + j < s.size ∧ j < 41
    · obtain ⟨hlt, hj41⟩ := hin
      have hki : (a : Int) + j < s.size := by omega
      have hkj : (a : Int) + j < (a : Int) + 41 := by omega
      obtain ⟨d, hd⟩ : ∃ d : Nat, (s[a + j]'hlt).toNat = d := ⟨_, rfl⟩
      have ix := run_at Tryd.prog 9 Tryd.underlying9 s ((a : Int) + j) (a + j) d hlt (by omega) hd
      have hgj : (s.data.toList.drop a)[j]? = some (s[a + j]'hlt) := by
        rw [List.getElem?_drop, List.getElem?_eq_getElem (by simp; omega)]
        rfl
      have hd2 : d < 256 := by rw [← hd]; exact (s[a + j]'hlt).toNat_lt
      obtain ⟨tt, htt⟩ : ∃ tt, nmB (s[a + j]'hlt) = tt := ⟨_, rfl⟩
      have HT : Hid ((letterZ (d : Int) || (decide ((48 : Int) ≤ (d : Int) ∧ (d : Int) ≤ 57) || amongL [58, 95, 45, 46] (d : Int))) = tt) := by
        show _ = _
        rw [← htt]
        unfold nmB
        rw [hd, ← dig_in, Bool.or_assoc]
      have HY : Hid (tt = true → ∀ c ∈ (s.data.toList.drop a).take (j + 1), nmB c = true) := fun ht c hc => by
        rw [List.take_add_one, hgj] at hc
        rcases List.mem_append.1 hc with h | h
        · exact HA.out c h
        · rw [Option.toList_some, List.mem_singleton] at h
          rw [h, htt, ht]
      have HNo : Hid (tt = false → nameN (s.data.toList.drop a) = j) := fun ht => by
        have := name_len (r := s.data.toList.drop a) (j := j) (by omega) h41 HA.out (.inr (.inr ⟨_, hgj, by rw [htt, ht]⟩))
        rw [this, if_neg (by omega)]
      have CL : Hid (∀ W, Calls Tryd.prog 82 #[.int .i64 (d : Int)] W fun e w' => e = .returned (.bool (letterZ (d : Int))) ∧ W = w') := fun W => specLetter _ W
      have CD : Hid (∀ W, Calls Tryd.prog 64 #[.int .i64 (d : Int), .int .i64 48, .int .i64 57] W fun e w' => e = .returned (.bool (decide ((48 : Int) ≤ (d : Int) ∧ (d : Int) ≤ 57))) ∧ W = w') := fun W => specL1In _ _ _ W
      have CA : Hid (∀ W, Calls Tryd.prog 48 #[.string ⟨#[58, 95, 45, 46]⟩, .int .i64 (d : Int)] W fun e w' => e = .returned (.bool (amongL [58, 95, 45, 46] (d : Int))) ∧ W = w') := fun W => specAmong ⟨#[58, 95, 45, 46]⟩ _ W (by decide)
      generalize letterZ (d : Int) = b1 at *
      generalize decide ((48 : Int) ≤ (d : Int) ∧ (d : Int) ≤ 57) = b2 at *
      generalize amongL [58, 95, 45, 46] (d : Int) = b3 at *
      clear htt hgj hd HA
      go_upto_region 2 with fail
      go_cut [37] (fun v wx => v = .bool tt ∧ wx = w)
      case first =>
        cases b1 with
        | true =>
          have ht : tt = true := HT.out.symm
          subst ht
          go_wp2_with fail
          refine (CL.out _).mono ?_
          rintro e w' ⟨rfl, rfl⟩
          go_wp2_with fail
          go_meet
          exact ⟨rfl, rfl⟩
        | false =>
          cases b2 with
          | true =>
            have ht : tt = true := HT.out.symm
            subst ht
            go_wp2_with fail
            refine (CL.out _).mono ?_
            rintro e w' ⟨rfl, rfl⟩
            go_wp2_with fail
            refine (CD.out _).mono ?_
            rintro e w' ⟨rfl, rfl⟩
            go_wp2_with fail
            go_meet
            exact ⟨rfl, rfl⟩
          | false =>
            have ht : b3 = tt := HT.out
            subst ht
            go_wp2_with fail
            refine (CL.out _).mono ?_
            rintro e w' ⟨rfl, rfl⟩
            go_wp2_with fail
            refine (CD.out _).mono ?_
            rintro e w' ⟨rfl, rfl⟩
            go_wp2_with fail
            refine (CA.out _).mono ?_
            rintro e w' ⟨rfl, rfl⟩
            go_wp2_with fail
            go_meet
            exact ⟨rfl, rfl⟩
      case rest =>
        obtain ⟨rfl, hw⟩ := hcut
        obtain rfl := hw.symm
        cases tt with
        | true =>
          have HA2 : Hid (∀ c ∈ (s.data.toList.drop a).take (j + 1), nmB c = true) := HY.out rfl
          go_wp2_with fail
          go_round
          case rel => exact ⟨j + 1, by omega, by omega, by go_num, HA2⟩
          case measure => simp [intOf] <;> omega
        | false =>
          have HN2 : Hid (nameN (s.data.toList.drop a) = j) := HNo.out rfl
          have hq : ¬ (a : Int) + 40 < (a : Int) + j := by omega
          go_wp2_with fail
          go_ret
          exact ⟨by rw [HN2.out]; rfl, rfl⟩
    · have HN2 : Hid (nameN (s.data.toList.drop a) = if j = 41 then 0 else j) := name_len (by omega) h41 HA.out (by omega)
      by_cases hlt : a + j < s.size
      · have hj41 : j = 41 := by omega
        subst hj41
        have hki : (a : Int) + 41 < s.size := by omega
        clear HA
        go_wp2_with fail
        go_ret
        exact ⟨by rw [HN2.out]; rfl, rfl⟩
      · have hki : ¬ (a : Int) + j < s.size := by omega
        clear HA
        by_cases hj41 : j = 41
        · subst hj41
          go_wp2_with fail
          go_ret
          exact ⟨by rw [HN2.out]; rfl, rfl⟩
        · have hq : ¬ (a : Int) + 40 < (a : Int) + j := by omega
          rw [if_neg hj41] at HN2
          go_wp2_with fail
          go_ret
          exact ⟨by rw [HN2.out]; rfl, rfl⟩
/-- What a mark gives, as three results. -/
def TokA (w : World) (a : Nat) (m : MR) (e : Ending) (w' : World) : Prop := ∃ v, e = .returned (.tuple #[v, .int .i64 (nxt a m), .int .i64 (m.code : Int)]) ∧ w'.ownsRow w.heap.size 33 2 v m.ts.length (tcells m.ts) ∧ Below w.heap.size w w'
theorem TokA.same {w : World} {a : Nat} {m m' : MR} {e : Ending} {w' : World} (h : TokA w a m e w') (hm : m = m') : TokA w a m' e w' := hm ▸ h
theorem TokA.none {w : World} {a c : Nat} (hc : c ≠ 0) : TokA w a (noMR c) (.returned (.tuple #[.slice (some ⟨w.heap.size, 0, none⟩) 0 0, .int .i64 0, .int .i64 (c : Int)])) (w.alloc (.cells #[] 33)) :=
  ⟨_, by unfold nxt noMR; rw [if_neg hc], World.ownsRow_lit w #[] 0 (Nat.le_refl _) (by decide) rfl, (Below.refl _ _).alloc (Nat.le_refl _) _⟩
theorem find_skip {l m : List UInt8} {a : Nat} (h : findZ l a m < 0) : skipR (l.drop a) m = noMR 1 := by
  have h0 := Lib.index_ge (l.drop a) m
  unfold findZ at h
  unfold skipR
  split at h
  · rename_i h1; rw [if_pos h1]
  · omega
theorem find_hit {l m : List UInt8} {a : Nat} (ha : a ≤ l.length) (h : ¬ findZ l a m < 0) : ∃ j : Nat, findZ l a m = ((a + j : Nat) : Int) ∧ Lib.index (l.drop a) m = (j : Int) ∧ a + j + m.length ≤ l.length ∧ skipR (l.drop a) m = ⟨[], j + m.length, 0⟩ := by
  have h0 := Lib.index_ge (l.drop a) m
  unfold findZ at h ⊢
  unfold skipR
  split at h
  · omega
  · rename_i h1
    rw [if_neg h1, if_neg h1]
    have h2 := Lib.index_room (l.drop a) m (by omega)
    rw [List.length_drop] at h2
    exact ⟨(Lib.index (l.drop a) m).toNat, by omega, by omega, by omega, rfl⟩
set_option maxHeartbeats 1000000 in
theorem spec13Skip (s m : ByteArray) (a : Nat) (w : World) (hs : s.size ≤ 16777216) (hm : m.size ≤ 100) (hm0 : 0 < m.size) (ha : a ≤ s.size) :
    Calls Tryd.prog 44 #[.string s, .int .i64 (a : Int), .string m] w fun e w' => TokA w a (skipR (s.data.toList.drop a) m.data.toList) e w' := by
  have CF : Hid (∀ W, Calls Tryd.prog 45 #[.string s, .int .i64 (a : Int), .string m] W fun e w' => e = .returned (.int .i64 (findZ s.data.toList a m.data.toList)) ∧ W = w') := fun W => spec13Find s m a W hs hm hm0 ha
  have hml : m.data.toList.length = m.size := by simp
  have hsl : s.data.toList.length = s.size := by simp
  by_cases hz : findZ s.data.toList a m.data.toList < 0
  · have HR : Hid (skipR (s.data.toList.drop a) m.data.toList = noMR 1) := find_skip hz
    generalize findZ s.data.toList a m.data.toList = z at *
    go_enter Tryd.func44, Tryd.ntmps44
    go_wp2_with fail
    refine (CF.out _).mono ?_
    rintro e w' ⟨rfl, rfl⟩
    go_wp2_with fail
    go_ret3
    exact (TokA.none (by decide)).same HR.out.symm
  · obtain ⟨j, h1, _, h3, h4⟩ := find_hit (by rw [hsl]; exact ha) hz
    rw [h1] at CF
    have HR : Hid (skipR (s.data.toList.drop a) m.data.toList = ⟨[], j + m.size, 0⟩) := by rw [← hml]; exact h4
    rw [hml, hsl] at h3
    clear h1 h4 hz
    go_enter Tryd.func44, Tryd.ntmps44
    go_wp2_with fail
    refine (CF.out _).mono ?_
    rintro e w' ⟨rfl, rfl⟩
    go_wp2_with fail
    go_ret3
    refine TokA.same ?_ HR.out.symm
    refine ⟨_, ?_, World.ownsRow_lit w #[] 0 (Nat.le_refl _) (by decide) rfl, (Below.refl _ _).alloc (Nat.le_refl _) _⟩
    unfold nxt
    rw [if_pos rfl]
    show _ = Ending.returned (.tuple #[_, .int .i64 ((a + (j + m.size) : Nat) : Int), .int .i64 0])
    rw [show ((a + (j + m.size) : Nat) : Int) = (a : Int) + j + m.size by omega]
    rfl
end Go.Proofs.YtjdmmmohaiiocaaDoor
