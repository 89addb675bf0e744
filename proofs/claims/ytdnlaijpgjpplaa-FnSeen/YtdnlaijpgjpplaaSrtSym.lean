/- The contract of slices.symMergeCmpFunc at marks: two sorted parts become one, the first one's ahead of those that are alike. -/
import Derived.Test.YtdnlaijpgjpplaaRows
import Derived.Test.YtdnlaijpgjpplaaSrtRot
import Derived.Test.YtdnlaijpgjpplaaKeyImpl
import Derived.Deep.DeepCutAuto
namespace Go.Proofs.Ytdnlaijpgjpplaa
open Go.RowKit
set_option linter.unusedVariables false

theorem MRw.atR {w W : World} {base g n cap : Nat} {A B C : List EV} (h : MRw w W base g n cap (A ++ (B ++ C))) {i : Nat} (h1 : A.length ≤ i) (h2 : i < A.length + B.length) :
    W.cell? ⟨g, i * 2, none⟩ = some (.string (B.getD (i - A.length) ev0).s) ∧ W.cell? ⟨g, i * 2 + 1, none⟩ = some (.int .i64 (B.getD (i - A.length) ev0).k) := by
  have hl := h.len
  simp only [List.length_append] at hl
  have := h.at (i := i) (by omega)
  have e : (A ++ (B ++ C)).getD i ev0 = B.getD (i - A.length) ev0 := by
    rw [List.getD_eq_getElem?_getD, List.getD_eq_getElem?_getD, List.getElem?_append_right h1, List.getElem?_append_left (by omega)]
  rwa [e] at this
theorem srt_at {l : List EV} (h : Srt l) {i j : Nat} (hij : i < j) (hj : j < l.length) : kl (l.getD j ev0) (l.getD i ev0) = false := by
  have := List.pairwise_iff_getElem.1 h i j (by omega) hj hij
  rwa [List.getD_eq_getElem?_getD, List.getD_eq_getElem?_getD, List.getElem?_eq_getElem hj, List.getElem?_eq_getElem (show i < l.length by omega)]
theorem srt_at' {l : List EV} (h : Srt l) {i j : Nat} (hij : i ≤ j) (hj : j < l.length) : kl (l.getD j ev0) (l.getD i ev0) = false := by
  by_cases e : i = j
  · subst e; exact kl_irrefl _
  · exact srt_at h (by omega) hj
theorem half_lt {i j : Nat} (h : i < j) : i ≤ (i + j) / 2 ∧ (i + j) / 2 < j := by omega
theorem half_z {i j : Nat} (hj : j ≤ 1048576) (hi : i ≤ 1048576) : IntKind.u64.wrap ((i : Int) + (j : Int)) = ((i + j : Nat) : Int) ∧ ((i + j : Nat) : Int) / 2 = (((i + j) / 2 : Nat) : Int) := by
  refine ⟨?_, by omega⟩
  rw [IntKind.wrap_u64]; omega
set_option maxRecDepth 100000 in
set_option maxHeartbeats 8000000 in
theorem implSymSmall (w : World) (base g n cap : Nat) (hn : n ≤ 1048576) (W : World) (A X Y C : List EV) (a m b : Nat) (ha : A.length = a) (hm : a + X.length = m) (hb : m + Y.length = b) (hX : 0 < X.length) (hY : 0 < Y.length) (hsX : Srt X) (hsY : Srt Y) (hXY : X.length = 1 ∨ Y.length = 1)
    (h : MRw w W base g n cap (A ++ (X ++ (Y ++ C)))) :
    Calls Try.prog 53 #[.slice (some ⟨g, 0, none⟩) n cap, .int .i64 a, .int .i64 m, .int .i64 b, .func (.func 30) #[] #[]] W fun e w' => e = .returned (.tuple #[]) ∧ MRw w w' base g n cap (A ++ (smg X Y ++ C)) := by
  have HSX := hidM hsX
  have HSY := hidM hsY
  clear hsX hsY
  have hlen := h.len
  simp only [List.length_append] at hlen
  have HL := hidM h
  clear h
  by_cases hX1 : X.length = 1
  · match X, hX1, HSX, HL with
    | [x], _, HSX, HL =>
    have hd : (m : Int) - (a : Int) = 1 := by simp at hm; omega
    simp only [List.length_singleton] at *
    go_enter Try.func53, Try.ntmps53
    go_wp2
    go_loopw [10, 11] (fun s t wr => ∃ (i j : Nat), s = .int .i64 i ∧ t = .int .i64 j ∧ m ≤ i ∧ i ≤ j ∧ j ≤ b ∧ Hid (∀ t, t < i - m → kl (Y.getD t ev0) x = true) ∧ Hid (∀ t, j - m ≤ t → t < Y.length → kl (Y.getD t ev0) x = false) ∧ Hid (MRw w wr base g n cap (A ++ (x :: (Y ++ C))))) (fun s t _ => (intOf t).toNat - (intOf s).toNat)
    case atStart => exact ⟨m, b, rfl, rfl, Nat.le_refl _, by omega, Nat.le_refl _, fun t ht => by omega, fun t h1 h2 => by omega, HL⟩
    case round =>
      obtain ⟨i, j, rfl, rfl, hmi, hij, hjb, HB, HA, HM⟩ := hrel
      clear HL
      by_cases hlt : i < j
      · have hki : (i : Int) < (j : Int) := by omega
        obtain ⟨q, hq⟩ : ∃ q, q = (i + j) / 2 := ⟨_, rfl⟩
        have hqi : i ≤ q := by omega
        have hqj : q < j := by omega
        have hqz : ((i : Int) + (j : Int)) / 2 = (q : Int) := by omega
        clear hq
        have m0 := HM.out
        have cy := MRw.atR (A := A ++ [x]) (B := Y) (C := C) (by simpa using m0) (i := q) (by simp; omega) (by simp; omega)
        obtain ⟨cx1, cx2⟩ := m0.cell ha
        rw [show q - (A ++ [x]).length = q - m by simp; omega] at cy
        obtain ⟨cy1, cy2⟩ := cy
        have HY1 : Hid (kl (Y.getD (q - m) ev0) x = true → ∀ t, t < q + 1 - m → kl (Y.getD t ev0) x = true) := fun h t ht => kl_le_lt (srt_at' HSY.out (by omega) (by omega)) h
        have HY2 : Hid (kl (Y.getD (q - m) ev0) x = false → ∀ t, q - m ≤ t → t < Y.length → kl (Y.getD t ev0) x = false) := fun h t h1 h2 => kl_le_le h (srt_at' HSY.out (by omega) (by omega))
        generalize Y.getD (q - m) ev0 = y at cy1 cy2 HY1 HY2
        have CB := hidM (fun W => implByKey y x W)
        have KN := hidM (kcmp_neg y x)
        generalize kcmp y x = z at *
        have zq : (q : Int) < (n : Int) := by omega
        have za : (a : Int) < (n : Int) := by omega
        clear m0
        go_upto_region 5 with fail
        clear hqz
        by_cases hlv : z < 0
        · have HB2 : Hid _ := hidM (HY1.out (KN.out.1 hlv))
          go_wp2_with fail
          go_region_with (go_at_call 30; refine (CB.out _).mono ?_; rintro e wc ⟨rfl, bc⟩)
          all_goals
            have HM2 := hidM (HM.out.drew.below bc)
            clear HM bc cx1 cx2 cy1 cy2 CB
            go_wp2_with fail
            go_roundw
            case rel => exact ⟨q + 1, j, by go_num, rfl, by omega, by omega, hjb, HB2.out, HA, HM2⟩
            case measure => simp [intOf]; omega
        · have HB2 : Hid _ := hidM (HY2.out (by cases e : kl y x with | false => rfl | true => exact absurd (KN.out.2 e) hlv))
          go_wp2_with fail
          go_region_with (go_at_call 30; refine (CB.out _).mono ?_; rintro e wc ⟨rfl, bc⟩)
          all_goals
            have HM2 := hidM (HM.out.drew.below bc)
            clear HM bc cx1 cx2 cy1 cy2 CB
            go_wp2_with fail
            go_roundw
            case rel => exact ⟨i, q, rfl, by go_num, hmi, hqi, by omega, HB, HB2.out, HM2⟩
            case measure => simp [intOf]; omega
      · have hki : ¬ (i : Int) < (j : Int) := by omega
        have hij' : i = j := by omega
        subst hij'
        obtain ⟨Y1, Y2, hYY, hY1, hY2⟩ := cut_at Y (i - m) (by omega)
        have HR : Hid (smg [x] Y = Y1 ++ x :: Y2) := by
          show _ = _
          rw [hYY]
          refine smg_one x Y1 Y2 (fun y hy => ?_) (fun y hy => ?_)
          · obtain ⟨t, ht, rfl⟩ := List.getElem_of_mem hy
            have := HB.out t (by omega)
            rwa [hYY, List.getD_eq_getElem?_getD, List.getElem?_append_left ht, List.getElem?_eq_getElem ht] at this
          · obtain ⟨t, ht, rfl⟩ := List.getElem_of_mem hy
            have := HA.out (Y1.length + t) (by omega) (by omega)
            rwa [hYY, List.getD_eq_getElem?_getD, List.getElem?_append_right (by omega), Nat.add_sub_cancel_left, List.getElem?_eq_getElem ht] at this
        have HM0 : Hid (MRw w wr base g n cap (A ++ ([] ++ x :: (Y1 ++ (Y2 ++ C))))) := hidM (by have := HM.out; rw [hYY] at this; simpa using this)
        have hiz : (i : Int) - 1 = ((a + Y1.length : Nat) : Int) := by omega
        have hyn : a + Y1.length + 1 ≤ n := by omega
        clear HM HB HA hYY
        go_wp2
        go_loopw [13] (fun s wk => ∃ (k : Nat) (Z1 Z2 : List EV), s = .int .i64 k ∧ Hid (Y1 = Z1 ++ Z2) ∧ a + Z1.length = k ∧ Z1.length + Z2.length = Y1.length ∧ Hid (MRw w wk base g n cap (A ++ (Z1 ++ x :: (Z2 ++ (Y2 ++ C)))))) (fun s _ => n - (intOf s).toNat)
        case atStart => exact ⟨a, [], Y1, rfl, rfl, rfl, by simp, HM0⟩
        case round =>
          obtain ⟨k, Z1, Z2, rfl, HZ, hk, hz, HK⟩ := hrel
          clear HM0
          by_cases hlk : k < a + Y1.length
          · match Z2, hz, HZ, HK with
            | [], hz, _, _ => simp at hz; omega
            | z :: Z2, hz, HZ, HK =>
            have hkk : (k : Int) < ((a + Y1.length : Nat) : Int) := by omega
            have m0 := HK.out
            rw [← List.append_assoc] at m0
            have hi0 : (A ++ Z1).length = k := by rw [List.length_append]; omega
            have m1 : MRw w wr base g n cap ((A ++ Z1) ++ x :: ([] ++ z :: (Z2 ++ (Y2 ++ C)))) := by simpa using m0
            obtain ⟨cx1, cx2⟩ := m1.cell hi0
            obtain ⟨cz1, cz2⟩ := MRw.cell (A := (A ++ Z1) ++ [x]) (x := z) (B := Z2 ++ (Y2 ++ C)) (i := k + 1) (by simpa using m0) (by rw [List.length_append, hi0]; rfl)
            have SW := hidM (m1.swap (j := k + 1) hi0 (by rw [hi0]; rfl)).drew
            have f1 := m1.fz (k * 2)
            have f2 := m1.fz (k * 2 + 1)
            have f3 := m1.fz ((k + 1) * 2)
            have f4 := m1.fz ((k + 1) * 2 + 1)
            rw [show A ++ Z1 ++ z :: ([] ++ x :: (Z2 ++ (Y2 ++ C))) = A ++ ((Z1 ++ [z]) ++ x :: (Z2 ++ (Y2 ++ C))) by simp] at SW
            have z1 : (k : Int) < (n : Int) := by omega
            have z2 : (k : Int) + 1 < (n : Int) := by omega
            clear m0 m1 HK hi0
            go_wp2_with fail
            go_big_region
            clear cx1 cx2 cz1 cz2 f1 f2 f3 f4
            generalize ((((wr.setCell _ _).setCell _ _).setCell _ _).setCell _ _).drew = W2 at *
            go_wp2_with fail
            go_roundw
            case rel => exact ⟨k + 1, Z1 ++ [z], Z2, by go_num, (by have := HZ.out; show _ = _; rw [this]; simp), by simp; omega, by simp at hz ⊢; omega, SW⟩
            case measure => simp [intOf]; omega
          · have hkk : ¬ (k : Int) < ((a + Y1.length : Nat) : Int) := by omega
            have e1 : Z2 = [] := List.eq_nil_of_length_eq_zero (by omega)
            subst e1
            go_wp2_with fail
            (try simp only [Exit.inBlock, Exit.then]); refine bodyPost_ret (results_none rfl _ _ _) rfl ?_
            exact ⟨rfl, by have h1 := HK.out; have h2 := HZ.out; rw [List.append_nil] at h2; rw [HR.out, h2]; simpa using h1⟩
  · have hX1z : ((m : Int) - (a : Int) == 1) = false := by rw [beq_eq_false_iff_ne]; omega
    by_cases hY1 : Y.length = 1
    · match Y, hY1, HSY, HL with
      | [y], _, HSY, HL =>
      simp only [List.length_singleton] at *
      have hd : (b : Int) - (m : Int) = 1 := by omega
      go_enter Try.func53, Try.ntmps53
      go_wp2
      go_loopw [14, 15] (fun s t wr => ∃ (i j : Nat), s = .int .i64 i ∧ t = .int .i64 j ∧ a ≤ i ∧ i ≤ j ∧ j ≤ m ∧ Hid (∀ t, t < i - a → kl y (X.getD t ev0) = false) ∧ Hid (∀ t, j - a ≤ t → t < X.length → kl y (X.getD t ev0) = true) ∧ Hid (MRw w wr base g n cap (A ++ (X ++ (y :: C))))) (fun s t _ => (intOf t).toNat - (intOf s).toNat)
      case atStart => exact ⟨a, m, rfl, rfl, Nat.le_refl _, by omega, Nat.le_refl _, fun t ht => by omega, fun t h1 h2 => by omega, HL⟩
      case round =>
        obtain ⟨i, j, rfl, rfl, hmi, hij, hjb, HB, HA, HM⟩ := hrel
        clear HL
        by_cases hlt : i < j
        · have hki : (i : Int) < (j : Int) := by omega
          obtain ⟨q, hq⟩ : ∃ q, q = (i + j) / 2 := ⟨_, rfl⟩
          have hqi : i ≤ q := by omega
          have hqj : q < j := by omega
          have hqz : ((i : Int) + (j : Int)) / 2 = (q : Int) := by omega
          clear hq
          have m0 := HM.out
          have cy := MRw.atR (A := A) (B := X) (C := y :: C) m0 (i := q) (by omega) (by omega)
          obtain ⟨cx1, cx2⟩ := MRw.cell (A := A ++ X) (x := y) (B := C) (i := m) (by simpa using m0) (by rw [List.length_append]; omega)
          rw [show q - A.length = q - a by omega] at cy
          obtain ⟨cy1, cy2⟩ := cy
          have HY1 : Hid (kl y (X.getD (q - a) ev0) = false → ∀ t, t < q + 1 - a → kl y (X.getD t ev0) = false) := fun h t ht => kl_le_le (srt_at' HSX.out (by omega) (by omega)) h
          have HY2 : Hid (kl y (X.getD (q - a) ev0) = true → ∀ t, q - a ≤ t → t < X.length → kl y (X.getD t ev0) = true) := fun h t h1 h2 => kl_lt_le h (srt_at' HSX.out (by omega) (by omega))
          generalize X.getD (q - a) ev0 = x at cy1 cy2 HY1 HY2
          have CB := hidM (fun W => implByKey y x W)
          have KN := hidM (kcmp_neg y x)
          generalize kcmp y x = z at *
          have zq : (q : Int) < (n : Int) := by omega
          have za : (m : Int) < (n : Int) := by omega
          clear m0
          go_upto_region 17 with fail
          clear hqz
          by_cases hlv : z < 0
          · have HB2 : Hid _ := hidM (HY2.out (KN.out.1 hlv))
            go_wp2_with fail
            go_region_with (go_at_call 30; refine (CB.out _).mono ?_; rintro e wc ⟨rfl, bc⟩)
            all_goals
              have HM2 := hidM (HM.out.drew.below bc)
              clear HM bc cx1 cx2 cy1 cy2 CB
              go_wp2_with fail
              go_roundw
              case rel => exact ⟨i, q, rfl, by go_num, hmi, hqi, by omega, HB, HB2.out, HM2⟩
              case measure => simp [intOf]; omega
          · have hlb : (!decide (z < 0)) = true := by rw [decide_eq_false hlv]; rfl
            have HB2 : Hid _ := hidM (HY1.out (by cases e : kl y x with | false => rfl | true => exact absurd (KN.out.2 e) hlv))
            go_wp2_with fail
            go_region_with (go_at_call 30; refine (CB.out _).mono ?_; rintro e wc ⟨rfl, bc⟩)
            all_goals
              have HM2 := hidM (HM.out.drew.below bc)
              clear HM bc cx1 cx2 cy1 cy2 CB
              go_wp2_with fail
              go_roundw
              case rel => exact ⟨q + 1, j, by go_num, rfl, by omega, by omega, hjb, HB2.out, HA, HM2⟩
              case measure => simp [intOf]; omega
        · have hki : ¬ (i : Int) < (j : Int) := by omega
          have hij' : i = j := by omega
          subst hij'
          obtain ⟨X1, X2, hXX, hX1', hX2'⟩ := cut_at X (i - a) (by omega)
          have HR : Hid (smg X [y] = X1 ++ y :: X2) := by
            show _ = _
            rw [hXX]
            refine smg_last y X1 X2 (fun x hx => ?_) (fun x hx => ?_)
            · obtain ⟨t, ht, rfl⟩ := List.getElem_of_mem hx
              have := HB.out t (by omega)
              rwa [hXX, List.getD_eq_getElem?_getD, List.getElem?_append_left ht, List.getElem?_eq_getElem ht] at this
            · obtain ⟨t, ht, rfl⟩ := List.getElem_of_mem hx
              have := HA.out (X1.length + t) (by omega) (by omega)
              rwa [hXX, List.getD_eq_getElem?_getD, List.getElem?_append_right (by omega), Nat.add_sub_cancel_left, List.getElem?_eq_getElem ht] at this
          have HM0 : Hid (MRw w wr base g n cap (A ++ (X1 ++ (X2 ++ y :: ([] ++ C))))) := hidM (by have := HM.out; rw [hXX] at this; simpa using this)
          have hiz1 : i ≤ a + X1.length := by omega
          have hiz2 : a + X1.length ≤ i := by omega
          have hmz1 : m ≤ i + X2.length := by omega
          have hmz2 : i + X2.length ≤ m := by omega
          clear hX1' hX2'
          clear HM HB HA hXX
          go_wp2
          go_loopw [17] (fun s wk => ∃ (k : Nat) (Z1 Z2 : List EV), s = .int .i64 k ∧ Hid (X2 = Z1 ++ Z2) ∧ i + Z1.length = k ∧ Z1.length + Z2.length = X2.length ∧ Hid (MRw w wk base g n cap (A ++ (X1 ++ (Z1 ++ y :: (Z2 ++ C)))))) (fun s _ => (intOf s).toNat)
          case atStart => exact ⟨m, X2, [], rfl, hidM (by simp), by omega, by simp, HM0⟩
          case round =>
            obtain ⟨k, Z1, Z2, rfl, HZ, hk, hz, HK⟩ := hrel
            clear HM0
            by_cases hlk : i < k
            · rcases List.eq_nil_or_concat Z1 with rfl | ⟨Z1', z, rfl⟩
              · simp at hk; omega
              rw [List.concat_eq_append] at *
              have hkk : (i : Int) < (k : Int) := by omega
              obtain ⟨k', rfl⟩ : ∃ k', k = k' + 1 := ⟨k - 1, by omega⟩
              have m0 := HK.out
              have hi0 : (A ++ (X1 ++ Z1')).length = k' := by simp at hk ⊢; omega
              have m1 : MRw w wr base g n cap ((A ++ (X1 ++ Z1')) ++ z :: ([] ++ y :: (Z2 ++ C))) := by simpa using m0
              obtain ⟨cx1, cx2⟩ := m1.cell hi0
              obtain ⟨cz1, cz2⟩ := MRw.cell (A := (A ++ (X1 ++ Z1')) ++ [z]) (x := y) (B := Z2 ++ C) (i := k' + 1) (by simpa using m0) (by rw [List.length_append, hi0]; rfl)
              have SW := hidM (m1.swap' (j := k' + 1) hi0 (by rw [hi0]; rfl)).drew
              have f1 := m1.fz (k' * 2)
              have f2 := m1.fz (k' * 2 + 1)
              have f3 := m1.fz ((k' + 1) * 2)
              have f4 := m1.fz ((k' + 1) * 2 + 1)
              rw [show A ++ (X1 ++ Z1') ++ y :: ([] ++ z :: (Z2 ++ C)) = A ++ (X1 ++ (Z1' ++ y :: ((z :: Z2) ++ C))) by simp] at SW
              have hkz : ((k' + 1 : Nat) : Int) - 1 = (k' : Int) := by omega
              have z1 : (k' : Int) < (n : Int) := by omega
              have z2 : ((k' + 1 : Nat) : Int) < (n : Int) := by omega
              clear m0 m1 HK hi0
              go_wp2_with fail
              go_big_region
              clear cx1 cx2 cz1 cz2 f1 f2 f3 f4
              generalize ((((wr.setCell _ _).setCell _ _).setCell _ _).setCell _ _).drew = W2 at *
              go_wp2_with fail
              go_roundw
              case rel => exact ⟨k', Z1', z :: Z2, by go_num, (by have := HZ.out; show _ = _; rw [this]; simp), by simp at hk; omega, by simp at hz ⊢; omega, SW⟩
              case measure => simp [intOf]
            · have hkk : ¬ (i : Int) < (k : Int) := by omega
              have e1 : Z1 = [] := List.eq_nil_of_length_eq_zero (by omega)
              subst e1
              go_wp2_with fail
              (try simp only [Exit.inBlock, Exit.then]); refine bodyPost_ret (results_none rfl _ _ _) rfl ?_
              exact ⟨rfl, by have h1 := HK.out; have h2 := HZ.out; rw [List.nil_append] at h2; rw [HR.out, h2]; simpa using h1⟩
    · exact absurd hXY (by omega)
end Go.Proofs.Ytdnlaijpgjpplaa
