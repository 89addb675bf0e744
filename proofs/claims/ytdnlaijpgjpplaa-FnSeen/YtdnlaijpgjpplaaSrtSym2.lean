/- The contract of slices.symMergeCmpFunc at marks, whole. -/
import Derived.Test.YtdnlaijpgjpplaaRows
import Derived.Test.YtdnlaijpgjpplaaSrtSym
namespace Go.Proofs.Ytdnlaijpgjpplaa
open Go.RowKit
set_option linter.unusedVariables false

theorem sym_cut {X Y X1 X2 Y1 Y2 : List EV} {a m b mid lo hi u : Nat} (hsX : Srt X) (hsY : Srt Y) (hX : X = X1 ++ X2) (hY : Y = Y1 ++ Y2) (hx : X1.length + a = u) (hy : Y1.length + u = mid) (hma : m = a + X.length) (hmb : b = m + Y.length)
    (hlo : a ≤ lo) (hlu : lo ≤ u) (huh : u ≤ hi) (hhm : hi ≤ m) (hhi : hi ≤ mid) (hcase : (lo = a ∨ mid + m = lo + b) ∧ (hi = m ∨ hi = mid))
    (H1 : ∀ c, lo ≤ c → c < u → kl (Y.getD (mid - 1 - c) ev0) (X.getD (c - a) ev0) = false) (H2 : ∀ c, u ≤ c → c < hi → kl (Y.getD (mid - 1 - c) ev0) (X.getD (c - a) ev0) = true) :
    smg X Y = smg X1 Y1 ++ smg X2 Y2 := by
  have lX : X.length = X1.length + X2.length := by rw [hX, List.length_append]
  have lY : Y.length = Y1.length + Y2.length := by rw [hY, List.length_append]
  rw [hX, hY]
  refine smg_split X1 X2 Y1 Y2 (fun x hxm y hym => ?_) (fun y hym x hxm => ?_)
  · obtain ⟨i, hi1, rfl⟩ := List.getElem_of_mem hxm
    obtain ⟨j, hj1, rfl⟩ := List.getElem_of_mem hym
    have ex : X1[i] = X.getD i ev0 := by rw [hX, List.getD_eq_getElem?_getD, List.getElem?_append_left hi1, List.getElem?_eq_getElem hi1]; rfl
    have ey : Y2[j] = Y.getD (Y1.length + j) ev0 := by rw [hY, List.getD_eq_getElem?_getD, List.getElem?_append_right (by omega), Nat.add_sub_cancel_left, List.getElem?_eq_getElem hj1]; rfl
    rw [ex, ey]
    have hlu' : lo < u := by
      rcases hcase.1 with h | h
      · omega
      · omega
    have h0 := H1 (u - 1) (by omega) (by omega)
    rw [show mid - 1 - (u - 1) = Y1.length by omega, show u - 1 - a = X1.length - 1 by omega] at h0
    exact kl_le_le (kl_le_le (srt_at' hsX (by omega) (by omega)) h0) (srt_at' hsY (by omega) (by omega))
  · obtain ⟨i, hi1, rfl⟩ := List.getElem_of_mem hxm
    obtain ⟨j, hj1, rfl⟩ := List.getElem_of_mem hym
    have ex : X2[i] = X.getD (X1.length + i) ev0 := by rw [hX, List.getD_eq_getElem?_getD, List.getElem?_append_right (by omega), Nat.add_sub_cancel_left, List.getElem?_eq_getElem hi1]; rfl
    have ey : Y1[j] = Y.getD j ev0 := by rw [hY, List.getD_eq_getElem?_getD, List.getElem?_append_left hj1, List.getElem?_eq_getElem hj1]; rfl
    rw [ex, ey]
    have huh' : u < hi := by
      rcases hcase.2 with h | h
      · omega
      · omega
    have h0 := H2 u (by omega) huh'
    rw [show mid - 1 - u = Y1.length - 1 by omega, show u - a = X1.length by omega] at h0
    exact kl_lt_le (kl_le_lt (srt_at' hsY (by omega) (by omega)) h0) (srt_at' hsX (by omega) (by omega))
theorem smg_either {X Y : List EV} (h : X.length = 0 ∨ Y.length = 0) : smg X Y = X ++ Y := by
  rcases h with h | h
  · rw [List.eq_nil_of_length_eq_zero h, nil_smg]; rfl
  · rw [List.eq_nil_of_length_eq_zero h, smg_nil, List.append_nil]
set_option maxRecDepth 100000 in
set_option maxHeartbeats 8000000 in
theorem implSymMerge (w : World) (base g n cap : Nat) (hn : n ≤ 1048576) : ∀ (N : Nat) (W : World) (A X Y C : List EV) (a m b : Nat), X.length + Y.length ≤ N → A.length = a → a + X.length = m → m + Y.length = b → 0 < X.length → 0 < Y.length → Srt X → Srt Y →
    MRw w W base g n cap (A ++ (X ++ (Y ++ C))) →
    Calls Try.prog 53 #[.slice (some ⟨g, 0, none⟩) n cap, .int .i64 a, .int .i64 m, .int .i64 b, .func (.func 30) #[] #[]] W fun e w' => e = .returned (.tuple #[]) ∧ MRw w w' base g n cap (A ++ (smg X Y ++ C)) := by
  intro N
  induction N with
  | zero => intro W A X Y C a m b h0 _ _ _ h1; omega
  | succ N ih =>
  intro W A X Y C a m b hN ha hm hb hX hY hsX hsY h
  by_cases hX1 : X.length = 1
  · exact implSymSmall w base g n cap hn W A X Y C a m b ha hm hb hX hY hsX hsY (.inl hX1) h
  by_cases hY1 : Y.length = 1
  · exact implSymSmall w base g n cap hn W A X Y C a m b ha hm hb hX hY hsX hsY (.inr hY1) h
  have IH := hidM ih
  have HSX := hidM hsX
  have HSY := hidM hsY
  clear ih hsX hsY
  have hlen := h.len
  simp only [List.length_append] at hlen
  have HL := hidM h
  clear h
  have hX1z : ((m : Int) - (a : Int) == 1) = false := by rw [beq_eq_false_iff_ne]; omega
  have hY1z : ((b : Int) - (m : Int) == 1) = false := by rw [beq_eq_false_iff_ne]; omega
  obtain ⟨mid, hmid⟩ : ∃ q, q = (a + b) / 2 := ⟨_, rfl⟩
  obtain ⟨nn, hnn⟩ : ∃ q, q = mid + m := ⟨_, rfl⟩
  obtain ⟨p, hp⟩ : ∃ q, q = nn - 1 := ⟨_, rfl⟩
  have hmz : ((a : Int) + (b : Int)) / 2 = (mid : Int) := by omega
  have hnz : (mid : Int) + (m : Int) = (nn : Int) := by omega
  have hpz : (nn : Int) - 1 = (p : Int) := by omega
  have hmid1 : a + 1 < mid := by omega
  have hmid2 : mid + 1 < b := by omega
  have hmid3 : mid + mid ≤ a + b := by omega
  have hmid4 : a + b ≤ mid + mid + 1 := by omega
  have hnn1 : nn ≤ mid + m := by omega
  have hnn2 : mid + m ≤ nn := by omega
  have hp1 : p + 1 ≤ nn := by omega
  have hp2 : nn ≤ p + 1 := by omega
  clear hmid hnn hp
  have key : ∃ lo hi : Nat, a ≤ lo ∧ lo ≤ hi ∧ hi ≤ m ∧ hi ≤ mid ∧ nn ≤ lo + b ∧ ((lo = a ∨ mid + m = lo + b) ∧ (hi = m ∨ hi = mid)) ∧ (((m : Int) > (mid : Int) ∧ (nn : Int) - (b : Int) = (lo : Int) ∧ hi = mid) ∨ (¬ (m : Int) > (mid : Int) ∧ lo = a ∧ hi = m)) := by
    by_cases h : mid < m
    · exact ⟨nn - b, mid, by omega, by omega, by omega, by omega, by omega, ⟨.inr (by omega), .inr rfl⟩, .inl ⟨by omega, by omega, rfl⟩⟩
    · exact ⟨a, m, by omega, by omega, by omega, by omega, by omega, ⟨.inl rfl, .inl rfl⟩, .inr ⟨by omega, rfl, rfl⟩⟩
  obtain ⟨lo, hi, k1, k2, k3, k4, k5, k6, k7⟩ := key
  have K6 := hidM k6
  clear k6
  go_enter Try.func53, Try.ntmps53
  rcases k7 with ⟨k7, k8, k9⟩ | ⟨k7, k8, k9⟩
  · have K8 : Hid (Value.int .i64 (lo : Int) = .int .i64 (lo : Int)) := rfl
    have K9 : Hid (Value.int .i64 (mid : Int) = .int .i64 (hi : Int)) := by show _ = _; rw [k9]
    clear k9
    go_wp2
    go_loopw [20, 21] (fun s t wr => ∃ (u v : Nat), s = .int .i64 u ∧ t = .int .i64 v ∧ lo ≤ u ∧ u ≤ v ∧ v ≤ hi ∧ Hid (∀ c, lo ≤ c → c < u → kl (Y.getD (mid - 1 - c) ev0) (X.getD (c - a) ev0) = false) ∧ Hid (∀ c, v ≤ c → c < hi → kl (Y.getD (mid - 1 - c) ev0) (X.getD (c - a) ev0) = true) ∧ Hid (MRw w wr base g n cap (A ++ (X ++ (Y ++ C))))) (fun s t _ => (intOf t).toNat - (intOf s).toNat)
    case atStart => exact ⟨lo, hi, by first | rfl | exact K8.out, K9.out, Nat.le_refl _, k2, Nat.le_refl _, fun c h1 h2 => by omega, fun c h1 h2 => by omega, HL⟩
    case round =>
      obtain ⟨u, v, rfl, rfl, hlu, huv, hvh, HB, HA, HM⟩ := hrel
      clear HL K8 K9
      by_cases hlt : u < v
      · have hki : (u : Int) < (v : Int) := by omega
        obtain ⟨q, hq⟩ : ∃ q, q = (u + v) / 2 := ⟨_, rfl⟩
        have hqi : u ≤ q := by omega
        have hqj : q < v := by omega
        have hqz : ((u : Int) + (v : Int)) / 2 = (q : Int) := by omega
        clear hq
        obtain ⟨pc, hpc⟩ : ∃ t, t = p - q := ⟨_, rfl⟩
        have hpcz : (p : Int) - (q : Int) = (pc : Int) := by omega
        have hpcw : IntKind.i64.wrap ((p : Int) - (q : Int)) = (pc : Int) := by rw [IntKind.wrap_i64]; omega
        have hpcw2 : IntKind.i64.wrap (pc : Int) = (pc : Int) := by rw [IntKind.wrap_i64]; omega
        have hpc1 : pc + q ≤ p := by omega
        have hpc2 : p ≤ pc + q := by omega
        clear hpc
        have m0 := HM.out
        have cy := MRw.atR (A := A ++ X) (B := Y) (C := C) (by simpa using m0) (i := pc) (by rw [List.length_append]; omega) (by rw [List.length_append]; omega)
        have cx := MRw.atR (A := A) (B := X) (C := Y ++ C) m0 (i := q) (by omega) (by omega)
        rw [show pc - (A ++ X).length = mid - 1 - q by rw [List.length_append]; omega] at cy
        rw [show q - A.length = q - a by omega] at cx
        obtain ⟨cy1, cy2⟩ := cy
        obtain ⟨cx1, cx2⟩ := cx
        have HY1 : Hid (kl (Y.getD (mid - 1 - q) ev0) (X.getD (q - a) ev0) = false → ∀ c, lo ≤ c → c < q + 1 → kl (Y.getD (mid - 1 - c) ev0) (X.getD (c - a) ev0) = false) := fun h c h1 h2 => kl_le_le (kl_le_le (srt_at' HSX.out (by omega) (by omega)) h) (srt_at' HSY.out (by omega) (by omega))
        have HY2 : Hid (kl (Y.getD (mid - 1 - q) ev0) (X.getD (q - a) ev0) = true → ∀ c, q ≤ c → c < hi → kl (Y.getD (mid - 1 - c) ev0) (X.getD (c - a) ev0) = true) := fun h c h1 h2 => kl_lt_le (kl_le_lt (srt_at' HSY.out (by omega) (by omega)) h) (srt_at' HSX.out (by omega) (by omega))
        generalize Y.getD (mid - 1 - q) ev0 = y at cy1 cy2 HY1 HY2
        generalize X.getD (q - a) ev0 = x at cx1 cx2 HY1 HY2
        have CB := hidM (fun W => implByKey y x W)
        have KN := hidM (kcmp_neg y x)
        generalize kcmp y x = z at *
        have zq : (q : Int) < (n : Int) := by omega
        have za : (pc : Int) < (n : Int) := by omega
        clear m0
        go_upto_region 35 with fail
        clear hqz
        by_cases hlv : z < 0
        · have HB2 : Hid _ := hidM (HY2.out (KN.out.1 hlv))
          go_wp2_with fail
          go_region_with (go_at_call 30; refine (CB.out _).mono ?_; rintro e wc ⟨rfl, bc⟩)
          all_goals
            have HM2 := hidM (HM.out.drew.below bc)
            clear HM bc cx1 cx2 cy1 cy2 CB
            go_wp2_with fail
            go_roundw
            case rel => exact ⟨u, q, rfl, by go_num, hlu, hqi, by omega, HB, HB2.out, HM2⟩
            case measure => simp [intOf]; omega
        · have hlb : (!decide (z < 0)) = true := by rw [decide_eq_false hlv]; rfl
          have HB2 : Hid _ := hidM (HY1.out (by cases e : kl y x with | false => rfl | true => exact absurd (KN.out.2 e) hlv))
          go_wp2_with fail
          go_region_with (go_at_call 30; refine (CB.out _).mono ?_; rintro e wc ⟨rfl, bc⟩)
          all_goals
            have HM2 := hidM (HM.out.drew.below bc)
            clear HM bc cx1 cx2 cy1 cy2 CB
            go_wp2_with fail
            go_roundw
            case rel => exact ⟨q + 1, v, by go_num, rfl, by omega, by omega, hvh, HB2.out, HA, HM2⟩
            case measure => simp [intOf]; omega
      · have hki : ¬ (u : Int) < (v : Int) := by omega
        have hij' : u = v := by omega
        subst hij'
        obtain ⟨e, he⟩ : ∃ t, t = nn - u := ⟨_, rfl⟩
        have hez : (nn : Int) - (u : Int) = (e : Int) := by omega
        have he1 : e + u ≤ nn := by omega
        have he2 : nn ≤ e + u := by omega
        clear he
        obtain ⟨X1, X2, hXX, hx1, hx2⟩ := cut_at X (u - a) (by omega)
        obtain ⟨Y1, Y2, hYY, hy1, hy2⟩ := cut_at Y (e - m) (by omega)
        have HR := hidM (sym_cut (a := a) (m := m) (b := b) (mid := mid) (lo := lo) (hi := hi) (u := u) HSX.out HSY.out hXX hYY (by omega) (by omega) (by omega) (by omega) k1 hlu hvh k3 k4 K6.out HB.out HA.out)
        have HS : Hid (Srt X1 ∧ Srt X2 ∧ Srt Y1 ∧ Srt Y2) := hidM (by
          have a1 := HSX.out; rw [hXX] at a1
          have a2 := HSY.out; rw [hYY] at a2
          exact ⟨(srt_app.1 a1).1, (srt_app.1 a1).2.1, (srt_app.1 a2).1, (srt_app.1 a2).2.1⟩)
        have M1 : Hid (MRw w wr base g n cap (A ++ (X1 ++ (X2 ++ (Y1 ++ (Y2 ++ C)))))) := hidM (by have := HM.out; rw [hXX, hYY] at this; simpa using this)
        have lX1 : X1.length + a ≤ u := by omega
        have lX2 : u ≤ X1.length + a := by omega
        have lX3 : X2.length + u ≤ m := by omega
        have lX4 : m ≤ X2.length + u := by omega
        have lY1 : Y1.length + m ≤ e := by omega
        have lY2 : e ≤ Y1.length + m := by omega
        have lY3 : Y2.length + e ≤ b := by omega
        have lY4 : b ≤ Y2.length + e := by omega
        clear HB HA HM hXX hYY hx1 hx2 hy1 hy2 HSX HSY K6
        by_cases q1 : u < m ∧ m < e
        · obtain ⟨q1a, q1b⟩ := q1
          have q1az : (u : Int) < (m : Int) := by omega
          have q1bz : (m : Int) < (e : Int) := by omega
          have CR := hidM (implRotate w wr base g n cap (.func (.func 30) #[] #[]) (A ++ X1) X2 Y1 (Y2 ++ C) u m e (by rw [List.length_append]; omega) (by omega) (by omega) (by omega) (by omega) hn (by have := M1.out; simpa using this))
          go_wp2_with fail
          refine CR.out.mono ?_
          rintro e0 V2 ⟨rfl, m2⟩
          have M2 : Hid (MRw w V2 base g n cap (A ++ (X1 ++ (Y1 ++ (X2 ++ (Y2 ++ C)))))) := hidM (by simpa using m2)
          clear m2 CR M1
          by_cases q2 : a < u ∧ u < mid
          · obtain ⟨q2a, q2b⟩ := q2
            have q2az : (a : Int) < (u : Int) := by omega
            have q2bz : (u : Int) < (mid : Int) := by omega
            have CI := hidM (IH.out V2 A X1 Y1 (X2 ++ (Y2 ++ C)) a u mid (by omega) ha (by omega) (by omega) (by omega) (by omega) HS.out.1 HS.out.2.2.1 (by have := M2.out; simpa using this))
            go_wp2_with fail
            refine CI.out.mono ?_
            rintro e0 V3 ⟨rfl, m3⟩
            have M3 := hidM m3
            clear m3 CI M2
            by_cases q3 : mid < e ∧ e < b
            · obtain ⟨q3a, q3b⟩ := q3
              have q3az : (mid : Int) < (e : Int) := by omega
              have q3bz : (e : Int) < (b : Int) := by omega
              have CI := hidM (IH.out V3 (A ++ smg X1 Y1) X2 Y2 C mid e b (by omega) (by rw [List.length_append, smg_len]; omega) (by omega) (by omega) (by omega) (by omega) HS.out.2.1 HS.out.2.2.2 (by have := M3.out; simpa using this))
              go_wp2_with fail
              all_goals
                refine CI.out.mono ?_
                rintro e0 V4 ⟨rfl, m4⟩
                go_wp2_with fail
                go_end0
                exact ⟨rfl, by rw [HR.out]; simpa using m4⟩
            · have q3z : ¬ ((mid : Int) < (e : Int) ∧ (e : Int) < (b : Int)) := by omega
              have M4 := hidM (smg_either (X := X2) (Y := Y2) (by omega))
              by_cases q3a : (mid : Int) < (e : Int)
              · have q3b : ¬ (e : Int) < (b : Int) := by omega
                go_wp2_with fail
                all_goals go_end0
                all_goals exact ⟨rfl, by rw [HR.out, M4.out]; have := M3.out; simpa using this⟩
              · go_wp2_with fail
                all_goals go_end0
                all_goals exact ⟨rfl, by rw [HR.out, M4.out]; have := M3.out; simpa using this⟩
          · have q2z : ¬ ((a : Int) < (u : Int) ∧ (u : Int) < (mid : Int)) := by omega
            have M4 := hidM (smg_either (X := X1) (Y := Y1) (by omega))
            have M3 : Hid (MRw w V2 base g n cap (A ++ (smg X1 Y1 ++ (X2 ++ (Y2 ++ C))))) := hidM (by rw [M4.out]; have := M2.out; simpa using this)
            clear M4 M2
            obtain ⟨V3, rfl⟩ : ∃ V, V = V2 := ⟨_, rfl⟩
            by_cases q2a : (a : Int) < (u : Int)
            · have q2b : ¬ (u : Int) < (mid : Int) := by omega
              by_cases q3 : mid < e ∧ e < b
              · obtain ⟨q3a, q3b⟩ := q3
                have q3az : (mid : Int) < (e : Int) := by omega
                have q3bz : (e : Int) < (b : Int) := by omega
                have CI := hidM (IH.out V3 (A ++ smg X1 Y1) X2 Y2 C mid e b (by omega) (by rw [List.length_append, smg_len]; omega) (by omega) (by omega) (by omega) (by omega) HS.out.2.1 HS.out.2.2.2 (by have := M3.out; simpa using this))
                go_wp2_with fail
                all_goals
                  refine CI.out.mono ?_
                  rintro e0 V4 ⟨rfl, m4⟩
                  go_wp2_with fail
                  go_end0
                  exact ⟨rfl, by rw [HR.out]; simpa using m4⟩
              · have q3z : ¬ ((mid : Int) < (e : Int) ∧ (e : Int) < (b : Int)) := by omega
                have M4 := hidM (smg_either (X := X2) (Y := Y2) (by omega))
                by_cases q3a : (mid : Int) < (e : Int)
                · have q3b : ¬ (e : Int) < (b : Int) := by omega
                  go_wp2_with fail
                  all_goals go_end0
                  all_goals exact ⟨rfl, by rw [HR.out, M4.out]; have := M3.out; simpa using this⟩
                · go_wp2_with fail
                  all_goals go_end0
                  all_goals exact ⟨rfl, by rw [HR.out, M4.out]; have := M3.out; simpa using this⟩
            · by_cases q3 : mid < e ∧ e < b
              · obtain ⟨q3a, q3b⟩ := q3
                have q3az : (mid : Int) < (e : Int) := by omega
                have q3bz : (e : Int) < (b : Int) := by omega
                have CI := hidM (IH.out V3 (A ++ smg X1 Y1) X2 Y2 C mid e b (by omega) (by rw [List.length_append, smg_len]; omega) (by omega) (by omega) (by omega) (by omega) HS.out.2.1 HS.out.2.2.2 (by have := M3.out; simpa using this))
                go_wp2_with fail
                all_goals
                  refine CI.out.mono ?_
                  rintro e0 V4 ⟨rfl, m4⟩
                  go_wp2_with fail
                  go_end0
                  exact ⟨rfl, by rw [HR.out]; simpa using m4⟩
              · have q3z : ¬ ((mid : Int) < (e : Int) ∧ (e : Int) < (b : Int)) := by omega
                have M4 := hidM (smg_either (X := X2) (Y := Y2) (by omega))
                by_cases q3a : (mid : Int) < (e : Int)
                · have q3b : ¬ (e : Int) < (b : Int) := by omega
                  go_wp2_with fail
                  all_goals go_end0
                  all_goals exact ⟨rfl, by rw [HR.out, M4.out]; have := M3.out; simpa using this⟩
                · go_wp2_with fail
                  all_goals go_end0
                  all_goals exact ⟨rfl, by rw [HR.out, M4.out]; have := M3.out; simpa using this⟩
        · have q1z : ¬ ((u : Int) < (m : Int) ∧ (m : Int) < (e : Int)) := by omega
          have M2 : Hid (MRw w wr base g n cap (A ++ (X1 ++ (Y1 ++ (X2 ++ (Y2 ++ C)))))) := hidM (by
            have h0 := M1.out
            have : X2 ++ (Y1 ++ (Y2 ++ C)) = Y1 ++ (X2 ++ (Y2 ++ C)) := by
              by_cases hh : X2.length = 0
              · rw [List.eq_nil_of_length_eq_zero hh]; rfl
              · rw [List.eq_nil_of_length_eq_zero (show Y1.length = 0 by omega)]; rfl
            rw [this] at h0
            exact h0)
          clear M1
          obtain ⟨V2, rfl⟩ : ∃ V, V = wr := ⟨_, rfl⟩
          by_cases q1a : (u : Int) < (m : Int)
          · have q1b : ¬ (m : Int) < (e : Int) := by omega
            by_cases q2 : a < u ∧ u < mid
            · obtain ⟨q2a, q2b⟩ := q2
              have q2az : (a : Int) < (u : Int) := by omega
              have q2bz : (u : Int) < (mid : Int) := by omega
              have CI := hidM (IH.out V2 A X1 Y1 (X2 ++ (Y2 ++ C)) a u mid (by omega) ha (by omega) (by omega) (by omega) (by omega) HS.out.1 HS.out.2.2.1 (by have := M2.out; simpa using this))
              go_wp2_with fail
              refine CI.out.mono ?_
              rintro e0 V3 ⟨rfl, m3⟩
              have M3 := hidM m3
              clear m3 CI M2
              by_cases q3 : mid < e ∧ e < b
              · obtain ⟨q3a, q3b⟩ := q3
                have q3az : (mid : Int) < (e : Int) := by omega
                have q3bz : (e : Int) < (b : Int) := by omega
                have CI := hidM (IH.out V3 (A ++ smg X1 Y1) X2 Y2 C mid e b (by omega) (by rw [List.length_append, smg_len]; omega) (by omega) (by omega) (by omega) (by omega) HS.out.2.1 HS.out.2.2.2 (by have := M3.out; simpa using this))
                go_wp2_with fail
                all_goals
                  refine CI.out.mono ?_
                  rintro e0 V4 ⟨rfl, m4⟩
                  go_wp2_with fail
                  go_end0
                  exact ⟨rfl, by rw [HR.out]; simpa using m4⟩
              · have q3z : ¬ ((mid : Int) < (e : Int) ∧ (e : Int) < (b : Int)) := by omega
                have M4 := hidM (smg_either (X := X2) (Y := Y2) (by omega))
                by_cases q3a : (mid : Int) < (e : Int)
                · have q3b : ¬ (e : Int) < (b : Int) := by omega
                  go_wp2_with fail
                  all_goals go_end0
                  all_goals exact ⟨rfl, by rw [HR.out, M4.out]; have := M3.out; simpa using this⟩
                · go_wp2_with fail
                  all_goals go_end0
                  all_goals exact ⟨rfl, by rw [HR.out, M4.out]; have := M3.out; simpa using this⟩
            · have q2z : ¬ ((a : Int) < (u : Int) ∧ (u : Int) < (mid : Int)) := by omega
              have M4 := hidM (smg_either (X := X1) (Y := Y1) (by omega))
              have M3 : Hid (MRw w V2 base g n cap (A ++ (smg X1 Y1 ++ (X2 ++ (Y2 ++ C))))) := hidM (by rw [M4.out]; have := M2.out; simpa using this)
              clear M4 M2
              obtain ⟨V3, rfl⟩ : ∃ V, V = V2 := ⟨_, rfl⟩
              by_cases q2a : (a : Int) < (u : Int)
              · have q2b : ¬ (u : Int) < (mid : Int) := by omega
                by_cases q3 : mid < e ∧ e < b
                · obtain ⟨q3a, q3b⟩ := q3
                  have q3az : (mid : Int) < (e : Int) := by omega
                  have q3bz : (e : Int) < (b : Int) := by omega
                  have CI := hidM (IH.out V3 (A ++ smg X1 Y1) X2 Y2 C mid e b (by omega) (by rw [List.length_append, smg_len]; omega) (by omega) (by omega) (by omega) (by omega) HS.out.2.1 HS.out.2.2.2 (by have := M3.out; simpa using this))
                  go_wp2_with fail
                  all_goals
                    refine CI.out.mono ?_
                    rintro e0 V4 ⟨rfl, m4⟩
                    go_wp2_with fail
                    go_end0
                    exact ⟨rfl, by rw [HR.out]; simpa using m4⟩
                · have q3z : ¬ ((mid : Int) < (e : Int) ∧ (e : Int) < (b : Int)) := by omega
                  have M4 := hidM (smg_either (X := X2) (Y := Y2) (by omega))
                  by_cases q3a : (mid : Int) < (e : Int)
                  · have q3b : ¬ (e : Int) < (b : Int) := by omega
                    go_wp2_with fail
                    all_goals go_end0
                    all_goals exact ⟨rfl, by rw [HR.out, M4.out]; have := M3.out; simpa using this⟩
                  · go_wp2_with fail
                    all_goals go_end0
                    all_goals exact ⟨rfl, by rw [HR.out, M4.out]; have := M3.out; simpa using this⟩
              · by_cases q3 : mid < e ∧ e < b
                · obtain ⟨q3a, q3b⟩ := q3
                  have q3az : (mid : Int) < (e : Int) := by omega
                  have q3bz : (e : Int) < (b : Int) := by omega
                  have CI := hidM (IH.out V3 (A ++ smg X1 Y1) X2 Y2 C mid e b (by omega) (by rw [List.length_append, smg_len]; omega) (by omega) (by omega) (by omega) (by omega) HS.out.2.1 HS.out.2.2.2 (by have := M3.out; simpa using this))
                  go_wp2_with fail
                  all_goals
                    refine CI.out.mono ?_
                    rintro e0 V4 ⟨rfl, m4⟩
                    go_wp2_with fail
                    go_end0
                    exact ⟨rfl, by rw [HR.out]; simpa using m4⟩
                · have q3z : ¬ ((mid : Int) < (e : Int) ∧ (e : Int) < (b : Int)) := by omega
                  have M4 := hidM (smg_either (X := X2) (Y := Y2) (by omega))
                  by_cases q3a : (mid : Int) < (e : Int)
                  · have q3b : ¬ (e : Int) < (b : Int) := by omega
                    go_wp2_with fail
                    all_goals go_end0
                    all_goals exact ⟨rfl, by rw [HR.out, M4.out]; have := M3.out; simpa using this⟩
                  · go_wp2_with fail
                    all_goals go_end0
                    all_goals exact ⟨rfl, by rw [HR.out, M4.out]; have := M3.out; simpa using this⟩
          · by_cases q2 : a < u ∧ u < mid
            · obtain ⟨q2a, q2b⟩ := q2
              have q2az : (a : Int) < (u : Int) := by omega
              have q2bz : (u : Int) < (mid : Int) := by omega
              have CI := hidM (IH.out V2 A X1 Y1 (X2 ++ (Y2 ++ C)) a u mid (by omega) ha (by omega) (by omega) (by omega) (by omega) HS.out.1 HS.out.2.2.1 (by have := M2.out; simpa using this))
              go_wp2_with fail
              refine CI.out.mono ?_
              rintro e0 V3 ⟨rfl, m3⟩
              have M3 := hidM m3
              clear m3 CI M2
              by_cases q3 : mid < e ∧ e < b
              · obtain ⟨q3a, q3b⟩ := q3
                have q3az : (mid : Int) < (e : Int) := by omega
                have q3bz : (e : Int) < (b : Int) := by omega
                have CI := hidM (IH.out V3 (A ++ smg X1 Y1) X2 Y2 C mid e b (by omega) (by rw [List.length_append, smg_len]; omega) (by omega) (by omega) (by omega) (by omega) HS.out.2.1 HS.out.2.2.2 (by have := M3.out; simpa using this))
                go_wp2_with fail
                all_goals
                  refine CI.out.mono ?_
                  rintro e0 V4 ⟨rfl, m4⟩
                  go_wp2_with fail
                  go_end0
                  exact ⟨rfl, by rw [HR.out]; simpa using m4⟩
              · have q3z : ¬ ((mid : Int) < (e : Int) ∧ (e : Int) < (b : Int)) := by omega
                have M4 := hidM (smg_either (X := X2) (Y := Y2) (by omega))
                by_cases q3a : (mid : Int) < (e : Int)
                · have q3b : ¬ (e : Int) < (b : Int) := by omega
                  go_wp2_with fail
                  all_goals go_end0
                  all_goals exact ⟨rfl, by rw [HR.out, M4.out]; have := M3.out; simpa using this⟩
                · go_wp2_with fail
                  all_goals go_end0
                  all_goals exact ⟨rfl, by rw [HR.out, M4.out]; have := M3.out; simpa using this⟩
            · have q2z : ¬ ((a : Int) < (u : Int) ∧ (u : Int) < (mid : Int)) := by omega
              have M4 := hidM (smg_either (X := X1) (Y := Y1) (by omega))
              have M3 : Hid (MRw w V2 base g n cap (A ++ (smg X1 Y1 ++ (X2 ++ (Y2 ++ C))))) := hidM (by rw [M4.out]; have := M2.out; simpa using this)
              clear M4 M2
              obtain ⟨V3, rfl⟩ : ∃ V, V = V2 := ⟨_, rfl⟩
              by_cases q2a : (a : Int) < (u : Int)
              · have q2b : ¬ (u : Int) < (mid : Int) := by omega
                by_cases q3 : mid < e ∧ e < b
                · obtain ⟨q3a, q3b⟩ := q3
                  have q3az : (mid : Int) < (e : Int) := by omega
                  have q3bz : (e : Int) < (b : Int) := by omega
                  have CI := hidM (IH.out V3 (A ++ smg X1 Y1) X2 Y2 C mid e b (by omega) (by rw [List.length_append, smg_len]; omega) (by omega) (by omega) (by omega) (by omega) HS.out.2.1 HS.out.2.2.2 (by have := M3.out; simpa using this))
                  go_wp2_with fail
                  all_goals
                    refine CI.out.mono ?_
                    rintro e0 V4 ⟨rfl, m4⟩
                    go_wp2_with fail
                    go_end0
                    exact ⟨rfl, by rw [HR.out]; simpa using m4⟩
                · have q3z : ¬ ((mid : Int) < (e : Int) ∧ (e : Int) < (b : Int)) := by omega
                  have M4 := hidM (smg_either (X := X2) (Y := Y2) (by omega))
                  by_cases q3a : (mid : Int) < (e : Int)
                  · have q3b : ¬ (e : Int) < (b : Int) := by omega
                    go_wp2_with fail
                    all_goals go_end0
                    all_goals exact ⟨rfl, by rw [HR.out, M4.out]; have := M3.out; simpa using this⟩
                  · go_wp2_with fail
                    all_goals go_end0
                    all_goals exact ⟨rfl, by rw [HR.out, M4.out]; have := M3.out; simpa using this⟩
              · by_cases q3 : mid < e ∧ e < b
                · obtain ⟨q3a, q3b⟩ := q3
                  have q3az : (mid : Int) < (e : Int) := by omega
                  have q3bz : (e : Int) < (b : Int) := by omega
                  have CI := hidM (IH.out V3 (A ++ smg X1 Y1) X2 Y2 C mid e b (by omega) (by rw [List.length_append, smg_len]; omega) (by omega) (by omega) (by omega) (by omega) HS.out.2.1 HS.out.2.2.2 (by have := M3.out; simpa using this))
                  go_wp2_with fail
                  all_goals
                    refine CI.out.mono ?_
                    rintro e0 V4 ⟨rfl, m4⟩
                    go_wp2_with fail
                    go_end0
                    exact ⟨rfl, by rw [HR.out]; simpa using m4⟩
                · have q3z : ¬ ((mid : Int) < (e : Int) ∧ (e : Int) < (b : Int)) := by omega
                  have M4 := hidM (smg_either (X := X2) (Y := Y2) (by omega))
                  by_cases q3a : (mid : Int) < (e : Int)
                  · have q3b : ¬ (e : Int) < (b : Int) := by omega
                    go_wp2_with fail
                    all_goals go_end0
                    all_goals exact ⟨rfl, by rw [HR.out, M4.out]; have := M3.out; simpa using this⟩
                  · go_wp2_with fail
                    all_goals go_end0
                    all_goals exact ⟨rfl, by rw [HR.out, M4.out]; have := M3.out; simpa using this⟩
  · have K8 : Hid (Value.int .i64 (a : Int) = .int .i64 (lo : Int)) := by show _ = _; rw [k8]
    have K9 : Hid (Value.int .i64 (m : Int) = .int .i64 (hi : Int)) := by show _ = _; rw [k9]
    clear k8 k9
    go_wp2
    go_loopw [20, 21] (fun s t wr => ∃ (u v : Nat), s = .int .i64 u ∧ t = .int .i64 v ∧ lo ≤ u ∧ u ≤ v ∧ v ≤ hi ∧ Hid (∀ c, lo ≤ c → c < u → kl (Y.getD (mid - 1 - c) ev0) (X.getD (c - a) ev0) = false) ∧ Hid (∀ c, v ≤ c → c < hi → kl (Y.getD (mid - 1 - c) ev0) (X.getD (c - a) ev0) = true) ∧ Hid (MRw w wr base g n cap (A ++ (X ++ (Y ++ C))))) (fun s t _ => (intOf t).toNat - (intOf s).toNat)
    case atStart => exact ⟨lo, hi, by first | rfl | exact K8.out, K9.out, Nat.le_refl _, k2, Nat.le_refl _, fun c h1 h2 => by omega, fun c h1 h2 => by omega, HL⟩
    case round =>
      obtain ⟨u, v, rfl, rfl, hlu, huv, hvh, HB, HA, HM⟩ := hrel
      clear HL K8 K9
      by_cases hlt : u < v
      · have hki : (u : Int) < (v : Int) := by omega
        obtain ⟨q, hq⟩ : ∃ q, q = (u + v) / 2 := ⟨_, rfl⟩
        have hqi : u ≤ q := by omega
        have hqj : q < v := by omega
        have hqz : ((u : Int) + (v : Int)) / 2 = (q : Int) := by omega
        clear hq
        obtain ⟨pc, hpc⟩ : ∃ t, t = p - q := ⟨_, rfl⟩
        have hpcz : (p : Int) - (q : Int) = (pc : Int) := by omega
        have hpcw : IntKind.i64.wrap ((p : Int) - (q : Int)) = (pc : Int) := by rw [IntKind.wrap_i64]; omega
        have hpcw2 : IntKind.i64.wrap (pc : Int) = (pc : Int) := by rw [IntKind.wrap_i64]; omega
        have hpc1 : pc + q ≤ p := by omega
        have hpc2 : p ≤ pc + q := by omega
        clear hpc
        have m0 := HM.out
        have cy := MRw.atR (A := A ++ X) (B := Y) (C := C) (by simpa using m0) (i := pc) (by rw [List.length_append]; omega) (by rw [List.length_append]; omega)
        have cx := MRw.atR (A := A) (B := X) (C := Y ++ C) m0 (i := q) (by omega) (by omega)
        rw [show pc - (A ++ X).length = mid - 1 - q by rw [List.length_append]; omega] at cy
        rw [show q - A.length = q - a by omega] at cx
        obtain ⟨cy1, cy2⟩ := cy
        obtain ⟨cx1, cx2⟩ := cx
        have HY1 : Hid (kl (Y.getD (mid - 1 - q) ev0) (X.getD (q - a) ev0) = false → ∀ c, lo ≤ c → c < q + 1 → kl (Y.getD (mid - 1 - c) ev0) (X.getD (c - a) ev0) = false) := fun h c h1 h2 => kl_le_le (kl_le_le (srt_at' HSX.out (by omega) (by omega)) h) (srt_at' HSY.out (by omega) (by omega))
        have HY2 : Hid (kl (Y.getD (mid - 1 - q) ev0) (X.getD (q - a) ev0) = true → ∀ c, q ≤ c → c < hi → kl (Y.getD (mid - 1 - c) ev0) (X.getD (c - a) ev0) = true) := fun h c h1 h2 => kl_lt_le (kl_le_lt (srt_at' HSY.out (by omega) (by omega)) h) (srt_at' HSX.out (by omega) (by omega))
        generalize Y.getD (mid - 1 - q) ev0 = y at cy1 cy2 HY1 HY2
        generalize X.getD (q - a) ev0 = x at cx1 cx2 HY1 HY2
        have CB := hidM (fun W => implByKey y x W)
        have KN := hidM (kcmp_neg y x)
        generalize kcmp y x = z at *
        have zq : (q : Int) < (n : Int) := by omega
        have za : (pc : Int) < (n : Int) := by omega
        clear m0
        go_upto_region 35 with fail
        clear hqz
        by_cases hlv : z < 0
        · have HB2 : Hid _ := hidM (HY2.out (KN.out.1 hlv))
          go_wp2_with fail
          go_region_with (go_at_call 30; refine (CB.out _).mono ?_; rintro e wc ⟨rfl, bc⟩)
          all_goals
            have HM2 := hidM (HM.out.drew.below bc)
            clear HM bc cx1 cx2 cy1 cy2 CB
            go_wp2_with fail
            go_roundw
            case rel => exact ⟨u, q, rfl, by go_num, hlu, hqi, by omega, HB, HB2.out, HM2⟩
            case measure => simp [intOf]; omega
        · have hlb : (!decide (z < 0)) = true := by rw [decide_eq_false hlv]; rfl
          have HB2 : Hid _ := hidM (HY1.out (by cases e : kl y x with | false => rfl | true => exact absurd (KN.out.2 e) hlv))
          go_wp2_with fail
          go_region_with (go_at_call 30; refine (CB.out _).mono ?_; rintro e wc ⟨rfl, bc⟩)
          all_goals
            have HM2 := hidM (HM.out.drew.below bc)
            clear HM bc cx1 cx2 cy1 cy2 CB
            go_wp2_with fail
            go_roundw
            case rel => exact ⟨q + 1, v, by go_num, rfl, by omega, by omega, hvh, HB2.out, HA, HM2⟩
            case measure => simp [intOf]; omega
      · have hki : ¬ (u : Int) < (v : Int) := by omega
        have hij' : u = v := by omega
        subst hij'
        obtain ⟨e, he⟩ : ∃ t, t = nn - u := ⟨_, rfl⟩
        have hez : (nn : Int) - (u : Int) = (e : Int) := by omega
        have he1 : e + u ≤ nn := by omega
        have he2 : nn ≤ e + u := by omega
        clear he
        obtain ⟨X1, X2, hXX, hx1, hx2⟩ := cut_at X (u - a) (by omega)
        obtain ⟨Y1, Y2, hYY, hy1, hy2⟩ := cut_at Y (e - m) (by omega)
        have HR := hidM (sym_cut (a := a) (m := m) (b := b) (mid := mid) (lo := lo) (hi := hi) (u := u) HSX.out HSY.out hXX hYY (by omega) (by omega) (by omega) (by omega) k1 hlu hvh k3 k4 K6.out HB.out HA.out)
        have HS : Hid (Srt X1 ∧ Srt X2 ∧ Srt Y1 ∧ Srt Y2) := hidM (by
          have a1 := HSX.out; rw [hXX] at a1
          have a2 := HSY.out; rw [hYY] at a2
          exact ⟨(srt_app.1 a1).1, (srt_app.1 a1).2.1, (srt_app.1 a2).1, (srt_app.1 a2).2.1⟩)
        have M1 : Hid (MRw w wr base g n cap (A ++ (X1 ++ (X2 ++ (Y1 ++ (Y2 ++ C)))))) := hidM (by have := HM.out; rw [hXX, hYY] at this; simpa using this)
        have lX1 : X1.length + a ≤ u := by omega
        have lX2 : u ≤ X1.length + a := by omega
        have lX3 : X2.length + u ≤ m := by omega
        have lX4 : m ≤ X2.length + u := by omega
        have lY1 : Y1.length + m ≤ e := by omega
        have lY2 : e ≤ Y1.length + m := by omega
        have lY3 : Y2.length + e ≤ b := by omega
        have lY4 : b ≤ Y2.length + e := by omega
        clear HB HA HM hXX hYY hx1 hx2 hy1 hy2 HSX HSY K6
        by_cases q1 : u < m ∧ m < e
        · obtain ⟨q1a, q1b⟩ := q1
          have q1az : (u : Int) < (m : Int) := by omega
          have q1bz : (m : Int) < (e : Int) := by omega
          have CR := hidM (implRotate w wr base g n cap (.func (.func 30) #[] #[]) (A ++ X1) X2 Y1 (Y2 ++ C) u m e (by rw [List.length_append]; omega) (by omega) (by omega) (by omega) (by omega) hn (by have := M1.out; simpa using this))
          go_wp2_with fail
          refine CR.out.mono ?_
          rintro e0 V2 ⟨rfl, m2⟩
          have M2 : Hid (MRw w V2 base g n cap (A ++ (X1 ++ (Y1 ++ (X2 ++ (Y2 ++ C)))))) := hidM (by simpa using m2)
          clear m2 CR M1
          by_cases q2 : a < u ∧ u < mid
          · obtain ⟨q2a, q2b⟩ := q2
            have q2az : (a : Int) < (u : Int) := by omega
            have q2bz : (u : Int) < (mid : Int) := by omega
            have CI := hidM (IH.out V2 A X1 Y1 (X2 ++ (Y2 ++ C)) a u mid (by omega) ha (by omega) (by omega) (by omega) (by omega) HS.out.1 HS.out.2.2.1 (by have := M2.out; simpa using this))
            go_wp2_with fail
            refine CI.out.mono ?_
            rintro e0 V3 ⟨rfl, m3⟩
            have M3 := hidM m3
            clear m3 CI M2
            by_cases q3 : mid < e ∧ e < b
            · obtain ⟨q3a, q3b⟩ := q3
              have q3az : (mid : Int) < (e : Int) := by omega
              have q3bz : (e : Int) < (b : Int) := by omega
              have CI := hidM (IH.out V3 (A ++ smg X1 Y1) X2 Y2 C mid e b (by omega) (by rw [List.length_append, smg_len]; omega) (by omega) (by omega) (by omega) (by omega) HS.out.2.1 HS.out.2.2.2 (by have := M3.out; simpa using this))
              go_wp2_with fail
              all_goals
                refine CI.out.mono ?_
                rintro e0 V4 ⟨rfl, m4⟩
                go_wp2_with fail
                go_end0
                exact ⟨rfl, by rw [HR.out]; simpa using m4⟩
            · have q3z : ¬ ((mid : Int) < (e : Int) ∧ (e : Int) < (b : Int)) := by omega
              have M4 := hidM (smg_either (X := X2) (Y := Y2) (by omega))
              by_cases q3a : (mid : Int) < (e : Int)
              · have q3b : ¬ (e : Int) < (b : Int) := by omega
                go_wp2_with fail
                all_goals go_end0
                all_goals exact ⟨rfl, by rw [HR.out, M4.out]; have := M3.out; simpa using this⟩
              · go_wp2_with fail
                all_goals go_end0
                all_goals exact ⟨rfl, by rw [HR.out, M4.out]; have := M3.out; simpa using this⟩
          · have q2z : ¬ ((a : Int) < (u : Int) ∧ (u : Int) < (mid : Int)) := by omega
            have M4 := hidM (smg_either (X := X1) (Y := Y1) (by omega))
            have M3 : Hid (MRw w V2 base g n cap (A ++ (smg X1 Y1 ++ (X2 ++ (Y2 ++ C))))) := hidM (by rw [M4.out]; have := M2.out; simpa using this)
            clear M4 M2
            obtain ⟨V3, rfl⟩ : ∃ V, V = V2 := ⟨_, rfl⟩
            by_cases q2a : (a : Int) < (u : Int)
            · have q2b : ¬ (u : Int) < (mid : Int) := by omega
              by_cases q3 : mid < e ∧ e < b
              · obtain ⟨q3a, q3b⟩ := q3
                have q3az : (mid : Int) < (e : Int) := by omega
                have q3bz : (e : Int) < (b : Int) := by omega
                have CI := hidM (IH.out V3 (A ++ smg X1 Y1) X2 Y2 C mid e b (by omega) (by rw [List.length_append, smg_len]; omega) (by omega) (by omega) (by omega) (by omega) HS.out.2.1 HS.out.2.2.2 (by have := M3.out; simpa using this))
                go_wp2_with fail
                all_goals
                  refine CI.out.mono ?_
                  rintro e0 V4 ⟨rfl, m4⟩
                  go_wp2_with fail
                  go_end0
                  exact ⟨rfl, by rw [HR.out]; simpa using m4⟩
              · have q3z : ¬ ((mid : Int) < (e : Int) ∧ (e : Int) < (b : Int)) := by omega
                have M4 := hidM (smg_either (X := X2) (Y := Y2) (by omega))
                by_cases q3a : (mid : Int) < (e : Int)
                · have q3b : ¬ (e : Int) < (b : Int) := by omega
                  go_wp2_with fail
                  all_goals go_end0
                  all_goals exact ⟨rfl, by rw [HR.out, M4.out]; have := M3.out; simpa using this⟩
                · go_wp2_with fail
                  all_goals go_end0
                  all_goals exact ⟨rfl, by rw [HR.out, M4.out]; have := M3.out; simpa using this⟩
            · by_cases q3 : mid < e ∧ e < b
              · obtain ⟨q3a, q3b⟩ := q3
                have q3az : (mid : Int) < (e : Int) := by omega
                have q3bz : (e : Int) < (b : Int) := by omega
                have CI := hidM (IH.out V3 (A ++ smg X1 Y1) X2 Y2 C mid e b (by omega) (by rw [List.length_append, smg_len]; omega) (by omega) (by omega) (by omega) (by omega) HS.out.2.1 HS.out.2.2.2 (by have := M3.out; simpa using this))
                go_wp2_with fail
                all_goals
                  refine CI.out.mono ?_
                  rintro e0 V4 ⟨rfl, m4⟩
                  go_wp2_with fail
                  go_end0
                  exact ⟨rfl, by rw [HR.out]; simpa using m4⟩
              · have q3z : ¬ ((mid : Int) < (e : Int) ∧ (e : Int) < (b : Int)) := by omega
                have M4 := hidM (smg_either (X := X2) (Y := Y2) (by omega))
                by_cases q3a : (mid : Int) < (e : Int)
                · have q3b : ¬ (e : Int) < (b : Int) := by omega
                  go_wp2_with fail
                  all_goals go_end0
                  all_goals exact ⟨rfl, by rw [HR.out, M4.out]; have := M3.out; simpa using this⟩
                · go_wp2_with fail
                  all_goals go_end0
                  all_goals exact ⟨rfl, by rw [HR.out, M4.out]; have := M3.out; simpa using this⟩
        · have q1z : ¬ ((u : Int) < (m : Int) ∧ (m : Int) < (e : Int)) := by omega
          have M2 : Hid (MRw w wr base g n cap (A ++ (X1 ++ (Y1 ++ (X2 ++ (Y2 ++ C)))))) := hidM (by
            have h0 := M1.out
            have : X2 ++ (Y1 ++ (Y2 ++ C)) = Y1 ++ (X2 ++ (Y2 ++ C)) := by
              by_cases hh : X2.length = 0
              · rw [List.eq_nil_of_length_eq_zero hh]; rfl
              · rw [List.eq_nil_of_length_eq_zero (show Y1.length = 0 by omega)]; rfl
            rw [this] at h0
            exact h0)
          clear M1
          obtain ⟨V2, rfl⟩ : ∃ V, V = wr := ⟨_, rfl⟩
          by_cases q1a : (u : Int) < (m : Int)
          · have q1b : ¬ (m : Int) < (e : Int) := by omega
            by_cases q2 : a < u ∧ u < mid
            · obtain ⟨q2a, q2b⟩ := q2
              have q2az : (a : Int) < (u : Int) := by omega
              have q2bz : (u : Int) < (mid : Int) := by omega
              have CI := hidM (IH.out V2 A X1 Y1 (X2 ++ (Y2 ++ C)) a u mid (by omega) ha (by omega) (by omega) (by omega) (by omega) HS.out.1 HS.out.2.2.1 (by have := M2.out; simpa using this))
              go_wp2_with fail
              refine CI.out.mono ?_
              rintro e0 V3 ⟨rfl, m3⟩
              have M3 := hidM m3
              clear m3 CI M2
              by_cases q3 : mid < e ∧ e < b
              · obtain ⟨q3a, q3b⟩ := q3
                have q3az : (mid : Int) < (e : Int) := by omega
                have q3bz : (e : Int) < (b : Int) := by omega
                have CI := hidM (IH.out V3 (A ++ smg X1 Y1) X2 Y2 C mid e b (by omega) (by rw [List.length_append, smg_len]; omega) (by omega) (by omega) (by omega) (by omega) HS.out.2.1 HS.out.2.2.2 (by have := M3.out; simpa using this))
                go_wp2_with fail
                all_goals
                  refine CI.out.mono ?_
                  rintro e0 V4 ⟨rfl, m4⟩
                  go_wp2_with fail
                  go_end0
                  exact ⟨rfl, by rw [HR.out]; simpa using m4⟩
              · have q3z : ¬ ((mid : Int) < (e : Int) ∧ (e : Int) < (b : Int)) := by omega
                have M4 := hidM (smg_either (X := X2) (Y := Y2) (by omega))
                by_cases q3a : (mid : Int) < (e : Int)
                · have q3b : ¬ (e : Int) < (b : Int) := by omega
                  go_wp2_with fail
                  all_goals go_end0
                  all_goals exact ⟨rfl, by rw [HR.out, M4.out]; have := M3.out; simpa using this⟩
                · go_wp2_with fail
                  all_goals go_end0
                  all_goals exact ⟨rfl, by rw [HR.out, M4.out]; have := M3.out; simpa using this⟩
            · have q2z : ¬ ((a : Int) < (u : Int) ∧ (u : Int) < (mid : Int)) := by omega
              have M4 := hidM (smg_either (X := X1) (Y := Y1) (by omega))
              have M3 : Hid (MRw w V2 base g n cap (A ++ (smg X1 Y1 ++ (X2 ++ (Y2 ++ C))))) := hidM (by rw [M4.out]; have := M2.out; simpa using this)
              clear M4 M2
              obtain ⟨V3, rfl⟩ : ∃ V, V = V2 := ⟨_, rfl⟩
              by_cases q2a : (a : Int) < (u : Int)
              · have q2b : ¬ (u : Int) < (mid : Int) := by omega
                by_cases q3 : mid < e ∧ e < b
                · obtain ⟨q3a, q3b⟩ := q3
                  have q3az : (mid : Int) < (e : Int) := by omega
                  have q3bz : (e : Int) < (b : Int) := by omega
                  have CI := hidM (IH.out V3 (A ++ smg X1 Y1) X2 Y2 C mid e b (by omega) (by rw [List.length_append, smg_len]; omega) (by omega) (by omega) (by omega) (by omega) HS.out.2.1 HS.out.2.2.2 (by have := M3.out; simpa using this))
                  go_wp2_with fail
                  all_goals
                    refine CI.out.mono ?_
                    rintro e0 V4 ⟨rfl, m4⟩
                    go_wp2_with fail
                    go_end0
                    exact ⟨rfl, by rw [HR.out]; simpa using m4⟩
                · have q3z : ¬ ((mid : Int) < (e : Int) ∧ (e : Int) < (b : Int)) := by omega
                  have M4 := hidM (smg_either (X := X2) (Y := Y2) (by omega))
                  by_cases q3a : (mid : Int) < (e : Int)
                  · have q3b : ¬ (e : Int) < (b : Int) := by omega
                    go_wp2_with fail
                    all_goals go_end0
                    all_goals exact ⟨rfl, by rw [HR.out, M4.out]; have := M3.out; simpa using this⟩
                  · go_wp2_with fail
                    all_goals go_end0
                    all_goals exact ⟨rfl, by rw [HR.out, M4.out]; have := M3.out; simpa using this⟩
              · by_cases q3 : mid < e ∧ e < b
                · obtain ⟨q3a, q3b⟩ := q3
                  have q3az : (mid : Int) < (e : Int) := by omega
                  have q3bz : (e : Int) < (b : Int) := by omega
                  have CI := hidM (IH.out V3 (A ++ smg X1 Y1) X2 Y2 C mid e b (by omega) (by rw [List.length_append, smg_len]; omega) (by omega) (by omega) (by omega) (by omega) HS.out.2.1 HS.out.2.2.2 (by have := M3.out; simpa using this))
                  go_wp2_with fail
                  all_goals
                    refine CI.out.mono ?_
                    rintro e0 V4 ⟨rfl, m4⟩
                    go_wp2_with fail
                    go_end0
                    exact ⟨rfl, by rw [HR.out]; simpa using m4⟩
                · have q3z : ¬ ((mid : Int) < (e : Int) ∧ (e : Int) < (b : Int)) := by omega
                  have M4 := hidM (smg_either (X := X2) (Y := Y2) (by omega))
                  by_cases q3a : (mid : Int) < (e : Int)
                  · have q3b : ¬ (e : Int) < (b : Int) := by omega
                    go_wp2_with fail
                    all_goals go_end0
                    all_goals exact ⟨rfl, by rw [HR.out, M4.out]; have := M3.out; simpa using this⟩
                  · go_wp2_with fail
                    all_goals go_end0
                    all_goals exact ⟨rfl, by rw [HR.out, M4.out]; have := M3.out; simpa using this⟩
          · by_cases q2 : a < u ∧ u < mid
            · obtain ⟨q2a, q2b⟩ := q2
              have q2az : (a : Int) < (u : Int) := by omega
              have q2bz : (u : Int) < (mid : Int) := by omega
              have CI := hidM (IH.out V2 A X1 Y1 (X2 ++ (Y2 ++ C)) a u mid (by omega) ha (by omega) (by omega) (by omega) (by omega) HS.out.1 HS.out.2.2.1 (by have := M2.out; simpa using this))
              go_wp2_with fail
              refine CI.out.mono ?_
              rintro e0 V3 ⟨rfl, m3⟩
              have M3 := hidM m3
              clear m3 CI M2
              by_cases q3 : mid < e ∧ e < b
              · obtain ⟨q3a, q3b⟩ := q3
                have q3az : (mid : Int) < (e : Int) := by omega
                have q3bz : (e : Int) < (b : Int) := by omega
                have CI := hidM (IH.out V3 (A ++ smg X1 Y1) X2 Y2 C mid e b (by omega) (by rw [List.length_append, smg_len]; omega) (by omega) (by omega) (by omega) (by omega) HS.out.2.1 HS.out.2.2.2 (by have := M3.out; simpa using this))
                go_wp2_with fail
                all_goals
                  refine CI.out.mono ?_
                  rintro e0 V4 ⟨rfl, m4⟩
                  go_wp2_with fail
                  go_end0
                  exact ⟨rfl, by rw [HR.out]; simpa using m4⟩
              · have q3z : ¬ ((mid : Int) < (e : Int) ∧ (e : Int) < (b : Int)) := by omega
                have M4 := hidM (smg_either (X := X2) (Y := Y2) (by omega))
                by_cases q3a : (mid : Int) < (e : Int)
                · have q3b : ¬ (e : Int) < (b : Int) := by omega
                  go_wp2_with fail
                  all_goals go_end0
                  all_goals exact ⟨rfl, by rw [HR.out, M4.out]; have := M3.out; simpa using this⟩
                · go_wp2_with fail
                  all_goals go_end0
                  all_goals exact ⟨rfl, by rw [HR.out, M4.out]; have := M3.out; simpa using this⟩
            · have q2z : ¬ ((a : Int) < (u : Int) ∧ (u : Int) < (mid : Int)) := by omega
              have M4 := hidM (smg_either (X := X1) (Y := Y1) (by omega))
              have M3 : Hid (MRw w V2 base g n cap (A ++ (smg X1 Y1 ++ (X2 ++ (Y2 ++ C))))) := hidM (by rw [M4.out]; have := M2.out; simpa using this)
              clear M4 M2
              obtain ⟨V3, rfl⟩ : ∃ V, V = V2 := ⟨_, rfl⟩
              by_cases q2a : (a : Int) < (u : Int)
              · have q2b : ¬ (u : Int) < (mid : Int) := by omega
                by_cases q3 : mid < e ∧ e < b
                · obtain ⟨q3a, q3b⟩ := q3
                  have q3az : (mid : Int) < (e : Int) := by omega
                  have q3bz : (e : Int) < (b : Int) := by omega
                  have CI := hidM (IH.out V3 (A ++ smg X1 Y1) X2 Y2 C mid e b (by omega) (by rw [List.length_append, smg_len]; omega) (by omega) (by omega) (by omega) (by omega) HS.out.2.1 HS.out.2.2.2 (by have := M3.out; simpa using this))
                  go_wp2_with fail
                  all_goals
                    refine CI.out.mono ?_
                    rintro e0 V4 ⟨rfl, m4⟩
                    go_wp2_with fail
                    go_end0
                    exact ⟨rfl, by rw [HR.out]; simpa using m4⟩
                · have q3z : ¬ ((mid : Int) < (e : Int) ∧ (e : Int) < (b : Int)) := by omega
                  have M4 := hidM (smg_either (X := X2) (Y := Y2) (by omega))
                  by_cases q3a : (mid : Int) < (e : Int)
                  · have q3b : ¬ (e : Int) < (b : Int) := by omega
                    go_wp2_with fail
                    all_goals go_end0
                    all_goals exact ⟨rfl, by rw [HR.out, M4.out]; have := M3.out; simpa using this⟩
                  · go_wp2_with fail
                    all_goals go_end0
                    all_goals exact ⟨rfl, by rw [HR.out, M4.out]; have := M3.out; simpa using this⟩
              · by_cases q3 : mid < e ∧ e < b
                · obtain ⟨q3a, q3b⟩ := q3
                  have q3az : (mid : Int) < (e : Int) := by omega
                  have q3bz : (e : Int) < (b : Int) := by omega
                  have CI := hidM (IH.out V3 (A ++ smg X1 Y1) X2 Y2 C mid e b (by omega) (by rw [List.length_append, smg_len]; omega) (by omega) (by omega) (by omega) (by omega) HS.out.2.1 HS.out.2.2.2 (by have := M3.out; simpa using this))
                  go_wp2_with fail
                  all_goals
                    refine CI.out.mono ?_
                    rintro e0 V4 ⟨rfl, m4⟩
                    go_wp2_with fail
                    go_end0
                    exact ⟨rfl, by rw [HR.out]; simpa using m4⟩
                · have q3z : ¬ ((mid : Int) < (e : Int) ∧ (e : Int) < (b : Int)) := by omega
                  have M4 := hidM (smg_either (X := X2) (Y := Y2) (by omega))
                  by_cases q3a : (mid : Int) < (e : Int)
                  · have q3b : ¬ (e : Int) < (b : Int) := by omega
                    go_wp2_with fail
                    all_goals go_end0
                    all_goals exact ⟨rfl, by rw [HR.out, M4.out]; have := M3.out; simpa using this⟩
                  · go_wp2_with fail
                    all_goals go_end0
                    all_goals exact ⟨rfl, by rw [HR.out, M4.out]; have := M3.out; simpa using this⟩
end Go.Proofs.Ytdnlaijpgjpplaa
