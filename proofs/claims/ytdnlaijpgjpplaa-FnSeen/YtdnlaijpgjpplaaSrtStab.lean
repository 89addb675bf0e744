/- The contracts of slices.stableCmpFunc and SortStableFunc at marks. -/
import Derived.Test.YtdnlaijpgjpplaaRows
import Derived.Test.YtdnlaijpgjpplaaSrtSym2
import Derived.Test.YtdnlaijpgjpplaaSrtIns
namespace Go.Proofs.Ytdnlaijpgjpplaa
open Go.RowKit
set_option linter.unusedVariables false

/-- Parts of bs marks, each sorted. -/
def Chk (bs : Nat) (l : List EV) : Prop := ∀ i, Srt ((l.drop (i * bs)).take bs)
theorem chk_nil (bs : Nat) : Chk bs [] := fun i => by simp; exact List.Pairwise.nil
theorem chk_app {bs c : Nat} {R C : List EV} (hR : R.length = c * bs) (h1 : Chk bs R) (h2 : Chk bs C) : Chk bs (R ++ C) := fun i => by
  by_cases hi : i < c
  · have := h1 i
    have hle : i * bs + bs ≤ c * bs := by
      have := Nat.mul_le_mul_right bs (show i + 1 ≤ c from hi)
      rwa [Nat.add_mul, Nat.one_mul] at this
    rw [List.drop_append_of_le_length (by omega), List.take_append_of_le_length (by rw [List.length_drop]; omega)]
    exact this
  · have := h2 (i - c)
    rw [List.drop_append, List.drop_eq_nil_of_le (by rw [hR]; exact Nat.mul_le_mul_right bs (by omega)), List.nil_append, hR, ← Nat.sub_mul]
    exact this
theorem chk_one {bs : Nat} {l : List EV} (hl : l.length ≤ bs) (h : Srt l) : Chk bs l := fun i => by
  cases i with
  | zero => rw [Nat.zero_mul, List.drop_zero, List.take_of_length_le hl]; exact h
  | succ i =>
    rw [List.drop_eq_nil_of_le (by rw [Nat.succ_mul]; omega), List.take_nil]
    exact List.Pairwise.nil
theorem chk_head {bs : Nat} {l : List EV} (h : Chk bs l) : Srt (l.take bs) := by
  have := h 0
  rwa [Nat.zero_mul, List.drop_zero] at this
theorem chk_drop {bs : Nat} {l : List EV} (h : Chk bs l) : Chk bs (l.drop bs) := fun i => by
  have := h (i + 1)
  rw [List.drop_drop]
  rwa [Nat.succ_mul, Nat.add_comm] at this
theorem fd_mid (k : List UInt8) {R X Y Z C : List EV} (h : ∀ k, fd k Z = fd k (X ++ Y)) : fd k (R ++ (Z ++ C)) = fd k (R ++ (X ++ (Y ++ C))) := by
  rw [fd_app, fd_app k Z C, h, fd_app k R, ← List.append_assoc X, fd_app k (X ++ Y)]
set_option maxRecDepth 100000 in
set_option maxHeartbeats 4000000 in
theorem implStable (w W : World) (base g n cap : Nat) (l : List EV) (hn : n ≤ 262144) (h : MRw w W base g n cap l) :
    Calls Try.prog 50 #[.slice (some ⟨g, 0, none⟩) n cap, .int .i64 n, .func (.func 30) #[] #[]] W fun e w' => e = .returned (.tuple #[]) ∧ ∃ L, MRw w w' base g n cap L ∧ Srt L ∧ ∀ k, fd k L = fd k l := by
  have hlen := h.len
  have HL := hidM h
  clear h
  have CI : Hid (∀ (W : World) (A X C : List EV) (a b : Nat), A.length = a → a + X.length = b → MRw w W base g n cap (A ++ (X ++ C)) → Calls Try.prog 52 #[.slice (some ⟨g, 0, none⟩) n cap, .int .i64 a, .int .i64 b, .func (.func 30) #[] #[]] W fun e w' => e = .returned (.tuple #[]) ∧ MRw w w' base g n cap (A ++ (srtI X ++ C))) := fun W A X C a b h1 h2 h3 => implInsertion w W base g n cap A X C a b h1 h2 (by omega) h3
  have CM : Hid (∀ (W : World) (A X Y C : List EV) (a m b : Nat), A.length = a → a + X.length = m → m + Y.length = b → 0 < X.length → 0 < Y.length → Srt X → Srt Y → MRw w W base g n cap (A ++ (X ++ (Y ++ C))) → Calls Try.prog 53 #[.slice (some ⟨g, 0, none⟩) n cap, .int .i64 a, .int .i64 m, .int .i64 b, .func (.func 30) #[] #[]] W fun e w' => e = .returned (.tuple #[]) ∧ MRw w w' base g n cap (A ++ (smg X Y ++ C))) := fun W A X Y C a m b h1 h2 h3 h4 h5 h6 h7 h8 => implSymMerge w base g n cap (by omega) (X.length + Y.length) W A X Y C a m b (Nat.le_refl _) h1 h2 h3 h4 h5 h6 h7 h8
  go_enter Try.func50, Try.ntmps50
  go_wp2
  go_loopw [7, 8] (fun s t wr => ∃ (c a b1 : Nat) (R C : List EV), s = .int .i64 a ∧ t = .int .i64 b1 ∧ a + 20 ≤ b1 ∧ b1 ≤ a + 20 ∧ Hid (a = c * 20) ∧ R.length = a ∧ R.length + C.length = n ∧ Hid (Chk 20 R) ∧ Hid (∀ k, fd k (R ++ C) = fd k l) ∧ Hid (MRw w wr base g n cap (R ++ C))) (fun s _ _ => n - (intOf s).toNat)
  case atStart => exact ⟨0, 0, 20, [], l, rfl, rfl, by omega, by omega, hidM rfl, rfl, by simp [hlen], chk_nil 20, hidM (fun _ => rfl), HL⟩
  case round =>
    clear HL
    obtain ⟨c, a, b1, R, C, rfl, rfl, hb1, hb2, HA, hR, hRC, HC, HF, HM⟩ := hrel
    by_cases hlt : b1 ≤ n
    · have hki : (b1 : Int) ≤ (n : Int) := by omega
      obtain ⟨X, Y, hXY, hX, hY⟩ := cut_at C 20 (by omega)
      have CR := hidM (CI.out wr R X Y a b1 hR (by omega) (by have := HM.out; rwa [hXY] at this))
      have HC2 : Hid (Chk 20 (R ++ srtI X)) := chk_app (c := c) (by have := HA.out; omega) HC.out (chk_one (by rw [srtI_len]; omega) (srtI_srt X))
      have HF2 : Hid (∀ k, fd k ((R ++ srtI X) ++ Y) = fd k l) := fun k => by
        rw [← HF.out k, hXY, List.append_assoc, fd_app, fd_app k (srtI X), srtI_fd, fd_app k R, fd_app k X]
      have hsl := srtI_len X
      have HA2 : Hid (b1 = (c + 1) * 20) := hidM (by have := HA.out; omega)
      clear HC HF HM hXY HA
      go_wp2_with fail
      refine CR.out.mono ?_
      rintro e w1 ⟨rfl, m1⟩
      have HM1 : Hid (MRw w w1 base g n cap ((R ++ srtI X) ++ Y)) := hidM (by simpa using m1)
      clear m1 CR
      go_wp2_with fail
      go_roundw
      case rel => exact ⟨c + 1, b1, b1 + 20, R ++ srtI X, Y, rfl, by go_num, by omega, by omega, HA2, by rw [List.length_append]; omega, by rw [List.length_append]; omega, HC2, HF2, HM1⟩
      case measure => simp [intOf]; omega
    · have hki : ¬ (b1 : Int) ≤ (n : Int) := by omega
      have CR := hidM (CI.out wr R C [] a n hR (by omega) (by have := HM.out; rwa [List.append_nil]))
      have HC2 : Hid (Chk 20 (R ++ srtI C)) := chk_app (c := c) (by have := HA.out; omega) HC.out (chk_one (by rw [srtI_len]; omega) (srtI_srt C))
      have HF2 : Hid (∀ k, fd k (R ++ srtI C) = fd k l) := fun k => by rw [← HF.out k, fd_app, srtI_fd, fd_app k R]
      clear HC HF HM
      go_wp2_with fail
      refine CR.out.mono ?_
      rintro e w1 ⟨rfl, m1⟩
      have HM1 : Hid (MRw w w1 base g n cap (R ++ srtI C)) := hidM (by simpa using m1)
      clear m1 CR
      obtain ⟨L0, hL0⟩ : ∃ L, R ++ srtI C = L := ⟨_, rfl⟩
      rw [hL0] at HM1 HF2 HC2
      clear hL0 HA hR hRC hki hlt hb1 hb2
      go_wp2
      go_loopw [6] (fun s wr => ∃ (bs : Nat) (L : List EV), s = .int .i64 bs ∧ 20 ≤ bs ∧ bs ≤ 20 + 2 * n ∧ Hid (Chk bs L) ∧ Hid (∀ k, fd k L = fd k l) ∧ Hid (MRw w wr base g n cap L)) (fun s _ => n - (intOf s).toNat)
      case atStart => exact ⟨20, L0, rfl, Nat.le_refl _, by omega, HC2, HF2, HM1⟩
      case round =>
        clear HC2 HF2 HM1
        obtain ⟨bs, L, rfl, hb20, hbn, HC, HF, HM⟩ := hrel
        have hLn := HM.out.len
        by_cases hbl : bs < n
        · have hbz : (bs : Int) < (n : Int) := by omega
          go_wp2
          go_loopw [7, 8] (fun s t wr => ∃ (c a b1 : Nat) (R C : List EV), s = .int .i64 a ∧ t = .int .i64 b1 ∧ a + 2 * bs ≤ b1 ∧ b1 ≤ a + 2 * bs ∧ Hid (a = c * (2 * bs)) ∧ R.length = a ∧ R.length + C.length = n ∧ Hid (Chk (2 * bs) R) ∧ Hid (Chk bs C) ∧ Hid (∀ k, fd k (R ++ C) = fd k l) ∧ Hid (MRw w wr base g n cap (R ++ C))) (fun s _ _ => n - (intOf s).toNat)
          case atStart => exact ⟨0, 0, 2 * bs, [], L, rfl, by go_num, by omega, by omega, hidM (by omega), rfl, by simp [hLn], chk_nil _, HC, HF, HM⟩
          case round =>
            clear HC HF HM hLn
            obtain ⟨c, a, b1, R, C, rfl, rfl, hb1, hb2, HA, hR, hRC, HCR, HC, HF, HM⟩ := hrel
            obtain ⟨m1, hm1⟩ : ∃ m1, m1 = a + bs := ⟨_, rfl⟩
            have hab : (a : Int) + (bs : Int) = (m1 : Int) := by omega
            have hm2 : a + bs ≤ m1 := by omega
            have hm3 : m1 ≤ a + bs := by omega
            clear hm1
            by_cases hlt : b1 ≤ n
            · have hki : (b1 : Int) ≤ (n : Int) := by omega
              obtain ⟨X, Y', hXY, hX, hY'⟩ := cut_at C bs (by omega)
              obtain ⟨Y, Z, hYZ, hY, hZ⟩ := cut_at Y' bs (by omega)
              have sX : Srt X := by have := chk_head HC.out; rwa [hXY, List.take_left' hX] at this
              have hd : C.drop bs = Y' := by rw [hXY, List.drop_left' hX]
              have cY := chk_drop HC.out
              rw [hd] at cY
              have sY : Srt Y := by have := chk_head cY; rwa [hYZ, List.take_left' hY] at this
              have cZ : Chk bs Z := by have := chk_drop cY; rwa [hYZ, List.drop_left' hY] at this
              have CR := hidM (CM.out wr R X Y Z a m1 b1 hR (by omega) (by omega) (by omega) (by omega) sX sY (by have := HM.out; rwa [hXY, hYZ] at this))
              have hsl := smg_len X Y
              have HCR2 : Hid (Chk (2 * bs) (R ++ smg X Y)) := chk_app (c := c) (by have := HA.out; omega) HCR.out (chk_one (by omega) (srt_smg sX sY))
              have HF2 : Hid (∀ k, fd k ((R ++ smg X Y) ++ Z) = fd k l) := fun k => by
                rw [← HF.out k, hXY, hYZ, List.append_assoc]
                exact fd_mid k fun k => fd_smg k sX sY
              have HA2 : Hid (b1 = (c + 1) * (2 * bs)) := hidM (by have := HA.out; rw [Nat.add_mul, Nat.one_mul]; omega)
              have HZ := hidM cZ
              clear HC HF HM hXY hYZ sX sY cY cZ hd HA HCR
              go_wp2_with fail
              refine CR.out.mono ?_
              rintro e w1 ⟨rfl, m1⟩
              have HM1 : Hid (MRw w w1 base g n cap ((R ++ smg X Y) ++ Z)) := hidM (by simpa using m1)
              clear m1 CR hab
              go_wp2_with fail
              go_roundw
              case rel => exact ⟨c + 1, b1, b1 + 2 * bs, R ++ smg X Y, Z, rfl, by go_num, by omega, by omega, HA2, by rw [List.length_append]; omega, by rw [List.length_append]; omega, HCR2, HZ, HF2, HM1⟩
              case measure => simp [intOf]; omega
            · have hki : ¬ (b1 : Int) ≤ (n : Int) := by omega
              by_cases hmn : m1 < n
              · have hmz : (m1 : Int) < (n : Int) := by omega
                obtain ⟨X, Y, hXY, hX, hY⟩ := cut_at C bs (by omega)
                have sX : Srt X := by have := chk_head HC.out; rwa [hXY, List.take_left' hX] at this
                have sY : Srt Y := by
                  have := chk_head (chk_drop HC.out)
                  rwa [hXY, List.drop_left' hX, List.take_of_length_le (by omega)] at this
                have CR := hidM (CM.out wr R X Y [] a m1 n hR (by omega) (by omega) (by omega) (by omega) sX sY (by have := HM.out; rwa [hXY, ← List.append_nil Y] at this))
                have hsl := smg_len X Y
                have HC2 : Hid (Chk (bs * 2) (R ++ smg X Y)) := hidM (by rw [Nat.mul_comm]; exact chk_app (c := c) (by have := HA.out; omega) HCR.out (chk_one (by omega) (srt_smg sX sY)))
                have HF2 : Hid (∀ k, fd k (R ++ smg X Y) = fd k l) := fun k => by
                  rw [← HF.out k, hXY, fd_app, fd_smg k sX sY, fd_app k R]
                clear HC HF HM hXY sX sY HA HCR
                go_wp2_with fail
                refine CR.out.mono ?_
                rintro e w1 ⟨rfl, m1⟩
                have HM1 : Hid (MRw w w1 base g n cap (R ++ smg X Y)) := hidM (by simpa using m1)
                clear m1 CR hab
                go_wp2_with fail
                go_roundw
                case rel => exact ⟨bs * 2, R ++ smg X Y, by go_num, by omega, by omega, HC2, HF2, HM1⟩
                case measure => simp [intOf]; omega
              · have hmz : ¬ (m1 : Int) < (n : Int) := by omega
                have HC2 : Hid (Chk (bs * 2) (R ++ C)) := hidM (by
                  rw [Nat.mul_comm]
                  refine chk_app (c := c) (by have := HA.out; omega) HCR.out (chk_one (by omega) ?_)
                  have := chk_head HC.out
                  rwa [List.take_of_length_le (by omega)] at this)
                clear HC HA HCR
                go_wp2_with fail
                go_roundw
                case rel => exact ⟨bs * 2, R ++ C, by go_num, by omega, by omega, HC2, HF, HM⟩
                case measure => simp [intOf]; omega
        · have hbz : ¬ (bs : Int) < (n : Int) := by omega
          have HS : Hid (Srt L) := hidM (by have := chk_head HC.out; rwa [List.take_of_length_le (by omega)] at this)
          go_wp2_with fail
          go_end0
          exact ⟨rfl, L, HM.out, HS.out, HF.out⟩
set_option maxHeartbeats 4000000 in
theorem implSortStable (w W : World) (base g n cap : Nat) (l : List EV) (hn : n ≤ 262144) (h : MRw w W base g n cap l) :
    Calls Try.prog 41 #[.slice (some ⟨g, 0, none⟩) n cap, .func (.func 30) #[] #[]] W fun e w' => e = .returned (.tuple #[]) ∧ ∃ L, MRw w w' base g n cap L ∧ Srt L ∧ ∀ k, fd k L = fd k l := by
  have CS := hidM (implStable w W base g n cap l hn h)
  clear h
  go_enter Try.func41, Try.ntmps41
  go_wp2_with fail
  refine CS.out.mono ?_
  rintro e w1 ⟨rfl, L, h1, h2, h3⟩
  have H1 := hidM h1
  have H2 := hidM h2
  have H3 := hidM h3
  clear h1 h2 h3
  go_wp2_with fail
  go_end0
  exact ⟨rfl, L, H1.out, H2.out, H3.out⟩
end Go.Proofs.Ytdnlaijpgjpplaa
