/- The contract of the specification's Matches: two rows of truths. -/
import Derived.Test.YtbjidcejpdeegaaRows
import Derived.Test.YtbjidcejpdeegaaMatRows
import Derived.Test.YtbjidcejpdeegaaPctWalk
import Derived.Test.YtbjidcejpdeegaaLabPlain
import Derived.Test.YtbjidcejpdeegaaRowMore
import Derived.Handy
import Derived.Deep.DeepCutAuto
namespace Go.Proofs.Ytbjidcejpdeegaa
open Go.RowKit
set_option linter.unusedVariables false

theorem end_at {p : ByteArray} (h : 0 < p.size) : endM p.data.toList = decide (p[p.size - 1]'(by omega) = 36) := by
  unfold endM
  rw [last_at p h]
  simp
theorem end_nil {p : ByteArray} (h : ¬ 0 < p.size) : endM p.data.toList = false := by
  have : p.data.toList = [] := List.eq_nil_of_length_eq_zero (by have : p.data.toList.length = p.size := by simp
                                                                 omega)
  rw [this]
  rfl
theorem cut_len (p : List UInt8) : cutM p = p.take (p.length - (if endM p = true then 1 else 0)) := by
  unfold cutM
  split
  · rw [List.dropLast_eq_take]
  · rw [Nat.sub_zero, List.take_length]
theorem Try.infoBl : (Try.prog.info? 4).map (fun i => (i.zero, i.size, i.bytes)) = some (some (.bool false), 1, 1) := by kernel_rfl
set_option maxRecDepth 100000 in
set_option maxHeartbeats 4000000 in
theorem specMatches (p s : ByteArray) (w : World) (hp : p.size ≤ 4194304) (hs : s.size ≤ 4194304) :
    Calls Try.prog 12 #[.string p, .string s] w fun e w' => e = .returned (.bool (matB p.data.toList s.data.toList)) ∧ Below w.heap.size w w' := by
  obtain ⟨i0, hi, hz0, hz1, hz2⟩ := info_parts Try.infoBl
  obtain ⟨e, he⟩ : ∃ e, endM p.data.toList = e := ⟨_, rfl⟩
  have HE : Hid (endM p.data.toList = e) := he
  have HC : Hid (cutM p.data.toList = p.data.toList.take (p.size - (if e = true then 1 else 0))) := by
    show _ = _
    rw [cut_len, he]
    simp
  clear he
  go_enter Try.func12, Try.ntmps12
  go_upto_region 2 with fail
  go_cut [6] (fun v wx => v = .bool e ∧ wx = w)
  case first =>
    by_cases h0 : 0 < p.size
    · have hpi : 0 < (p.size : Int) := by omega
      have H1 := end_at h0
      rw [HE.out] at H1
      obtain ⟨d, hd⟩ : ∃ d : Nat, (p[p.size - 1]'(by omega)).toNat = d := ⟨_, rfl⟩
      have ix := run_at Try.prog 9 Try.underlying9 p ((p.size : Int) - 1) (p.size - 1) d (by omega) (by omega) hd
      by_cases h36 : d = 36
      · have HT : Hid (e = true) := by
          show _ = _
          rw [H1]
          exact decide_eq_true (UInt8.toNat_inj.1 (by rw [hd, h36]; rfl))
        clear H1 hd
        subst h36
        go_wp2_with fail
        go_meet
        exact ⟨by rw [HT.out], rfl⟩
      · have HT : Hid (e = false) := by
          show _ = _
          rw [H1]
          exact decide_eq_false fun h => h36 (by rw [← hd, h]; rfl)
        have h36i : ((d : Int) == 36) = false := beq_eq_false_iff_ne.2 (by omega)
        clear H1 hd
        go_wp2_with fail
        go_meet
        exact ⟨by rw [HT.out], rfl⟩
    · have hpi : ¬ 0 < (p.size : Int) := by omega
      have HT : Hid (e = false) := HE.out.symm.trans (end_nil h0)
      go_wp2_with fail
      go_meet
      exact ⟨by rw [HT.out], rfl⟩
  case rest =>
    obtain ⟨rfl, hw⟩ := hcut
    obtain rfl := hw.symm
    have HEP : Hid (e = true → 0 < p.size) := fun h => by
      rcases Nat.lt_or_ge 0 p.size with h1 | h1
      · exact h1
      · have := end_nil (p := p) (by omega)
        rw [HE.out, h] at this
        cases this
    obtain ⟨n, hn⟩ : ∃ n, p.size - (if e = true then 1 else 0) = n := ⟨_, rfl⟩
    have HN : Hid (p.size - (if e = true then 1 else 0) = n) := hn
    rw [hn] at HC
    have hnp : n ≤ p.size := by omega
    clear hn
    go_upto_if 23 with fail
    go_cut [5] (fun v wx => v = .int .i64 (n : Int) ∧ wx = w)
    case first =>
      cases e with
      | true =>
        have h0 := HEP.out rfl
        have h1 : p.size - 1 = n := HN.out
        go_wp2_with fail
        go_meet
        exact ⟨by rw [← h1, show ((p.size - 1 : Nat) : Int) = (p.size : Int) - 1 by omega], rfl⟩
      | false =>
        have h1 : p.size = n := HN.out
        go_wp2_with fail
        go_meet
        exact ⟨by rw [← h1], rfl⟩
    case rest =>
      obtain ⟨rfl, hw⟩ := hcut
      obtain rfl := hw.symm
      obtain ⟨L, hL⟩ : ∃ L, s.size = L := ⟨_, rfl⟩
      have hsl : s.data.toList.length = L := by rw [← hL]; simp
      go_wp2_with (at_make; refine wpList_make_full _ rfl _ _ 52 rfl w.heap.size 4 i0 (.bool false) 1 Try.underlying52 hi hz0 hz1 _ _ _ _ (L + 1) rfl rfl (by omega) (by omega) (by rw [hz2]; omega) (by unfold maxLen; omega) (Nat.le_refl _) ?_)
      intro wm hmo hgm
      have Bm : Below w.heap.size w wm := (Below.refl _ _).grown hgm (Nat.le_refl _) (fun k hk => by cases hk)
      have A0 := bat_made hmo
      have c0 := A0.1 0 _ (bcl_get _ (Nat.zero_le _))
      have f0 := A0.2.1 0
      have A1 := A0.set 0 (by rw [bcl_len]; omega) (.bool true)
      rw [bcl_put (fun _ => false) (mA s.data.toList []) (k := 0) (b := true) (Nat.zero_le _) (fun j hj hne => (show _ = (j == 0) from (beq_eq_false_iff_ne.2 hne).symm)) rfl] at A1
      have B1 := Bm.setCell (p := ⟨w.heap.size, 0, none⟩) (Nat.le_refl _) (.bool true)
      clear hmo hgm A0 Bm
      go_wp2_with fail
      have HA1 : Hid (BAt (wm.setCell ⟨w.heap.size, 0, none⟩ (.bool true)) w.heap.size (bcl (mA s.data.toList (p.data.toList.take 0).reverse) L)) := A1
      clear A1 c0 f0
      generalize wm.setCell ⟨w.heap.size, 0, none⟩ (.bool true) = w1 at *
      go_loopw [7, 8] (fun v i wr => ∃ (k g : Nat), k ≤ n ∧ i = .int .i64 k ∧ v = .slice (some ⟨g, 0, none⟩) (L + 1) (L + 1) ∧ w.heap.size ≤ g ∧ Hid (BAt wr g (bcl (mA s.data.toList (p.data.toList.take k).reverse) L)) ∧ Below w.heap.size w wr) (fun _ i _ => n - (intOf i).toNat)
      case atStart => exact ⟨0, _, Nat.zero_le _, rfl, rfl, Nat.le_refl _, HA1, B1⟩
      case round =>
        obtain ⟨k, g, hk, rfl, rfl, hg, HA, hbel⟩ := hrel
        clear HA1 B1
        by_cases hlt : k < n
        · have hki : (k : Int) < n := by omega
          go_wp2_with (at_make; refine wpList_make_full _ rfl _ _ 52 rfl w.heap.size 4 i0 (.bool false) 1 Try.underlying52 hi hz0 hz1 _ _ _ _ (L + 1) rfl rfl (by omega) (by omega) (by rw [hz2]; omega) (by unfold maxLen; omega) hbel.size ?_)
          intro w2 hmo hgm
          have hgl : g < wr.heap.size := HA.out.2.2
          have AH := bat_made hmo
          rw [upto_zero (mA s.data.toList (p.data.toList.take (k + 1)).reverse)] at AH
          have HA2 : Hid (BAt w2 g (bcl (mA s.data.toList (p.data.toList.take k).reverse) L)) := HA.out.same hgm.size (hgm.block g hgl (fun e => by cases e))
          have HH2 : Hid (BAt w2 wr.heap.size (bcl (uptoF (mA s.data.toList (p.data.toList.take (k + 1)).reverse) 0) L)) := AH
          have B2 : Below w.heap.size w w2 := hbel.grown hgm hbel.size (fun k hk => by cases hk)
          have hkp : k < p.size := by omega
          obtain ⟨d, hd⟩ : ∃ d : Nat, (p[k]'hkp).toNat = d := ⟨_, rfl⟩
          have HQ : Hid ((p.data.toList.take (k + 1)).reverse = (p[k]'hkp) :: (p.data.toList.take k).reverse) := by
            show _ = _
            have hkl : k < p.data.toList.length := by simp; omega
            rw [List.take_succ_eq_append_getElem hkl, List.reverse_append]
            rfl
          have ix := run_at Try.prog 9 Try.underlying9 p (k : Int) k d hkp rfl hd
          have hbs := hbel.size
          clear hmo hgm AH HA hbel
          generalize wr.heap.size = H at *
          generalize hq0 : (p.data.toList.take k).reverse = q at *
          generalize hq1 : (p.data.toList.take (k + 1)).reverse = q1 at *
          have HQ1 : Hid ((p.data.toList.take (k + 1)).reverse = q1) := hq1
          clear hq0 hq1
          go_wp2_with fail
          go_loopw [10] (fun j wx => ∃ m : Nat, m ≤ L + 1 ∧ j = .int .i64 m ∧ Hid (BAt wx g (bcl (mA s.data.toList q) L)) ∧ Hid (BAt wx H (bcl (uptoF (mA s.data.toList q1) m) L)) ∧ Below w.heap.size w wx) (fun j _ => L + 1 - (intOf j).toNat)
          case atStart => exact ⟨0, Nat.zero_le _, rfl, HA2, HH2, B2⟩
          case round =>
            obtain ⟨m, hm, rfl, HA, HH, hbel⟩ := hrel
            clear HA2 HH2 B2
            by_cases hml : m ≤ L
            · have hmi : (m : Int) ≤ L := by omega
              have cg := HA.out.1 m _ (bcl_get _ hml)
              have ch := HH.out.1 m _ (bcl_get _ hml)
              have fh := HH.out.2.1 m
              have HO : Hid (∀ b, mA s.data.toList q1 m = b → BAt (wr.setCell ⟨H, m, none⟩ (.bool b)) g (bcl (mA s.data.toList q) L) ∧ BAt (wr.setCell ⟨H, m, none⟩ (.bool b)) H (bcl (uptoF (mA s.data.toList q1) (m + 1)) L) ∧ Below w.heap.size w (wr.setCell ⟨H, m, none⟩ (.bool b))) := fun b hb =>
                ⟨HA.out.other (by omega) m _, (by have := HH.out.set m (by rw [bcl_len]; omega) (.bool b); rwa [upto_put _ hml hb] at this), hbel.setCell (p := ⟨H, m, none⟩) hbs _⟩
              by_cases h42 : d = 42
              · have hq1 : q1 = 42 :: q := HQ.out.trans (by rw [show p[k]'hkp = 42 from UInt8.toNat_inj.1 (by rw [hd, h42]; rfl)])
                subst h42
                have ixd := ix
                obtain ⟨a, ha⟩ : ∃ a, mA s.data.toList q m = a := ⟨_, rfl⟩
                rw [ha] at cg
                cases a with
                | true =>
                  have hF : mA s.data.toList q1 m = true := by
                    rw [hq1]
                    cases m with
                    | zero => rw [mA_star0]; exact ha
                    | succ m' => rw [mA_star1, ha]; rfl
                  obtain ⟨o1, o2, o3⟩ := HO.out _ hF
                  have O1 : Hid (BAt (wr.setCell ⟨H, m, none⟩ (.bool true)) g (bcl (mA s.data.toList q) L)) := o1
                  have O2 : Hid (BAt (wr.setCell ⟨H, m, none⟩ (.bool true)) H (bcl (uptoF (mA s.data.toList q1) (m + 1)) L)) := o2
                  clear hF ha hq1 o1 o2 HO hbel HA HH
                  go_wp2_with fail
                  go_roundw
                  case rel => exact ⟨m + 1, by omega, by go_num, O1, O2, o3⟩
                  case measure => simp [intOf] <;> omega
                | false =>
                  cases m with
                  | zero =>
                    have hF : mA s.data.toList q1 0 = false := by rw [hq1, mA_star0]; exact ha
                    obtain ⟨o1, o2, o3⟩ := HO.out _ hF
                    have O1 : Hid (BAt (wr.setCell ⟨H, 0, none⟩ (.bool false)) g (bcl (mA s.data.toList q) L)) := o1
                    have O2 : Hid (BAt (wr.setCell ⟨H, 0, none⟩ (.bool false)) H (bcl (uptoF (mA s.data.toList q1) (0 + 1)) L)) := o2
                    clear hF ha hq1 o1 o2 HO hbel HA HH
                    go_wp2_with fail
                    go_roundw
                    case rel => exact ⟨0 + 1, by omega, by go_num, O1, O2, o3⟩
                    case measure => simp [intOf] <;> omega
                  | succ m' =>
                    have hF : mA s.data.toList q1 (m' + 1) = mA s.data.toList q1 m' := by rw [hq1, mA_star1, ha]; rfl
                    have c2 := HH.out.1 m' _ (bcl_get _ (by omega))
                    rw [upto_at _ (Nat.lt_succ_self m')] at c2
                    obtain ⟨b, hb⟩ : ∃ b, mA s.data.toList q1 m' = b := ⟨_, rfl⟩
                    rw [hb] at hF c2
                    obtain ⟨o1, o2, o3⟩ := HO.out _ hF
                    have O1 : Hid (BAt (wr.setCell ⟨H, m' + 1, none⟩ (.bool b)) g (bcl (mA s.data.toList q) L)) := o1
                    have O2 : Hid (BAt (wr.setCell ⟨H, m' + 1, none⟩ (.bool b)) H (bcl (uptoF (mA s.data.toList q1) (m' + 1 + 1)) L)) := o2
                    have hmp : 0 < ((m' : Int) + 1) := by omega
                    clear hF ha hq1 o1 o2 HO hbel HA HH hb
                    go_wp2_with fail
                    go_roundw
                    case rel => exact ⟨m' + 1 + 1, by omega, by go_num, O1, O2, o3⟩
                    case measure => simp [intOf] <;> omega
              · have hc42 : p[k]'hkp ≠ 42 := fun h => h42 (by rw [← hd, h]; rfl)
                have h42i : ((d : Int) == 42) = false := beq_eq_false_iff_ne.2 (by omega)
                have hq1 : q1 = p[k]'hkp :: q := HQ.out
                cases m with
                | zero =>
                  have hF : mA s.data.toList q1 0 = false := by rw [hq1, mA_byte hc42]; simp
                  have O2 : Hid (BAt wr H (bcl (uptoF (mA s.data.toList q1) (0 + 1)) L)) := by
                    show BAt _ _ _
                    rw [← upto_skip _ (Nat.zero_le _) hF]
                    exact HH.out
                  clear hF hq1 hc42 HH HO
                  go_wp2_with fail
                  go_roundw
                  case rel => exact ⟨0 + 1, by omega, by go_num, HA, O2, hbel⟩
                  case measure => simp [intOf] <;> omega
                | succ m' =>
                  have hms : m' < s.size := by omega
                  obtain ⟨d2, hd2⟩ : ∃ d2 : Nat, (s[m']'hms).toNat = d2 := ⟨_, rfl⟩
                  have iy := run_at Try.prog 9 Try.underlying9 s (m' : Int) m' d2 hms rfl hd2
                  have hF : mA s.data.toList q1 (m' + 1) = (mA s.data.toList q m' && ((d2 : Int) == (d : Int))) := by
                    rw [hq1, mA_byte hc42, decide_eq_true (Nat.succ_pos m'), Bool.true_and, Nat.add_sub_cancel]
                    congr 1
                    rw [Bool.eq_iff_iff, decide_eq_true_eq, beq_iff_eq, List.getElem?_eq_getElem (by rw [hsl]; omega)]
                    constructor
                    · intro h
                      have h1 : s[m']'hms = p[k]'hkp := by injection h
                      rw [← hd2, ← hd, h1]
                    · intro h
                      have h1 : s[m']'hms = p[k]'hkp := UInt8.toNat_inj.1 (by rw [hd, hd2]; omega)
                      exact congrArg some h1
                  have c2 := HA.out.1 m' _ (bcl_get _ (by omega))
                  have hmp : 0 < ((m' : Int) + 1) := by omega
                  obtain ⟨a, ha⟩ : ∃ a, mA s.data.toList q m' = a := ⟨_, rfl⟩
                  rw [ha] at hF c2
                  obtain ⟨b, hb⟩ : ∃ b, (a && ((d2 : Int) == (d : Int))) = b := ⟨_, rfl⟩
                  rw [hb] at hF
                  obtain ⟨o1, o2, o3⟩ := HO.out _ hF
                  have O1 : Hid (BAt (wr.setCell ⟨H, m' + 1, none⟩ (.bool b)) g (bcl (mA s.data.toList q) L)) := o1
                  have O2 : Hid (BAt (wr.setCell ⟨H, m' + 1, none⟩ (.bool b)) H (bcl (uptoF (mA s.data.toList q1) (m' + 1 + 1)) L)) := o2
                  clear hF ha hq1 hc42 o1 o2 HO hbel HA HH hd2 cg
                  cases a with
                  | false =>
                    have hb' : b = false := hb.symm
                    clear hb
                    subst hb'
                    go_upto_region 17 with fail
                    go_region
                    go_wp2_with fail
                    go_roundw
                    case rel => exact ⟨m' + 1 + 1, by omega, by go_num, O1.out, O2.out, o3.drew⟩
                    case measure => simp [intOf] <;> omega
                  | true =>
                    have hb' : ((d2 : Int) == (d : Int)) = b := hb
                    clear hb
                    go_upto_region 17 with fail
                    go_region
                    go_wp2_with fail
                    go_roundw
                    case rel => exact ⟨m' + 1 + 1, by omega, by go_num, O1.out, O2.out, o3.drew⟩
                    case measure => simp [intOf] <;> omega
            · have hmi : ¬ (m : Int) ≤ L := by omega
              have HH3 : Hid (BAt wr H (bcl (mA s.data.toList (p.data.toList.take (k + 1)).reverse) L)) := by
                show BAt _ _ _
                have := HH.out
                rwa [show m = L + 1 by omega, upto_all, ← HQ1.out] at this
              clear HA HH
              go_wp2_with fail
              go_roundw
              case rel => exact ⟨k + 1, H, by omega, by go_num, rfl, hbs, HH3, hbel⟩
              case measure => simp [intOf] <;> omega
        · have hki : ¬ (k : Int) < n := by omega
          have HAn : Hid (BAt wr g (bcl (mA s.data.toList (cutM p.data.toList).reverse) L)) := by
            show BAt _ _ _
            rw [HC.out, show n = k by omega]
            exact HA.out
          have HM : Hid (matB p.data.toList s.data.toList = (List.range (L + 1)).any fun k => mA s.data.toList (cutM p.data.toList).reverse k && (!e || k == L)) := by
            show _ = _
            unfold matB
            rw [HE.out, hsl]
          clear HA
          generalize (cutM p.data.toList).reverse = q at *
          go_wp2_with fail
          go_loop [11] (fun j => ∃ m : Nat, m ≤ L + 1 ∧ j = .int .i64 m ∧ Hid (∀ x, x < m → (mA s.data.toList q x && (!e || x == L)) = false)) (fun j => L + 1 - (intOf j).toNat)
          case atStart => exact ⟨0, Nat.zero_le _, rfl, fun x hx => absurd hx (Nat.not_lt_zero _)⟩
          case round =>
            obtain ⟨m, hm, rfl, HP⟩ := hrel
            by_cases hml : m ≤ L
            · have hmi : (m : Int) ≤ L := by omega
              have cg := HAn.out.1 m _ (bcl_get _ hml)
              obtain ⟨b, hb⟩ : ∃ b, mA s.data.toList q m = b := ⟨_, rfl⟩
              rw [hb] at cg
              obtain ⟨z, hz⟩ : ∃ z, (b && (!e || m == L)) = z := ⟨_, rfl⟩
              have HZ : Hid ((mA s.data.toList q m && (!e || m == L)) = z) := by show _ = _; rw [hb]; exact hz
              have hmL : ((m : Int) == (L : Int)) = (m == L) := by rw [Bool.eq_iff_iff, beq_iff_eq, beq_iff_eq]; omega
              have HY : Hid (z = true → matB p.data.toList s.data.toList = true) := fun h => by
                rw [HM.out, any_range]
                exact ⟨m, by omega, by rw [HZ.out, h]⟩
              have HN2 : Hid (z = false → ∀ x, x < m + 1 → (mA s.data.toList q x && (!e || x == L)) = false) := fun h x hx => by
                by_cases hxm : x < m
                · exact HP.out x hxm
                · rw [show x = m by omega, HZ.out, h]
              clear hb HZ HP HM HAn
              cases b with
              | false =>
                have hz' : z = false := hz.symm
                clear hz
                subst hz'
                go_wp2_with fail
                go_round
                case rel => exact ⟨m + 1, by omega, by go_num, HN2.out (by trivial)⟩
                case measure => simp [intOf] <;> omega
              | true =>
                cases e with
                | false =>
                  have hz' : z = true := hz.symm
                  clear hz
                  subst hz'
                  go_wp2_with fail
                  go_ret
                  exact ⟨ret_bool (HY.out (by trivial)).symm, hbel⟩
                | true =>
                  have hz' : (m == L) = z := hz
                  rw [hz'] at hmL
                  clear hz hz'
                  cases z with
                  | true =>
                    go_wp2_with fail
                    go_ret
                    exact ⟨ret_bool (HY.out (by trivial)).symm, hbel⟩
                  | false =>
                    go_wp2_with fail
                    go_round
                    case rel => exact ⟨m + 1, by omega, by go_num, HN2.out (by trivial)⟩
                    case measure => simp [intOf] <;> omega
            · have hmi : ¬ (m : Int) ≤ L := by omega
              have HR : Hid (matB p.data.toList s.data.toList = false) := by
                show _ = _
                rw [HM.out, List.any_eq_false]
                intro x hx
                rw [HP.out x (by have := List.mem_range.1 hx; omega)]
                decide
              go_wp2_with fail
              go_ret
              exact ⟨ret_bool HR.out.symm, hbel⟩
end Go.Proofs.Ytbjidcejpdeegaa
