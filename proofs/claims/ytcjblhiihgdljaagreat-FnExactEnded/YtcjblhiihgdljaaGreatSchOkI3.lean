/- Contracts of the code's looks at queues: the leases. -/
import Derived.Test.YtcjblhiihgdljaaGreatRows
import Derived.Test.YtcjblhiihgdljaaGreatSchOkI2
namespace Go.Proofs.YtcjblhiihgdljaaGreat
open Go.RowKit
set_option linter.unusedVariables false
set_option linter.unusedSimpArgs false

/-- A site of that name is there. -/
def There (si : List SiteV) (n : ByteArray) : Prop := ∃ i, i < si.length ∧ (si.getD i sitv0).n = n
/-- A place is answered, or -1: which tells whether p. -/
def AnsZ (p : Prop) (w : World) (e : Ending) (w' : World) : Prop := ∃ z : Int, e = .returned (.int .i64 z) ∧ (0 ≤ z ↔ p) ∧ Below w.heap.size w w'
theorem AnsZ.mk {p : Prop} {w w' : World} {z : Int} (h : 0 ≤ z ↔ p) (hb : Below w.heap.size w w') : AnsZ p w (.returned (.int .i64 z)) w' := ⟨z, rfl, h, hb⟩
set_option maxHeartbeats 4000000 in
theorem implNamed (x : SiteV) (q : Value) (y : LsV) (B : Nat) (w : World) (hB : BAt w B [.string y.k, .string y.s, .int .i64 y.p, .int .i64 y.u]) :
    Calls Tryz.prog 110 #[.agg #[.string x.n, .int .i64 x.r, q], .pointer (some ⟨B, 0, none⟩)] w fun e w' => e = .returned (.bool (decide (x.n = y.s))) ∧ Below w.heap.size w w' := by
  rw [← beq_toList]
  obtain ⟨O, hO⟩ : ∃ O, O = w.alloc (.cells #[.string x.n, .int .i64 x.r, q] 43) := ⟨_, rfl⟩
  have bO : Below w.heap.size w O := by rw [hO]; exact (Below.refl _ _).alloc (Nat.le_refl _) _
  have AO : BAt O w.heap.size [.string x.n, .int .i64 x.r, q] := by rw [hO]; exact BAt.new w #[.string x.n, .int .i64 x.r, q] _
  have BO := hB.below bO
  have c0 := AO.1 0 _ rfl
  have d1 := BO.1 1 _ rfl
  generalize x.n = xn at *
  generalize y.s = ys at *
  generalize x.r = xr at *
  go_enter Tryz.func110, Tryz.ntmps110
  go_upto_region 1 with fail
  rw [← hO]
  clear hO
  go_wp2_with fail
  go_ret
  exact ⟨rfl, bO⟩
set_option maxRecDepth 100000 in
set_option maxHeartbeats 8000000 in
theorem implIdxSite (si : List SiteV) (p : Value) (y : LsV) (B : Nat) (w : World) (hl : si.length ≤ 1073741824) (hp : SitRow w p si) (hB : BAt w B [.string y.k, .string y.s, .int .i64 y.p, .int .i64 y.u]) :
    Calls Tryz.prog 146 #[p, .func (.func 110) #[] #[.pointer (some ⟨B, 0, none⟩)]] w fun e w' => AnsZ (There si y.s) w e w' := by
  have HB : Hid (BAt w B [.string y.k, .string y.s, .int .i64 y.p, .int .i64 y.u]) := hB
  clear hB
  rcases hp.cases with ⟨rfl, ao, cap, rfl⟩ | ⟨h0, g, off, cap, rfl, hg, hc⟩
  · clear hp hl
    have HR : Hid (∀ W, AnsZ (There [] y.s) W (.returned (.int .i64 (-1))) W) := fun W => AnsZ.mk ⟨fun h => absurd h (by decide), fun ⟨i, hi, _⟩ => absurd hi (Nat.not_lt_zero _)⟩ (Below.refl _ _)
    go_enter Tryz.func146, Tryz.ntmps146
    go_wp2
    refine wp_loop_rounds 1 ?_
    rw [rounds_succ]
    go_wp2
    go_ret
    exact HR.out _
  · have HC : Hid (∀ i, i < si.length → SitAt w g (off + i * 3) (si.getD i sitv0)) := hc
    clear hc hp
    go_enter Tryz.func146, Tryz.ntmps146
    go_wp2
    go_loopw [8] (fun i wr => ∃ k : Nat, k ≤ si.length ∧ i = .int .i64 k ∧ Hid (∀ j, j < k → (si.getD j sitv0).n ≠ y.s) ∧ Below w.heap.size w wr) (fun i _ => si.length - (intOf i).toNat)
    case atStart => exact ⟨0, Nat.zero_le _, rfl, fun j h => absurd h (Nat.not_lt_zero _), Below.refl _ _⟩
    case round =>
      obtain ⟨k, hk, rfl, HN, hbel⟩ := hrel
      by_cases hlt : k < si.length
      · have hki : (k : Int) < si.length := by omega
        obtain ⟨c0, c1, x, c2, c3⟩ := (HC.out k hlt).below hbel hg
        have CN : Hid (Calls Tryz.prog 110 #[.agg #[.string (si.getD k sitv0).n, .int .i64 (si.getD k sitv0).r, x], .pointer (some ⟨B, 0, none⟩)] wr fun e w' => e = .returned (.bool (decide ((si.getD k sitv0).n = y.s))) ∧ Below wr.heap.size wr w') := implNamed (si.getD k sitv0) x y B wr (HB.out.below hbel)
        have HYes : Hid (decide ((si.getD k sitv0).n = y.s) = true → ∀ W, Below w.heap.size w W → AnsZ (There si y.s) w (.returned (.int .i64 k)) W) := fun h W hW => AnsZ.mk ⟨fun _ => ⟨k, hlt, of_decide_eq_true h⟩, fun _ => by omega⟩ hW
        have HNo : Hid (decide ((si.getD k sitv0).n = y.s) = false → ∀ j, j < k + 1 → (si.getD j sitv0).n ≠ y.s) := fun h j hj => by
          by_cases e : j = k
          · subst e; exact of_decide_eq_false h
          · exact HN.out j (by omega)
        obtain ⟨xa, xc, hxe⟩ := c3.slice
        clear HN c3
        generalize decide ((si.getD k sitv0).n = y.s) = S at *
        generalize (si.getD k sitv0).w.length = XN at *
        generalize (si.getD k sitv0).n = x0 at *
        generalize (si.getD k sitv0).r = x1 at *
        subst hxe
        go_wp2_with fail
        refine CN.out.mono ?_
        rintro e w1 ⟨rfl, b1⟩
        have B1 := hbel.trans (b1.mono hbel.size)
        clear CN b1 c0 c1 c2 hbel
        cases S with
        | true =>
          have HY := hidM (HYes.out rfl w1 B1)
          clear HYes HNo
          go_wp2_with fail
          go_ret
          exact HY.out
        | false =>
          have HN := hidM (HNo.out rfl)
          clear HYes HNo
          go_wp2_with fail
          go_roundw
          case rel => exact ⟨k + 1, by omega, by go_num, HN, B1⟩
          case measure => simp [intOf]; omega
      · have hki : ¬ (k : Int) < si.length := by omega
        have HR : Hid (AnsZ (There si y.s) w (.returned (.int .i64 (-1))) wr) := AnsZ.mk ⟨fun h => absurd h (by decide), fun ⟨i, hi, e⟩ => absurd e (HN.out i (by omega))⟩ hbel
        clear HN
        go_wp2_with fail
        go_ret
        exact HR.out
set_option maxHeartbeats 4000000 in
theorem implThere (si : List SiteV) (p : Value) (y : LsV) (B : Nat) (w : World) (hl : si.length ≤ 1073741824) (hp : SitRow w p si) (hB : BAt w B [.string y.k, .string y.s, .int .i64 y.p, .int .i64 y.u]) :
    Calls Tryz.prog 109 #[p, .func (.func 110) #[] #[.pointer (some ⟨B, 0, none⟩)]] w fun e w' => AnsB (There si y.s) w e w' := by
  have CI := hidM (implIdxSite si p y B w hl hp hB)
  obtain ⟨ao, cap, rfl⟩ := hp.slice
  generalize There si y.s = P at *
  clear hp hB hl
  go_enter Tryz.func109, Tryz.ntmps109
  go_wp2_with fail
  refine CI.out.mono ?_
  rintro e w1 ⟨z, rfl, hz, b1⟩
  have HZ : Hid (BIs (decide (0 ≤ z)) P) := by show BIs _ _; unfold BIs; rw [decide_eq_true_eq]; exact hz
  clear hz CI
  go_wp2_with fail
  go_ret
  exact AnsB.mk HZ.out b1
def leaseIn (si : List SiteV) (y : LsV) : Prop := 0 < y.k.size ∧ inB y.p 0 1000 = true ∧ inB y.u 0 1000000000 = true ∧ There si y.s
def LeasesOk (si : List SiteV) (le : List LsV) : Prop := (∀ i, i < le.length → leaseIn si (le.getD i lsv0)) ∧ Adj lsBef lsv0 le
set_option maxRecDepth 100000 in
set_option maxHeartbeats 8000000 in
theorem implLeasesOk (d sp nw sq : Int) (si : List SiteV) (le : List LsV) (p q : Value) (w : World) (hf : si.length ≤ 1073741824) (hl : le.length ≤ 1073741824) (hp : SitRow w p si) (hq : LsRow w q le) :
    Calls Tryz.prog 56 #[.agg #[.int .i64 d, .int .i64 sp, .int .i64 nw, .int .i64 sq, p, q]] w fun e w' => AnsB (LeasesOk si le) w e w' := by
  have HA : Hid (∀ W, Below w.heap.size w W → Calls Tryz.prog 112 #[q, .func (.func 113) #[] #[]] W fun e w' => AnsB (Adj lsBef lsv0 le) W e w') := fun W hW => implAscLs le q W (by omega) (hq.below hW)
  obtain ⟨O, hO⟩ : ∃ O, O = w.alloc (.cells #[.int .i64 d, .int .i64 sp, .int .i64 nw, .int .i64 sq, p, q] 27) := ⟨_, rfl⟩
  have bO : Below w.heap.size w O := by rw [hO]; exact (Below.refl _ _).alloc (Nat.le_refl _) _
  have AO : Hid (BAt O w.heap.size [.int .i64 d, .int .i64 sp, .int .i64 nw, .int .i64 sq, p, q]) := hidM (by rw [hO]; exact BAt.new w #[.int .i64 d, .int .i64 sp, .int .i64 nw, .int .i64 sq, p, q] _)
  have HS := hidM hp
  obtain ⟨pa, pc, rfl⟩ := hp.slice
  clear hp
  have c5 := AO.out.1 5 _ rfl
  rcases hq with ⟨rfl, ao, cap, rfl⟩ | ⟨h0, g, off, cap, rfl, hg, hc⟩
  · clear hl hf HS
    go_enter Tryz.func56, Tryz.ntmps56
    go_upto_region 1 with fail
    rw [← hO]
    clear hO
    go_wp2
    refine wp_loop_rounds 1 ?_
    rw [rounds_succ]
    go_wp2_with fail
    refine (HA.out _ bO).mono ?_
    rintro e w1 ⟨b, rfl, hb, b1⟩
    have HB : Hid (BIs b (LeasesOk si [])) := hb.iff ⟨fun h => ⟨fun i hi => absurd hi (Nat.not_lt_zero _), h⟩, fun h => h.2⟩
    clear hb HA
    go_wp2_with fail
    go_ret
    exact AnsB.mk HB.out (bO.trans (b1.mono bO.size))
  · have HC : Hid (∀ i, i < le.length → LsAt w g (off + i * 4) (le.getD i lsv0)) := hc
    clear hc
    go_enter Tryz.func56, Tryz.ntmps56
    go_upto_region 1 with fail
    rw [← hO]
    clear hO
    go_wp2
    go_loopw [9] (fun i wr => ∃ k : Nat, k ≤ le.length ∧ i = .int .i64 k ∧ Hid (∀ j, j < k → leaseIn si (le.getD j lsv0)) ∧ Below O.heap.size O wr) (fun i _ => le.length - (intOf i).toNat)
    case atStart => exact ⟨0, Nat.zero_le _, rfl, fun j h => absurd h (Nat.not_lt_zero _), Below.refl _ _⟩
    case round =>
      obtain ⟨k, hk, rfl, HN, hbO⟩ := hrel
      have hbel : Below w.heap.size w wr := bO.trans (hbO.mono bO.size)
      have A1 := hidM (AO.out.below hbO)
      have d5 := A1.out.1 5 _ rfl
      by_cases hlt : k < le.length
      · have hki : (k : Int) < le.length := by omega
        obtain ⟨c0, c1, c2, c3⟩ := (HC.out k hlt).below hbel hg
        have HNo : Hid (¬ leaseIn si (le.getD k lsv0) → BIs false (LeasesOk si le)) := fun h => BIs.no fun e => h (e.1 k hlt)
        have HYes : Hid (leaseIn si (le.getD k lsv0) → ∀ j, j < k + 1 → leaseIn si (le.getD j lsv0)) := fun h j hj => by
          by_cases e : j = k
          · subst e; exact h
          · exact HN.out j (by omega)
        clear HN
        generalize le.getD k lsv0 = x at *
        obtain ⟨xk, xs, xp, xu⟩ := x
        dsimp only at c0 c1 c2 c3
        obtain ⟨V, hV⟩ : ∃ V, V = wr.alloc (.cells #[.string xk, .string xs, .int .i64 xp, .int .i64 xu] 51) := ⟨_, rfl⟩
        have BV : Below wr.heap.size wr V := by rw [hV]; exact (Below.refl _ _).alloc (Nat.le_refl _) _
        have AV : BAt V wr.heap.size [.string xk, .string xs, .int .i64 xp, .int .i64 xu] := by rw [hV]; exact BAt.new wr #[.string xk, .string xs, .int .i64 xp, .int .i64 xu] _
        have v4 := (A1.out.below BV).1 4 _ rfl
        have BVw : Below w.heap.size w V := hbel.trans (BV.mono hbel.size)
        have BVO : Below O.heap.size O V := hbO.trans (BV.mono hbO.size)
        have CT : Hid (Calls Tryz.prog 109 #[.slice pa si.length pc, .func (.func 110) #[] #[.pointer (some ⟨wr.heap.size, 0, none⟩)]] V fun e w' => AnsB (There si xs) V e w') := implThere si _ ⟨xk, xs, xp, xu⟩ wr.heap.size V hf (HS.out.below BVw) AV
        have C1 : Hid (∀ W, Calls Tryz.prog 111 #[.int .i64 xp] W fun e w' => e = .returned (.bool (inB xp 0 1000)) ∧ W = w') := fun W => implIsPrio xp W
        have C2 : Hid (∀ W, Calls Tryz.prog 74 #[.int .i64 xu, .int .i64 0, .int .i64 1000000000] W fun e w' => e = .returned (.bool (inB xu 0 1000000000)) ∧ W = w') := fun W => implFromTo _ _ _ W
        have HI : Hid (leaseIn si ⟨xk, xs, xp, xu⟩ ↔ (0 < xk.size ∧ inB xp 0 1000 = true ∧ inB xu 0 1000000000 = true ∧ There si xs)) := Iff.rfl
        generalize leaseIn si ⟨xk, xs, xp, xu⟩ = WI at *
        generalize There si xs = TP at *
        have HE : Hid (xk.toList.isEmpty = true ↔ ¬ 0 < xk.size) := emp_iff
        have AVH := hidM AV
        generalize inB xp 0 1000 = b1 at *
        generalize inB xu 0 1000000000 = b2 at *
        clear AV A1 BV
        go_upto_region 4 with fail
        rw [← hV]
        clear hV c0 c1 c2 c3 d5
        go_wp2_with fail
        refine CT.out.mono ?_
        rintro e w1 ⟨b0, rfl, hb0, d1⟩
        have HB0 := hidM hb0
        have B1 := BVO.trans (d1.mono BVO.size)
        have AW := AVH.out.below d1
        have a0 := AW.1 0 _ rfl
        have a2 := AW.1 2 _ rfl
        have a3 := AW.1 3 _ rfl
        clear hb0 d1 AW AVH CT v4 BVO BVw
        by_cases he : xk.toList.isEmpty = true
        · have HZ := hidM (HNo.out (fun h => HE.out.1 he (HI.out.1 h).1))
          clear HNo HYes HI HE
          go_wp2_with fail
          go_ret
          exact AnsB.mk HZ.out (bO.trans (B1.mono bO.size))
        · have he2 : xk.toList.isEmpty = false := by cases h : xk.toList.isEmpty with | true => exact absurd h he | false => rfl
          have HEP : Hid (0 < xk.size) := by
            by_cases h : 0 < xk.size
            · exact h
            · exact absurd (HE.out.2 h) he
          clear he HE
          cases b1 with
          | false =>
            have HZ := hidM (HNo.out (fun h => by have := (HI.out.1 h).2.1; cases this))
            clear HNo HYes HI
            go_wp2_with fail
            refine (C1.out _).mono ?_
            rintro e w2 ⟨rfl, rfl⟩
            go_wp2_with fail
            go_ret
            exact AnsB.mk HZ.out (bO.trans (B1.mono bO.size))
          | true =>
            cases b2 with
            | false =>
              have HZ := hidM (HNo.out (fun h => by have := (HI.out.1 h).2.2.1; cases this))
              clear HNo HYes HI
              go_wp2_with fail
              refine (C1.out _).mono ?_
              rintro e w2 ⟨rfl, rfl⟩
              go_wp2_with fail
              refine (C2.out _).mono ?_
              rintro e w3 ⟨rfl, rfl⟩
              go_wp2_with fail
              go_ret
              exact AnsB.mk HZ.out (bO.trans (B1.mono bO.size))
            | true =>
              cases b0 with
              | false =>
                have HZ := hidM (HNo.out (fun h => HB0.out.neg (HI.out.1 h).2.2.2))
                clear HNo HYes HI HB0
                go_wp2_with fail
                refine (C1.out _).mono ?_
                rintro e w2 ⟨rfl, rfl⟩
                go_wp2_with fail
                refine (C2.out _).mono ?_
                rintro e w3 ⟨rfl, rfl⟩
                go_wp2_with fail
                go_ret
                exact AnsB.mk HZ.out (bO.trans (B1.mono bO.size))
              | true =>
                have HZ := hidM (HYes.out (HI.out.2 ⟨HEP.out, (by first | rfl | trivial), (by first | rfl | trivial), HB0.out.pos⟩))
                clear HNo HYes HI HB0
                go_wp2_with fail
                refine (C1.out _).mono ?_
                rintro e w2 ⟨rfl, rfl⟩
                go_wp2_with fail
                refine (C2.out _).mono ?_
                rintro e w3 ⟨rfl, rfl⟩
                go_wp2_with fail
                go_roundw
                case rel => exact ⟨k + 1, by omega, by go_num, HZ, B1⟩
                case measure => simp [intOf]; omega
      · have hki : ¬ (k : Int) < le.length := by omega
        have HB : Hid (∀ b, BIs b (Adj lsBef lsv0 le) → BIs b (LeasesOk si le)) := fun b hb => hb.iff ⟨fun h => ⟨fun i hi => HN.out i (by omega), h⟩, fun h => h.2⟩
        clear HN A1
        go_wp2_with fail
        refine (HA.out _ hbel).mono ?_
        rintro e w1 ⟨b, rfl, hb, b1⟩
        have HB2 := hidM (HB.out b hb)
        clear hb HA HB
        go_wp2_with fail
        go_ret
        exact AnsB.mk HB2.out (hbel.trans (b1.mono hbel.size))
end Go.Proofs.YtcjblhiihgdljaaGreat
