/- Contracts of the code's looks at queues: what waits, the room, the sites, the leases. -/
import Derived.Test.YtcjblhiihgdljaaGreatRows
import Derived.Test.YtcjblhiihgdljaaGreatSchAsc
namespace Go.Proofs.YtcjblhiihgdljaaGreat
open Go.RowKit
set_option linter.unusedVariables false
set_option linter.unusedSimpArgs false

def wtIn (seq : Int) (y : WtV) : Prop := 0 < y.k.size ∧ inB y.p 0 1000 = true ∧ inB y.q 0 (seq - 1) = true
def QOk (seq : Int) (l : List WtV) : Prop := (∀ i, i < l.length → wtIn seq (l.getD i wtv0)) ∧ Adj wBef wtv0 l
set_option maxRecDepth 100000 in
set_option maxHeartbeats 8000000 in
theorem implQueueOk (l : List WtV) (v : Value) (seq : Int) (w : World) (hs : 0 ≤ seq ∧ seq ≤ 1000000) (hl : l.length ≤ 1099511627776) (h : WtRow w v l) :
    Calls Tryz.prog 106 #[v, .int .i64 seq] w fun e w' => AnsB (QOk seq l) w e w' := by
  obtain ⟨hs0, hs1⟩ := hs
  have HA : Hid (∀ W, Below w.heap.size w W → Calls Tryz.prog 145 #[v, .func (.func 96) #[] #[]] W fun e w' => AnsB (Adj wBef wtv0 l) W e w') := fun W hW => implAscWt l v W hl (h.below hW)
  rcases h with ⟨rfl, ao, cap, rfl⟩ | ⟨h0, g, off, cap, rfl, hg, hc⟩
  · clear hl
    go_enter Tryz.func106, Tryz.ntmps106
    go_wp2
    refine wp_loop_rounds 1 ?_
    rw [rounds_succ]
    go_wp2_with fail
    refine (HA.out _ (Below.refl _ _)).mono ?_
    rintro e w1 ⟨b, rfl, hb, b1⟩
    have HB : Hid (BIs b (QOk seq [])) := hb.iff ⟨fun h => ⟨fun i hi => absurd hi (Nat.not_lt_zero _), h⟩, fun h => h.2⟩
    clear hb HA
    go_wp2_with fail
    go_ret
    exact AnsB.mk HB.out b1
  · have HC : Hid (∀ i, i < l.length → WtAt w g (off + i * 3) (l.getD i wtv0)) := hc
    clear hc
    go_enter Tryz.func106, Tryz.ntmps106
    go_wp2
    go_loopw [9] (fun i wr => ∃ k : Nat, k ≤ l.length ∧ i = .int .i64 k ∧ Hid (∀ j, j < k → wtIn seq (l.getD j wtv0)) ∧ Below w.heap.size w wr) (fun i _ => l.length - (intOf i).toNat)
    case atStart => exact ⟨0, Nat.zero_le _, rfl, fun j h => absurd h (Nat.not_lt_zero _), Below.refl _ _⟩
    case round =>
      obtain ⟨k, hk, rfl, HN, hbel⟩ := hrel
      by_cases hlt : k < l.length
      · have hki : (k : Int) < l.length := by omega
        obtain ⟨c0, c1, c2⟩ := (HC.out k hlt).below hbel hg
        have HNo : Hid (¬ wtIn seq (l.getD k wtv0) → BIs false (QOk seq l)) := fun h => BIs.no fun e => h (e.1 k hlt)
        have HYes : Hid (wtIn seq (l.getD k wtv0) → ∀ j, j < k + 1 → wtIn seq (l.getD j wtv0)) := fun h j hj => by
          by_cases e : j = k
          · subst e; exact h
          · exact HN.out j (by omega)
        clear HN
        generalize l.getD k wtv0 = x at *
        obtain ⟨xk, xp, xq⟩ := x
        dsimp only at c0 c1 c2
        have C1 : Hid (∀ W, Calls Tryz.prog 111 #[.int .i64 xp] W fun e w' => e = .returned (.bool (inB xp 0 1000)) ∧ W = w') := fun W => implIsPrio xp W
        have C2 : Hid (∀ W, Calls Tryz.prog 74 #[.int .i64 xq, .int .i64 0, .int .i64 (seq - 1)] W fun e w' => e = .returned (.bool (inB xq 0 (seq - 1))) ∧ W = w') := fun W => implFromTo _ _ _ W
        have HI : Hid (wtIn seq ⟨xk, xp, xq⟩ ↔ (0 < xk.size ∧ inB xp 0 1000 = true ∧ inB xq 0 (seq - 1) = true)) := Iff.rfl
        generalize wtIn seq ⟨xk, xp, xq⟩ = WI at *
        have HE : Hid (xk.toList.isEmpty = true ↔ ¬ 0 < xk.size) := emp_iff
        generalize inB xp 0 1000 = b1 at *
        generalize inB xq 0 (seq - 1) = b2 at *
        have BN : Below w.heap.size w (wr.alloc (.cells #[.string xk, .int .i64 xp, .int .i64 xq] 83)) := hbel.alloc hbel.size _
        by_cases he : xk.toList.isEmpty = true
        · have HZ := hidM (HNo.out (fun h => HE.out.1 he (HI.out.1 h).1))
          clear HNo HYes HI HE
          go_wp2_with fail
          go_ret
          exact AnsB.mk HZ.out BN
        · have he2 : xk.toList.isEmpty = false := by cases h : xk.toList.isEmpty with | true => exact absurd h he | false => rfl
          have HEP : Hid (0 < xk.size) := by
            by_cases h : 0 < xk.size
            · exact h
            · exact absurd (HE.out.2 h) he
          clear he HE
          cases b1 with
          | false =>
            have HZ := hidM (HNo.out (fun h => by have := (HI.out.1 h).2.1; cases this))
            clear HNo HYes HI
            go_wp2_with fail
            refine (C1.out _).mono ?_
            rintro e w1 ⟨rfl, rfl⟩
            go_wp2_with fail
            go_ret
            exact AnsB.mk HZ.out BN
          | true =>
            cases b2 with
            | false =>
              have HZ := hidM (HNo.out (fun h => by have := (HI.out.1 h).2.2; cases this))
              clear HNo HYes HI
              go_wp2_with fail
              refine (C1.out _).mono ?_
              rintro e w1 ⟨rfl, rfl⟩
              go_wp2_with fail
              refine (C2.out _).mono ?_
              rintro e w2 ⟨rfl, rfl⟩
              go_wp2_with fail
              go_ret
              exact AnsB.mk HZ.out BN
            | true =>
              have HZ := hidM (HYes.out (HI.out.2 ⟨HEP.out, rfl, rfl⟩))
              clear HNo HYes HI
              go_wp2_with fail
              refine (C1.out _).mono ?_
              rintro e w1 ⟨rfl, rfl⟩
              go_wp2_with fail
              refine (C2.out _).mono ?_
              rintro e w2 ⟨rfl, rfl⟩
              go_wp2_with fail
              go_roundw
              case rel => exact ⟨k + 1, by omega, by go_num, HZ, BN⟩
              case measure => simp [intOf]; omega
      · have hki : ¬ (k : Int) < l.length := by omega
        have HB : Hid (∀ b, BIs b (Adj wBef wtv0 l) → BIs b (QOk seq l)) := fun b hb => hb.iff ⟨fun h => ⟨fun i hi => HN.out i (by omega), h⟩, fun h => h.2⟩
        clear HN
        go_wp2_with fail
        refine (HA.out _ hbel).mono ?_
        rintro e w1 ⟨b, rfl, hb, b1⟩
        have HB2 := hidM (HB.out b hb)
        clear hb HA HB
        go_wp2_with fail
        go_ret
        exact AnsB.mk HB2.out (hbel.trans (b1.mono hbel.size))
end Go.Proofs.YtcjblhiihgdljaaGreat
