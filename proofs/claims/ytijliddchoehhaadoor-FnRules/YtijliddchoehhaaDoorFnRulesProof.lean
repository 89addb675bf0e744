/- Proved: laws.FnRules answers true at every code and leaves it as it was, package utf8's two tables being as their text lays them; no condition. -/
import Derived.Test.YtijliddchoehhaaDoorRows
import Derived.Test.YtijliddchoehhaaDoorCards
import Derived.Test.YtijliddchoehhaaDoorTie
import Derived.Test.YtijliddchoehhaaDoorLaidBase
import Derived.Test.YtijliddchoehhaaDoorRuleParse
import Derived.Test.YtijliddchoehhaaDoorRuleOwn
import Derived.Test.YtijliddchoehhaaDoorRuleSpec3
import Derived.Test.YtijliddchoehhaaDoorDraw10More
import Derived.Test.YtijliddchoehhaaDoorRuleSame
import Derived.Test.YtijliddchoehhaaDoorRulesImpl3
import Derived.Test.YtijliddchoehhaaDoorParseImpl
import Derived.OpenShut
import Derived.ShutString
namespace Go.Proofs.YtijliddchoehhaaDoor.fnRules
open Go.ChangeShapes Go.WideShapes Go.ChangeAt Go.RowKit
open Go.ChangeMaps (open_string shut_string)
set_option linter.unusedVariables false
set_option linter.unusedSimpArgs false

def IsRow (k : IntKind) (w : World) (a : Option Addr) (len cap : Nat) (zs : List Int) : Prop :=
  (a = none ∧ len = 0 ∧ cap = 0 ∧ zs = []) ∨
  ∃ x, a = some x ∧ len ≤ cap ∧ cap ≤ maxLen ∧ zs.length = cap ∧ (∀ i, i < zs.length → w.cell? (x.add i) = some (.int k (zs.getD i 0))) ∧ ∀ n ∈ zs, (Lit.int k n).wf = true

theorem laidOut : laidOutB Tryd.prog = true := by kernel_rfl

set_option maxRecDepth 100000 in
set_option maxHeartbeats 8000000 in
theorem walk (a0 : Option Addr) (len0 cap0 : Nat) (z0 : List Int) (w : World) (w0 : IsRow .u8 w a0 len0 cap0 z0) (hT : Lib.Utf8Tabs 1 2 w) :
    Calls Tryd.prog 3 #[.slice a0 len0 cap0] w fun e w' => e = .returned (.bool true) ∧ Below w.heap.size w w' := by
  by_cases hbig : 1048576 < (len0 : Int)
  · go_enter Tryd.func3, Tryd.ntmps3
    go_wp2_with fail
    refine (big_yes _ _ _ _ hbig).mono ?_
    rintro e w' ⟨rfl, rfl⟩
    go_wp2
    go_ret
    exact ⟨rfl, Below.refl _ _⟩
  · have hl : len0 ≤ 1048576 := by omega
    have hcode : CodeRow w.heap.size w a0 len0 := by
      rcases w0 with ⟨rfl, rfl, rfl, rfl⟩ | ⟨x, rfl, h1, h2, h3, h4, h5⟩
      · exact .inl rfl
      · by_cases h0 : len0 = 0
        · exact .inl h0
        · obtain ⟨b, off, rfl, hc⟩ := ints_at h4 (by omega)
          refine .inr ⟨b, off, rfl, World.block_lt_of_cell? w ⟨b, off + 0, none⟩ (hc 0 (by omega)), fun i hi => ?_⟩
          refine ⟨_, hc i (by omega), ?_⟩
          have hb := bounds_u8 (h5 (z0.getD i 0) (by
            rw [List.getD_eq_getElem?_getD, List.getElem?_eq_getElem (by omega)]
            exact List.getElem_mem _))
          exact hb
    have HT : Hid (Lib.Utf8Tabs 1 2 w) := hT
    clear w0 hT
    have HCO : Hid (CodeRow w.heap.size w a0 len0) := hcode
    clear hcode
    go_enter Tryd.func3, Tryd.ntmps3
    go_wp2_with fail
    refine (big_no _ _ _ _ (by omega)).mono ?_
    rintro e w' ⟨rfl, rfl⟩
    go_wp2_with fail
    refine (drawRulesText _ _ _ _ hl HCO.out).mono ?_
    rintro e wa ⟨v, l, ⟨h61, hz⟩, rfl, ra, ba⟩
    have HZ := hidden hz
    have RA := hidden ra
    have HBA := hidden ba
    have hza := ba.size
    obtain ⟨lao, lcap, rfl⟩ := RA.out.slice
    have CT : Hid (Calls Tryd.prog 7 #[.slice lao l.length lcap] wa fun e w' => e = .returned (.string ⟨(rulesT l).toArray⟩) ∧ Below wa.heap.size wa w') := implRulesText l _ wa (by omega) hz ra
    have CS : Hid (∀ W, Below wa.heap.size wa W → Calls Tryd.prog 8 #[.slice lao l.length lcap] W fun e w' => e = .returned (.bool (rulesB l)) ∧ Below W.heap.size W w') := fun W hW => specRulesOk l _ W (by omega) hz (ra.below hW)
    have CI : Hid (∀ W, Below wa.heap.size wa W → Calls Tryd.prog 9 #[.slice lao l.length lcap] W fun e w' => e = .returned (.bool (rulesB l)) ∧ Below W.heap.size W w') := fun W hW => implRulesOk l _ W (by omega) hz (ra.below hW)
    clear hz ra ba
    cases hrb : rulesB l with
    | false =>
      rw [hrb] at CS CI
      rw [show rulesT l = [] from if_neg (by rw [hrb]; decide)] at CT
      clear hrb HZ
      generalize l.length = n at *
      go_wp2_with fail
      refine CT.out.mono ?_
      rintro e wb ⟨rfl, bb⟩
      go_wp2_with fail
      refine (CS.out _ bb).mono ?_
      rintro e wc ⟨rfl, bc⟩
      have Bc := bb.trans (bc.mono bb.size)
      clear bb bc
      go_wp2_with fail
      refine (CI.out _ Bc).mono ?_
      rintro e wd ⟨rfl, bd⟩
      have Bd := HBA.out.trans ((Bc.trans (bd.mono Bc.size)).mono hza)
      clear Bc bd
      go_wp2_with fail
      go_ret
      exact ⟨rfl, Bd⟩
    | true =>
      have HB : Hid (parseR ⟨(rulesT l).toArray⟩ = (l, -1)) := rules_back hrb
      have hts := rulesT_le l
      rw [hrb] at CS CI
      have CP : Hid (∀ W, Below wa.heap.size wa W → Calls Tryd.prog 10 #[.string ⟨(rulesT l).toArray⟩] W fun e w' => ∃ v, e = .returned (.tuple #[v, .int .i64 (-1)]) ∧ RuleRow w' v l ∧ Below W.heap.size W w') := fun W hW => by
        have := implParseRules ⟨(rulesT l).toArray⟩ W (by rw [mk_size]; omega) (tabs_below HT.out (HBA.out.trans (hW.mono hza)))
        rw [HB.out] at this
        exact this.mono fun e w' ⟨v, h1, h2, h3⟩ => ⟨v, h1, h2.row, h3⟩
      generalize (⟨(rulesT l).toArray⟩ : ByteArray) = T at CT CP HB
      clear hrb HB hts
      go_wp2_with fail
      refine CT.out.mono ?_
      rintro e wb ⟨rfl, bb⟩
      go_wp2_with fail
      refine (CS.out _ bb).mono ?_
      rintro e wc ⟨rfl, bc⟩
      have Bc := bb.trans (bc.mono bb.size)
      clear bb bc
      go_wp2_with fail
      refine (CP.out _ Bc).mono ?_
      rintro e wd ⟨x, rfl, rx, bd⟩
      have Bd := Bc.trans (bd.mono Bc.size)
      have RX := hidden rx
      obtain ⟨xao, xcap, rfl⟩ := rx.slice
      clear Bc bd rx CP CT CS
      go_wp2_with fail
      refine (CI.out _ Bd).mono ?_
      rintro e we ⟨rfl, be⟩
      have Be := Bd.trans (be.mono Bd.size)
      have RXE := hidden (RX.out.below be)
      have RAE := hidden (RA.out.below Be)
      have hzk : Hid (∀ k, k < l.length → (l.getD k rv0).ps.length ≤ 1099511627776) := fun k hk => by have := (rsz_at HZ.out hk).1; omega
      clear be Bd CI RX RA HZ
      go_wp2_with fail
      go_loopw [7] (fun i wr => ∃ k : Nat, k ≤ l.length ∧ i = .int .i64 k ∧ Below we.heap.size we wr) (fun i _ => l.length - (intOf i).toNat)
      case atStart => exact ⟨0, Nat.zero_le _, rfl, Below.refl _ _⟩
      case round =>
        obtain ⟨k, hk, rfl, hbel⟩ := hrel
        by_cases hlt : k < l.length
        · have hki : (k : Int) < l.length := by omega
          obtain ⟨g, off, p, rfl, c1, c2, c3⟩ := (RXE.out.below hbel).at hlt
          obtain ⟨g', off', q, rfl, d1, d2, d3⟩ := (RAE.out.below hbel).at hlt
          have CE : Hid (∀ W, Below wr.heap.size wr W → Calls Tryd.prog 11 #[p, q] W fun e w' => e = .returned (.bool true) ∧ Below W.heap.size W w') := fun W hW => sameTexts _ p q W (hzk.out k hlt) (c2.below hW) (d2.below hW)
          clear c2 d2 RXE RAE
          generalize (l.getD k rv0).ex = ex at *
          go_wp2_with fail
          have hg1 : g < wr.heap.size := World.block_lt_of_cell? wr ⟨g, off + k * 2 + 1, none⟩ c3
          have hg2 : g' < wr.heap.size := World.block_lt_of_cell? wr ⟨g', off' + k * 2 + 1, none⟩ d3
          have hbr := (Below.refl wr.heap.size wr).drew
          refine wp_region_held_drew (S := fun W => Below wr.heap.size wr W) (by kernel_rfl) hbr (fun h0 => ?_)
          refine wpAnyH_take (i := 0) (v := ?_) rfl (by kernel_rfl) (by kernel_rfl) (by kernel_rfl) (fun _ _ _ h => h) (Or.inl ⟨by rfl, fun W hW => ?_⟩) h0 ?_
          rotate_left
          · clear hW
            go_simp
            try with_reducible rfl
          simp only [Act.put, List.getElem_toArray, List.getElem_cons_zero, List.getElem_cons_succ, List.setIfInBounds_toArray, List.set_cons_zero, List.set_cons_succ]
          refine wpAnyH_take (i := 1) (v := ?_) rfl (by kernel_rfl) (by kernel_rfl) (by kernel_rfl) (fun _ _ _ h => h) (Or.inl ⟨by rfl, fun W hW => ?_⟩) h0 ?_
          rotate_left
          · clear hW
            go_simp
            try with_reducible rfl
          simp only [Act.put, List.getElem_toArray, List.getElem_cons_zero, List.getElem_cons_succ, List.setIfInBounds_toArray, List.set_cons_zero, List.set_cons_succ]
          refine wpAnyH_take (i := 2) (v := ?_) rfl (by kernel_rfl) (by kernel_rfl) (by kernel_rfl) (fun _ _ _ h => h) (Or.inl ⟨by rfl, fun W hW => ?_⟩) h0 ?_
          rotate_left
          · clear hW
            go_simp
            try with_reducible rfl
          simp only [Act.put, List.getElem_toArray, List.getElem_cons_zero, List.getElem_cons_succ, List.setIfInBounds_toArray, List.set_cons_zero, List.set_cons_succ]
          refine wpAnyH_take (i := 3) (v := ?_) rfl (by kernel_rfl) (by kernel_rfl) (by kernel_rfl) (fun _ _ _ h => h) (Or.inl ⟨by rfl, fun W hW => ?_⟩) h0 ?_
          rotate_left
          · clear hW
            go_simp
            try with_reducible rfl
          simp only [Act.put, List.getElem_toArray, List.getElem_cons_zero, List.getElem_cons_succ, List.setIfInBounds_toArray, List.set_cons_zero, List.set_cons_succ]
          refine wpAnyH_take (i := 4) (v := (.bool ex)) rfl (by kernel_rfl) (by kernel_rfl) (by kernel_rfl) (fun _ _ _ h => h) (Or.inl ⟨by rfl, fun W hW => ?_⟩) h0 ?_
          · have q0 := (hW.cell (p := ⟨g, off + k * 2 + 1, none⟩) hg1).trans c3
            go_simp
          simp only [Act.put, List.getElem_toArray, List.getElem_cons_zero, List.getElem_cons_succ, List.setIfInBounds_toArray, List.set_cons_zero, List.set_cons_succ]
          refine wpAnyH_take (i := 5) (v := ?_) rfl (by kernel_rfl) (by kernel_rfl) (by kernel_rfl) (fun _ _ _ h => h) (Or.inl ⟨by rfl, fun W hW => ?_⟩) h0 ?_
          rotate_left
          · clear hW
            go_simp
            try with_reducible rfl
          simp only [Act.put, List.getElem_toArray, List.getElem_cons_zero, List.getElem_cons_succ, List.setIfInBounds_toArray, List.set_cons_zero, List.set_cons_succ]
          refine wpAnyH_take (i := 6) (v := ?_) rfl (by kernel_rfl) (by kernel_rfl) (by kernel_rfl) (fun _ _ _ h => h) (Or.inl ⟨by rfl, fun W hW => ?_⟩) h0 ?_
          rotate_left
          · clear hW
            go_simp
            try with_reducible rfl
          simp only [Act.put, List.getElem_toArray, List.getElem_cons_zero, List.getElem_cons_succ, List.setIfInBounds_toArray, List.set_cons_zero, List.set_cons_succ]
          refine wpAnyH_take (i := 7) (v := ?_) rfl (by kernel_rfl) (by kernel_rfl) (by kernel_rfl) (fun _ _ _ h => h) (Or.inl ⟨by rfl, fun W hW => ?_⟩) h0 ?_
          rotate_left
          · clear hW
            go_simp
            try with_reducible rfl
          simp only [Act.put, List.getElem_toArray, List.getElem_cons_zero, List.getElem_cons_succ, List.setIfInBounds_toArray, List.set_cons_zero, List.set_cons_succ]
          refine wpAnyH_take (i := 8) (v := ?_) rfl (by kernel_rfl) (by kernel_rfl) (by kernel_rfl) (fun _ _ _ h => h) (Or.inl ⟨by rfl, fun W hW => ?_⟩) h0 ?_
          rotate_left
          · clear hW
            go_simp
            try with_reducible rfl
          simp only [Act.put, List.getElem_toArray, List.getElem_cons_zero, List.getElem_cons_succ, List.setIfInBounds_toArray, List.set_cons_zero, List.set_cons_succ]
          refine wpAnyH_take (i := 9) (v := (.bool ex)) rfl (by kernel_rfl) (by kernel_rfl) (by kernel_rfl) (fun _ _ _ h => h) (Or.inl ⟨by rfl, fun W hW => ?_⟩) h0 ?_
          · have q0 := (hW.cell (p := ⟨g', off' + k * 2 + 1, none⟩) hg2).trans d3
            go_simp
          simp only [Act.put, List.getElem_toArray, List.getElem_cons_zero, List.getElem_cons_succ, List.setIfInBounds_toArray, List.set_cons_zero, List.set_cons_succ]
          refine wpAnyH_take (i := 10) (v := ?_) rfl (by kernel_rfl) (by kernel_rfl) (by kernel_rfl) (fun _ _ _ h => h) (Or.inl ⟨by rfl, fun W hW => ?_⟩) h0 ?_
          rotate_left
          · clear hW
            go_simp
            try with_reducible rfl
          simp only [Act.put, List.getElem_toArray, List.getElem_cons_zero, List.getElem_cons_succ, List.setIfInBounds_toArray, List.set_cons_zero, List.set_cons_succ]
          refine wpAnyH_take (i := 11) (v := ?_) rfl (by kernel_rfl) (by kernel_rfl) (by kernel_rfl) (fun _ _ _ h => h) (Or.inl ⟨by rfl, fun W hW => ?_⟩) h0 ?_
          rotate_left
          · clear hW
            go_simp
            try with_reducible rfl
          simp only [Act.put, List.getElem_toArray, List.getElem_cons_zero, List.getElem_cons_succ, List.setIfInBounds_toArray, List.set_cons_zero, List.set_cons_succ]
          refine wpAnyH_take (i := 12) (v := ?_) rfl (by kernel_rfl) (by kernel_rfl) (by kernel_rfl) (fun _ _ _ h => h) (Or.inl ⟨by rfl, fun W hW => ?_⟩) h0 ?_
          rotate_left
          · clear hW
            go_simp
            try with_reducible rfl
          simp only [Act.put, List.getElem_toArray, List.getElem_cons_zero, List.getElem_cons_succ, List.setIfInBounds_toArray, List.set_cons_zero, List.set_cons_succ]
          refine wpAnyH_take (i := 13) (v := ?_) rfl (by kernel_rfl) (by kernel_rfl) (by kernel_rfl) (fun _ _ _ h => h) (Or.inl ⟨by rfl, fun W hW => ?_⟩) h0 ?_
          rotate_left
          · clear hW
            go_simp
            try with_reducible rfl
          simp only [Act.put, List.getElem_toArray, List.getElem_cons_zero, List.getElem_cons_succ, List.setIfInBounds_toArray, List.set_cons_zero, List.set_cons_succ]
          refine wpAnyH_take (i := 14) (v := ?_) rfl (by kernel_rfl) (by kernel_rfl) (by kernel_rfl) (fun _ _ _ h => h) (Or.inl ⟨by rfl, fun W hW => ?_⟩) h0 ?_
          rotate_left
          · clear hW
            go_simp
            try with_reducible rfl
          simp only [Act.put, List.getElem_toArray, List.getElem_cons_zero, List.getElem_cons_succ, List.setIfInBounds_toArray, List.set_cons_zero, List.set_cons_succ]
          refine wpAnyH_take (i := 15) (v := ?_) rfl (by kernel_rfl) (by kernel_rfl) (by kernel_rfl) (fun _ _ _ h => h) (Or.inl ⟨by rfl, fun W hW => ?_⟩) h0 ?_
          rotate_left
          · clear hW
            go_simp
            try with_reducible rfl
          simp only [Act.put, List.getElem_toArray, List.getElem_cons_zero, List.getElem_cons_succ, List.setIfInBounds_toArray, List.set_cons_zero, List.set_cons_succ]
          refine wpAnyH_take (i := 16) (v := p) rfl (by kernel_rfl) (by kernel_rfl) (by kernel_rfl) (fun _ _ _ h => h) (Or.inl ⟨by rfl, fun W hW => ?_⟩) h0 ?_
          · have q0 := (hW.cell (p := ⟨g, off + k * 2, none⟩) hg1).trans c1
            go_simp
          simp only [Act.put, List.getElem_toArray, List.getElem_cons_zero, List.getElem_cons_succ, List.setIfInBounds_toArray, List.set_cons_zero, List.set_cons_succ]
          refine wpAnyH_take (i := 17) (v := ?_) rfl (by kernel_rfl) (by kernel_rfl) (by kernel_rfl) (fun _ _ _ h => h) (Or.inl ⟨by rfl, fun W hW => ?_⟩) h0 ?_
          rotate_left
          · clear hW
            go_simp
            try with_reducible rfl
          simp only [Act.put, List.getElem_toArray, List.getElem_cons_zero, List.getElem_cons_succ, List.setIfInBounds_toArray, List.set_cons_zero, List.set_cons_succ]
          refine wpAnyH_take (i := 18) (v := ?_) rfl (by kernel_rfl) (by kernel_rfl) (by kernel_rfl) (fun _ _ _ h => h) (Or.inl ⟨by rfl, fun W hW => ?_⟩) h0 ?_
          rotate_left
          · clear hW
            go_simp
            try with_reducible rfl
          simp only [Act.put, List.getElem_toArray, List.getElem_cons_zero, List.getElem_cons_succ, List.setIfInBounds_toArray, List.set_cons_zero, List.set_cons_succ]
          refine wpAnyH_take (i := 19) (v := ?_) rfl (by kernel_rfl) (by kernel_rfl) (by kernel_rfl) (fun _ _ _ h => h) (Or.inl ⟨by rfl, fun W hW => ?_⟩) h0 ?_
          rotate_left
          · clear hW
            go_simp
            try with_reducible rfl
          simp only [Act.put, List.getElem_toArray, List.getElem_cons_zero, List.getElem_cons_succ, List.setIfInBounds_toArray, List.set_cons_zero, List.set_cons_succ]
          refine wpAnyH_take (i := 20) (v := ?_) rfl (by kernel_rfl) (by kernel_rfl) (by kernel_rfl) (fun _ _ _ h => h) (Or.inl ⟨by rfl, fun W hW => ?_⟩) h0 ?_
          rotate_left
          · clear hW
            go_simp
            try with_reducible rfl
          simp only [Act.put, List.getElem_toArray, List.getElem_cons_zero, List.getElem_cons_succ, List.setIfInBounds_toArray, List.set_cons_zero, List.set_cons_succ]
          refine wpAnyH_take (i := 21) (v := q) rfl (by kernel_rfl) (by kernel_rfl) (by kernel_rfl) (fun _ _ _ h => h) (Or.inl ⟨by rfl, fun W hW => ?_⟩) h0 ?_
          · have q0 := (hW.cell (p := ⟨g', off' + k * 2, none⟩) hg2).trans d1
            go_simp
          simp only [Act.put, List.getElem_toArray, List.getElem_cons_zero, List.getElem_cons_succ, List.setIfInBounds_toArray, List.set_cons_zero, List.set_cons_succ]
          refine wpAnyH_ready (rs := [22]) (by kernel_rfl) (by simp) (AllReadyH.cons rfl (fun K hK => ?_) AllReadyH.nil)
          go_wp2_with (go_at_call 11; refine (CE.out _ h0).mono ?_; rintro e wf ⟨rfl, hbf⟩)
          have h1 := h0.trans (hbf.mono h0.size)
          refine hK.out _ _ h1 (fun h2 => ?_)
          clear hK K hbf CE
          refine wpAnyH_take (i := 23) (v := ?_) rfl (by kernel_rfl) (by kernel_rfl) (by kernel_rfl) (fun _ _ _ h => h) (Or.inl ⟨by rfl, fun W hW => ?_⟩) h1 ?_
          rotate_left
          · clear hW
            go_simp
            try with_reducible rfl
          simp only [Act.put, List.getElem_toArray, List.getElem_cons_zero, List.getElem_cons_succ, List.setIfInBounds_toArray, List.set_cons_zero, List.set_cons_succ]
          refine wpAnyH_take (i := 24) (v := ?_) rfl (by kernel_rfl) (by kernel_rfl) (by kernel_rfl) (fun _ _ _ h => h) (Or.inl ⟨by rfl, fun W hW => ?_⟩) h1 ?_
          rotate_left
          · clear hW
            go_simp
            try with_reducible rfl
          simp only [Act.put, List.getElem_toArray, List.getElem_cons_zero, List.getElem_cons_succ, List.setIfInBounds_toArray, List.set_cons_zero, List.set_cons_succ]
          refine wpAnyH_done (by kernel_rfl) ?_ _
          have B1 := hbel.trans (h1.mono hbel.size)
          clear h0 h1 h2 c1 c3 d1 d3 hbr hbel
          go_wp2_with fail
          go_roundw
          case rel => exact ⟨k + 1, by omega, by go_num, B1⟩
          case measure => simp [intOf]; omega
        · have hki : ¬ (k : Int) < l.length := by omega
          clear RXE RAE hzk
          have Bw := HBA.out.trans ((Be.trans (hbel.mono Be.size)).mono hza)
          clear Be hbel
          go_wp2_with fail
          refine (drawParseRules _ _ _ _ hl (HCO.out.later Bw)).mono ?_
          rintro e w1 ⟨s, hs, rfl, b1⟩
          have B1 := Bw.trans (b1.mono Bw.size)
          clear b1 Bw
          have HT1 : Hid (Lib.Utf8Tabs 1 2 w1) := tabs_below HT.out B1
          have CP : Hid (Calls Tryd.prog 10 #[.string s] w1 fun e w' => ∃ v, e = .returned (.tuple #[v, .int .i64 (parseR s).2]) ∧ RuleRow w' v (parseR s).1 ∧ Below w1.heap.size w1 w') := (implParseRules s w1 hs HT1.out).mono fun e w' ⟨v, h1, h2, h3⟩ => ⟨v, h1, h2.row, h3⟩
          have CS2 : Hid (∀ W, Calls Tryd.prog 13 #[.string s] W fun e w' => ∃ v, e = .returned (.tuple #[v, .int .i64 (parseR s).2]) ∧ Below W.heap.size W w') := fun W => (specParseRules s W hs).mono fun e w' ⟨v, h1, _, h3⟩ => ⟨v, h1, h3⟩
          clear HT1 HT HCO HBA
          rcases parseR_right s with ⟨l2, hp2, hr2⟩ | ⟨n2, hp2⟩
          · rw [hp2] at CP CS2
            have h60 := rules_60 hr2
            have HR2 := hidden hr2
            clear hp2 hr2
            go_wp2_with fail
            refine CP.out.mono ?_
            rintro e w2 ⟨y, rfl, ry, b2⟩
            have B2 := B1.trans (b2.mono B1.size)
            obtain ⟨yao, ycap, rfl⟩ := ry.slice
            have RY := hidden ry
            clear b2 ry B1 CP
            go_wp2_with fail
            refine (CS2.out _).mono ?_
            rintro e w3 ⟨y3, rfl, b3⟩
            have B3 := B2.trans (b3.mono B2.size)
            have CO : Hid (Calls Tryd.prog 9 #[.slice yao l2.length ycap] w3 fun e w' => e = .returned (.bool true) ∧ Below w3.heap.size w3 w') := by
              have := implRulesOk l2 _ w3 (by omega) (rules_sz HR2.out) (RY.out.below b3)
              rw [HR2.out] at this
              exact this
            clear b3 B2 CS2 RY HR2
            go_wp2_with fail
            refine CO.out.mono ?_
            rintro e w4 ⟨rfl, b4⟩
            have B4 := B3.trans (b4.mono B3.size)
            clear b4 B3 CO
            go_wp2_with fail
            go_ret
            exact ⟨rfl, B4⟩
          · rw [hp2] at CP CS2
            have hn0 : ¬ ((n2 : Int) = -1) := by omega
            have hn1 : ((n2 : Int) == -1) = false := beq_eq_false_iff_ne.2 hn0
            have hn2 : (0 : Int) ≤ n2 := by omega
            clear hp2
            go_wp2_with fail
            refine CP.out.mono ?_
            rintro e w2 ⟨y, rfl, ry, b2⟩
            have B2 := B1.trans (b2.mono B1.size)
            obtain ⟨yao, ycap, rfl⟩ := ry.slice
            clear b2 ry B1 CP
            go_wp2_with fail
            refine (CS2.out _).mono ?_
            rintro e w3 ⟨y3, rfl, b3⟩
            have B3 := B2.trans (b3.mono B2.size)
            clear b3 B2 CS2
            go_wp2_with fail
            go_ret
            exact ⟨rfl, B3⟩

set_option maxRecDepth 100000 in
theorem contract (H : Type) (enc : TypeId × Value → H) (W : World) (base : Nat) (args : Array Value) (ds gs : List (DataW H)) (before : List MemPlace)
    (hval : ∀ (j : Nat) t v, Tryd.f3.params[j]? = some t → args[j]? = some v → Value.okWide Tryd.prog W .any base t v)
    (hW : DataW.Whole enc Tryd.prog Tryd.f3.params.toList Rows.fnRulesSpec.vars false W args.toList ds gs before) (hL : laidMet Tryd.prog laidTwo W) :
    Calls Tryd.prog 3 args W fun e W' => ∃ v, e = .returned v ∧ Rows.fnRulesSpec.post enc Tryd.prog Tryd.f3 false true false false W args v W' := by
  have hW' := hW
  obtain ⟨p, q, hA0, hV, rfl, hfz, hnd⟩ := hW
  have hA : DataW.TrodAll enc Tryd.prog W 0 (fun _ => true) true Tryd.f3.params.toList args.toList ds p := hA0
  rw [Tryd.params3] at hA hval
  obtain ⟨v0, vs0, d0, ds0, p0, q0, hargs, rfl, rfl, h0, r0⟩ := trodAll_cons hA
  obtain ⟨rfl, rfl, rfl⟩ := trodAll_nil r0
  obtain rfl : args = #[v0] := by cases args; simp_all
  obtain ⟨rfl, rfl⟩ := trodVars_none hV
  obtain ⟨a0, len0, cap0, rfl⟩ := okWide_slice Tryd.underlying22 (hval 0 22 v0 rfl rfl)
  have k0 := h0
  have lt0 : ∀ x ∈ p0, x.block < W.heap.size := by obtain ⟨m, hm⟩ := k0; exact DataW.trod_lt m _ _ _ hm
  obtain ⟨z0, w0⟩ : ∃ zs, IsRow .u8 W a0 len0 cap0 zs := by
    obtain ⟨fuel, hf⟩ := h0
    rcases open_ints Tryd.underlying22 Tryd.underlying5 (by kernel_rfl) hf with ⟨hcs, _⟩ | ⟨x, l, c, zs, hcs, _, hl, hm, hz, _, hcell, hwz⟩
    · simp [Value.cells] at hcs
      obtain ⟨rfl, rfl, rfl⟩ := hcs
      exact ⟨[], .inl ⟨rfl, rfl, rfl, rfl⟩⟩
    · simp [Value.cells] at hcs
      obtain ⟨rfl, rfl, rfl⟩ := hcs
      exact ⟨zs, .inr ⟨_, rfl, hl, hm, by simpa using hz, hcell, hwz⟩⟩
  clear hA0
  refine (walk a0 len0 cap0 z0 W w0 (tabs hL)).mono fun e W' ⟨he, bel⟩ => ?_
  subst he
  exact ⟨_, rfl, _, _, _, [], _, [], hW', trodAll_mk1 (shut_bool Tryd.underlying4 _), (trodAll_cons_mk (Below.trod laidOut (by kernel_rfl) (of_decide_eq_true (by kernel_rfl)) k0 bel lt0) trodAll_mk0), rfl, bel.frame _, fun h => by cases h⟩

theorem witness_row (os : Os) {H : Type} (enc : TypeId × Value → H) :
    (OpenSpec.ofChange Rows.fnRulesSpec).preRow enc Tryd.prog Tryd.f3 Rows.fnRulesRow.domain false laidTwo (({ World.holding Tryd.prog os ⟨#[], #[], []⟩ with heap := laidHeap (World.holding Tryd.prog os ⟨#[], #[], []⟩).heap } : World).forCall (fun _ _ => 0) ⟨#[], #[.slice none 0 0], []⟩).memory #[.slice none 0 0] := by
  have hw : (DataW.whole enc Tryd.prog (({ World.holding Tryd.prog os ⟨#[], #[], []⟩ with heap := laidHeap (World.holding Tryd.prog os ⟨#[], #[], []⟩).heap } : World).forCall (fun _ _ => 0) ⟨#[], #[.slice none 0 0], []⟩).memory Tryd.f3.params.toList Rows.fnRulesSpec.vars false (#[.slice none 0 0] : Array Value).toList 8).map (fun x => (x.1, x.2.1)) =
      some ([.nil], []) := by kernel_rfl
  obtain ⟨⟨x1, x2, x3⟩, hx, hx1⟩ := Option.map_eq_some_iff.1 hw
  simp only [Prod.mk.injEq] at hx1
  obtain ⟨rfl, rfl⟩ := hx1
  exact OpenSpec.preRow_of_cond 8 hx (by kernel_rfl) (fun k hk => by cases hk) (by kernel_rfl) (laid_met os _)

set_option maxRecDepth 100000 in
set_option maxHeartbeats 2000000 in
theorem lifted (os : Os) (started : os.Started) (H : Type) (enc : TypeId × Value → H) (F : Stop.Interp) :
    ReturnsInHanded {} Tryd.checked os 3 .any ((OpenSpec.ofChange Rows.fnRulesSpec).preRow enc Tryd.prog Tryd.f3 Rows.fnRulesRow.domain false laidTwo) (((OpenSpec.ofChange Rows.fnRulesSpec).at F).post enc Tryd.prog Tryd.f3 false true false false) := by
  refine returnsInHanded_of_row (C := Tryd.checked) (s := OpenSpec.ofChange Rows.fnRulesSpec) own started (by kernel_rfl) Tryd.func3
    (witness_row_atRef (enc := enc) (C := Tryd.checked) false ({ World.holding Tryd.prog os ⟨#[], #[], []⟩ with heap := laidHeap (World.holding Tryd.prog os ⟨#[], #[], []⟩).heap }) #[.slice none 0 0] rfl (by kernel_rfl) (by kernel_rfl) (by kernel_rfl) (witness_row os enc)) ?_
  intro W base args ds gs before hval hW _ _ _ hL _ _
  exact contract H enc W base args ds gs before hval hW hL

theorem said : Rows.FnRulesSaid :=
  OpenClaim.holds_of_cond 3 Tryd.f3 rfl rfl rfl rfl rfl rfl rfl ⟨rfl, rfl, rfl, rfl, rfl⟩ rfl rfl rfl rfl rfl (by kernel_rfl) Tryd.func3 (by kernel_rfl)
    (of_decide_eq_true (by kernel_rfl)) (by unfold Func.isWrapper; first | (rw [if_pos (by decide +kernel)]; kernel_rfl) | (rw [if_neg (by decide +kernel)]; exact ⟨rfl, rfl⟩))
    (fun os started H enc _ F => by rw [OpenClaim.pre_eq_preRow]; exact lifted os started H enc F)

theorem plain (f : FuncId) (fn : Func) (hf : Tryd.pinned.checked.prog.funcNamed "loop.example/g00191/laws.FnRules" = some f) (hfn : Tryd.pinned.checked.prog.funcs[f]? = some fn) :
    false = Tryd.pinned.checked.prog.looks [] ∧ ∀ (j : Nat) t, fn.params[j]? = some t → Tryd.pinned.checked.prog.wantsStandIn t = false := by
  obtain rfl : f = 3 := Option.some.inj ((show Tryd.prog.funcNamed "loop.example/g00191/laws.FnRules" = some 3 by kernel_rfl).symm.trans hf) |>.symm
  obtain rfl : fn = Tryd.f3 := (Option.some.inj (Tryd.func3.symm.trans hfn)).symm
  refine ⟨by kernel_rfl, fun j t ht => ?_⟩
  rw [Tryd.params3] at ht
  obtain rfl : t = 22 := by simpa using Array.mem_of_getElem? ht
  exact (show Tryd.prog.wantsStandIn 22 = false by kernel_rfl)

theorem card : Rows.FnRulesCardSaid :=
  Claim7.holds_tied_plain_at .later [] _ _ _ _ said (fun _ h => by cases h) (by kernel_rfl) (fun _ h => by cases h) fnRules_row_tie rfl ⟨rfl, rfl⟩ (by kernel_rfl) rfl plain (by kernel_rfl)
end Go.Proofs.YtijliddchoehhaaDoor.fnRules

namespace Go.Proofs.YtijliddchoehhaaDoor
theorem fnRules_holds : Rows.FnRulesCardSaid := fnRules.card
#print axioms fnRules_holds
end Go.Proofs.YtijliddchoehhaaDoor
