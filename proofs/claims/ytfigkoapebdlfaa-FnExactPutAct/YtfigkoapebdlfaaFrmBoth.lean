/- Contracts of impl.Frame, spec.Frame, bytes.Equal, bytes.HasPrefix, spec.l16Same. -/
import Derived.Test.YtfigkoapebdlfaaRows
import Derived.Test.YtfigkoapebdlfaaCrcBoth
import Derived.Test.YtfigkoapebdlfaaNumPut
import Derived.BigQuiet
import Derived.Deep.QuietTactic
import Derived.OwnWalk
namespace Go.Proofs.Ytfigkoapebdlfaa
open Go.RowKit
set_option linter.unusedVariables false

set_option maxHeartbeats 1000000 in
theorem implFrame (v : Value) (l : List UInt8) (w : World) (hin : BRow w v l) (hn : l.length ≤ 1099511627776) :
    Calls Try.prog 42 #[v] w fun e w' => ∃ v', e = .returned v' ∧ w'.ownsRow w.heap.size 5 1 v' (frameL l).length (bcells (frameL l)) ∧ Below w.heap.size w w' := by
  have HI : Hid (BRow w v l) := hin
  obtain ⟨ao, cp, hv⟩ := hin.slice
  subst hv
  clear hin
  have hnl := numL_len l.length
  go_enter Try.func42, Try.ntmps42
  go_wp2_with fail
  refine (implPutNum _ _ [] _ (.inl ⟨rfl, _, _, rfl⟩) (by simp)).mono ?_
  rintro e wa ⟨va, rfl, oa, ba⟩
  have za := ba.size
  rw [List.nil_append, List.length_nil, Nat.zero_add] at oa
  go_wp2_with (at_builtin; refine wpList_append_brow rfl _ _ 29 rfl w.heap.size 5 Try.underlying29 Try.infoByte _ _ _ rfl oa _ l rfl (HI.out.below ba) (by omega) za ?_)
  intro vb wb ob g2 _
  have bb : Below w.heap.size w wb := ba.grown g2 za (fun k hk => (oa.lt k hk).1)
  have zb := bb.size
  clear oa g2
  go_wp2_with fail
  refine (implCrcBytes _ l _ (HI.out.below bb) hn).mono ?_
  rintro e wc ⟨vc, rfl, oc, bc⟩
  have zc := bc.size
  have od := own_below ob bc
  have bd : Below w.heap.size w wc := bb.trans (bc.mono zb)
  clear ob
  go_wp2_with (at_builtin; refine wpList_append_brow rfl _ _ 29 rfl w.heap.size 5 Try.underlying29 Try.infoByte _ _ _ rfl od _ _ rfl (BRow.of_own oc) (by rw [fourL_len]; omega) bd.size ?_)
  intro ve we oe g3 _
  have be : Below w.heap.size w we := bd.grown g3 bd.size (fun k hk => (od.lt k hk).1)
  have HF : Hid (numL l.length ++ (l ++ fourL (crcL l)) = frameL l) := by show _ = _; simp [frameL]
  rw [HF.out] at oe
  have HL : Hid ((frameL l).length = (numL l.length).length + l.length + (fourL (crcL l)).length) := own_blen oe
  rw [← HL.out] at oe
  clear od oc g3 HL HF
  go_wp2
  go_ret
  exact ⟨_, rfl, oe, be⟩

set_option maxHeartbeats 1000000 in
theorem specFrame (v : Value) (l : List UInt8) (w : World) (hin : BRow w v l) (hn : l.length ≤ 1099511627776) :
    Calls Try.prog 41 #[v] w fun e w' => ∃ v', e = .returned v' ∧ w'.ownsRow w.heap.size 5 1 v' (frameL l).length (bcells (frameL l)) ∧ Below w.heap.size w w' := by
  have HI : Hid (BRow w v l) := hin
  obtain ⟨ao, cp, hv⟩ := hin.slice
  subst hv
  clear hin
  have hnl := numL_len l.length
  have hx := crcL_lt l
  go_enter Try.func41, Try.ntmps41
  go_wp2_with fail
  refine (specPutNum _ _ [] _ (.inl ⟨rfl, _, _, rfl⟩) (by simp)).mono ?_
  rintro e wa ⟨va, rfl, oa0, ba0⟩
  have ba : Below w.heap.size w wa := ((Below.refl _ _).alloc (Nat.le_refl _) _).trans (ba0.mono (by simp))
  have za := ba.size
  rw [List.nil_append, List.length_nil, Nat.zero_add] at oa0
  have oa := own_base oa0 (show w.heap.size ≤ _ by simp)
  clear oa0 ba0
  go_wp2_with (at_builtin; refine wpList_append_brow rfl _ _ 29 rfl w.heap.size 5 Try.underlying29 Try.infoByte _ _ _ rfl oa _ l rfl (HI.out.below ba) (by omega) za ?_)
  intro vb wb ob g2 _
  have bb : Below w.heap.size w wb := ba.grown g2 za (fun k hk => (oa.lt k hk).1)
  have zb := bb.size
  clear oa g2
  go_wp2_with fail
  refine (specCrc _ l _ (HI.out.below bb) hn).mono ?_
  rintro e w1 ⟨rfl, rfl⟩
  go_wp2_with fail
  refine (specFour _ _ hx).mono ?_
  rintro e wc ⟨vc, rfl, oc, bc⟩
  have zc := bc.size
  have od := own_below ob bc
  have bd : Below w.heap.size w wc := bb.trans (bc.mono zb)
  clear ob
  go_wp2_with (at_builtin; refine wpList_append_brow rfl _ _ 29 rfl w.heap.size 5 Try.underlying29 Try.infoByte _ _ _ rfl od _ _ rfl (BRow.of_own oc) (by rw [fourL_len]; omega) bd.size ?_)
  intro ve we oe g3 _
  have be : Below w.heap.size w we := bd.grown g3 bd.size (fun k hk => (od.lt k hk).1)
  have HF : Hid (numL l.length ++ (l ++ fourL (crcL l)) = frameL l) := by show _ = _; simp [frameL]
  rw [HF.out] at oe
  have HL : Hid ((frameL l).length = (numL l.length).length + l.length + (fourL (crcL l)).length) := own_blen oe
  rw [← HL.out] at oe
  clear od oc g3 HL HF
  go_wp2
  go_ret
  exact ⟨_, rfl, oe, be⟩

set_option maxHeartbeats 1000000 in
theorem implBEqual (va vb : Value) (a b : List UInt8) (w : World) (ha : BRow w va a) (hb : BRow w vb b) :
    Calls Try.prog 40 #[va, vb] w fun e w' => e = .returned (.bool (decide (a = b))) ∧ w = w' := by
  have hca := run_string_row (P := Try.prog) w 29 9 5 Try.underlying29 Try.underlying5 Try.underlying9 ha
  have hcb := run_string_row (P := Try.prog) w 29 9 5 Try.underlying29 Try.underlying5 Try.underlying9 hb
  obtain ⟨ao, ca, hva⟩ := ha.slice
  obtain ⟨bo, cb, hvb⟩ := hb.slice
  subst hva hvb
  clear ha hb
  by_cases he : a = b
  · subst he
    go_enter Try.func40, Try.ntmps40
    go_wp2
    go_ret
    exact ⟨ret_bool (by simp), rfl⟩
  · go_enter Try.func40, Try.ntmps40
    go_wp2
    go_ret
    exact ⟨ret_bool (by simp [he]), rfl⟩

theorem partL_head {a : List UInt8} {n : Nat} (h : n ≤ a.length) : (partL a 0 n).length = n := partL_len (by omega)

set_option maxHeartbeats 1000000 in
theorem implBPrefix (va vb : Value) (a b : List UInt8) (w : World) (ha : BRow w va a) (hb : BRow w vb b) (h4 : b.length = 4) (hn : a.length ≤ 1099511627776) :
    Calls Try.prog 52 #[va, vb] w fun e w' => e = .returned (.bool (decide (partL a 0 4 = b))) ∧ w = w' := by
  by_cases hs : a.length < 4
  · have hd : decide (partL a 0 4 = b) = false := by
      refine decide_eq_false fun e => ?_
      have := congrArg List.length e
      unfold partL at this
      rw [List.length_take, List.length_drop, h4] at this
      omega
    rw [hd]
    obtain ⟨ao, ca, hva⟩ := ha.slice
    obtain ⟨bo, cb, hvb⟩ := hb.slice
    rw [h4] at hvb
    subst hva hvb
    have hs2 : (a.length : Int) < 4 := by omega
    clear ha hb hd
    go_enter Try.func52, Try.ntmps52
    go_wp2
    go_ret
    exact ⟨rfl, rfl⟩
  · rcases ha with ⟨rfl, _⟩ | ⟨h0, g, off, cap, rfl, hg, hc⟩
    · simp at hs
    · have HP : Hid (BRow w (.slice (some ⟨g, off, none⟩) 4 (a.length + cap)) (partL a 0 4)) := BRow.part hg hc (a := 0) (n := 4) (by omega) (by omega) rfl
      have HB : Hid (BRow w vb b) := hb
      obtain ⟨bo, cb, hvb⟩ := hb.slice
      rw [h4] at hvb
      subst hvb
      have hs2 : ¬ (a.length : Int) < 4 := by omega
      clear hb hc
      go_enter Try.func52, Try.ntmps52
      go_wp2_with fail
      refine (implBEqual _ _ (partL a 0 4) b _ HP.out HB.out).mono ?_
      rintro e w1 ⟨rfl, rfl⟩
      go_wp2
      go_ret
      exact ⟨rfl, rfl⟩

set_option maxHeartbeats 2000000 in
theorem specSame (va vb : Value) (a b : List UInt8) (w : World) (ha : BRow w va a) (hb : BRow w vb b) (he : a.length = 4) (he2 : b.length = 4) :
    Calls Try.prog 51 #[va, vb] w fun e w' => e = .returned (.bool (decide (a = b))) ∧ Below w.heap.size w w' := by
  rcases ha with ⟨rfl, _⟩ | ⟨h0, g, off, cap, rfl, hg, hc⟩
  · simp at he
  · rcases hb with ⟨rfl, _⟩ | ⟨h1, g', off', cap', rfl, hg', hc'⟩
    · simp at he2
    · have HA : Hid (∀ i, i < 4 → w.cell? ⟨g, off + i, none⟩ = some (.int .u8 ((a.getD i 0).toNat : Int))) := fun i hi => hc i (by omega)
      have HB : Hid (∀ i, i < 4 → w.cell? ⟨g', off' + i, none⟩ = some (.int .u8 ((b.getD i 0).toNat : Int))) := fun i hi => hc' i (by omega)
      have HE : Hid (a.length = 4 ∧ b.length = 4) := ⟨he, he2⟩
      rw [he, he2]
      clear hc hc' he he2 h0 h1
      go_enter Try.func51, Try.ntmps51
      go_wp2
      go_loopw [5] (fun i wr => ∃ k : Nat, k ≤ 4 ∧ i = .int .i64 k ∧ Hid (∀ j, j < k → a.getD j 0 = b.getD j 0) ∧ Below w.heap.size w wr) (fun i _ => 4 - (intOf i).toNat)
      case atStart => exact ⟨0, Nat.zero_le _, rfl, fun j hj => absurd hj (by omega), Below.refl _ _⟩
      case round =>
        obtain ⟨k, hk, rfl, HK, hbel⟩ := hrel
        by_cases hlt : k < 4
        · have ca := (hbel.cell (p := ⟨g, off + k, none⟩) hg).trans (HA.out k hlt)
          have cb := (hbel.cell (p := ⟨g', off' + k, none⟩) hg').trans (HB.out k hlt)
          have hx : (a.getD k 0).toNat < 256 := (a.getD k 0).toNat_lt
          have hy : (b.getD k 0).toNat < 256 := (b.getD k 0).toNat_lt
          by_cases hq : a.getD k 0 = b.getD k 0
          · have HK2 : Hid (∀ j, j < k + 1 → a.getD j 0 = b.getD j 0) := fun j hj => by
              by_cases e : j = k
              · subst e; exact hq
              · exact HK.out j (by omega)
            rw [← hq] at cb
            generalize (a.getD k 0).toNat = x at *
            clear HK hq hy
            go_wp2
            go_quiet (fail)
            go_wp2
            go_roundw
            case rel => exact ⟨k + 1, by omega, by go_num, HK2, below_drewN hbel _⟩
            case measure => simp [intOf]; omega
          · have hd : Hid (decide (a = b) = false) := decide_eq_false fun e => hq (by rw [e])
            have hne : ¬ ((a.getD k 0).toNat : Int) = ((b.getD k 0).toNat : Int) := fun e => hq (UInt8.toNat_inj.1 (by omega))
            generalize (a.getD k 0).toNat = x at *
            generalize (b.getD k 0).toNat = y at *
            clear HK hq
            go_wp2
            go_quiet (fail)
            go_wp2
            go_ret
            exact ⟨ret_bool hd.out.symm, below_drewN hbel _⟩
        · have hd : Hid (decide (a = b) = true) := decide_eq_true (by
            have h := HE.out
            refine List.ext_getElem (by omega) fun i h1 h2 => ?_
            have := HK.out i (by omega)
            simpa [List.getD, h1, h2] using this)
          clear HK
          go_wp2
          go_ret
          exact ⟨ret_bool hd.out.symm, hbel⟩
end Go.Proofs.Ytfigkoapebdlfaa
