/- The contract of the code's RobotsText. -/
import Derived.Test.YtjdnemjcjodboaaRows
import Derived.Test.YtjdnemjcjodboaaRobLen
import Derived.Test.YtjdnemjcjodboaaBlockAt
import Derived.Test.YtjdnemjcjodboaaBldWalk
import Derived.Lib.OthersKept
import Derived.Handy
import Derived.Deep.DeepCutAuto
import Derived.Deep.RegionWith
namespace Go.Proofs.Ytjdnemjcjodboaa
open Go.RowKit
set_option linter.unusedVariables false

set_option maxHeartbeats 1000000 in
theorem implKeyOf (x : LV) (w : World) :
    Calls Try.prog 42 #[.agg #[.bool x.al, .string x.pa]] w fun e w' => e = .returned (.string ⟨(if x.al = true then keyA else keyD).toArray⟩) ∧ Below w.heap.size w w' := by
  have hbO : Below w.heap.size w (w.alloc (.cells #[.bool x.al, .string x.pa] 58)) := (Below.refl _ _).alloc (Nat.le_refl _) _
  generalize x.al = al at *
  generalize x.pa = pa at *
  cases al with
  | true =>
    go_enter Try.func42, Try.ntmps42
    go_wp2_with fail
    go_ret
    exact ⟨rfl, hbO⟩
  | false =>
    go_enter Try.func42, Try.ntmps42
    go_wp2_with fail
    go_ret
    exact ⟨rfl, hbO⟩
set_option maxHeartbeats 1000000 in
theorem implRobLine (a b : ByteArray) (w : World) (ha : a.size ≤ 100) (hb : b.size ≤ 1048576) :
    Calls Try.prog 41 #[.string a, .string b] w fun e w' => e = .returned (.string ⟨(a.data.toList ++ [58, 32] ++ b.data.toList ++ [10]).toArray⟩) ∧ w = w' := by
  have h2 : (⟨#[58, 32]⟩ : ByteArray).size = 2 := rfl
  have h1 : (⟨#[10]⟩ : ByteArray).size = 1 := rfl
  have HE : Hid ((a ++ ⟨#[58, 32]⟩ ++ b ++ ⟨#[10]⟩ : ByteArray) = ⟨(a.data.toList ++ [58, 32] ++ b.data.toList ++ [10]).toArray⟩) := by
    refine ba_eq.2 ?_
    rw [text_app, text_app, text_app]
  have z1 : (a ++ ⟨#[58, 32]⟩ : ByteArray).size ≤ 102 := by rw [ByteArray.size_append, h2]; omega
  have z2 : (a ++ ⟨#[58, 32]⟩ ++ b : ByteArray).size ≤ 1048678 := by rw [ByteArray.size_append, ByteArray.size_append, h2]; omega
  go_enter Try.func41, Try.ntmps41
  go_wp2_with fail
  go_ret
  exact ⟨by rw [← HE.out]; rfl, rfl⟩
set_option maxHeartbeats 8000000 in
theorem implRobotsText (l : List PT) (v : Value) (w : World) (hN : sumP l ≤ 1048576) (h : PartRow w v l) :
    Calls Try.prog 23 #[.agg #[v]] w fun e w' => e = .returned (.string ⟨(robT l).toArray⟩) ∧ Below w.heap.size w w' := by
  rw [robT_parts]
  have HN : Hid (sumP l ≤ 1048576) := hN
  clear hN
  obtain ⟨B, hB⟩ : ∃ B, B = w.heap.size + 1 := ⟨_, rfl⟩
  obtain ⟨O, hO⟩ : ∃ O, O = (w.alloc (.cells #[v] 26)).alloc (.cells #[.pointer none, .slice none 0 0] 69) := ⟨_, rfl⟩
  have hbO : Below w.heap.size w O := by rw [hO]; exact ((Below.refl _ _).alloc (Nat.le_refl _) _).alloc (by simp) _
  have AO : BAt O w.heap.size [v] := by rw [hO]; exact (BAt.new w #[v] _).alloc _
  have HB0 : Hid (Bld B [] O) := by
    have := Bld.new (w.alloc (.cells #[v] 26))
    rw [World.size_alloc, ← hB, ← hO] at this
    exact this
  obtain ⟨ao, cap, hv⟩ := h.slice
  subst hv
  have HROW : Hid (PartRow w (.slice ao l.length cap) l) := h
  clear h
  have hll : l.length ≤ 1048576 := by have := HN.out; unfold sumP at this; omega
  go_enter Try.func23, Try.ntmps23
  go_upto_region 2 with fail
  rw [← hO, ← hB]
  have hwB : w.heap.size ≤ B := by omega
  clear hO hB
  have c0 := AO.1 0 _ rfl
  go_wp2_with fail
  clear c0 AO
  go_loopw [13] (fun i wr => ∃ k : Nat, k ≤ l.length ∧ i = .int .i64 k ∧ Hid (Bld B ((l.take k).flatMap partT) wr) ∧ Below w.heap.size w wr) (fun i _ => l.length - (intOf i).toNat)
  case atStart => exact ⟨0, Nat.zero_le _, rfl, HB0, hbO⟩
  case round =>
    obtain ⟨k, hk, rfl, HB, hbel⟩ := hrel
    clear HB0 hbO
    by_cases hlt : k < l.length
    · have hki : (k : Int) < l.length := by omega
      obtain ⟨g, off, p, q, cc, hv, hg, c1, c2, c3, c4⟩ : ∃ g off p q cc, Value.slice ao l.length cap = .slice (some ⟨g, off, none⟩) l.length cc ∧ g < w.heap.size ∧ w.cell? ⟨g, off + k * 2, none⟩ = some p ∧ StrRow w p (l.getD k pt0).ag ∧ w.cell? ⟨g, off + k * 2 + 1, none⟩ = some q ∧ LineRow w q (l.getD k pt0).ln := by
        rcases HROW.out with ⟨h, _⟩ | ⟨_, g, off, cc, h1, h2, h3⟩
        · rw [h] at hlt; simp at hlt
        · obtain ⟨p, q, q1, q2, q3, q4⟩ := h3 k hlt
          exact ⟨g, off, p, q, _, h1, h2, q1, q2, q3, q4⟩
      cases hv
      have c1w := (hbel.cell (p := ⟨g, off + k * 2, none⟩) hg).trans c1
      have c3w := (hbel.cell (p := ⟨g, off + k * 2 + 1, none⟩) hg).trans c3
      have HPA : Hid (∀ j, j ≤ (l.getD k pt0).ag.length → ((l.take k).flatMap partT ++ ((l.getD k pt0).ag.take j).flatMap agLn).length ≤ 13631488) := pre_ag hlt HN.out
      have HPB : Hid (∀ j, j ≤ (l.getD k pt0).ln.length → ((l.take k).flatMap partT ++ (l.getD k pt0).ag.flatMap agLn ++ ((l.getD k pt0).ln.take j).flatMap lnLn).length ≤ 13631488) := pre_ln hlt HN.out
      have HAZ : Hid (∀ j, j < (l.getD k pt0).ag.length → ((l.getD k pt0).ag.getD j ByteArray.empty).size ≤ 1048576) := fun j => ag_size HN.out hlt
      have HLZ : Hid (∀ j, j < (l.getD k pt0).ln.length → ((l.getD k pt0).ln.getD j lv0).pa.size ≤ 1048576) := fun j => ln_size HN.out hlt
      have HT1 : Hid ((l.take (k + 1)).flatMap partT = (l.take k).flatMap partT ++ partT (l.getD k pt0)) := flat_next partT pt0 l hlt
      obtain ⟨_, ha1, hl1⟩ := part_lens HN.out hlt
      clear c1 c3
      generalize l.getD k pt0 = x at *
      obtain ⟨T0, hT0⟩ : ∃ T0, List.flatMap partT (l.take k) = T0 := ⟨_, rfl⟩
      rw [hT0] at HPA HPB HT1 HB
      clear hT0
      obtain ⟨pa, pc, hpp⟩ := c2.slice
      obtain ⟨qa, qc, hqq⟩ := c4.slice
      subst hpp hqq
      have HSR : Hid (StrRow w (.slice pa x.ag.length pc) x.ag) := c2
      have HLR : Hid (LineRow w (.slice qa x.ln.length qc) x.ln) := c4
      clear c2 c4
      go_upto_region 5 with fail
      obtain ⟨U, hU⟩ : ∃ U, U = wr.alloc (.cells #[.slice pa x.ag.length pc, .slice qa x.ln.length qc] 35) := ⟨_, rfl⟩
      have bU : Below wr.heap.size wr U := by rw [hU]; exact (Below.refl _ _).alloc (Nat.le_refl _) _
      have AU : BAt U wr.heap.size [.slice pa x.ag.length pc, .slice qa x.ln.length qc] := by rw [hU]; exact BAt.new wr #[.slice pa x.ag.length pc, .slice qa x.ln.length qc] _
      have hUD : U.heap[wr.heap.size]? = some (.cells #[.slice pa x.ag.length pc, .slice qa x.ln.length qc] 35) := by rw [hU]; exact heap_alloc_new wr _
      rw [← hU]
      clear hU
      have BU : Below w.heap.size w U := hbel.trans (bU.mono hbel.size)
      have HBU : Hid (Bld B T0 U) := HB.out.below bU
      have hBD : B < wr.heap.size := HB.out.lt
      have d0 := AU.1 0 _ rfl
      clear c1w c3w hbel bU HB AU
      have HUD : Hid (U.heap[wr.heap.size]? = some (.cells #[.slice pa x.ag.length pc, .slice qa x.ln.length qc] 35)) := hUD
      clear hUD
      generalize wr.heap.size = D at *
      go_wp2_with fail
      clear d0
      go_loopw [20] (fun i wr => ∃ j : Nat, j ≤ x.ag.length ∧ i = .int .i64 j ∧ Hid (Bld B (T0 ++ (x.ag.take j).flatMap agLn) wr) ∧ Hid (wr.heap[D]? = some (.cells #[.slice pa x.ag.length pc, .slice qa x.ln.length qc] 35)) ∧ Below w.heap.size w wr) (fun i _ => x.ag.length - (intOf i).toNat)
      case atStart => exact ⟨0, Nat.zero_le _, rfl, (by rw [List.take_zero, List.flatMap_nil, List.append_nil]; exact HBU), HUD, BU⟩
      case round =>
        obtain ⟨j, hj, rfl, HB, HD, hbel⟩ := hrel
        clear HBU HUD BU
        by_cases hjl : j < x.ag.length
        · have hji : (j : Int) < x.ag.length := by omega
          have hs2 := HPA.out j hj
          have hx := HAZ.out j hjl
          have HNX : Hid (T0 ++ (x.ag.take (j + 1)).flatMap agLn = T0 ++ (x.ag.take j).flatMap agLn ++ agLn (x.ag.getD j ByteArray.empty)) := by
            show _ = _
            rw [flat_next agLn ByteArray.empty x.ag hjl, List.append_assoc]
          obtain ⟨g', off', c2, hv, hg', ca⟩ : ∃ g' off' cc, Value.slice pa x.ag.length pc = .slice (some ⟨g', off', none⟩) x.ag.length cc ∧ g' < w.heap.size ∧ w.cell? ⟨g', off' + j, none⟩ = some (.string (x.ag.getD j ByteArray.empty)) := by
            rcases HSR.out with ⟨h, _⟩ | ⟨_, g', off', cc, h1, h2, h3⟩
            · rw [h] at hjl; simp at hjl
            · exact ⟨g', off', _, h1, h2, h3 j hjl⟩
          cases hv
          have caw := (hbel.cell (p := ⟨g', off' + j, none⟩) hg').trans ca
          clear ca
          generalize x.ag.getD j ByteArray.empty = y at *
          have CR : Hid (∀ W, Calls Try.prog 41 #[.string ⟨#[117, 115, 101, 114, 45, 97, 103, 101, 110, 116]⟩, .string y] W fun e w' => e = .returned (.string ⟨(agLn y).toArray⟩) ∧ W = w') := fun W => implRobLine ⟨#[117, 115, 101, 114, 45, 97, 103, 101, 110, 116]⟩ y W (by decide) hx
          have hys : (⟨(agLn y).toArray⟩ : ByteArray).size = 13 + y.size := (List.size_toArray).trans (agLn_len y)
          have CW : Hid (∀ (L : List UInt8) W, L.length ≤ 13631488 → Bld B L W → Calls Try.prog 40 #[.pointer (some ⟨B, 0, none⟩), .string ⟨(agLn y).toArray⟩] W fun e w' => e = .returned (.tuple #[.int .i64 (⟨(agLn y).toArray⟩ : ByteArray).size, .nilIface]) ∧ Bld B (L ++ agLn y) w' ∧ Below B W w' ∧ Lib.OthersKept 5 (some B) W w') := fun L W hL hW => bldWrite B L ⟨(agLn y).toArray⟩ W (by rw [hys]; omega) hW
          generalize agLn y = Y at *
          go_wp2_with fail
          refine (CR.out _).mono ?_
          rintro e w' ⟨rfl, rfl⟩
          go_wp2_with fail
          refine (CW.out _ _ hs2 HB.out).mono ?_
          rintro e w1 ⟨rfl, ha, b1, kwa⟩
          have HBA : Hid (Bld B (T0 ++ (x.ag.take (j + 1)).flatMap agLn) w1) := by show Bld _ _ _; rw [HNX.out]; exact ha
          have HD1 : Hid (w1.heap[D]? = some (.cells #[.slice (some ⟨g', off', none⟩) x.ag.length pc, .slice qa x.ln.length qc] 35)) := kwa D _ HD.out (fun h => by cases h; omega) (fun c fz h => by injection h with _ h2; exact absurd h2 (by decide))
          have B1 := hbel.trans (b1.mono hwB)
          clear ha b1 kwa HB HD CR CW hbel caw
          go_wp2_with fail
          go_roundw
          case rel => exact ⟨j + 1, by omega, by go_num, HBA, HD1, B1⟩
          case measure => simp [intOf] <;> omega
        · have hji : ¬ (j : Int) < x.ag.length := by omega
          have HBA : Hid (Bld B (T0 ++ x.ag.flatMap agLn) wr) := by
            have := HB.out
            rwa [show j = x.ag.length by omega, List.take_length] at this
          have d1 : wr.cell? ⟨D, 1, none⟩ = some (.slice qa x.ln.length qc) := by rw [cell_of_row _ D 1 _ _ _ HD.out]; rfl
          clear HB HD
          go_wp2_with fail
          clear d1
          go_loopw [31] (fun i wr => ∃ j : Nat, j ≤ x.ln.length ∧ i = .int .i64 j ∧ Hid (Bld B (T0 ++ x.ag.flatMap agLn ++ (x.ln.take j).flatMap lnLn) wr) ∧ Below w.heap.size w wr) (fun i _ => x.ln.length - (intOf i).toNat)
          case atStart => exact ⟨0, Nat.zero_le _, rfl, (by rw [List.take_zero, List.flatMap_nil, List.append_nil]; exact HBA), hbel⟩
          case round =>
            obtain ⟨m, hm, rfl, HB, hbel⟩ := hrel
            clear HBA
            by_cases hml : m < x.ln.length
            · have hmi : (m : Int) < x.ln.length := by omega
              have hs2 := HPB.out m hm
              have hx := HLZ.out m hml
              have HNX : Hid (T0 ++ x.ag.flatMap agLn ++ (x.ln.take (m + 1)).flatMap lnLn = T0 ++ x.ag.flatMap agLn ++ (x.ln.take m).flatMap lnLn ++ lnLn (x.ln.getD m lv0)) := by
                show _ = _
                rw [flat_next lnLn lv0 x.ln hml]
                simp only [List.append_assoc]
              obtain ⟨g', off', c2, hv, hg', ca, cb⟩ : ∃ g' off' cc, Value.slice qa x.ln.length qc = .slice (some ⟨g', off', none⟩) x.ln.length cc ∧ g' < w.heap.size ∧ w.cell? ⟨g', off' + m * 2, none⟩ = some (.bool (x.ln.getD m lv0).al) ∧ w.cell? ⟨g', off' + m * 2 + 1, none⟩ = some (.string (x.ln.getD m lv0).pa) := by
                rcases HLR.out with ⟨h, _⟩ | ⟨_, g', off', cc, h1, h2, h3⟩
                · rw [h] at hml; simp at hml
                · exact ⟨g', off', _, h1, h2, (h3 m hml).1, (h3 m hml).2⟩
              cases hv
              have caw := (hbel.cell (p := ⟨g', off' + m * 2, none⟩) hg').trans ca
              have cbw := (hbel.cell (p := ⟨g', off' + m * 2 + 1, none⟩) hg').trans cb
              clear ca cb
              generalize x.ln.getD m lv0 = y at *
              have hks : (⟨(if y.al = true then keyA else keyD).toArray⟩ : ByteArray).size ≤ 100 := by cases y.al <;> decide
              have CK : Hid (∀ W, Calls Try.prog 42 #[.agg #[.bool y.al, .string y.pa]] W fun e w' => e = .returned (.string ⟨(if y.al = true then keyA else keyD).toArray⟩) ∧ Below W.heap.size W w') := fun W => implKeyOf y W
              have CR : Hid (∀ W, Calls Try.prog 41 #[.string ⟨(if y.al = true then keyA else keyD).toArray⟩, .string y.pa] W fun e w' => e = .returned (.string ⟨(lnLn y).toArray⟩) ∧ W = w') := fun W => implRobLine _ y.pa W hks hx
              have hys : (⟨(lnLn y).toArray⟩ : ByteArray).size ≤ 13 + y.pa.size := Nat.le_trans (Nat.le_of_eq List.size_toArray) (lnLn_len y)
              have CW : Hid (∀ (L : List UInt8) W, L.length ≤ 13631488 → Bld B L W → Calls Try.prog 40 #[.pointer (some ⟨B, 0, none⟩), .string ⟨(lnLn y).toArray⟩] W fun e w' => e = .returned (.tuple #[.int .i64 (⟨(lnLn y).toArray⟩ : ByteArray).size, .nilIface]) ∧ Bld B (L ++ lnLn y) w' ∧ Below B W w' ∧ Lib.OthersKept 5 (some B) W w') := fun L W hL hW => bldWrite B L ⟨(lnLn y).toArray⟩ W (by omega) hW
              generalize lnLn y = Y at *
              generalize (⟨(if y.al = true then keyA else keyD).toArray⟩ : ByteArray) = KK at *
              go_upto_region 13 with fail
              obtain ⟨V, hV⟩ : ∃ V, V = wr.alloc (.cells #[.bool y.al, .string y.pa] 58) := ⟨_, rfl⟩
              have bV : Below wr.heap.size wr V := by rw [hV]; exact (Below.refl _ _).alloc (Nat.le_refl _) _
              have AV : BAt V wr.heap.size [.bool y.al, .string y.pa] := by rw [hV]; exact BAt.new wr #[.bool y.al, .string y.pa] _
              rw [← hV]
              clear hV
              have BV : Below w.heap.size w V := hbel.trans (bV.mono hbel.size)
              have HBV : Hid (Bld B (T0 ++ x.ag.flatMap agLn ++ (x.ln.take m).flatMap lnLn) V) := HB.out.below bV
              have d0 := AV.1 0 _ rfl
              have d1 := AV.1 1 _ rfl
              have hEV := AV.2.2
              clear caw cbw hbel bV HB AV
              generalize wr.heap.size = E at *
              generalize hLL : T0 ++ x.ag.flatMap agLn ++ (x.ln.take m).flatMap lnLn = LL at *
              clear hLL
              go_region_with (first
                | (go_at_call 42; refine (CK.out _).mono ?_; rintro e wk ⟨rfl, bk⟩; have dk := (bk.cell (p := ⟨E, 1, none⟩) hEV).trans d1; have HBK : Hid (Bld B LL wk) := Bld.below (w := V.drew) HBV.out bk)
                | (go_at_call 41; refine (CR.out _).mono ?_; rintro e wl ⟨rfl, rfl⟩)
                | (go_at_call 40; refine (CW.out _ _ hs2 HBK.out).mono ?_; rintro e w1 ⟨rfl, ha, b1, _⟩))
              all_goals
                have HBA : Hid (Bld B (T0 ++ x.ag.flatMap agLn ++ (x.ln.take (m + 1)).flatMap lnLn) w1) := by show Bld _ _ _; rw [HNX.out]; exact ha
                have B1 := (BV.drew.trans (bk.mono BV.size)).trans (b1.mono hwB)
                clear ha b1 bk HBK HBV BV CK CR CW dk d0 d1
                go_wp2_with fail
                refine ⟨⟨m + 1, by omega, by go_num, HBA, B1⟩, ?_⟩
                simp [intOf]
                omega
            · have hmi : ¬ (m : Int) < x.ln.length := by omega
              have HBE : Hid (Bld B ((l.take (k + 1)).flatMap partT) wr) := by
                have := HB.out
                rw [show m = x.ln.length by omega, List.take_length] at this
                show Bld _ _ _
                rw [HT1.out]
                unfold partT
                rw [← List.append_assoc]
                exact this
              clear HB
              go_wp2_with fail
              go_roundw
              case rel => exact ⟨k + 1, by omega, by go_num, HBE, hbel⟩
              case measure => simp [intOf] <;> omega
    · have hki : ¬ (k : Int) < l.length := by omega
      have HF : Hid (Bld B (l.flatMap partT) wr) := by
        have := HB.out
        rwa [show k = l.length by omega, List.take_length] at this
      clear HB HROW
      go_wp2_with fail
      refine (bldString _ _ _ HF.out).mono ?_
      rintro e w2 ⟨rfl, b2⟩
      go_wp2_with fail
      go_ret
      exact ⟨rfl, hbel.trans (b2.mono hwB)⟩
end Go.Proofs.Ytjdnemjcjodboaa
