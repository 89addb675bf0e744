/- The contract of the specification's RobotsText. -/
import Derived.Test.YtjdnemjcjodboaaRows
import Derived.Test.YtjdnemjcjodboaaRobLen
import Derived.Test.YtjdnemjcjodboaaBlockAt
import Derived.Handy
import Derived.Deep.DeepCutAuto
namespace Go.Proofs.Ytjdnemjcjodboaa
open Go.RowKit
set_option linter.unusedVariables false

set_option maxHeartbeats 4000000 in
theorem specRobotsText (l : List PT) (v : Value) (w : World) (hN : sumP l ≤ 1048576) (h : PartRow w v l) :
    Calls Try.prog 22 #[.agg #[v]] w fun e w' => e = .returned (.string ⟨(robT l).toArray⟩) ∧ Below w.heap.size w w' := by
  rw [robT_parts]
  have HN : Hid (sumP l ≤ 1048576) := hN
  clear hN
  obtain ⟨O, hO⟩ : ∃ O, O = w.alloc (.cells #[v] 26) := ⟨_, rfl⟩
  have hbO : Below w.heap.size w O := by rw [hO]; exact (Below.refl _ _).alloc (Nat.le_refl _) _
  have AO : BAt O w.heap.size [v] := by rw [hO]; exact BAt.new w #[v] _
  rcases h with ⟨rfl, ao, cap, rfl⟩ | ⟨h0, g, off, cap, rfl, hg, hc⟩
  · go_enter Try.func22, Try.ntmps22
    go_upto_region 1 with fail
    rw [← hO]
    clear hO
    have c0 := AO.1 0 _ rfl
    go_wp2_with fail
    refine wp_loop_rounds 1 ?_
    rw [rounds_succ]
    go_wp2_with fail
    go_ret
    exact ⟨rfl, hbO⟩
  · have HC : Hid (∀ i, i < l.length → ∃ p q, w.cell? ⟨g, off + i * 2, none⟩ = some p ∧ StrRow w p (l.getD i pt0).ag ∧ w.cell? ⟨g, off + i * 2 + 1, none⟩ = some q ∧ LineRow w q (l.getD i pt0).ln) := hc
    clear hc
    have hll := (part_lens HN.out h0).1
    go_enter Try.func22, Try.ntmps22
    go_upto_region 1 with fail
    rw [← hO]
    clear hO
    go_wp2_with fail
    go_loopw [3, 4] (fun a i wr => ∃ (k : Nat) (S : ByteArray), k ≤ l.length ∧ i = .int .i64 k ∧ a = .string S ∧ Hid (S.data.toList = (l.take k).flatMap partT) ∧ Below O.heap.size O wr) (fun _ i _ => l.length - (intOf i).toNat)
    case atStart => exact ⟨0, ⟨#[]⟩, Nat.zero_le _, rfl, rfl, rfl, Below.refl _ _⟩
    case round =>
      obtain ⟨k, S, hk, rfl, rfl, HS, hbel⟩ := hrel
      have c0 := (AO.below hbel).1 0 _ rfl
      by_cases hlt : k < l.length
      · have hki : (k : Int) < l.length := by omega
        obtain ⟨p, q, c1, c2, c3, c4⟩ := HC.out k hlt
        have hba := hbO.trans (hbel.mono hbO.size)
        have c1w := (hba.cell (p := ⟨g, off + k * 2, none⟩) hg).trans c1
        have c3w := (hba.cell (p := ⟨g, off + k * 2 + 1, none⟩) hg).trans c3
        have c2w := c2.below hba
        have c4w := c4.below hba
        have HPA : Hid (∀ j, j ≤ (l.getD k pt0).ag.length → ((l.take k).flatMap partT ++ ((l.getD k pt0).ag.take j).flatMap agLn).length ≤ 13631488) := pre_ag hlt HN.out
        have HPB : Hid (∀ j, j ≤ (l.getD k pt0).ln.length → ((l.take k).flatMap partT ++ (l.getD k pt0).ag.flatMap agLn ++ ((l.getD k pt0).ln.take j).flatMap lnLn).length ≤ 13631488) := pre_ln hlt HN.out
        have HAZ : Hid (∀ j, j < (l.getD k pt0).ag.length → ((l.getD k pt0).ag.getD j ByteArray.empty).size ≤ 1048576) := fun j => ag_size HN.out hlt
        have HLZ : Hid (∀ j, j < (l.getD k pt0).ln.length → ((l.getD k pt0).ln.getD j lv0).pa.size ≤ 1048576) := fun j => ln_size HN.out hlt
        have HT1 : Hid ((l.take (k + 1)).flatMap partT = (l.take k).flatMap partT ++ partT (l.getD k pt0)) := flat_next partT pt0 l hlt
        obtain ⟨_, ha1, hl1⟩ := part_lens HN.out hlt
        clear c1 c2 c3 c4
        generalize l.getD k pt0 = x at *
        generalize hT0 : List.flatMap partT (l.take k) = T0 at *
        clear hT0
        obtain ⟨pa, pc, hpp⟩ := c2w.slice
        obtain ⟨qa, qc, hqq⟩ := c4w.slice
        subst hpp hqq
        go_upto_region 6 with fail
        obtain ⟨U, hU⟩ : ∃ U, U = wr.alloc (.cells #[.slice pa x.ag.length pc, .slice qa x.ln.length qc] 35) := ⟨_, rfl⟩
        have bU : Below wr.heap.size wr U := by rw [hU]; exact (Below.refl _ _).alloc (Nat.le_refl _) _
        have AU : BAt U wr.heap.size [.slice pa x.ag.length pc, .slice qa x.ln.length qc] := by rw [hU]; exact BAt.new wr #[.slice pa x.ag.length pc, .slice qa x.ln.length qc] _
        rw [← hU]
        clear hU
        have BO : Below O.heap.size O U := hbel.trans (bU.mono hbel.size)
        have HSR : Hid (StrRow U (.slice pa x.ag.length pc) x.ag) := c2w.below bU
        have HLR : Hid (LineRow U (.slice qa x.ln.length qc) x.ln) := c4w.below bU
        have d0 := AU.1 0 _ rfl
        have d1 := AU.1 1 _ rfl
        clear c1w c3w c2w c4w c0 hba hbel bU AU
        generalize wr.heap.size = D at *
        go_wp2_with fail
        go_loop [3, 6] (fun a i => ∃ (j : Nat) (S : ByteArray), j ≤ x.ag.length ∧ i = .int .i64 j ∧ a = .string S ∧ Hid (S.data.toList = T0 ++ (x.ag.take j).flatMap agLn)) (fun _ i => x.ag.length - (intOf i).toNat)
        case atStart => exact ⟨0, S, Nat.zero_le _, rfl, rfl, by show _ = _; rw [HS.out]; simp⟩
        case round =>
          obtain ⟨j, S2, hj, rfl, rfl, HS2⟩ := hrel
          clear HS
          by_cases hjl : j < x.ag.length
          · have hji : (j : Int) < x.ag.length := by omega
            have hs2 : S2.size ≤ 13631488 := by rw [text_size HS2.out]; exact HPA.out j hj
            have hx := HAZ.out j hjl
            have HNX : Hid ((x.ag.take (j + 1)).flatMap agLn = (x.ag.take j).flatMap agLn ++ agLn (x.ag.getD j ByteArray.empty)) := flat_next agLn ByteArray.empty x.ag hjl
            obtain ⟨g', off', cc, hv, ca⟩ : ∃ g' off' cc, Value.slice pa x.ag.length pc = .slice (some ⟨g', off', none⟩) x.ag.length cc ∧ U.cell? ⟨g', off' + j, none⟩ = some (.string (x.ag.getD j ByteArray.empty)) := by
              rcases HSR.out with ⟨h, _⟩ | ⟨_, g', off', cc, h1, h2, h3⟩
              · rw [h] at hjl; simp at hjl
              · exact ⟨g', off', _, h1, h3 j hjl⟩
            cases hv
            generalize x.ag.getD j ByteArray.empty = y at *
            have h12 : (⟨#[117, 115, 101, 114, 45, 97, 103, 101, 110, 116, 58, 32]⟩ : ByteArray).size = 12 := rfl
            have h1 : (⟨#[10]⟩ : ByteArray).size = 1 := rfl
            have HN2 : Hid ((S2 ++ ⟨#[117, 115, 101, 114, 45, 97, 103, 101, 110, 116, 58, 32]⟩ ++ y ++ ⟨#[10]⟩).data.toList = T0 ++ (x.ag.take (j + 1)).flatMap agLn) := by
              show _ = _
              rw [text_app, text_app, text_app, HS2.out, HNX.out]
              unfold agLn agT
              simp [keyU]
            have z1 : (S2 ++ ⟨#[117, 115, 101, 114, 45, 97, 103, 101, 110, 116, 58, 32]⟩).size ≤ 20000000 := by rw [ByteArray.size_append, h12]; omega
            have z2 : (S2 ++ ⟨#[117, 115, 101, 114, 45, 97, 103, 101, 110, 116, 58, 32]⟩ ++ y).size ≤ 30000000 := by rw [ByteArray.size_append, ByteArray.size_append, h12]; omega
            clear HS2 HNX
            go_wp2_with fail
            go_round
            case rel => exact ⟨j + 1, _, by omega, by go_num, rfl, HN2⟩
            case measure => simp [intOf] <;> omega
          · have hji : ¬ (j : Int) < x.ag.length := by omega
            have HSA : Hid (S2.data.toList = T0 ++ x.ag.flatMap agLn) := by
              have := HS2.out
              rwa [show j = x.ag.length by omega, List.take_length] at this
            clear HS2
            go_wp2_with fail
            go_loop [3, 7] (fun a i => ∃ (j : Nat) (S : ByteArray), j ≤ x.ln.length ∧ i = .int .i64 j ∧ a = .string S ∧ Hid (S.data.toList = T0 ++ x.ag.flatMap agLn ++ (x.ln.take j).flatMap lnLn)) (fun _ i => x.ln.length - (intOf i).toNat)
            case atStart => exact ⟨0, S2, Nat.zero_le _, rfl, rfl, by show _ = _; rw [HSA.out]; simp⟩
            case round =>
              obtain ⟨j, S3, hj, rfl, rfl, HS3⟩ := hrel
              clear HSA
              by_cases hjl : j < x.ln.length
              · have hji : (j : Int) < x.ln.length := by omega
                have hs3 : S3.size ≤ 13631488 := by rw [text_size HS3.out]; exact HPB.out j hj
                have hx := HLZ.out j hjl
                have HN : Hid ((x.ln.take (j + 1)).flatMap lnLn = (x.ln.take j).flatMap lnLn ++ lnLn (x.ln.getD j lv0)) := flat_next lnLn lv0 x.ln hjl
                obtain ⟨g', off', cc, hv, e1w, e2w⟩ : ∃ g' off' cc, Value.slice qa x.ln.length qc = .slice (some ⟨g', off', none⟩) x.ln.length cc ∧ U.cell? ⟨g', off' + j * 2, none⟩ = some (.bool (x.ln.getD j lv0).al) ∧ U.cell? ⟨g', off' + j * 2 + 1, none⟩ = some (.string (x.ln.getD j lv0).pa) := by
                  rcases HLR.out with ⟨h, _⟩ | ⟨_, g', off', cc, h1, h2, h3⟩
                  · rw [h] at hjl; simp at hjl
                  · exact ⟨g', off', _, h1, (h3 j hjl).1, (h3 j hjl).2⟩
                cases hv
                generalize x.ln.getD j lv0 = y at *
                have h7 : (⟨#[97, 108, 108, 111, 119, 58, 32]⟩ : ByteArray).size = 7 := rfl
                have h10 : (⟨#[100, 105, 115, 97, 108, 108, 111, 119, 58, 32]⟩ : ByteArray).size = 10 := rfl
                have h1 : (⟨#[10]⟩ : ByteArray).size = 1 := rfl
                cases hal : y.al with
                | true =>
                  have HN2 : Hid ((S3 ++ ⟨#[97, 108, 108, 111, 119, 58, 32]⟩ ++ y.pa ++ ⟨#[10]⟩).data.toList = T0 ++ x.ag.flatMap agLn ++ (x.ln.take (j + 1)).flatMap lnLn) := by
                    show _ = _
                    rw [text_app, text_app, text_app, HS3.out, HN.out]
                    unfold lnLn lnT
                    rw [if_pos hal]
                    simp [keyA]
                  have z1 : (S3 ++ ⟨#[97, 108, 108, 111, 119, 58, 32]⟩).size ≤ 20000000 := by rw [ByteArray.size_append, h7]; omega
                  have z2 : (S3 ++ ⟨#[97, 108, 108, 111, 119, 58, 32]⟩ ++ y.pa).size ≤ 30000000 := by rw [ByteArray.size_append, ByteArray.size_append, h7]; omega
                  rw [hal] at e1w
                  clear HS3 HN hal
                  go_wp2_with fail
                  go_round
                  case rel => exact ⟨j + 1, _, by omega, by go_num, rfl, HN2⟩
                  case measure => simp [intOf] <;> omega
                | false =>
                  have HN2 : Hid ((S3 ++ ⟨#[100, 105, 115, 97, 108, 108, 111, 119, 58, 32]⟩ ++ y.pa ++ ⟨#[10]⟩).data.toList = T0 ++ x.ag.flatMap agLn ++ (x.ln.take (j + 1)).flatMap lnLn) := by
                    show _ = _
                    rw [text_app, text_app, text_app, HS3.out, HN.out]
                    unfold lnLn lnT
                    rw [if_neg (by rw [hal]; decide)]
                    simp [keyD]
                  have z1 : (S3 ++ ⟨#[100, 105, 115, 97, 108, 108, 111, 119, 58, 32]⟩).size ≤ 20000000 := by rw [ByteArray.size_append, h10]; omega
                  have z2 : (S3 ++ ⟨#[100, 105, 115, 97, 108, 108, 111, 119, 58, 32]⟩ ++ y.pa).size ≤ 30000000 := by rw [ByteArray.size_append, ByteArray.size_append, h10]; omega
                  rw [hal] at e1w
                  clear HS3 HN hal
                  go_wp2_with fail
                  go_round
                  case rel => exact ⟨j + 1, _, by omega, by go_num, rfl, HN2⟩
                  case measure => simp [intOf] <;> omega
              · have hji : ¬ (j : Int) < x.ln.length := by omega
                have HN : Hid (S3.data.toList = List.flatMap partT (List.take (k + 1) l)) := by
                  show _ = _
                  rw [HT1.out, HS3.out, show j = x.ln.length by omega, List.take_length]
                  unfold partT
                  simp
                clear HS3
                go_wp2_with fail
                go_roundw
                case rel => exact ⟨k + 1, _, by omega, by go_num, rfl, HN, BO⟩
                case measure => simp [intOf] <;> omega
      · have hki : ¬ (k : Int) < l.length := by omega
        have HF : Hid (S.data.toList = l.flatMap partT) := by
          have := HS.out
          rwa [show k = l.length by omega, List.take_length] at this
        clear HS
        go_wp2_with fail
        go_ret
        exact ⟨ret_txt HF.out, hbO.trans (hbel.mono hbO.size)⟩
end Go.Proofs.Ytjdnemjcjodboaa
