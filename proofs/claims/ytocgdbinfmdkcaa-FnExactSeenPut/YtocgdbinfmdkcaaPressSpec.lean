/- The contracts of the specification's SeenAll, l15Copy and SeenPress. -/
import Derived.Test.YtocgdbinfmdkcaaRows
import Derived.Test.YtocgdbinfmdkcaaMrgSpec
import Derived.Test.YtocgdbinfmdkcaaSeenOkS2
import Derived.Test.YtocgdbinfmdkcaaPressPlain
import Derived.Test.YtocgdbinfmdkcaaAppAt
namespace Go.Proofs.Ytocgdbinfmdkcaa
open Go.RowKit
set_option linter.unusedVariables false
set_option linter.unusedSimpArgs false

set_option maxRecDepth 100000 in
set_option maxHeartbeats 4000000 in
theorem specSeenAll (m : List EV) (ll : List (List EV)) (p q : Value) (w : World) (hn : ll.length ≤ 1000000) (ht : (m ++ ll.flatten).length ≤ 262144) (sm : Asc m) (sl : ∀ i, i < ll.length → Asc (ll.getD i [])) (hp : EntRow w p m) (hq : RunRow w q ll) :
    Calls Try.prog 54 #[.agg #[p, q]] w fun e w' => ∃ v', e = .returned v' ∧ w'.ownsRow w.heap.size 35 2 v' (canon (m ++ ll.flatten)).length (ecells (canon (m ++ ll.flatten))) ∧ Below w.heap.size w w' := by
  obtain ⟨O, hO⟩ : ∃ O, O = w.alloc (.cells #[p, q] 27) := ⟨_, rfl⟩
  have bO : Below w.heap.size w O := by rw [hO]; exact (Below.refl _ _).alloc (Nat.le_refl _) _
  have AO : BAt O w.heap.size [p, q] := by rw [hO]; exact BAt.new w #[p, q] _
  have hfl : ∀ k, k ≤ ll.length → (m ++ (ll.take k).flatten).length ≤ (m ++ ll.flatten).length := fun k hk => by
    rw [List.length_append, List.length_append]
    have h1 : ll.flatten = (ll.take k).flatten ++ (ll.drop k).flatten := by rw [← List.flatten_append, List.take_append_drop]
    rw [h1, List.length_append]
    omega
  have HB : Hid (∀ W, Below O.heap.size O W → Below w.heap.size w W ∧ W.cell? ⟨w.heap.size, 1, none⟩ = some q) := fun W hW => ⟨bO.trans (hW.mono bO.size), (AO.below hW).1 1 _ rfl⟩
  have HFL := hidM hfl
  have HSL := hidM sl
  have HP := hidM (hp.below ((bO.alloc bO.size (.cells #[] 35)))).crow
  have HSM := hidM (canon_id sm)
  have HQ := hidM hq
  obtain ⟨pa, pc, hpe⟩ := hp.slice
  obtain ⟨qa, qc, hqe⟩ := hq.slice
  subst hpe hqe
  have c0 := (AO.alloc (.cells #[] 35)).1 0 _ rfl
  clear hp hq sm sl hfl AO
  have OW0 : Hid ((O.alloc (.cells #[] 35)).ownsRow O.heap.size 35 2 (.slice (some ⟨O.heap.size, 0, none⟩) 0 0) 0 []) := hidM (World.ownsRow_lit O #[] 0 (Nat.le_refl _) (Nat.zero_le _) rfl)
  have BW0 : Below O.heap.size O (O.alloc (.cells #[] 35)) := (Below.refl _ _).alloc (Nat.le_refl _) _
  have hml : m.length ≤ 262144 := by rw [List.length_append] at ht; omega
  go_enter Try.func54, Try.ntmps54
  go_upto_region 1 with fail
  rw [← hO]
  clear hO
  go_wp2_with (at_builtin; refine wpList_append_crow rfl _ _ 24 rfl O.heap.size 35 (.agg #[.string ⟨#[]⟩, .int .i64 0]) 2 24 Try.underlying24 Try.infoMk rfl (by decide) _ 0 [] rfl OW0.out _ m.length (ecells m) rfl HP.out (by omega) (by unfold maxLen; omega) BW0.size ?_)
  intro v1 w1 o1 g1 _
  have B1 : Below O.heap.size O w1 := BW0.grown g1 BW0.size (fun b hb => (OW0.out.lt b hb).1)
  have O1 : Hid (w1.ownsRow O.heap.size 35 2 v1 (canon m).length (ecells (canon m))) := hidM (by rw [HSM.out]; simpa using o1)
  clear o1 g1 OW0 BW0 HP c0
  go_wp2
  go_loopw [3, 4] (fun s i wr => ∃ k : Nat, k ≤ ll.length ∧ i = .int .i64 k ∧ Hid (wr.ownsRow O.heap.size 35 2 s (canon (m ++ (ll.take k).flatten)).length (ecells (canon (m ++ (ll.take k).flatten)))) ∧ Below O.heap.size O wr) (fun _ i _ => ll.length - (intOf i).toNat)
  case atStart => exact ⟨0, Nat.zero_le _, rfl, hidM (by have := O1.out; simpa using this), B1⟩
  case round =>
    clear O1 B1
    obtain ⟨k, hk, rfl, HO, hbO⟩ := hrel
    obtain ⟨hbel, c1⟩ := HB.out _ hbO
    by_cases hlt : k < ll.length
    · have hki : (k : Int) < ll.length := by omega
      rcases HQ.out with ⟨h0, _⟩ | ⟨h0, g, off, cap, hv, hg, hc⟩
      · exact absurd hlt (by rw [h0]; exact Nat.not_lt_zero _)
      · injection hv with hv1 hv2 hv3
        subst hv1 hv3
        obtain ⟨x, d1, d2⟩ := hc k hlt
        have d1w := (hbel.cell (p := ⟨g, off + k, none⟩) hg).trans d1
        have hcl := canon_len (m ++ (ll.take k).flatten)
        have hf1 := HFL.out k hk
        have hf2 := HFL.out (k + 1) (by omega)
        have htk : (ll.take (k + 1)).flatten = (ll.take k).flatten ++ ll.getD k [] := by
          rw [List.take_succ_eq_append_getElem hlt, List.flatten_append, List.getD_eq_getElem?_getD, List.getElem?_eq_getElem hlt]
          simp
        have hxl : (ll.getD k []).length ≤ 262144 := by
          rw [htk, ← List.append_assoc, List.length_append] at hf2
          omega
        have CM : Hid (Calls Try.prog 58 #[u3, x] wr fun e w' => ∃ v', e = .returned v' ∧ w'.ownsRow wr.heap.size 35 2 v' (canon (m ++ (ll.take (k + 1)).flatten)).length (ecells (canon (m ++ (ll.take (k + 1)).flatten))) ∧ Below wr.heap.size wr w') := hidM (by
          have := specMerge (canon (m ++ (ll.take k).flatten)) (ll.getD k []) u3 x wr (by omega) (canon_asc _) (HSL.out k hlt) (EntRow.of_own' HO.out) (d2.below hbel)
          rw [canon_canon, List.append_assoc, ← htk] at this
          exact this)
        obtain ⟨xa, xc, hxe⟩ := d2.slice
        clear d1 d2 hc hcl hf1 hf2 htk HO hv2
        generalize (ll.getD k []).length = XN at *
        subst hxe
        go_wp2_with fail
        refine CM.out.mono ?_
        rintro e w2 ⟨v2, rfl, o2, b2⟩
        have O2 := hidM (own_wide1 o2 hbO.size)
        have B2 := hbO.trans (b2.mono hbO.size)
        clear o2 b2 CM c1 d1w
        go_wp2_with fail
        go_roundw
        case rel => exact ⟨k + 1, by omega, by go_num, O2, B2⟩
        case measure => simp [intOf]; omega
    · have hki : ¬ (k : Int) < ll.length := by omega
      have HO2 : Hid (wr.ownsRow w.heap.size 35 2 u3 (canon (m ++ ll.flatten)).length (ecells (canon (m ++ ll.flatten)))) := hidM (by
        have := HO.out
        rw [show k = ll.length by omega, List.take_length] at this
        exact own_wide1 this bO.size)
      clear HO
      go_wp2_with fail
      go_ret
      exact ⟨_, rfl, HO2.out, hbel⟩
end Go.Proofs.Ytocgdbinfmdkcaa
