/- Contracts of the specification's PriorityText and SitemapText. -/
import Derived.Test.YtfdgehlobbeomaaDoorRows
import Derived.Test.YtfdgehlobbeomaaDoorMapText
import Derived.Test.YtfdgehlobbeomaaDoorPrioSpec
import Derived.Test.YtfdgehlobbeomaaDoorXmlSpec1
import Derived.Test.YtfdgehlobbeomaaDoorBlockAt
import Derived.Test.YtfdgehlobbeomaaDoorEntSz
import Derived.Deep.RegionHeld3
namespace Go.Proofs.YtfdgehlobbeomaaDoor
open Go.RowKit
set_option linter.unusedVariables false
set_option linter.unusedSimpArgs false

theorem hidU {p : Prop} (h : p) : Hid p := h
theorem app_data14 (a b : ByteArray) : (a ++ b).data.toList = a.data.toList ++ b.data.toList := by simp
/-- What is written of one entry, name by name. -/
def entV (b : Bool) (e : EV) : ByteArray := ⟨(entT b e).toArray⟩
theorem flat_next13 {α β : Type} (f : α → List β) (d : α) (l : List α) {k : Nat} (h : k < l.length) : (l.take (k + 1)).flatMap f = (l.take k).flatMap f ++ f (l.getD k d) := by
  rw [List.take_add_one, List.getElem?_eq_getElem h, List.flatMap_append, List.getD_eq_getElem?_getD, List.getElem?_eq_getElem h]
  simp
theorem entT_len (b : Bool) (e : EV) : (entT b e).length ≤ 6 * e.s.size + 70 := by
  have h1 := esc_len e.s.data.toList
  have h2 : e.s.data.toList.length = e.s.size := by simp
  have h3 : (prioT e.k).length ≤ 5 := prioV_size e.k
  have h4 : (entN b).length ≤ 7 := by cases b <;> decide
  unfold entT
  simp only [List.length_cons, List.length_append, List.length_nil, show nLoc.length = 3 from rfl, show nPrio.length = 8 from rfl]
  omega
theorem ents_len (b : Bool) : ∀ (l : List EV) (k : Nat), k ≤ l.length → ((l.take k).flatMap (entT b)).length ≤ 6 * psum (fun i => (l.getD i ev0).s.size) k + 70 * k
  | l, 0, _ => by simp
  | l, k + 1, h => by
    rw [flat_next13 (entT b) ev0 l (by omega), List.length_append]
    have h1 := ents_len b l k (by omega)
    have h2 := entT_len b (l.getD k ev0)
    show _ ≤ 6 * (psum _ k + (l.getD k ev0).s.size) + _
    omega
def nmV (b : Bool) : ByteArray := ⟨(entN b).toArray⟩
def rtV (b : Bool) : ByteArray := ⟨(rootN b).toArray⟩
set_option maxRecDepth 100000 in
set_option maxHeartbeats 4000000 in
theorem specSitemapText (b : Bool) (l : List EV) (v : Value) (w : World) (hN : sumEn l ≤ 1048576) (h : EntRow w v l) :
    Calls Tryd.prog 5 #[.agg #[.bool b, v]] w fun e w' => e = .returned (.string ⟨(mapT b l).toArray⟩) ∧ Below w.heap.size w w' := by
  obtain ⟨O, hO⟩ : ∃ O, O = w.alloc (.cells #[.bool b, v] 29) := ⟨_, rfl⟩
  have hbO : Below w.heap.size w O := by rw [hO]; exact (Below.refl _ _).alloc (Nat.le_refl _) _
  have AO : BAt O w.heap.size [.bool b, v] := by rw [hO]; exact BAt.new w #[.bool b, v] _
  obtain ⟨vo, vc, rfl⟩ := h.slice
  have HCells : Hid (∀ k, k < l.length → ∃ g off cc, Value.slice vo l.length vc = .slice (some ⟨g, off, none⟩) l.length cc ∧ ∀ W, Below w.heap.size w W → W.cell? ⟨g, off + k * 2, none⟩ = some (.string (l.getD k ev0).s) ∧ W.cell? ⟨g, off + k * 2 + 1, none⟩ = some (.int .i64 (l.getD k ev0).k)) := fun k hk => by
    rcases h with ⟨h, _⟩ | ⟨_, g, off, cc, h1, h2, h3⟩
    · rw [h] at hk; cases hk
    · refine ⟨g, off, _, h1, fun W hW => ?_⟩
      obtain ⟨e1, e2⟩ := h3 k hk
      exact ⟨(hW.cell (p := ⟨g, off + k * 2, none⟩) h2).trans e1, (hW.cell (p := ⟨g, off + k * 2 + 1, none⟩) h2).trans e2⟩
  have HLen : Hid (∀ k, k ≤ l.length → ((l.take k).flatMap (entT b)).length ≤ 80000000) := fun k hk => by
    have h1 := ents_len b l k hk
    have h2 := psum_le (fun i => (l.getD i ev0).s.size) hk
    unfold sumEn at hN
    omega
  have HSz : Hid (∀ k, k < l.length → (l.getD k ev0).s.size ≤ 1048576) := fun k hk => by
    have := psum_at (fun i => (l.getD i ev0).s.size) hk
    unfold sumEn at hN
    omega
  have hll : l.length ≤ 1048576 := by unfold sumEn at hN; omega
  clear h hN
  have HNm : Hid ((nmV b).data.toList = entN b ∧ (rtV b).data.toList = rootN b) := ⟨rfl, rfl⟩
  have hn1 : (nmV b).size ≤ 7 := by cases b <;> decide
  have hn2 : (rtV b).size ≤ 12 := by cases b <;> decide
  go_enter Tryd.func5, Tryd.ntmps5
  go_upto_region 1 with fail
  rw [← hO]
  clear hO
  have c0 := AO.1 0 _ rfl
  go_upto_if 9 with fail
  go_cut [3, 4] (fun r n wx => r = .string (rtV b) ∧ n = .string (nmV b) ∧ wx = O)
  case first =>
    clear HCells HLen HSz HNm
    cases b with
    | true =>
      go_wp2_with fail
      go_meet
      exact ⟨rfl, rfl, rfl⟩
    | false =>
      go_wp2_with fail
      go_meet
      exact ⟨rfl, rfl, rfl⟩
  case rest =>
    obtain ⟨rfl, rfl, hw⟩ := hcut
    obtain rfl := hw
    generalize wc = O at *
    have AO' := hidU AO
    have hzO := AO.2.2
    clear c0 AO
    obtain ⟨nm, hnm⟩ : ∃ x, nmV b = x := ⟨_, rfl⟩
    obtain ⟨rt, hrt⟩ : ∃ x, rtV b = x := ⟨_, rfl⟩
    rw [hnm, hrt] at HNm
    rw [hnm] at hn1
    rw [hrt] at hn2
    simp only [hnm, hrt]
    clear hnm hrt
    go_wp2_with fail
    go_loopw [5, 6] (fun a i wr => ∃ (k : Nat) (S : ByteArray), k ≤ l.length ∧ i = .int .i64 k ∧ a = .string S ∧ Hid (S.data.toList = 60 :: (rootN b ++ [62]) ++ (l.take k).flatMap (entT b)) ∧ Below O.heap.size O wr) (fun _ i _ => l.length - (intOf i).toNat)
    case atStart => exact ⟨0, _, Nat.zero_le _, rfl, rfl, (by show _ = _; rw [app_data14, app_data14, HNm.out.2]; simp), Below.refl _ _⟩
    case round =>
      obtain ⟨k, S, hk, rfl, rfl, HS, hbel⟩ := hrel
      have c1 := (AO'.out.below hbel).1 1 _ rfl
      have hSs : S.size ≤ 80000020 := by
        have h1 : S.data.toList.length = S.size := by simp
        have h2 := HLen.out k hk
        have h3 := congrArg List.length HS.out
        have h4 : rt.data.toList.length = rt.size := by simp
        rw [HNm.out.2] at h4
        rw [List.length_append, List.length_cons, List.length_append, List.length_singleton] at h3
        omega
      by_cases hlt : k < l.length
      · have hki : (k : Int) < l.length := by omega
        obtain ⟨g, off, cc, hv, hc⟩ := HCells.out k hlt
        have hba := hbO.trans (hbel.mono hbO.size)
        obtain ⟨q1, q2⟩ := hc wr hba
        have hx := HSz.out k hlt
        have HT1 : Hid ((l.take (k + 1)).flatMap (entT b) = (l.take k).flatMap (entT b) ++ entT b (l.getD k ev0)) := flat_next13 (entT b) ev0 l hlt
        generalize l.getD k ev0 = x at *
        rw [hv] at c1
        clear hc hv
        have CE : Hid (∀ W, Calls Tryd.prog 10 #[.string x.s] W fun e w' => e = .returned (.string ⟨(escL x.s.data.toList).toArray⟩) ∧ Below W.heap.size W w') := fun W => specEscape x.s W (by omega)
        have CP : Hid (∀ W, Calls Tryd.prog 11 #[.int .i64 x.k] W fun e w' => e = .returned (.string (prioV x.k)) ∧ Below W.heap.size W w') := fun W => specPriorityText x.k W
        obtain ⟨E, hE⟩ : ∃ E : ByteArray, (⟨(escL x.s.data.toList).toArray⟩ : ByteArray) = E := ⟨_, rfl⟩
        have hEd : E.data.toList = escL x.s.data.toList := by rw [← hE]
        have hEs : E.size ≤ 6291456 := by
          have h1 := esc_len x.s.data.toList
          have h2 : x.s.data.toList.length = x.s.size := by simp
          have h3 : E.size = E.data.toList.length := by simp
          rw [h3, hEd]
          omega
        obtain ⟨P, hP⟩ : ∃ P, prioV x.k = P := ⟨_, rfl⟩
        have hPd : P.data.toList = prioT x.k := by rw [← hP]; rfl
        have hPs : P.size ≤ 5 := by rw [← hP]; exact prioV_size _
        rw [hE] at CE
        rw [hP] at CP
        have HN2 : Hid ((S ++ ⟨#[60]⟩ ++ nm ++ ⟨#[62, 60, 108, 111, 99, 62]⟩ ++ E ++ ⟨#[60, 47, 108, 111, 99, 62, 60, 112, 114, 105, 111, 114, 105, 116, 121, 62]⟩ ++ P ++ ⟨#[60, 47, 112, 114, 105, 111, 114, 105, 116, 121, 62, 60, 47]⟩ ++ nm ++ ⟨#[62]⟩ : ByteArray).data.toList = 60 :: (rootN b ++ [62]) ++ (l.take (k + 1)).flatMap (entT b)) := by
          show _ = _
          rw [HT1.out, ← List.append_assoc, ← HS.out]
          simp only [app_data14, HNm.out.1, hEd, hPd]
          unfold entT nLoc nPrio
          simp
        clear hE hEd hP hPd HT1 HS
        obtain ⟨U, hU⟩ : ∃ U, U = wr.alloc (.cells #[.string x.s, .int .i64 x.k] 35) := ⟨_, rfl⟩
        have bU : Below wr.heap.size wr U := by rw [hU]; exact (Below.refl _ _).alloc (Nat.le_refl _) _
        have AU : BAt U wr.heap.size [.string x.s, .int .i64 x.k] := by rw [hU]; exact BAt.new wr #[.string x.s, .int .i64 x.k] _
        have BU : Below O.heap.size O U := hbel.trans (bU.mono hbel.size)
        go_upto_region 11 with fail
        rw [← hU]
        clear hU c1 q1 q2 bU hbel hba
        generalize wr.heap.size = D at *
        refine wp_region_held_drew (S := fun W => BAt W D [.string x.s, .int .i64 x.k] ∧ Below O.heap.size O W) (by kernel_rfl) ⟨AU, BU.drew⟩ (fun h0 => ?_)
        clear AU BU
        refine wpAnyH_take (i := 0) (v := ?_) rfl (by kernel_rfl) (by kernel_rfl) (by kernel_rfl) (fun _ _ _ h => h) (Or.inl ⟨by rfl, fun W hW => ?_⟩) h0 ?_
        rotate_left
        · clear hW
          go_simp
          try with_reducible rfl
        simp only [Act.put, List.getElem_toArray, List.getElem_cons_zero, List.getElem_cons_succ, List.setIfInBounds_toArray, List.set_cons_zero, List.set_cons_succ]
        refine wpAnyH_take (i := 1) (v := ?_) rfl (by kernel_rfl) (by kernel_rfl) (by kernel_rfl) (fun _ _ _ h => h) (Or.inl ⟨by rfl, fun W hW => ?_⟩) h0 ?_
        rotate_left
        · clear hW
          go_simp
          rw [if_neg (by omega)]
        simp only [Act.put, List.getElem_toArray, List.getElem_cons_zero, List.getElem_cons_succ, List.setIfInBounds_toArray, List.set_cons_zero, List.set_cons_succ]
        refine wpAnyH_take (i := 2) (v := ?_) rfl (by kernel_rfl) (by kernel_rfl) (by kernel_rfl) (fun _ _ _ h => h) (Or.inl ⟨by rfl, fun W hW => ?_⟩) h0 ?_
        rotate_left
        · clear hW
          go_simp
          try with_reducible rfl
        simp only [Act.put, List.getElem_toArray, List.getElem_cons_zero, List.getElem_cons_succ, List.setIfInBounds_toArray, List.set_cons_zero, List.set_cons_succ]
        refine wpAnyH_take (i := 3) (v := ?_) rfl (by kernel_rfl) (by kernel_rfl) (by kernel_rfl) (fun _ _ _ h => h) (Or.inl ⟨by rfl, fun W hW => ?_⟩) h0 ?_
        rotate_left
        · clear hW
          go_simp
          rw [if_neg (by omega)]
        simp only [Act.put, List.getElem_toArray, List.getElem_cons_zero, List.getElem_cons_succ, List.setIfInBounds_toArray, List.set_cons_zero, List.set_cons_succ]
        refine wpAnyH_take (i := 4) (v := ?_) rfl (by kernel_rfl) (by kernel_rfl) (by kernel_rfl) (fun _ _ _ h => h) (Or.inl ⟨by rfl, fun W hW => ?_⟩) h0 ?_
        rotate_left
        · clear hW
          go_simp
          rw [if_neg (by omega)]
        simp only [Act.put, List.getElem_toArray, List.getElem_cons_zero, List.getElem_cons_succ, List.setIfInBounds_toArray, List.set_cons_zero, List.set_cons_succ]
        refine wpAnyH_take (i := 5) (v := ?_) rfl (by kernel_rfl) (by kernel_rfl) (by kernel_rfl) (fun _ _ _ h => h) (Or.inl ⟨by rfl, fun W hW => ?_⟩) h0 ?_
        rotate_left
        · clear hW
          go_simp
          try with_reducible rfl
        simp only [Act.put, List.getElem_toArray, List.getElem_cons_zero, List.getElem_cons_succ, List.setIfInBounds_toArray, List.set_cons_zero, List.set_cons_succ]
        refine wpAnyH_take (i := 6) (v := (.string x.s)) rfl (by kernel_rfl) (by kernel_rfl) (by kernel_rfl) (fun _ _ _ h => h) (Or.inl ⟨by rfl, fun W hW => ?_⟩) h0 ?_
        · have q1 := hW.1.1 0 _ rfl
          go_simp
        simp only [Act.put, List.getElem_toArray, List.getElem_cons_zero, List.getElem_cons_succ, List.setIfInBounds_toArray, List.set_cons_zero, List.set_cons_succ]
        refine wpAnyH_take (i := 10) (v := ?_) rfl (by kernel_rfl) (by kernel_rfl) (by kernel_rfl) (fun _ _ _ h => h) (Or.inl ⟨by rfl, fun W hW => ?_⟩) h0 ?_
        rotate_left
        · clear hW
          go_simp
          try with_reducible rfl
        simp only [Act.put, List.getElem_toArray, List.getElem_cons_zero, List.getElem_cons_succ, List.setIfInBounds_toArray, List.set_cons_zero, List.set_cons_succ]
        refine wpAnyH_take (i := 11) (v := (.int .i64 x.k)) rfl (by kernel_rfl) (by kernel_rfl) (by kernel_rfl) (fun _ _ _ h => h) (Or.inl ⟨by rfl, fun W hW => ?_⟩) h0 ?_
        · have q1 := hW.1.1 1 _ rfl
          go_simp
        simp only [Act.put, List.getElem_toArray, List.getElem_cons_zero, List.getElem_cons_succ, List.setIfInBounds_toArray, List.set_cons_zero, List.set_cons_succ]
        refine wpAnyH_take (i := 15) (v := ?_) rfl (by kernel_rfl) (by kernel_rfl) (by kernel_rfl) (fun _ _ _ h => h) (Or.inl ⟨by rfl, fun W hW => ?_⟩) h0 ?_
        rotate_left
        · clear hW
          go_simp
          try with_reducible rfl
        simp only [Act.put, List.getElem_toArray, List.getElem_cons_zero, List.getElem_cons_succ, List.setIfInBounds_toArray, List.set_cons_zero, List.set_cons_succ]
        refine wpAnyH_ready (rs := [7]) (by kernel_rfl) (by simp) (AllReadyH.cons rfl (fun K hK => ?_) AllReadyH.nil)
        go_simp
        go_wp2_with (go_at_call 10; refine (CE.out _).mono ?_; rintro e w1 ⟨rfl, bq⟩)
        refine hK.out _ _ ⟨h0.1.below bq, h0.2.trans (bq.mono h0.2.size)⟩ (fun h1 => ?_)
        clear hK K bq h0
        refine wpAnyH_take (i := 8) (v := ?_) rfl (by kernel_rfl) (by kernel_rfl) (by kernel_rfl) (fun _ _ _ h => h) (Or.inl ⟨by rfl, fun W hW => ?_⟩) h1 ?_
        rotate_left
        · clear hW
          go_simp
          rw [if_neg (by omega)]
        simp only [Act.put, List.getElem_toArray, List.getElem_cons_zero, List.getElem_cons_succ, List.setIfInBounds_toArray, List.set_cons_zero, List.set_cons_succ]
        refine wpAnyH_take (i := 9) (v := ?_) rfl (by kernel_rfl) (by kernel_rfl) (by kernel_rfl) (fun _ _ _ h => h) (Or.inl ⟨by rfl, fun W hW => ?_⟩) h1 ?_
        rotate_left
        · clear hW
          go_simp
          rw [if_neg (by omega)]
        simp only [Act.put, List.getElem_toArray, List.getElem_cons_zero, List.getElem_cons_succ, List.setIfInBounds_toArray, List.set_cons_zero, List.set_cons_succ]
        refine wpAnyH_ready (rs := [12]) (by kernel_rfl) (by simp) (AllReadyH.cons rfl (fun K hK => ?_) AllReadyH.nil)
        go_simp
        go_wp2_with (go_at_call 11; refine (CP.out _).mono ?_; rintro e w2 ⟨rfl, bq⟩)
        refine hK.out _ _ ⟨h1.1.below bq, h1.2.trans (bq.mono h1.2.size)⟩ (fun h2 => ?_)
        clear hK K bq h1
        refine wpAnyH_take (i := 13) (v := ?_) rfl (by kernel_rfl) (by kernel_rfl) (by kernel_rfl) (fun _ _ _ h => h) (Or.inl ⟨by rfl, fun W hW => ?_⟩) h2 ?_
        rotate_left
        · clear hW
          go_simp
          rw [if_neg (by omega)]
        simp only [Act.put, List.getElem_toArray, List.getElem_cons_zero, List.getElem_cons_succ, List.setIfInBounds_toArray, List.set_cons_zero, List.set_cons_succ]
        refine wpAnyH_take (i := 14) (v := ?_) rfl (by kernel_rfl) (by kernel_rfl) (by kernel_rfl) (fun _ _ _ h => h) (Or.inl ⟨by rfl, fun W hW => ?_⟩) h2 ?_
        rotate_left
        · clear hW
          go_simp
          rw [if_neg (by omega)]
        simp only [Act.put, List.getElem_toArray, List.getElem_cons_zero, List.getElem_cons_succ, List.setIfInBounds_toArray, List.set_cons_zero, List.set_cons_succ]
        refine wpAnyH_take (i := 16) (v := ?_) rfl (by kernel_rfl) (by kernel_rfl) (by kernel_rfl) (fun _ _ _ h => h) (Or.inl ⟨by rfl, fun W hW => ?_⟩) h2 ?_
        rotate_left
        · clear hW
          go_simp
          rw [if_neg (by omega)]
        simp only [Act.put, List.getElem_toArray, List.getElem_cons_zero, List.getElem_cons_succ, List.setIfInBounds_toArray, List.set_cons_zero, List.set_cons_succ]
        refine wpAnyH_take (i := 17) (v := ?_) rfl (by kernel_rfl) (by kernel_rfl) (by kernel_rfl) (fun _ _ _ h => h) (Or.inl ⟨by rfl, fun W hW => ?_⟩) h2 ?_
        rotate_left
        · clear hW
          go_simp
          rw [if_neg (by omega)]
        simp only [Act.put, List.getElem_toArray, List.getElem_cons_zero, List.getElem_cons_succ, List.setIfInBounds_toArray, List.set_cons_zero, List.set_cons_succ]
        refine wpAnyH_take (i := 18) (v := ?_) rfl (by kernel_rfl) (by kernel_rfl) (by kernel_rfl) (fun _ _ _ h => h) (Or.inl ⟨by rfl, fun W hW => ?_⟩) h2 ?_
        rotate_left
        · clear hW
          go_simp
          try with_reducible rfl
        simp only [Act.put, List.getElem_toArray, List.getElem_cons_zero, List.getElem_cons_succ, List.setIfInBounds_toArray, List.set_cons_zero, List.set_cons_succ]
        refine wpAnyH_done (by kernel_rfl) ?_ _
        go_wp2_with fail
        go_roundw
        case rel => exact ⟨k + 1, _, by omega, by go_num, rfl, HN2, h2.2⟩
        case measure => simp [intOf] <;> omega
      · have hki : ¬ (k : Int) < l.length := by omega
        have HF : Hid ((S ++ ⟨#[60, 47]⟩ ++ rt ++ ⟨#[62]⟩ : ByteArray) = ⟨(mapT b l).toArray⟩) := by
          show _ = _
          rw [← Lib.mk_data (S ++ ⟨#[60, 47]⟩ ++ rt ++ ⟨#[62]⟩)]
          congr 1
          rw [← Array.toList_inj]
          simp only [app_data14, HS.out, HNm.out.2, List.take_of_length_le (show l.length ≤ k by omega)]
          unfold mapT entsT
          simp
        have hba := hbO.trans (hbel.mono hbO.size)
        go_wp2_with fail
        go_ret
        exact ⟨by rw [← HF.out]; rfl, hba⟩
end Go.Proofs.YtfdgehlobbeomaaDoor
