/- The contract of the specification's l18All. -/
import Derived.Test.YtcjblhiihgdljaaGreatRows
import Derived.Test.YtcjblhiihgdljaaGreatSchKas
import Derived.Test.YtcjblhiihgdljaaGreatSchPure
import Derived.Test.YtcjblhiihgdljaaGreatSchCrow
import Derived.Test.YtcjblhiihgdljaaGreatAppAt
namespace Go.Proofs.YtcjblhiihgdljaaGreat
open Go.RowKit
set_option linter.unusedVariables false
set_option linter.unusedSimpArgs false

/-- A row of what waits that the call owns. -/
def WtR (w : World) (l : List WtV) (e : Ending) (w' : World) : Prop := ∃ ao cap, e = .returned (.slice ao l.length cap) ∧ w'.ownsRow w.heap.size 83 3 (.slice ao l.length cap) l.length (wtcells l) ∧ Below w.heap.size w w'
def lwV (x : LsV) : WtV := ⟨x.k, x.p, -1⟩
theorem allL_eq (si : List SiteV) (le : List LsV) : allL si le = waitL si ++ le.map lwV := rfl
theorem waitL_bound {M : Nat} : ∀ si : List SiteV, (∀ i, i < si.length → (si.getD i sitv0).w.length ≤ M) → (waitL si).length ≤ si.length * M
  | [], _ => by simp [waitL]
  | x :: si, h => by
    have h0 := h 0 (by simp)
    have h1 := waitL_bound si fun i hi => by have := h (i + 1) (by simp; omega); simpa using this
    rw [waitL_cons, List.length_append, List.length_cons, Nat.add_mul]
    simp at h0
    omega
set_option maxRecDepth 100000 in
set_option maxHeartbeats 16000000 in
theorem specL18All (d sp nw sq : Int) (si : List SiteV) (le : List LsV) (p q : Value) (w : World) (hw : (waitL si).length + le.length ≤ 1099511627776) (hn : si.length ≤ 1073741824) (hp : SitRow w p si) (hq : LsRow w q le) :
    Calls Tryz.prog 103 #[.agg #[.int .i64 d, .int .i64 sp, .int .i64 nw, .int .i64 sq, p, q]] w fun e w' => WtR w (allL si le) e w' := by
  obtain ⟨i0, hi, hi0, hi1, hi2⟩ := info_parts Tryz.infoWt
  obtain ⟨O, hO⟩ : ∃ O, O = (w.alloc (.cells #[.int .i64 d, .int .i64 sp, .int .i64 nw, .int .i64 sq, p, q] 27)).alloc (.cells #[] 83) := ⟨_, rfl⟩
  have bO : Below w.heap.size w O := by rw [hO]; exact ((Below.refl _ _).alloc (Nat.le_refl _) _).alloc (by simp) _
  have AO : Hid (BAt O w.heap.size [.int .i64 d, .int .i64 sp, .int .i64 nw, .int .i64 sq, p, q]) := hidM (by rw [hO]; exact (BAt.new w #[.int .i64 d, .int .i64 sp, .int .i64 nw, .int .i64 sq, p, q] _).alloc _)
  have HOz : Hid (O.heap.size = w.heap.size + 2) := hidM (by rw [hO]; simp)
  have HE0 : Hid (O.ownsRow (w.heap.size + 1) 83 3 (.slice (some ⟨w.heap.size + 1, 0, none⟩) 0 0) 0 (wtcells (waitL (si.take 0)))) := hidM (by
    rw [hO]
    have := World.ownsRow_made (e := 83) (size := 3) (base := w.heap.size + 1) (w.alloc (.cells #[.int .i64 d, .int .i64 sp, .int .i64 nw, .int .i64 sq, p, q] 27)) #[] 0 (by simp) (by decide) rfl
    rw [World.size_alloc] at this
    exact this)
  have HS := hidM hp
  have HL := hidM hq
  obtain ⟨pa, pc, rfl⟩ := hp.slice
  obtain ⟨qa, qc, rfl⟩ := hq.slice
  clear hp hq
  have HWT : Hid (∀ k, k < si.length → (waitL (si.take k)).length + (si.getD k sitv0).w.length ≤ 1099511627776) := fun k hk => by
    have h1 := waitL_take si hk
    have h2 := waitL_le si (k + 1)
    rw [h1, List.length_append] at h2
    omega
  go_enter Tryz.func103, Tryz.ntmps103
  go_upto_region 2 with fail
  rw [← hO]
  clear hO
  go_wp2_with fail
  go_loopw [3, 4] (fun rv i wr => ∃ (k : Nat) (ra : Option Addr) (rc N : Nat), k ≤ si.length ∧ i = .int .i64 k ∧ rv = .slice ra N rc ∧ Hid ((waitL (si.take k)).length = N) ∧ Hid (wr.ownsRow (w.heap.size + 1) 83 3 (.slice ra N rc) N (wtcells (waitL (si.take k)))) ∧ Below (w.heap.size + 1) O wr) (fun _ i _ => si.length - (intOf i).toNat)
  case atStart => exact ⟨0, _, _, 0, Nat.zero_le _, rfl, rfl, rfl, HE0, Below.refl _ _⟩
  case round =>
    clear HE0
    obtain ⟨k, ra, rc, N, hk, rfl, rfl, HN, HO, hbO⟩ := hrel
    have hbel : Below w.heap.size w wr := bO.trans (hbO.mono (by omega))
    have zO := HOz.out
    have zr := hbO.size
    have d4 : wr.cell? ⟨w.heap.size, 4, none⟩ = some (.slice pa si.length pc) := (hbO.cell (p := ⟨w.heap.size, 4, none⟩) (by show w.heap.size < _; omega)).trans (AO.out.1 4 _ rfl)
    by_cases hlt : k < si.length
    · have hki : (k : Int) < si.length := by omega
      rcases HS.out.cases with ⟨h0, _⟩ | ⟨_, g, off, cap, hpe, hg, hc⟩
      · rw [h0] at hlt; exact absurd hlt (Nat.not_lt_zero _)
      · injection hpe with e1 e2 e3
        subst e1
        obtain ⟨c0, c1, x, c2, c3⟩ := (hc k hlt).below hbel hg
        have HX := hidM c3.crow
        have hsum := HWT.out k hlt
        have HWK := hidM (waitL_take si hlt)
        have hNN := HN.out
        rw [hNN] at hsum
        obtain ⟨xa, xc, hxe⟩ := c3.slice
        have HTE : Hid (∀ (W : World) v, W.ownsRow (w.heap.size + 1) 83 3 v (N + (si.getD k sitv0).w.length) (wtcells (waitL (si.take k)) ++ wtcells (si.getD k sitv0).w) → W.ownsRow (w.heap.size + 1) 83 3 v (N + (si.getD k sitv0).w.length) (wtcells (waitL (si.take (k + 1))))) := fun W v h => by rw [HWK.out, wtcells_append]; exact h
        have HTN : Hid ((waitL (si.take (k + 1))).length = N + (si.getD k sitv0).w.length) := hidM (by rw [HWK.out, List.length_append, HN.out])
        clear hc c3 c0 c1 e2 e3 HWK hNN
        subst hxe
        generalize wtcells (si.getD k sitv0).w = XC at *
        generalize (si.getD k sitv0).w.length = XN at *
        go_wp2_with (at_builtin; refine wpList_append_crow rfl _ _ 41 rfl (w.heap.size + 1) 83 (.agg #[.string ⟨#[]⟩, .int .i64 0, .int .i64 0]) 3 32 Tryz.underlying41 Tryz.infoWt rfl (by decide) _ N _ rfl HO.out _ XN XC rfl HX.out (by omega) (by unfold maxLen; omega) (by omega) ?_)
        intro v' w1 o1 g1 _
        have B1 := hbO.grown g1 (by omega) (fun j hj => (HO.out.lt j hj).1)
        obtain ⟨ra', rc', rfl⟩ : ∃ a c, v' = .slice a (N + XN) c := by
          rcases o1.2 with ⟨h, h2⟩ | ⟨g, cap, cur, h, _⟩
          · exact ⟨none, 0, by rw [h, h2]⟩
          · exact ⟨_, _, h⟩
        have HO1 := hidM (HTE.out _ _ o1)
        clear o1 g1 HO HX HTE c2 d4
        go_wp2_with fail
        go_roundw
        case rel => exact ⟨k + 1, _, _, N + XN, by omega, by go_num, rfl, HTN, HO1, B1⟩
        case measure => simp [intOf]; omega
    · have hki : ¬ (k : Int) < si.length := by omega
      obtain rfl : k = si.length := by omega
      rw [List.take_length] at HN HO
      clear HWT
      have hN := HN.out
      rw [hN] at hw
      obtain ⟨PM, hPM⟩ : ∃ P : Nat → List WtV, P = fun m => waitL si ++ (le.take m).map lwV := ⟨_, rfl⟩
      have HP0 : Hid (PM 0 = waitL si) := hidM (by rw [hPM]; simp)
      have HPL : Hid (PM le.length = allL si le) := hidM (by rw [hPM, allL_eq]; simp)
      have HPS : Hid (∀ m, m < le.length → PM (m + 1) = PM m ++ [lwV (le.getD m lsv0)]) := fun m hm => by rw [hPM]; dsimp only; rw [ltake_succ _ hm, List.map_append, List.append_assoc]; rfl
      have HPN : Hid (∀ m, m ≤ le.length → (PM m).length = N + m) := fun m hm => by rw [hPM]; simp [hN]; omega
      clear hPM
      go_wp2_with fail
      go_loopw [3, 5] (fun rv i wr => ∃ (m : Nat) (ra : Option Addr) (rc : Nat), m ≤ le.length ∧ i = .int .i64 m ∧ rv = .slice ra (N + m) rc ∧ Hid (wr.ownsRow (w.heap.size + 1) 83 3 (.slice ra (N + m) rc) (N + m) (wtcells (PM m))) ∧ Below (w.heap.size + 1) O wr) (fun _ i _ => le.length - (intOf i).toNat)
      case atStart => exact ⟨0, _, _, Nat.zero_le _, rfl, rfl, hidM (by rw [HP0.out]; exact HO.out), hbO⟩
      case round =>
        clear HO hbO zr hbel d4 hki hlt hk
        obtain ⟨m, ra, rc, hm, rfl, rfl, HO, hbO⟩ := hrel
        have hbel : Below w.heap.size w wr := bO.trans (hbO.mono (by omega))
        have zr := hbO.size
        have d5 : wr.cell? ⟨w.heap.size, 5, none⟩ = some (.slice qa le.length qc) := (hbO.cell (p := ⟨w.heap.size, 5, none⟩) (by show w.heap.size < _; omega)).trans (AO.out.1 5 _ rfl)
        by_cases hlt : m < le.length
        · have hki : (m : Int) < le.length := by omega
          rcases HL.out with ⟨h0, _⟩ | ⟨_, g, off, cap, hpe, hg, hc⟩
          · rw [h0] at hlt; exact absurd hlt (Nat.not_lt_zero _)
          · injection hpe with e1 e2 e3
            subst e1
            obtain ⟨c0, c1, c2, c3⟩ := (hc m hlt).below bO hg
            have p0 := hidM c0
            have p2 := hidM c2
            have o5 := hidM (AO.out.1 5 _ rfl)
            have HPM := hidM (HPS.out m hlt)
            have HTE : Hid (∀ (W : World) v, W.ownsRow (w.heap.size + 1) 83 3 v (N + m + 1) (wtcells (PM m) ++ [.string (le.getD m lsv0).k, .int .i64 (le.getD m lsv0).p, .int .i64 (-1)]) → W.ownsRow (w.heap.size + 1) 83 3 v (N + (m + 1)) (wtcells (PM (m + 1)))) := fun W v h => by rw [HPM.out, wtcells_append, ← Nat.add_assoc]; exact h
            have HD : Hid (wr.drew.ownsRow (w.heap.size + 1) 83 3 (.slice ra (N + m) rc) (N + m) (wtcells (PM m))) := hidM (own_below HO.out (Below.refl _ wr).drew)
            clear hc c0 c1 c2 c3 e2 e3 HPM HO
            generalize (le.getD m lsv0).k = x0 at *
            generalize (le.getD m lsv0).p = x2 at *
            generalize wtcells (PM m) = PC at *
            go_upto_region 9 with fail
            clear d5
            refine wp_region_held_drew (S := fun W => Below (w.heap.size + 1) O W) (by kernel_rfl) hbO.drew (fun h0 => ?_)
            refine wpAnyH_take (i := 0) (v := ?_) rfl (by kernel_rfl) (by kernel_rfl) (by kernel_rfl) (fun _ _ _ h => h) (Or.inl ⟨by rfl, fun W hW => ?_⟩) h0 ?_
            rotate_left
            · have q0 := (hW.cell (p := ⟨w.heap.size, 5, none⟩) (by show w.heap.size < _; omega)).trans o5.out
              have q1 := (hW.cell (p := ⟨g, off + m * 4, none⟩) (by show g < _; omega)).trans p0.out
              have q2 := (hW.cell (p := ⟨g, off + m * 4 + 2, none⟩) (by show g < _; omega)).trans p2.out
              clear hW
              go_simp
              try with_reducible rfl
            simp only [Act.put, List.getElem_toArray, List.getElem_cons_zero, List.getElem_cons_succ, List.setIfInBounds_toArray, List.set_cons_zero, List.set_cons_succ]
            refine wpAnyH_take (i := 1) (v := ?_) rfl (by kernel_rfl) (by kernel_rfl) (by kernel_rfl) (fun _ _ _ h => h) (Or.inl ⟨by rfl, fun W hW => ?_⟩) h0 ?_
            rotate_left
            · have q0 := (hW.cell (p := ⟨w.heap.size, 5, none⟩) (by show w.heap.size < _; omega)).trans o5.out
              have q1 := (hW.cell (p := ⟨g, off + m * 4, none⟩) (by show g < _; omega)).trans p0.out
              have q2 := (hW.cell (p := ⟨g, off + m * 4 + 2, none⟩) (by show g < _; omega)).trans p2.out
              clear hW
              go_simp
              try with_reducible rfl
            simp only [Act.put, List.getElem_toArray, List.getElem_cons_zero, List.getElem_cons_succ, List.setIfInBounds_toArray, List.set_cons_zero, List.set_cons_succ]
            refine wpAnyH_take (i := 2) (v := ?_) rfl (by kernel_rfl) (by kernel_rfl) (by kernel_rfl) (fun _ _ _ h => h) (Or.inl ⟨by rfl, fun W hW => ?_⟩) h0 ?_
            rotate_left
            · have q0 := (hW.cell (p := ⟨w.heap.size, 5, none⟩) (by show w.heap.size < _; omega)).trans o5.out
              have q1 := (hW.cell (p := ⟨g, off + m * 4, none⟩) (by show g < _; omega)).trans p0.out
              have q2 := (hW.cell (p := ⟨g, off + m * 4 + 2, none⟩) (by show g < _; omega)).trans p2.out
              clear hW
              go_simp
              try with_reducible rfl
            simp only [Act.put, List.getElem_toArray, List.getElem_cons_zero, List.getElem_cons_succ, List.setIfInBounds_toArray, List.set_cons_zero, List.set_cons_succ]
            refine wpAnyH_take (i := 3) (v := ?_) rfl (by kernel_rfl) (by kernel_rfl) (by kernel_rfl) (fun _ _ _ h => h) (Or.inl ⟨by rfl, fun W hW => ?_⟩) h0 ?_
            rotate_left
            · have q0 := (hW.cell (p := ⟨w.heap.size, 5, none⟩) (by show w.heap.size < _; omega)).trans o5.out
              have q1 := (hW.cell (p := ⟨g, off + m * 4, none⟩) (by show g < _; omega)).trans p0.out
              have q2 := (hW.cell (p := ⟨g, off + m * 4 + 2, none⟩) (by show g < _; omega)).trans p2.out
              clear hW
              go_simp
              try with_reducible rfl
            simp only [Act.put, List.getElem_toArray, List.getElem_cons_zero, List.getElem_cons_succ, List.setIfInBounds_toArray, List.set_cons_zero, List.set_cons_succ]
            refine wpAnyH_take (i := 4) (v := ?_) rfl (by kernel_rfl) (by kernel_rfl) (by kernel_rfl) (fun _ _ _ h => h) (Or.inl ⟨by rfl, fun W hW => ?_⟩) h0 ?_
            rotate_left
            · have q0 := (hW.cell (p := ⟨w.heap.size, 5, none⟩) (by show w.heap.size < _; omega)).trans o5.out
              have q1 := (hW.cell (p := ⟨g, off + m * 4, none⟩) (by show g < _; omega)).trans p0.out
              have q2 := (hW.cell (p := ⟨g, off + m * 4 + 2, none⟩) (by show g < _; omega)).trans p2.out
              clear hW
              go_simp
              try with_reducible rfl
            simp only [Act.put, List.getElem_toArray, List.getElem_cons_zero, List.getElem_cons_succ, List.setIfInBounds_toArray, List.set_cons_zero, List.set_cons_succ]
            refine wpAnyH_take (i := 5) (v := ?_) rfl (by kernel_rfl) (by kernel_rfl) (by kernel_rfl) (fun _ _ _ h => h) (Or.inl ⟨by rfl, fun W hW => ?_⟩) h0 ?_
            rotate_left
            · have q0 := (hW.cell (p := ⟨w.heap.size, 5, none⟩) (by show w.heap.size < _; omega)).trans o5.out
              have q1 := (hW.cell (p := ⟨g, off + m * 4, none⟩) (by show g < _; omega)).trans p0.out
              have q2 := (hW.cell (p := ⟨g, off + m * 4 + 2, none⟩) (by show g < _; omega)).trans p2.out
              clear hW
              go_simp
              try with_reducible rfl
            simp only [Act.put, List.getElem_toArray, List.getElem_cons_zero, List.getElem_cons_succ, List.setIfInBounds_toArray, List.set_cons_zero, List.set_cons_succ]
            refine wpAnyH_take (i := 6) (v := ?_) rfl (by kernel_rfl) (by kernel_rfl) (by kernel_rfl) (fun _ _ _ h => h) (Or.inl ⟨by rfl, fun W hW => ?_⟩) h0 ?_
            rotate_left
            · have q0 := (hW.cell (p := ⟨w.heap.size, 5, none⟩) (by show w.heap.size < _; omega)).trans o5.out
              have q1 := (hW.cell (p := ⟨g, off + m * 4, none⟩) (by show g < _; omega)).trans p0.out
              have q2 := (hW.cell (p := ⟨g, off + m * 4 + 2, none⟩) (by show g < _; omega)).trans p2.out
              clear hW
              go_simp
              try with_reducible rfl
            simp only [Act.put, List.getElem_toArray, List.getElem_cons_zero, List.getElem_cons_succ, List.setIfInBounds_toArray, List.set_cons_zero, List.set_cons_succ]
            refine wpAnyH_take (i := 7) (v := ?_) rfl (by kernel_rfl) (by kernel_rfl) (by kernel_rfl) (fun _ _ _ h => h) (Or.inl ⟨by rfl, fun W hW => ?_⟩) h0 ?_
            rotate_left
            · have q0 := (hW.cell (p := ⟨w.heap.size, 5, none⟩) (by show w.heap.size < _; omega)).trans o5.out
              have q1 := (hW.cell (p := ⟨g, off + m * 4, none⟩) (by show g < _; omega)).trans p0.out
              have q2 := (hW.cell (p := ⟨g, off + m * 4 + 2, none⟩) (by show g < _; omega)).trans p2.out
              clear hW
              go_simp
              try with_reducible rfl
            simp only [Act.put, List.getElem_toArray, List.getElem_cons_zero, List.getElem_cons_succ, List.setIfInBounds_toArray, List.set_cons_zero, List.set_cons_succ]
            refine wpAnyH_take (i := 8) (v := ?_) rfl (by kernel_rfl) (by kernel_rfl) (by kernel_rfl) (fun _ _ _ h => h) (Or.inl ⟨by rfl, fun W hW => ?_⟩) h0 ?_
            rotate_left
            · have q0 := (hW.cell (p := ⟨w.heap.size, 5, none⟩) (by show w.heap.size < _; omega)).trans o5.out
              have q1 := (hW.cell (p := ⟨g, off + m * 4, none⟩) (by show g < _; omega)).trans p0.out
              have q2 := (hW.cell (p := ⟨g, off + m * 4 + 2, none⟩) (by show g < _; omega)).trans p2.out
              clear hW
              go_simp
              try with_reducible rfl
            simp only [Act.put, List.getElem_toArray, List.getElem_cons_zero, List.getElem_cons_succ, List.setIfInBounds_toArray, List.set_cons_zero, List.set_cons_succ]
            refine wpAnyH_take (i := 9) (v := ?_) rfl (by kernel_rfl) (by kernel_rfl) (by kernel_rfl) (fun _ _ _ h => h) (Or.inl ⟨by rfl, fun W hW => ?_⟩) h0 ?_
            rotate_left
            · have q0 := (hW.cell (p := ⟨w.heap.size, 5, none⟩) (by show w.heap.size < _; omega)).trans o5.out
              have q1 := (hW.cell (p := ⟨g, off + m * 4, none⟩) (by show g < _; omega)).trans p0.out
              have q2 := (hW.cell (p := ⟨g, off + m * 4 + 2, none⟩) (by show g < _; omega)).trans p2.out
              clear hW
              go_simp
              try with_reducible rfl
            simp only [Act.put, List.getElem_toArray, List.getElem_cons_zero, List.getElem_cons_succ, List.setIfInBounds_toArray, List.set_cons_zero, List.set_cons_succ]
            refine wpAnyH_take (i := 10) (v := ?_) rfl (by kernel_rfl) (by kernel_rfl) (by kernel_rfl) (fun _ _ _ h => h) (Or.inl ⟨by rfl, fun W hW => ?_⟩) h0 ?_
            rotate_left
            · have q0 := (hW.cell (p := ⟨w.heap.size, 5, none⟩) (by show w.heap.size < _; omega)).trans o5.out
              have q1 := (hW.cell (p := ⟨g, off + m * 4, none⟩) (by show g < _; omega)).trans p0.out
              have q2 := (hW.cell (p := ⟨g, off + m * 4 + 2, none⟩) (by show g < _; omega)).trans p2.out
              clear hW
              go_simp
              try with_reducible rfl
            simp only [Act.put, List.getElem_toArray, List.getElem_cons_zero, List.getElem_cons_succ, List.setIfInBounds_toArray, List.set_cons_zero, List.set_cons_succ]
            refine wpAnyH_take (i := 11) (v := ?_) rfl (by kernel_rfl) (by kernel_rfl) (by kernel_rfl) (fun _ _ _ h => h) (Or.inl ⟨by rfl, fun W hW => ?_⟩) h0 ?_
            rotate_left
            · have q0 := (hW.cell (p := ⟨w.heap.size, 5, none⟩) (by show w.heap.size < _; omega)).trans o5.out
              have q1 := (hW.cell (p := ⟨g, off + m * 4, none⟩) (by show g < _; omega)).trans p0.out
              have q2 := (hW.cell (p := ⟨g, off + m * 4 + 2, none⟩) (by show g < _; omega)).trans p2.out
              clear hW
              go_simp
              try with_reducible rfl
            simp only [Act.put, List.getElem_toArray, List.getElem_cons_zero, List.getElem_cons_succ, List.setIfInBounds_toArray, List.set_cons_zero, List.set_cons_succ]
            refine wpAnyH_take (i := 12) (v := ?_) rfl (by kernel_rfl) (by kernel_rfl) (by kernel_rfl) (fun _ _ _ h => h) (Or.inl ⟨by rfl, fun W hW => ?_⟩) h0 ?_
            rotate_left
            · have q0 := (hW.cell (p := ⟨w.heap.size, 5, none⟩) (by show w.heap.size < _; omega)).trans o5.out
              have q1 := (hW.cell (p := ⟨g, off + m * 4, none⟩) (by show g < _; omega)).trans p0.out
              have q2 := (hW.cell (p := ⟨g, off + m * 4 + 2, none⟩) (by show g < _; omega)).trans p2.out
              clear hW
              go_simp
              try with_reducible rfl
            simp only [Act.put, List.getElem_toArray, List.getElem_cons_zero, List.getElem_cons_succ, List.setIfInBounds_toArray, List.set_cons_zero, List.set_cons_succ]
            refine wpAnyH_take (i := 13) (v := ?_) rfl (by kernel_rfl) (by kernel_rfl) (by kernel_rfl) (fun _ _ _ h => h) (Or.inl ⟨by rfl, fun W hW => ?_⟩) h0 ?_
            rotate_left
            · have q0 := (hW.cell (p := ⟨w.heap.size, 5, none⟩) (by show w.heap.size < _; omega)).trans o5.out
              have q1 := (hW.cell (p := ⟨g, off + m * 4, none⟩) (by show g < _; omega)).trans p0.out
              have q2 := (hW.cell (p := ⟨g, off + m * 4 + 2, none⟩) (by show g < _; omega)).trans p2.out
              clear hW
              go_simp
              try with_reducible rfl
            simp only [Act.put, List.getElem_toArray, List.getElem_cons_zero, List.getElem_cons_succ, List.setIfInBounds_toArray, List.set_cons_zero, List.set_cons_succ]
            refine wpAnyH_ready (rs := [14]) (by kernel_rfl) (by simp) (AllReadyH.cons rfl (fun K hK => ?_) AllReadyH.nil)
            go_simp
            have hA : Below (w.heap.size + 1) O (wr.drew.alloc (.cells #[.string x0, .int .i64 x2, .int .i64 (-1)] 83)) := h0.alloc (by show _ ≤ wr.heap.size; omega) _
            refine hK.out _ _ hA (fun h1 => ?_)
            clear hK K h0 hA
            refine wpAnyH_ready (rs := [15]) (by kernel_rfl) (by simp) (AllReadyH.cons rfl (fun K hK => ?_) AllReadyH.nil)
            rw [if_pos (by rfl)]
            refine wp_append_own _ (.tmp 29) (.tmp 43) 41 rfl (w.heap.size + 1) 83 i0 (.agg #[.string ⟨#[]⟩, .int .i64 0, .int .i64 0]) 3 32 Tryz.underlying41 hi hi0 hi1 hi2 rfl (by decide) (.slice ra (N + m) rc) (N + m) PC rfl (HD.out.alloc _) ⟨wr.heap.size, 0, none⟩ 1 1 [.string x0, .int .i64 x2, .int .i64 (-1)] rfl rfl (fun q u hq => by rw [Addr.add_lit, Nat.zero_add]; show (wr.alloc _).cell? _ = _; rw [World.cell?_alloc_at _ _ _ _ rfl]; simpa using hq) (by intro u hu; simp at hu; rcases hu with rfl | rfl | rfl <;> rfl) (by unfold maxLen; omega) (by omega) (by show _ ≤ (wr.alloc _).heap.size; rw [World.size_alloc]; omega) ?_
            intro v' W2 o2 g2 _
            have B2 := h1.grown g2 (by show _ ≤ (wr.alloc _).heap.size; rw [World.size_alloc]; omega) (fun j hj => (HD.out.lt j hj).1)
            refine hK.out _ _ B2 (fun h2 => ?_)
            clear hK K h1
            refine wpAnyH_take (i := 16) (v := ?_) rfl (by kernel_rfl) (by kernel_rfl) (by kernel_rfl) (fun _ _ _ h => h) (Or.inl ⟨by rfl, fun W hW => ?_⟩) h2 ?_
            rotate_left
            · have q0 := (hW.cell (p := ⟨w.heap.size, 5, none⟩) (by show w.heap.size < _; omega)).trans o5.out
              have q1 := (hW.cell (p := ⟨g, off + m * 4, none⟩) (by show g < _; omega)).trans p0.out
              have q2 := (hW.cell (p := ⟨g, off + m * 4 + 2, none⟩) (by show g < _; omega)).trans p2.out
              clear hW
              go_simp
              try with_reducible rfl
            simp only [Act.put, List.getElem_toArray, List.getElem_cons_zero, List.getElem_cons_succ, List.setIfInBounds_toArray, List.set_cons_zero, List.set_cons_succ]
            refine wpAnyH_done (by kernel_rfl) ?_ _
            obtain ⟨ra', rc', rfl⟩ : ∃ a c, v' = .slice a (N + m + 1) c := by
              rcases o2.2 with ⟨h, h2⟩ | ⟨g, cap, cur, h, _⟩
              · exact ⟨none, 0, by rw [h, h2]⟩
              · exact ⟨_, _, h⟩
            have HO1 := hidM (HTE.out _ _ o2)
            clear o2 g2 HTE HD h2
            go_wp2_with fail
            go_roundw
            case rel => exact ⟨m + 1, ra', rc', by omega, by go_num, by rw [Nat.add_assoc], hidM HO1.out, B2⟩
            case measure => simp [intOf]; omega
        · have hki : ¬ (m : Int) < le.length := by omega
          obtain rfl : m = le.length := by omega
          have hl := HPN.out le.length (Nat.le_refl _)
          have HR : Hid (WtR w (allL si le) (.returned (.slice ra (N + le.length) rc)) wr) := hidM (by
            have h1 := HO.out
            rw [HPL.out] at h1 hl
            exact ⟨ra, rc, by rw [hl], by rw [hl]; exact own_wide1 h1 (by omega), hbel⟩)
          clear HO HPL HPS HPN HP0
          go_wp2_with fail
          go_ret
          exact HR.out
end Go.Proofs.YtcjblhiihgdljaaGreat
