/- Contracts of Ripe, of the code and of the specification. -/
import Derived.Test.YtcjblhiihgdljaaRows
import Derived.Test.YtcjblhiihgdljaaSchImpl1
import Derived.Test.YtcjblhiihgdljaaAppAt
import Derived.Test.YtcjblhiihgdljaaOnlyIn
import Derived.Deep.QuietTactic
namespace Go.Proofs.Ytcjblhiihgdljaa
open Go.RowKit
set_option linter.unusedVariables false
set_option linter.unusedSimpArgs false

theorem Try.infoInt18r : (Try.prog.info? 3).map (fun i => (i.zero, i.size, i.bytes)) = some (some (.int .i64 0), 1, 8) := by kernel_rfl
def ripeB (nw : Int) (x : SiteV) : Bool := decide (x.r ≤ nw) && decide (0 < x.w.length)
def ripeK (nw : Int) (si : List SiteV) (k : Nat) : List Int := ((List.range k).filter fun i => ripeB nw (si.getD i sitv0)).map fun i : Nat => (i : Int)
/-- The places of the sites that are ripe. -/
def ripeL (nw : Int) (si : List SiteV) : List Int := ripeK nw si si.length
theorem ripeK_succ (nw : Int) (si : List SiteV) (k : Nat) : ripeK nw si (k + 1) = ripeK nw si k ++ (if ripeB nw (si.getD k sitv0) = true then [(k : Int)] else []) := by
  unfold ripeK
  rw [List.range_succ, List.filter_append, List.map_append]
  congr 1
  by_cases h : ripeB nw (si.getD k sitv0) = true
  · rw [if_pos h, List.filter_cons, if_pos h]; rfl
  · rw [if_neg h, List.filter_cons, if_neg h]; rfl
theorem ripeK_len (nw : Int) (si : List SiteV) (k : Nat) : (ripeK nw si k).length ≤ k := by
  unfold ripeK
  rw [List.length_map]
  have := List.length_filter_le (fun i => ripeB nw (si.getD i sitv0)) (List.range k)
  rwa [List.length_range] at this
/-- A row of numbers that the call owns. -/
def RipeR (w : World) (l : List Int) (e : Ending) (w' : World) : Prop := ∃ ao cap, e = .returned (.slice ao l.length cap) ∧ w'.ownsRow w.heap.size 3 1 (.slice ao l.length cap) l.length (icells l) ∧ Below w.heap.size w w'
set_option maxRecDepth 100000 in
set_option maxHeartbeats 8000000 in
theorem implRipe (d sp nw sq : Int) (si : List SiteV) (p q : Value) (w : World) (hl : si.length ≤ 1048576) (hf : ∀ i, i < si.length → (si.getD i sitv0).w.length ≤ 1048576) (hp : SitRow w p si) :
    Calls Try.prog 16 #[.agg #[.int .i64 d, .int .i64 sp, .int .i64 nw, .int .i64 sq, p, q]] w fun e w' => RipeR w (ripeL nw si) e w' := by
  obtain ⟨O, hO⟩ : ∃ O, O = (w.alloc (.cells #[.int .i64 d, .int .i64 sp, .int .i64 nw, .int .i64 sq, p, q] 31)).alloc (.cells #[] 3) := ⟨_, rfl⟩
  have bO : Below w.heap.size w O := by rw [hO]; exact ((Below.refl _ _).alloc (Nat.le_refl _) _).alloc (by simp) _
  have AO : Hid (BAt O w.heap.size [.int .i64 d, .int .i64 sp, .int .i64 nw, .int .i64 sq, p, q]) := hidM (by rw [hO]; exact (BAt.new w #[.int .i64 d, .int .i64 sp, .int .i64 nw, .int .i64 sq, p, q] _).alloc _)
  have HOz : Hid (O.heap.size = w.heap.size + 2) := hidM (by rw [hO]; simp)
  have HE0 : Hid (O.ownsRow (w.heap.size + 1) 3 1 (.slice (some ⟨w.heap.size + 1, 0, none⟩) 0 0) 0 (icells (ripeK nw si 0))) := hidM (by
    rw [hO]
    have := World.ownsRow_made (e := 3) (size := 1) (base := w.heap.size + 1) (w.alloc (.cells #[.int .i64 d, .int .i64 sp, .int .i64 nw, .int .i64 sq, p, q] 31)) #[] 0 (by simp) (by decide) rfl
    rw [World.size_alloc] at this
    exact this)
  have HS := hidM hp
  have HF := hidM hf
  obtain ⟨pa, pc, hpe⟩ := hp.slice
  subst hpe
  have c4 := AO.out.1 4 _ rfl
  clear hp hf
  go_enter Try.func16, Try.ntmps16
  go_upto_region 2 with fail
  rw [← hO]
  clear hO
  go_wp2_with fail
  go_loopw [3, 10] (fun rv i wr => ∃ (k : Nat) (ra : Option Addr) (rc N : Nat), k ≤ si.length ∧ i = .int .i64 k ∧ N ≤ k ∧ rv = .slice ra N rc ∧ Hid ((ripeK nw si k).length = N) ∧ Hid (wr.ownsRow (w.heap.size + 1) 3 1 (.slice ra N rc) N (icells (ripeK nw si k))) ∧ Below (w.heap.size + 1) O wr) (fun _ i _ => si.length - (intOf i).toNat)
  case atStart => exact ⟨0, _, _, 0, Nat.zero_le _, rfl, Nat.le_refl _, rfl, rfl, HE0, Below.refl _ _⟩
  case round =>
    clear HE0
    obtain ⟨k, ra, rc, N, hk, rfl, hN, rfl, HN, HO, hbO⟩ := hrel
    have hbel : Below w.heap.size w wr := bO.trans (hbO.mono (by omega))
    have zO := HOz.out
    have zr := hbO.size
    have d2 : wr.cell? ⟨w.heap.size, 2, none⟩ = some (.int .i64 nw) := (hbO.cell (p := ⟨w.heap.size, 2, none⟩) (by show w.heap.size < _; omega)).trans (AO.out.1 2 _ rfl)
    by_cases hlt : k < si.length
    · have hki : (k : Int) < si.length := by omega
      rcases HS.out.cases with ⟨h0, _⟩ | ⟨_, g, off, cap, hpe, hg, hc⟩
      · rw [h0] at hlt; exact absurd hlt (Nat.not_lt_zero _)
      · injection hpe with e1 e2 e3
        subst e1
        obtain ⟨c0, c1, x, c2, c3⟩ := (hc k hlt).below hbel hg
        have hwl := HF.out k hlt
        have HRS := hidM (ripeK_succ nw si k)
        have HRB : Hid (ripeB nw (si.getD k sitv0) = (decide ((si.getD k sitv0).r ≤ nw) && decide (0 < (si.getD k sitv0).w.length))) := rfl
        obtain ⟨xa, xc, hxe⟩ := c3.slice
        clear c3 hc e2 e3
        generalize ripeB nw (si.getD k sitv0) = RB at *
        generalize (si.getD k sitv0).w.length = XN at *
        generalize (si.getD k sitv0).n = x0 at *
        generalize (si.getD k sitv0).r = x1 at *
        subst hxe
        obtain ⟨V, hV⟩ : ∃ V, V = wr.alloc (.cells #[.string x0, .int .i64 x1, .slice xa XN xc] 61) := ⟨_, rfl⟩
        have BV : Below wr.heap.size wr V := by rw [hV]; exact (Below.refl _ _).alloc (Nat.le_refl _) _
        have AV : BAt V wr.heap.size [.string x0, .int .i64 x1, .slice xa XN xc] := by rw [hV]; exact BAt.new wr #[.string x0, .int .i64 x1, .slice xa XN xc] _
        have v1 := AV.1 1 _ rfl
        have v2 := AV.1 2 _ rfl
        have e2 : V.cell? ⟨w.heap.size, 2, none⟩ = some (.int .i64 nw) := (BV.cell (p := ⟨w.heap.size, 2, none⟩) (by show w.heap.size < _; omega)).trans d2
        have HOV := hidM (own_below HO.out BV)
        have BVO : Below (w.heap.size + 1) O V := hbO.trans (BV.mono (by omega))
        clear HO BV AV
        go_upto_region 5 with fail
        rw [← hV]
        clear hV c0 c1 c2 d2
        by_cases hr : x1 ≤ nw
        · by_cases hw0 : 0 < XN
          · have hwi : (0 : Int) < XN := by omega
            have HR1 : Hid (ripeK nw si (k + 1) = ripeK nw si k ++ [(k : Int)]) := hidM (by rw [HRS.out, HRB.out, decide_eq_true hr, decide_eq_true hw0]; rfl)
            have HN1 : Hid ((ripeK nw si (k + 1)).length = N + 1) := hidM (by rw [HR1.out, List.length_append, HN.out]; rfl)
            have HIC : Hid (icells (ripeK nw si (k + 1)) = icells (ripeK nw si k) ++ [.int .i64 (k : Int)]) := hidM (by rw [HR1.out, icells_snoc])
            clear HRS HRB HN HR1
            generalize icells (ripeK nw si k) = IC at *
            go_wp2_with (at_builtin; refine wpList_append_newAt _ rfl _ _ 38 rfl (w.heap.size + 1) 3 (.int .i64 0) 8 Try.underlying38 Try.infoInt18r rfl _ _ _ rfl HOV.out #[.int .i64 (k : Int)] 1 rfl rfl (by intro u hu; simp at hu; subst hu; rfl) (by omega) (by unfold maxLen; omega) (by have := BVO.size; omega) ?_)
            intro v' w1 o1 g1 _
            have B1 := BVO.grown g1 (by have := BVO.size; omega) (fun j hj => (HOV.out.lt j hj).1)
            obtain ⟨ra', rc', rfl⟩ : ∃ a c, v' = .slice a (N + 1) c := by
              rcases own_shape o1 with ⟨h, _⟩ | ⟨_, g, c, h⟩
              · omega
              · exact ⟨_, _, h⟩
            have HO1 : Hid (w1.ownsRow (w.heap.size + 1) 3 1 (.slice ra' (N + 1) rc') (N + 1) (icells (ripeK nw si (k + 1)))) := hidM (by rw [HIC.out]; exact o1)
            clear o1 g1 HOV BVO HIC v1 v2 e2
            go_wp2_with fail
            go_roundw
            case rel => exact ⟨k + 1, _, _, N + 1, by omega, by go_num, by omega, rfl, HN1, HO1, B1⟩
            case measure => simp [intOf]; omega
          · have hwi : ¬ (0 : Int) < XN := by omega
            have HR1 : Hid (ripeK nw si (k + 1) = ripeK nw si k) := hidM (by rw [HRS.out, HRB.out, decide_eq_true hr, decide_eq_false hw0]; simp)
            have HN1 : Hid ((ripeK nw si (k + 1)).length = N) := hidM (by rw [HR1.out]; exact HN.out)
            have HO1 : Hid (V.ownsRow (w.heap.size + 1) 3 1 (.slice ra N rc) N (icells (ripeK nw si (k + 1)))) := hidM (by rw [HR1.out]; exact HOV.out)
            clear HRS HRB HN HR1 HOV
            go_wp2_with fail
            go_roundw
            case rel => exact ⟨k + 1, _, _, N, by omega, by go_num, by omega, rfl, HN1, HO1, BVO⟩
            case measure => simp [intOf]; omega
        · have HR1 : Hid (ripeK nw si (k + 1) = ripeK nw si k) := hidM (by rw [HRS.out, HRB.out, decide_eq_false hr]; simp)
          have HN1 : Hid ((ripeK nw si (k + 1)).length = N) := hidM (by rw [HR1.out]; exact HN.out)
          have HO1 : Hid (V.ownsRow (w.heap.size + 1) 3 1 (.slice ra N rc) N (icells (ripeK nw si (k + 1)))) := hidM (by rw [HR1.out]; exact HOV.out)
          clear HRS HRB HN HR1 HOV
          go_wp2_with fail
          go_roundw
          case rel => exact ⟨k + 1, _, _, N, by omega, by go_num, by omega, rfl, HN1, HO1, BVO⟩
          case measure => simp [intOf]; omega
    · have hki : ¬ (k : Int) < si.length := by omega
      have hke : k = si.length := by omega
      have HR : Hid (RipeR w (ripeL nw si) (.returned (.slice ra N rc)) wr) := hidM (by
        have h1 := HO.out
        have h2 := HN.out
        rw [hke] at h1 h2
        have h3 : (ripeL nw si).length = N := h2
        refine ⟨ra, rc, by rw [h3], ?_, hbel⟩
        rw [h3]
        exact own_wide1 h1 (by omega))
      clear HN HO hke
      go_wp2_with fail
      go_ret
      exact HR.out
set_option maxRecDepth 100000 in
set_option maxHeartbeats 8000000 in
theorem specRipe (d sp nw sq : Int) (si : List SiteV) (p q : Value) (w : World) (hl : si.length ≤ 1048576) (hf : ∀ i, i < si.length → (si.getD i sitv0).w.length ≤ 1048576) (hp : SitRow w p si) :
    Calls Try.prog 15 #[.agg #[.int .i64 d, .int .i64 sp, .int .i64 nw, .int .i64 sq, p, q]] w fun e w' => RipeR w (ripeL nw si) e w' := by
  obtain ⟨O, hO⟩ : ∃ O, O = (w.alloc (.cells #[.int .i64 d, .int .i64 sp, .int .i64 nw, .int .i64 sq, p, q] 31)).alloc (.cells #[] 3) := ⟨_, rfl⟩
  have bO : Below w.heap.size w O := by rw [hO]; exact ((Below.refl _ _).alloc (Nat.le_refl _) _).alloc (by simp) _
  have AO : Hid (BAt O w.heap.size [.int .i64 d, .int .i64 sp, .int .i64 nw, .int .i64 sq, p, q]) := hidM (by rw [hO]; exact (BAt.new w #[.int .i64 d, .int .i64 sp, .int .i64 nw, .int .i64 sq, p, q] _).alloc _)
  have HOz : Hid (O.heap.size = w.heap.size + 2) := hidM (by rw [hO]; simp)
  have HE0 : Hid (O.ownsRow (w.heap.size + 1) 3 1 (.slice (some ⟨w.heap.size + 1, 0, none⟩) 0 0) 0 (icells (ripeK nw si 0))) := hidM (by
    rw [hO]
    have := World.ownsRow_made (e := 3) (size := 1) (base := w.heap.size + 1) (w.alloc (.cells #[.int .i64 d, .int .i64 sp, .int .i64 nw, .int .i64 sq, p, q] 31)) #[] 0 (by simp) (by decide) rfl
    rw [World.size_alloc] at this
    exact this)
  have HS := hidM hp
  have HF := hidM hf
  obtain ⟨pa, pc, hpe⟩ := hp.slice
  subst hpe
  clear hp hf
  go_enter Try.func15, Try.ntmps15
  go_upto_region 2 with fail
  rw [← hO]
  clear hO
  go_wp2_with fail
  go_loopw [3, 4] (fun rv i wr => ∃ (k : Nat) (ra : Option Addr) (rc N : Nat), k ≤ si.length ∧ i = .int .i64 k ∧ N ≤ k ∧ rv = .slice ra N rc ∧ Hid ((ripeK nw si k).length = N) ∧ Hid (wr.ownsRow (w.heap.size + 1) 3 1 (.slice ra N rc) N (icells (ripeK nw si k))) ∧ Below (w.heap.size + 1) O wr) (fun _ i _ => si.length - (intOf i).toNat)
  case atStart => exact ⟨0, _, _, 0, Nat.zero_le _, rfl, Nat.le_refl _, rfl, rfl, HE0, Below.refl _ _⟩
  case round =>
    clear HE0
    obtain ⟨k, ra, rc, N, hk, rfl, hN, rfl, HN, HO, hbO⟩ := hrel
    have hbel : Below w.heap.size w wr := bO.trans (hbO.mono (by omega))
    have zO := HOz.out
    have zr := hbO.size
    have d2 : wr.cell? ⟨w.heap.size, 2, none⟩ = some (.int .i64 nw) := (hbO.cell (p := ⟨w.heap.size, 2, none⟩) (by show w.heap.size < _; omega)).trans (AO.out.1 2 _ rfl)
    have d4 : wr.cell? ⟨w.heap.size, 4, none⟩ = some (.slice pa si.length pc) := (hbO.cell (p := ⟨w.heap.size, 4, none⟩) (by show w.heap.size < _; omega)).trans (AO.out.1 4 _ rfl)
    by_cases hlt : k < si.length
    · have hki : (k : Int) < si.length := by omega
      rcases HS.out.cases with ⟨h0, _⟩ | ⟨_, g, off, cap, hpe, hg, hc⟩
      · rw [h0] at hlt; exact absurd hlt (Nat.not_lt_zero _)
      · injection hpe with e1 e2 e3
        subst e1
        obtain ⟨c0, c1, x, c2, c3⟩ := (hc k hlt).below hbel hg
        have hwl := HF.out k hlt
        have HRS := hidM (ripeK_succ nw si k)
        have HRB : Hid (ripeB nw (si.getD k sitv0) = (decide ((si.getD k sitv0).r ≤ nw) && decide (0 < (si.getD k sitv0).w.length))) := rfl
        obtain ⟨xa, xc, hxe⟩ := c3.slice
        clear c3 hc e2 e3
        generalize ripeB nw (si.getD k sitv0) = RB at *
        generalize (si.getD k sitv0).w.length = XN at *
        generalize (si.getD k sitv0).n = x0 at *
        generalize (si.getD k sitv0).r = x1 at *
        subst hxe
        by_cases hr : x1 ≤ nw
        · have hrb : decide (x1 ≤ nw) = true := decide_eq_true hr
          by_cases hw0 : 0 < XN
          · have hwi : (0 : Int) < XN := by omega
            have hwb : decide ((0 : Int) < XN) = true := decide_eq_true hwi
            have HR1 : Hid (ripeK nw si (k + 1) = ripeK nw si k ++ [(k : Int)]) := hidM (by rw [HRS.out, HRB.out, decide_eq_true hr, decide_eq_true hw0]; rfl)
            have HN1 : Hid ((ripeK nw si (k + 1)).length = N + 1) := hidM (by rw [HR1.out, List.length_append, HN.out]; rfl)
            have HIC : Hid (icells (ripeK nw si (k + 1)) = icells (ripeK nw si k) ++ [.int .i64 (k : Int)]) := hidM (by rw [HR1.out, icells_snoc])
            clear HRS HRB HN HR1
            generalize icells (ripeK nw si k) = IC at *
            have HOD : Hid (∀ m, (wr.drewN m).ownsRow (w.heap.size + 1) 3 1 (.slice ra N rc) N IC) := fun m => own_below HO.out (below_drewN (Below.refl _ _) m)
            go_wp2_with fail
            go_quiet (fail)
            go_wp2_with (at_builtin; refine wpList_append_newAt _ rfl _ _ 38 rfl (w.heap.size + 1) 3 (.int .i64 0) 8 Try.underlying38 Try.infoInt18r rfl _ _ _ rfl (HOD.out _) #[.int .i64 (k : Int)] 1 rfl rfl (by intro u hu; simp at hu; subst hu; rfl) (by omega) (by unfold maxLen; omega) (by simp; omega) ?_)
            intro v' w1 o1 g1 _
            have B1 := (below_drewN hbO _).grown g1 (by simp; omega) (fun j hj => (HO.out.lt j hj).1)
            obtain ⟨ra', rc', rfl⟩ : ∃ a c, v' = .slice a (N + 1) c := by
              rcases own_shape o1 with ⟨h, _⟩ | ⟨_, g, c, h⟩
              · omega
              · exact ⟨_, _, h⟩
            have HO1 : Hid (w1.ownsRow (w.heap.size + 1) 3 1 (.slice ra' (N + 1) rc') (N + 1) (icells (ripeK nw si (k + 1)))) := hidM (by rw [HIC.out]; exact o1)
            clear o1 g1 HOD HO HIC c0 c1 c2 d2 d4 hbO
            go_wp2_with fail
            go_roundw
            case rel => exact ⟨k + 1, _, _, N + 1, by omega, by go_num, by omega, rfl, HN1, HO1, B1⟩
            case measure => simp [intOf]; omega
          · have hwi : ¬ (0 : Int) < XN := by omega
            have hwb : decide ((0 : Int) < XN) = false := decide_eq_false hwi
            have HR1 : Hid (ripeK nw si (k + 1) = ripeK nw si k) := hidM (by rw [HRS.out, HRB.out, decide_eq_true hr, decide_eq_false hw0]; simp)
            have HN1 : Hid ((ripeK nw si (k + 1)).length = N) := hidM (by rw [HR1.out]; exact HN.out)
            have HO1 : Hid (∀ m, (wr.drewN m).ownsRow (w.heap.size + 1) 3 1 (.slice ra N rc) N (icells (ripeK nw si (k + 1)))) := fun m => by rw [HR1.out]; exact own_below HO.out (below_drewN (Below.refl _ _) m)
            clear HRS HRB HN HR1
            go_wp2_with fail
            go_quiet (fail)
            go_wp2_with fail
            go_roundw
            case rel => exact ⟨k + 1, _, _, N, by omega, by go_num, by omega, rfl, HN1, HO1.out _, below_drewN hbO _⟩
            case measure => simp [intOf]; omega
        · have hrb : decide (x1 ≤ nw) = false := decide_eq_false hr
          have HR1 : Hid (ripeK nw si (k + 1) = ripeK nw si k) := hidM (by rw [HRS.out, HRB.out, decide_eq_false hr]; simp)
          have HN1 : Hid ((ripeK nw si (k + 1)).length = N) := hidM (by rw [HR1.out]; exact HN.out)
          have HO1 : Hid (∀ m, (wr.drewN m).ownsRow (w.heap.size + 1) 3 1 (.slice ra N rc) N (icells (ripeK nw si (k + 1)))) := fun m => by rw [HR1.out]; exact own_below HO.out (below_drewN (Below.refl _ _) m)
          clear HRS HRB HN HR1
          go_wp2_with fail
          go_quiet (fail)
          go_wp2_with fail
          go_roundw
          case rel => exact ⟨k + 1, _, _, N, by omega, by go_num, by omega, rfl, HN1, HO1.out _, below_drewN hbO _⟩
          case measure => simp [intOf]; omega
    · have hki : ¬ (k : Int) < si.length := by omega
      have hke : k = si.length := by omega
      have HR : Hid (RipeR w (ripeL nw si) (.returned (.slice ra N rc)) wr) := hidM (by
        have h1 := HO.out
        have h2 := HN.out
        rw [hke] at h1 h2
        have h3 : (ripeL nw si).length = N := h2
        refine ⟨ra, rc, by rw [h3], ?_, hbel⟩
        rw [h3]
        exact own_wide1 h1 (by omega))
      clear HN HO hke
      go_wp2_with fail
      go_ret
      exact HR.out
end Go.Proofs.Ytcjblhiihgdljaa
