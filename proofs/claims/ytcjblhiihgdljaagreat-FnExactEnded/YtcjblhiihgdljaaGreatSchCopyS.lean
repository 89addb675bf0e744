/- The contract of the specification's l18Copy. -/
import Derived.Test.YtcjblhiihgdljaaGreatRows
import Derived.Test.YtcjblhiihgdljaaGreatSitTo
import Derived.Test.YtcjblhiihgdljaaGreatSchCrow
import Derived.Test.YtcjblhiihgdljaaGreatSixAt
import Derived.Test.YtcjblhiihgdljaaGreatSchPure2
namespace Go.Proofs.YtcjblhiihgdljaaGreat
open Go.RowKit
set_option linter.unusedVariables false
set_option linter.unusedSimpArgs false

/-- Queues that are answered, in memory of the call's own. -/
def SchR (w : World) (d sp nw sq : Int) (si : List SiteV) (le : List LsV) (e : Ending) (w' : World) : Prop := ∃ ao ac bo bc, e = .returned (.agg #[.int .i64 d, .int .i64 sp, .int .i64 nw, .int .i64 sq, .slice ao si.length ac, .slice bo le.length bc]) ∧ SchOwn w' w.heap.size w'.heap.size (.slice ao si.length ac) (.slice bo le.length bc) si le ∧ Below w.heap.size w w'
/-- A site more, behind the others, with a row of its own above all that was there. -/
theorem SitX.more {W0 Y w4 Z : World} {B top : Nat} {v v4 : Value} {cs : List SiV} {l : List SiteV} {c : SiV} {x : SiteV} (h : SitX W0 B top v cs l) (ht : top ≤ W0.heap.size) (hWY : Below W0.heap.size W0 Y)
    (ho : w4.ownsRow B 43 3 v4 (l.length + 1) (sicells (cs ++ [c]))) (hg : Y.grownBy w4 v.ownBlock) (hZ : ∀ b, B ≤ b → Z.heap[b]? = w4.heap[b]?) (hz : w4.heap.size ≤ Z.heap.size)
    (hn : c.n = x.n) (hr : c.r = x.r) {B2 : Nat} (hq : Y.ownsRow B2 83 3 c.q x.w.length (wtcells x.w)) (hB2 : W0.heap.size ≤ B2) (hB : B ≤ B2) : SitX Z B Z.heap.size v4 (cs ++ [c]) (l ++ [x]) := by
  have s1 := hWY.size
  have s2 := hg.size
  have hv : ∀ b, v.ownBlock = some b → B ≤ b ∧ b < top := fun b hb => ⟨(h.row.lt b hb).1, h.lid b hb⟩
  refine ⟨?_, fun b hb => ?_, ?_⟩
  · rw [List.length_append]
    exact own_at ho fun b hb => hZ b (ho.lt b hb).1
  · have := (ho.lt b hb).2; omega
  · have P1 : SitPart Z B top cs l := h.part.same (Nat.le_refl _) fun b ⟨i, hi, e⟩ hb1 hb2 => by
      rw [hZ b hb1]
      have hne : v.ownBlock ≠ some b := fun e2 => by
        have hq := (h.part.2.1 i (by rw [← h.part.1]; exact hi)).2.2.1
        exact apt_ty h.row hq t_site_wait b e2 e
      rw [hg.block b (by omega) (fun e2 => hne e2.symm)]
      exact hWY.block b (by omega)
    refine P1.snoc (by omega) ⟨hn, hr, ?_, fun b hb => ?_⟩ fun b hb => ?_
    · refine own_wide1 (own_at hq fun b hb => ?_) hB
      have h1 := hq.lt b hb
      rw [hZ b (by omega)]
      exact hg.block b h1.2 (fun e => by have := (hv b e.symm).2; omega)
    · have := (hq.lt b hb).2; omega
    · have := (hq.lt b hb).1; omega
set_option maxRecDepth 100000 in
set_option maxHeartbeats 16000000 in
theorem specL18Copy (d sp nw sq : Int) (si : List SiteV) (le : List LsV) (p q : Value) (w : World) (hn : SitFew si) (hl : le.length ≤ 1073741824) (hp : SitRow w p si) (hq : LsRow w q le) :
    Calls Tryz.prog 49 #[.agg #[.int .i64 d, .int .i64 sp, .int .i64 nw, .int .i64 sq, p, q]] w fun e w' => SchR w d sp nw sq si le e w' := by
  obtain ⟨hn1, hn2⟩ := hn
  have HF := hidM hn2
  have HS := hidM hp
  have HL := hidM hq
  obtain ⟨pa, pc, rfl⟩ := hp.slice
  obtain ⟨qa, qc, rfl⟩ := hq.slice
  clear hp hq hn2
  obtain ⟨O, hO⟩ : ∃ O, O = ((w.alloc (.cells #[.int .i64 d, .int .i64 sp, .int .i64 nw, .int .i64 sq, .slice pa si.length pc, .slice qa le.length qc] 27)).alloc (.cells #[.int .i64 0, .int .i64 0, .int .i64 0, .int .i64 0, .slice none 0 0, .slice none 0 0] 27)).alloc (.cells #[.int .i64 d, .int .i64 sp, .int .i64 nw, .int .i64 sq, .slice pa si.length pc, .slice qa le.length qc] 27) := ⟨_, rfl⟩
  have hbO : Below w.heap.size w O := by rw [hO]; exact (((Below.refl _ _).alloc (Nat.le_refl _) _).alloc (by simp) _).alloc (by simp; omega) _
  have hzO : O.heap.size = w.heap.size + 3 := by rw [hO]; simp
  have A0 : BAt O w.heap.size [.int .i64 d, .int .i64 sp, .int .i64 nw, .int .i64 sq, .slice pa si.length pc, .slice qa le.length qc] := by rw [hO]; exact ((BAt.new w #[.int .i64 d, .int .i64 sp, .int .i64 nw, .int .i64 sq, .slice pa si.length pc, .slice qa le.length qc] _).alloc _).alloc _
  have A1 : BAt O (w.heap.size + 1) [.int .i64 0, .int .i64 0, .int .i64 0, .int .i64 0, .slice none 0 0, .slice none 0 0] := by
    rw [hO]
    have := BAt.new (w.alloc (.cells #[.int .i64 d, .int .i64 sp, .int .i64 nw, .int .i64 sq, .slice pa si.length pc, .slice qa le.length qc] 27)) #[.int .i64 0, .int .i64 0, .int .i64 0, .int .i64 0, .slice none 0 0, .slice none 0 0] 27
    rw [World.size_alloc] at this
    exact this.alloc _
  have A2 : BAt O (w.heap.size + 1 + 1) [.int .i64 d, .int .i64 sp, .int .i64 nw, .int .i64 sq, .slice pa si.length pc, .slice qa le.length qc] := by
    rw [hO]
    have := BAt.new ((w.alloc (.cells #[.int .i64 d, .int .i64 sp, .int .i64 nw, .int .i64 sq, .slice pa si.length pc, .slice qa le.length qc] 27)).alloc (.cells #[.int .i64 0, .int .i64 0, .int .i64 0, .int .i64 0, .slice none 0 0, .slice none 0 0] 27)) #[.int .i64 d, .int .i64 sp, .int .i64 nw, .int .i64 sq, .slice pa si.length pc, .slice qa le.length qc] 27
    rw [World.size_alloc, World.size_alloc] at this
    exact this
  obtain ⟨V, hV⟩ : ∃ V, V = (O.alloc (.cells #[] 43)).setCell ⟨w.heap.size + 1 + 1, 4, none⟩ (.slice (some ⟨O.heap.size, 0, none⟩) 0 0) := ⟨_, rfl⟩
  have hzV : V.heap.size = O.heap.size + 1 := by rw [hV]; simp
  have hbV : Below w.heap.size w V := by rw [hV]; exact (hbO.alloc hbO.size _).setCell (by simp; omega) _
  have E0 := hidM (show BAt V w.heap.size [.int .i64 d, .int .i64 sp, .int .i64 nw, .int .i64 sq, .slice pa si.length pc, .slice qa le.length qc] by rw [hV]; exact (A0.alloc _).other (by omega) 4 _)
  have E1 := hidM (show BAt V (w.heap.size + 1) [.int .i64 0, .int .i64 0, .int .i64 0, .int .i64 0, .slice none 0 0, .slice none 0 0] by rw [hV]; exact (A1.alloc _).other (by omega) 4 _)
  have E2 := hidM (show BAt V (w.heap.size + 1 + 1) [.int .i64 d, .int .i64 sp, .int .i64 nw, .int .i64 sq, .slice (some ⟨O.heap.size, 0, none⟩) 0 0, .slice qa le.length qc] by rw [hV]; exact (A2.alloc _).set 4 (by simp) _)
  have HX0 : Hid (SitX V O.heap.size V.heap.size (.slice (some ⟨O.heap.size, 0, none⟩) 0 0) [] (si.take 0)) := hidM (by
    have h1 := World.ownsRow_made (e := 43) (size := 3) (base := O.heap.size) O #[] 0 (Nat.le_refl _) (by decide) rfl
    have h2 : V.ownsRow O.heap.size 43 3 (.slice (some ⟨O.heap.size, 0, none⟩) 0 0) 0 (sicells []) := by rw [hV]; exact own_put h1 (by omega) 4 _
    exact ⟨h2, fun b hb => (h2.lt b hb).2, SitPart.nil _ _ _⟩)
  have HZO := hidM hzO
  have HZV := hidM hzV
  have c0 := A0.1 0 _ rfl
  have c1 := A0.1 1 _ rfl
  have c2 := A0.1 2 _ rfl
  have c3 := A0.1 3 _ rfl
  have c4 := A0.1 4 _ rfl
  have c5 := A0.1 5 _ rfl
  have f2 := (A2.alloc (.cells #[] 43)).2.1
  have c24 := (A2.alloc (.cells #[] 43)).1 4 _ rfl
  clear hzV hzO hbO
  go_enter Tryz.func49, Tryz.ntmps49
  go_upto_region 2 with fail
  rw [← hO]
  clear hO
  go_upto_region 3 with fail
  rw [← hV]
  clear hV A0 A1 A2 c0 c1 c2 c3 c4 c5 f2 c24
  go_wp2_with fail
  go_loopw [4] (fun i wr => ∃ (k : Nat) (ra : Option Addr) (rc : Nat) (cs : List SiV), k ≤ si.length ∧ i = .int .i64 k ∧ Hid (SitX wr O.heap.size wr.heap.size (.slice ra k rc) cs (si.take k)) ∧ Hid (BAt wr (w.heap.size + 1 + 1) [.int .i64 d, .int .i64 sp, .int .i64 nw, .int .i64 sq, .slice ra k rc, .slice qa le.length qc]) ∧ Below (w.heap.size + 1 + 1) V wr) (fun i _ => si.length - (intOf i).toNat)
  case atStart => exact ⟨0, _, _, [], Nat.zero_le _, rfl, HX0, E2, Below.refl _ _⟩
  case round =>
    clear HX0 E2
    obtain ⟨k, ra, rc, cs, hk, rfl, HX, HB, hbr⟩ := hrel
    have zO : w.heap.size + 3 ≤ O.heap.size := Nat.le_of_eq HZO.out.symm
    have zV : O.heap.size + 1 ≤ V.heap.size := Nat.le_of_eq HZV.out.symm
    have zr := hbr.size
    have hbel : Below w.heap.size w wr := hbV.trans (hbr.mono (by omega))
    have d4 : wr.cell? ⟨w.heap.size, 4, none⟩ = some (.slice pa si.length pc) := (hbr.cell (p := ⟨w.heap.size, 4, none⟩) (by show w.heap.size < _; omega)).trans (E0.out.1 4 _ rfl)
    by_cases hlt : k < si.length
    · have hki : (k : Int) < si.length := by omega
      rcases HS.out.cases with ⟨h0, _⟩ | ⟨_, g, off, cap, hpe, hg, hc⟩
      · rw [h0] at hlt; exact absurd hlt (Nat.not_lt_zero _)
      · injection hpe with i1 i2 i3
        subst i1
        clear i2 i3
        obtain ⟨c0, c1, x, c2, c3⟩ := (hc k hlt).below hbel hg
        have hxl := HF.out k hlt
        obtain ⟨xa, xc, hxe⟩ := c3.slice
        have htl : (si.take k).length = k := by rw [List.length_take]; omega
        have HTK : Hid (si.take (k + 1) = si.take k ++ [si.getD k sitv0]) := hidM (takeD_snoc sitv0 si hlt)
        have HXV := hidM (show (⟨(si.getD k sitv0).n, (si.getD k sitv0).r, (si.getD k sitv0).w⟩ : SiteV) = si.getD k sitv0 from rfl)
        have HCW := hidM c3
        have HTL := hidM htl
        clear hc c3 htl
        generalize si.getD k sitv0 = xs at *
        obtain ⟨xn, xr, xw⟩ := xs
        dsimp only at c0 c1 hxe HCW HXV hxl
        subst hxe
        obtain ⟨V1, hV1⟩ : ∃ V1, V1 = wr.alloc (.cells #[.string xn, .int .i64 xr, .slice xa xw.length xc] 43) := ⟨_, rfl⟩
        have BV1 : Below wr.heap.size wr V1 := by rw [hV1]; exact (Below.refl _ _).alloc (Nat.le_refl _) _
        have zV1 : V1.heap.size = wr.heap.size + 1 := by rw [hV1]; simp
        have AV1 : BAt V1 wr.heap.size [.string xn, .int .i64 xr, .slice xa xw.length xc] := by rw [hV1]; exact BAt.new wr #[.string xn, .int .i64 xr, .slice xa xw.length xc] _
        have HCR : Hid (CRow (V1.alloc (.cells #[] 83)) (.slice xa xw.length xc) xw.length 3 (wtcells xw)) := hidM ((HCW.out.below BV1).below ((Below.refl _ V1).alloc (Nat.le_refl _) (.cells #[] 83))).crow
        have HE := hidM (World.ownsRow_made (e := 83) (size := 3) (base := V1.heap.size) V1 #[] 0 (Nat.le_refl _) (by decide) rfl)
        have a2 : (V1.alloc (.cells #[] 83)).cell? ⟨wr.heap.size, 2, none⟩ = some (.slice xa xw.length xc) := (AV1.alloc _).1 2 _ rfl
        have HAV := hidM AV1
        have HZ1 := hidM zV1
        clear AV1 zV1 HCW
        go_upto_region 7 with fail
        rw [← hV1]
        clear hV1 c0 c1 c2
        go_wp2_with (at_builtin; refine wpList_append_crow rfl _ _ 41 rfl V1.heap.size 83 (.agg #[.string ⟨#[]⟩, .int .i64 0, .int .i64 0]) 3 32 Tryz.underlying41 Tryz.infoWt rfl (by decide) _ 0 _ rfl HE.out _ xw.length (wtcells xw) rfl HCR.out (by omega) (by unfold maxLen; omega) (by simp) ?_)
        intro v1 w1 o1 g1 _
        have B1 : Below wr.heap.size wr w1 := (BV1.alloc BV1.size (.cells #[] 83)).grown g1 (by have := HZ1.out; simp; omega) (fun b hb => by have := (HE.out.lt b hb).1; have := HZ1.out; omega)
        have A1 : BAt w1 wr.heap.size [.string xn, .int .i64 xr, .slice xa xw.length xc] := (HAV.out.alloc _).same g1.size (g1.block _ ((HAV.out.alloc _).2.2) (fun e => by have := (HE.out.lt _ e.symm).1; have := HZ1.out; omega))
        obtain ⟨va, vc, rfl⟩ : ∃ a c, v1 = .slice a xw.length c := by
          rcases o1.2 with ⟨h, h2⟩ | ⟨g, cap, cur, h, _⟩
          · exact ⟨none, 0, by rw [h, h2]⟩
          · exact ⟨_, _, h⟩
        have O1 := hidM (show w1.ownsRow V1.heap.size 83 3 (.slice va xw.length vc) xw.length (wtcells xw) from o1)
        have A1h := hidM A1
        have k2 := A1.1 2 _ rfl
        have kf := A1.2.1
        clear o1 g1 HE HCR a2 HAV BV1 A1
        obtain ⟨Y, hY⟩ : ∃ Y, Y = w1.setCell ⟨wr.heap.size, 2, none⟩ (.slice va xw.length vc) := ⟨_, rfl⟩
        have BY : Below wr.heap.size wr Y := by rw [hY]; exact B1.setCell (Nat.le_refl _) _
        have AY : BAt Y wr.heap.size [.string xn, .int .i64 xr, .slice va xw.length vc] := by rw [hY]; exact A1h.out.set 2 (by simp) _
        have OY : Hid (Y.ownsRow V1.heap.size 83 3 (.slice va xw.length vc) xw.length (wtcells xw)) := hidM (by rw [hY]; exact own_put O1.out (by have := HZ1.out; omega) 2 _)
        have RY : Hid (Y.ownsRow O.heap.size 43 3 (.slice ra k rc) k (sicells cs)) := hidM (by have := own_below HX.out.row BY; rwa [HTL.out] at this)
        have BAY := hidM (HB.out.below BY)
        clear A1h O1 B1
        go_upto_region 8 with fail
        rw [← hY]
        clear hY k2 kf
        have y0 := AY.1 0 _ rfl
        have y1 := AY.1 1 _ rfl
        have y2 := AY.1 2 _ rfl
        have t4 := BAY.out.1 4 _ rfl
        go_wp2_with (at_builtin; refine wpList_append_si Y rfl _ _ 24 rfl O.heap.size 43 (.agg #[.string ⟨#[]⟩, .int .i64 0, .slice none 0 0]) 48 Tryz.underlying24 Tryz.infoSi rfl (.slice ra k rc) k cs rfl RY.out xn xr (.slice va xw.length vc) rfl Y.heap.size rfl rfl (by omega) (by unfold maxLen; omega) (by have := BY.size; omega) ?_)
        intro v4 w4 o4 g4
        have hrl := fun b hb => (RY.out.lt b hb).1
        have A4 : BAt w4 (w.heap.size + 1 + 1) [.int .i64 d, .int .i64 sp, .int .i64 nw, .int .i64 sq, .slice ra k rc, .slice qa le.length qc] := BAY.out.same g4.size (g4.block _ BAY.out.2.2 (fun e => by have := hrl _ e.symm; omega))
        have B4 : Below (w.heap.size + 1 + 1) V w4 := (hbr.trans (BY.mono (by omega))).grown g4 (by have := BY.size; omega) (fun b hb => by have := hrl b hb; omega)
        obtain ⟨sa, sc, rfl⟩ : ∃ a c, v4 = .slice a (k + 1) c := by
          rcases o4.2 with ⟨h, h2⟩ | ⟨g, cap, cur, h, _⟩
          · exact absurd h2 (by omega)
          · exact ⟨_, _, h⟩
        have HF1 : Hid (∀ Z, Z = w4.setCell ⟨w.heap.size + 1 + 1, 4, none⟩ (.slice sa (k + 1) sc) → SitX Z O.heap.size Z.heap.size (.slice sa (k + 1) sc) (cs ++ [⟨xn, xr, .slice va xw.length vc⟩]) (si.take (k + 1)) ∧ BAt Z (w.heap.size + 1 + 1) [.int .i64 d, .int .i64 sp, .int .i64 nw, .int .i64 sq, .slice sa (k + 1) sc, .slice qa le.length qc] ∧ Below (w.heap.size + 1 + 1) V Z) := fun Z hZ => by
          refine ⟨?_, by rw [hZ]; exact A4.set 4 (by simp) _, by rw [hZ]; exact B4.setCell (Nat.le_refl _) _⟩
          rw [HTK.out]
          exact HX.out.more (Nat.le_refl _) BY (by rw [HTL.out]; exact o4) g4 (fun b hb => by rw [hZ]; exact Below.heap_setCell _ _ _ _ (by show b ≠ w.heap.size + 1 + 1; omega)) (by rw [hZ]; simp) rfl rfl OY.out (by have := HZ1.out; omega) (by have := HZ1.out; omega)
        have m4 := A4.1 4 _ rfl
        have mf := A4.2.1
        clear o4 g4 RY OY BAY hrl A4 B4 y0 y1 y2 t4 AY HX HB
        go_wp2_with fail
        go_roundw
        case rel => exact ⟨k + 1, sa, sc, _, by omega, by go_num, hidM (HF1.out _ rfl).1, hidM (HF1.out _ rfl).2.1, (HF1.out _ rfl).2.2⟩
        case measure => simp [intOf]; omega
    · have hki : ¬ (k : Int) < si.length := by omega
      obtain rfl : k = si.length := by omega
      have d5 : wr.cell? ⟨w.heap.size, 5, none⟩ = some (.slice qa le.length qc) := (hbr.cell (p := ⟨w.heap.size, 5, none⟩) (by show w.heap.size < _; omega)).trans (E0.out.1 5 _ rfl)
      have HCR : Hid (CRow (wr.alloc (.cells #[] 51)) (.slice qa le.length qc) le.length 4 (lscells le)) := hidM ((HL.out.below hbel).below ((Below.refl _ wr).alloc (Nat.le_refl _) (.cells #[] 51))).crow
      have HE := hidM (World.ownsRow_made (e := 51) (size := 4) (base := wr.heap.size) wr #[] 0 (Nat.le_refl _) (by decide) rfl)
      have T0 := HB.out.alloc (.cells #[] 51)
      have d5a : (wr.alloc (.cells #[] 51)).cell? ⟨w.heap.size, 5, none⟩ = some (.slice qa le.length qc) := (((Below.refl _ wr).alloc (Nat.le_refl _) (.cells #[] 51)).cell (p := ⟨w.heap.size, 5, none⟩) (by show w.heap.size < _; omega)).trans d5
      rw [List.take_length] at HX
      have R1 : BAt wr (w.heap.size + 1) [.int .i64 0, .int .i64 0, .int .i64 0, .int .i64 0, .slice none 0 0, .slice none 0 0] := E1.out.same hbr.size (hbr.block _ (by omega))
      have HR1 := hidM R1
      clear R1
      go_wp2_with (at_builtin; refine wpList_append_crow rfl _ _ 25 rfl wr.heap.size 51 (.agg #[.string ⟨#[]⟩, .string ⟨#[]⟩, .int .i64 0, .int .i64 0]) 4 48 Tryz.underlying25 Tryz.infoLs rfl (by decide) _ 0 _ rfl HE.out _ le.length (lscells le) rfl HCR.out (by omega) (by unfold maxLen; omega) (by simp) ?_)
      intro v1 w1 o1 g1 _
      have hrl := fun b hb => (HE.out.lt b hb).1
      have B1 : Below wr.heap.size wr w1 := ((Below.refl _ wr).alloc (Nat.le_refl _) (.cells #[] 51)).grown g1 (by simp) hrl
      obtain ⟨la, lc, rfl⟩ : ∃ a c, v1 = .slice a le.length c := by
        rcases o1.2 with ⟨h, h2⟩ | ⟨g, cap, cur, h, _⟩
        · exact ⟨none, 0, by rw [h, h2]⟩
        · exact ⟨_, _, h⟩
      have O1 := hidM (show w1.ownsRow wr.heap.size 51 4 (.slice la le.length lc) le.length (lscells le) from o1)
      have T1 := HB.out.below B1
      have R1 := HR1.out.below B1
      have m5 := T1.1 5 _ rfl
      have mf := T1.2.1
      obtain ⟨Y, hY⟩ : ∃ Y, Y = w1.setCell ⟨w.heap.size + 1 + 1, 5, none⟩ (.slice la le.length lc) := ⟨_, rfl⟩
      have BYw : Below w.heap.size w Y := by rw [hY]; exact (hbel.trans (B1.mono (by omega))).setCell (by simp; omega) _
      have TY : BAt Y (w.heap.size + 1 + 1) [.int .i64 d, .int .i64 sp, .int .i64 nw, .int .i64 sq, .slice ra si.length rc, .slice la le.length lc] := by rw [hY]; exact T1.set 5 (by simp) _
      have RY : BAt Y (w.heap.size + 1) [.int .i64 0, .int .i64 0, .int .i64 0, .int .i64 0, .slice none 0 0, .slice none 0 0] := by rw [hY]; exact R1.other (by omega) 5 _
      have hYb : ∀ b, O.heap.size ≤ b → Y.heap[b]? = w1.heap[b]? := fun b hb => by rw [hY]; exact Below.heap_setCell _ _ _ _ (by show b ≠ w.heap.size + 1 + 1; omega)
      have hYz : Y.heap.size = w1.heap.size := by rw [hY]; simp
      have HFIN : Hid (∀ F, F = six Y (w.heap.size + 1) (.int .i64 d) (.int .i64 sp) (.int .i64 nw) (.int .i64 sq) (.slice ra si.length rc) (.slice la le.length lc) → SchR w d sp nw sq si le (.returned (.agg #[.int .i64 d, .int .i64 sp, .int .i64 nw, .int .i64 sq, .slice ra si.length rc, .slice la le.length lc])) F) := fun F hF => by
        have hFz : F.heap.size = w1.heap.size := by rw [hF, six_size, hYz]
        have hFb : ∀ b, O.heap.size ≤ b → F.heap[b]? = w1.heap[b]? := fun b hb => by rw [hF, six_block _ _ _ _ _ _ _ _ (by omega), hYb b hb]
        have b1z := B1.size
        refine ⟨ra, rc, la, lc, rfl, ⟨⟨cs, (HX.out.same (top' := F.heap.size) (by omega) fun b h1 h2 => ?_).wide (by omega)⟩, own_wide1 (own_at O1.out fun b hb => hFb b (by have := (O1.out.lt b hb).1; omega)) (by omega), fun b hb => by have := (O1.out.lt b hb).2; omega⟩, by rw [hF]; exact six_below BYw (by omega) _ _ _ _ _ _⟩
        rw [hFb b h1]
        exact B1.block b h2
      have HRY := hidM RY
      clear o1 g1 hrl B1 O1 T1 R1 HE HCR HX HB T0 RY hYb hYz
      go_upto_region 10 with fail
      rw [← hY]
      clear hY m5 mf
      have y0 := TY.1 0 _ rfl
      have y1 := TY.1 1 _ rfl
      have y2 := TY.1 2 _ rfl
      have y3 := TY.1 3 _ rfl
      have y4 := TY.1 4 _ rfl
      have y5 := TY.1 5 _ rfl
      have r0 := HRY.out.1 0 _ rfl
      have r1 := HRY.out.1 1 _ rfl
      have r2 := HRY.out.1 2 _ rfl
      have r3 := HRY.out.1 3 _ rfl
      have r4 := HRY.out.1 4 _ rfl
      have r5 := HRY.out.1 5 _ rfl
      have rf := HRY.out.2.1
      go_wp2_with fail
      (try simp only [Exit.inBlock, Exit.then])
      refine bodyPost_ret (sch_result1 rfl _ _ (w.heap.size + 1) _ _ _ _ _ _ rfl (six_at HRY.out _ _ _ _ _ _)) rfl ?_
      exact HFIN.out _ rfl
end Go.Proofs.YtcjblhiihgdljaaGreat
