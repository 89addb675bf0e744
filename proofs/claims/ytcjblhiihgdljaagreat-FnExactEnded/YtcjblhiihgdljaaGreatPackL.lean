/- Contracts and plain laws: ChangeI, EndI, LastOp, EndS, EndLaw. -/
import Derived.Test.YtcjblhiihgdljaaGreatRows
import Derived.Test.YtcjblhiihgdljaaGreatSchedI
import Derived.Test.YtcjblhiihgdljaaGreatSchOkAll
import Derived.Deep.RegionHeld
import Derived.Test.YtcjblhiihgdljaaGreatSchOkS
import Derived.Test.YtcjblhiihgdljaaGreatPackJ
namespace Go.Proofs.YtcjblhiihgdljaaGreat
open Go.RowKit
set_option linter.unusedVariables false
set_option linter.unusedSimpArgs false

theorem sch_result2 {fn : Func} {q r : Tmp} (h : fn.results = #[.cell q 27, .tmp r]) (tmps : Array Value) (W : World) (B : Nat) (a b c d e f v : Value)
    (hp : tmps[q]?.getD undef = .pointer (some ⟨B, 0, none⟩)) (hr : tmps[r]?.getD undef = v) (hx : BAt W B [a, b, c, d, e, f]) : (results fn tmps).run Tryz.prog W = .ok (.tuple #[.agg #[a, b, c, d, e, f], v]) W := by
  have c0 := hx.1 0 _ rfl
  have c1 := hx.1 1 _ rfl
  have c2 := hx.1 2 _ rfl
  have c3 := hx.1 3 _ rfl
  have c4 := hx.1 4 _ rfl
  have c5 := hx.1 5 _ rfl
  simp [results, h, hp, hr, asAddr, go_sem, c0, c1, c2, c3, c4, c5, Addr.add_lit]
/-- Queues and a truth that are answered. -/
def SchTR (w : World) (b : Bool) (d sp nw sq : Int) (si : List SiteV) (le : List LsV) (e : Ending) (w' : World) : Prop := ∃ ao ac bo bc, e = .returned (.tuple #[.agg #[.int .i64 d, .int .i64 sp, .int .i64 nw, .int .i64 sq, .slice ao si.length ac, .slice bo le.length bc], .bool b]) ∧ SchOwn w' w.heap.size w'.heap.size (.slice ao si.length ac) (.slice bo le.length bc) si le ∧ Below w.heap.size w w'
theorem SchTR.mk {w w2 w3 Y F : World} {b : Bool} {d sp nw sq : Int} {si : List SiteV} {le : List LsV} {ao bo : Option Addr} {ac bc B T : Nat} (h : SchOwn w2 B w2.heap.size (.slice ao si.length ac) (.slice bo le.length bc) si le) (hB : T < B) (hT : w.heap.size ≤ T) (hw : Below w.heap.size w w2)
    (hF : F = six w2 T (.int .i64 d) (.int .i64 sp) (.int .i64 nw) (.int .i64 sq) (.slice ao si.length ac) (.slice bo le.length bc)) :
    SchTR w b d sp nw sq si le (.returned (.tuple #[.agg #[.int .i64 d, .int .i64 sp, .int .i64 nw, .int .i64 sq, .slice ao si.length ac, .slice bo le.length bc], .bool b])) F :=
  ⟨ao, ac, bo, bc, rfl, (h.same (by rw [hF, six_size]; exact Nat.le_refl _) fun x h1 h2 => by rw [hF]; exact six_block _ _ _ _ _ _ _ _ (by omega)).wide (by omega), by rw [hF]; exact six_below hw hT _ _ _ _ _ _⟩
structure ChP (si2 : List SiteV) (N2 : Nat) (le2 : List LsV) : Prop where
  few : SitFew si2
  len : le2.length ≤ 1048576
  n : N2 ≤ 1048576
  tx : TxB si2 le2
  srt : le2.Pairwise fun a b => lBef a b = true
set_option maxRecDepth 100000 in
set_option maxHeartbeats 16000000 in
theorem implChanged (d sp nw sq : Int) (si : List SiteV) (le : List LsV) (p q : Value) (g : Nat) (cb : Array Value) (okB : Bool) (d2 sp2 nw2 sq2 : Int) (si2 : List SiteV) (N2 : Nat) (le2 : List LsV) (w : World)
    (hn : SitFew si) (hl : le.length ≤ 1048576) (hx : TxB si le) (hp : SitRow w p si) (hq : LsRow w q le) (eg : ∀ args w, (callFunc g args).run Tryz.prog w = .ok (.enter g args) w)
    (hP : SOk d sp nw sq si le → okB = true → ChP si2 N2 le2)
    (hC : ∀ W base Q, SOk d sp nw sq si le → Below w.heap.size w W → w.heap.size ≤ base → QStO W base Q d sp nw sq si le.length le → Calls Tryz.prog g (#[.pointer (some ⟨Q, 0, none⟩)] ++ cb) W fun e W' => e = .returned (.bool okB) ∧ (okB = true → QStO W' base Q d2 sp2 nw2 sq2 si2 N2 le2) ∧ Below base W W') :
    Calls Tryz.prog 45 #[.agg #[.int .i64 d, .int .i64 sp, .int .i64 nw, .int .i64 sq, p, q], .func (.func g) #[] cb] w fun e w' =>
      ((SOk d sp nw sq si le ∧ okB = true ∧ SOk d2 sp2 nw2 sq2 si2 le2) ∧ SchTR w true d2 sp2 nw2 sq2 si2 le2 e w') ∨ (¬ (SOk d sp nw sq si le ∧ okB = true ∧ SOk d2 sp2 nw2 sq2 si2 le2) ∧ SchTR w false d sp nw sq si le e w') := by
  have HF := hidM hn
  have HX := hidM hx
  have HS := hidM hp
  have HL := hidM hq
  have HPP := hidM hP
  have HC := hidM hC
  obtain ⟨pa, pc, rfl⟩ := hp.slice
  obtain ⟨qa, qc, rfl⟩ := hq.slice
  clear hp hq hn hx hP hC
  obtain ⟨O, hO⟩ : ∃ O, O = (w.alloc (.cells #[.int .i64 d, .int .i64 sp, .int .i64 nw, .int .i64 sq, .slice pa si.length pc, .slice qa le.length qc] 27)).alloc (.cells #[.int .i64 0, .int .i64 0, .int .i64 0, .int .i64 0, .slice none 0 0, .slice none 0 0] 27) := ⟨_, rfl⟩
  have hbO : Below w.heap.size w O := by rw [hO]; exact ((Below.refl _ _).alloc (Nat.le_refl _) _).alloc (by simp) _
  have hzO : w.heap.size + 2 ≤ O.heap.size := by rw [hO]; simp
  have A0 : Hid (BAt O w.heap.size [.int .i64 d, .int .i64 sp, .int .i64 nw, .int .i64 sq, .slice pa si.length pc, .slice qa le.length qc]) := hidM (by rw [hO]; exact (BAt.new w #[.int .i64 d, .int .i64 sp, .int .i64 nw, .int .i64 sq, .slice pa si.length pc, .slice qa le.length qc] _).alloc _)
  have A1 : Hid (BAt O (w.heap.size + 1) [.int .i64 0, .int .i64 0, .int .i64 0, .int .i64 0, .slice none 0 0, .slice none 0 0]) := hidM (by
    rw [hO]
    have := BAt.new (w.alloc (.cells #[.int .i64 d, .int .i64 sp, .int .i64 nw, .int .i64 sq, .slice pa si.length pc, .slice qa le.length qc] 27)) #[.int .i64 0, .int .i64 0, .int .i64 0, .int .i64 0, .slice none 0 0, .slice none 0 0] 27
    rw [World.size_alloc] at this
    exact this)
  have CI := hidM (implSchedOk d sp nw sq si le (.slice pa si.length pc) (.slice qa le.length qc) O HF.out (by omega) (HS.out.below hbO) (HL.out.below hbO))
  go_enter Tryz.func45, Tryz.ntmps45
  go_upto_region 1 with fail
  rw [← hO]
  clear hO
  have c0 := A0.out.1 0 _ rfl
  have c1 := A0.out.1 1 _ rfl
  have c2 := A0.out.1 2 _ rfl
  have c3 := A0.out.1 3 _ rfl
  have c4 := A0.out.1 4 _ rfl
  have c5 := A0.out.1 5 _ rfl
  go_wp2_with fail
  refine CI.out.mono ?_
  rintro e w1 ⟨b1, rfl, hb1, d1⟩
  have HB1 := hidM hb1
  clear c0 c1 c2 c3 c4 c5
  clear CI hb1
  cases b1 with
  | false =>
    have HNO : Hid (¬ (SOk d sp nw sq si le ∧ okB = true ∧ SOk d2 sp2 nw2 sq2 si2 le2)) := fun h => HB1.out.neg h.1
    clear HB1 HPP HC
    have TW := A0.out.below d1
    have RW := A1.out.below d1
    have bw := hbO.trans (d1.mono hbO.size)
    have CF := hidM (implOwnSched d sp nw sq si le (.slice pa si.length pc) (.slice qa le.length qc) _ HF.out (by omega) HX.out (HS.out.below bw) (HL.out.below bw))
    have c0 := TW.1 0 _ rfl
    have c1 := TW.1 1 _ rfl
    have c2 := TW.1 2 _ rfl
    have c3 := TW.1 3 _ rfl
    have c4 := TW.1 4 _ rfl
    have c5 := TW.1 5 _ rfl
    go_wp2_with fail
    refine CF.out.mono ?_
    rintro e wf ⟨fa, fc, ga, gc, rfl, of', bf⟩
    have bwf := bw.trans (bf.mono bw.size)
    have RF := RW.below bf
    have hzz := d1.size
    have HFIN := hidM (fun F hF => SchTR.mk (w := w) (w2 := wf) (w3 := wf) (Y := wf) (F := F) (b := false) (d := d) (sp := sp) (nw := nw) (sq := sq) (T := w.heap.size + 1) of' (by omega) (by omega) bwf hF)
    clear c0 c1 c2 c3 c4 c5
    clear CF of' bf TW RW
    have r0 := RF.1 0 _ rfl
    have r1 := RF.1 1 _ rfl
    have r2 := RF.1 2 _ rfl
    have r3 := RF.1 3 _ rfl
    have r4 := RF.1 4 _ rfl
    have r5 := RF.1 5 _ rfl
    have rf := RF.2.1
    go_wp2_with fail
    (try simp only [Exit.inBlock, Exit.then])
    refine bodyPost_ret (sch_result2 rfl _ _ (w.heap.size + 1) _ _ _ _ _ _ _ rfl rfl (six_at RF _ _ _ _ _ _)) rfl ?_
    first | exact .inr ⟨HNO.out, HFIN.out _ rfl⟩ | exact .inr ⟨fun h1 h2 => HNO.out ⟨h1, (by first | exact trivial | rfl), h2⟩, HFIN.out _ rfl⟩
  | true =>
    have HOK := hidM HB1.out.pos
    have bw1 := hbO.trans (d1.mono hbO.size)
    have T1 := A0.out.below d1
    have CQ := hidM (implQueuesOf d sp nw sq si le (.slice pa si.length pc) (.slice qa le.length qc) w1 HF.out hl HX.out HOK.out.rt.la (HS.out.below bw1) (HL.out.below bw1))
    have c0 := T1.1 0 _ rfl
    have c1 := T1.1 1 _ rfl
    have c2 := T1.1 2 _ rfl
    have c3 := T1.1 3 _ rfl
    have c4 := T1.1 4 _ rfl
    have c5 := T1.1 5 _ rfl
    clear HB1
    go_wp2_with fail
    refine CQ.out.mono ?_
    rintro e w2 ⟨Q, rfl, q2, d2'⟩
    have B2 := d1.trans (d2'.mono d1.size)
    have bw2 := hbO.trans (B2.mono hbO.size)
    have CG := hidM (HC.out w2 w1.heap.size Q HOK.out bw2 bw1.size q2)
    have hs1 := d1.size
    have hs2 := d2'.size
    clear c0 c1 c2 c3 c4 c5
    clear CQ q2 T1 HC
    go_wp2_with fail
    refine CG.out.mono ?_
    rintro e w3 ⟨rfl, hq3, d3⟩
    have B3 := B2.trans (d3.mono (by omega))
    have HQ3 := hidM hq3
    clear CG hq3
    cases okB with
    | false =>
      have HNO : Hid (¬ (SOk d sp nw sq si le ∧ false = true ∧ SOk d2 sp2 nw2 sq2 si2 le2)) := fun h => by cases h.2.1
      clear HPP HQ3
      have TW := A0.out.below B3
      have RW := A1.out.below B3
      have bw := hbO.trans (B3.mono hbO.size)
      have CF := hidM (implOwnSched d sp nw sq si le (.slice pa si.length pc) (.slice qa le.length qc) _ HF.out (by omega) HX.out (HS.out.below bw) (HL.out.below bw))
      have c0 := TW.1 0 _ rfl
      have c1 := TW.1 1 _ rfl
      have c2 := TW.1 2 _ rfl
      have c3 := TW.1 3 _ rfl
      have c4 := TW.1 4 _ rfl
      have c5 := TW.1 5 _ rfl
      go_wp2_with fail
      refine CF.out.mono ?_
      rintro e wf ⟨fa, fc, ga, gc, rfl, of', bf⟩
      have bwf := bw.trans (bf.mono bw.size)
      have RF := RW.below bf
      have hzz := B3.size
      have HFIN := hidM (fun F hF => SchTR.mk (w := w) (w2 := wf) (w3 := wf) (Y := wf) (F := F) (b := false) (d := d) (sp := sp) (nw := nw) (sq := sq) (T := w.heap.size + 1) of' (by omega) (by omega) bwf hF)
      clear c0 c1 c2 c3 c4 c5
      clear CF of' bf TW RW
      have r0 := RF.1 0 _ rfl
      have r1 := RF.1 1 _ rfl
      have r2 := RF.1 2 _ rfl
      have r3 := RF.1 3 _ rfl
      have r4 := RF.1 4 _ rfl
      have r5 := RF.1 5 _ rfl
      have rf := RF.2.1
      go_wp2_with fail
      (try simp only [Exit.inBlock, Exit.then])
      refine bodyPost_ret (sch_result2 rfl _ _ (w.heap.size + 1) _ _ _ _ _ _ _ rfl rfl (six_at RF _ _ _ _ _ _)) rfl ?_
      first | exact .inr ⟨HNO.out, HFIN.out _ rfl⟩ | exact .inr ⟨fun h1 h2 => HNO.out ⟨h1, (by first | exact trivial | rfl), h2⟩, HFIN.out _ rfl⟩
    | true =>
      have HP3 := hidM (HPP.out HOK.out rfl)
      have bw3 := hbO.trans (B3.mono hbO.size)
      have CS := hidM (implSched w1.heap.size Q d2 sp2 nw2 sq2 si2 N2 le2 w3 HP3.out.n HP3.out.few.1 HP3.out.len HP3.out.srt (HQ3.out rfl))
      clear HPP HQ3
      go_wp2_with fail
      refine CS.out.mono ?_
      rintro e w4 ⟨ao, ac, bo, bc, rfl, o4, d4⟩
      have B4 := B3.trans (d4.mono B3.size)
      obtain ⟨V, hV⟩ : ∃ V, V = w4.alloc (.cells #[.int .i64 d2, .int .i64 sp2, .int .i64 nw2, .int .i64 sq2, .slice ao si2.length ac, .slice bo le2.length bc] 27) := ⟨_, rfl⟩
      have bV : Below w4.heap.size w4 V := by rw [hV]; exact (Below.refl _ _).alloc (Nat.le_refl _) _
      have AV : BAt V w4.heap.size [.int .i64 d2, .int .i64 sp2, .int .i64 nw2, .int .i64 sq2, .slice ao si2.length ac, .slice bo le2.length bc] := by rw [hV]; exact BAt.new w4 #[.int .i64 d2, .int .i64 sp2, .int .i64 nw2, .int .i64 sq2, .slice ao si2.length ac, .slice bo le2.length bc] _
      have BV := B4.trans (bV.mono B4.size)
      have HRV := hidM (o4.row.below bV)
      have CJ := hidM (implSchedOk d2 sp2 nw2 sq2 si2 le2 (.slice ao si2.length ac) (.slice bo le2.length bc) V HP3.out.few (by have := HP3.out.len; omega) HRV.out.1 HRV.out.2)
      clear CS o4 d4
      go_upto_region 5 with fail
      rw [← hV]
      clear hV bV
      generalize w4.heap.size = T7 at *
      have v0 := AV.1 0 _ rfl
      have v1 := AV.1 1 _ rfl
      have v2 := AV.1 2 _ rfl
      have v3 := AV.1 3 _ rfl
      have v4 := AV.1 4 _ rfl
      have v5 := AV.1 5 _ rfl
      go_wp2_with fail
      refine CJ.out.mono ?_
      rintro e w5 ⟨b5, rfl, hb5, d5⟩
      have HB5 := hidM hb5
      have B5 := BV.trans (d5.mono BV.size)
      have A5 := AV.below d5
      have HR5 := hidM (HRV.out.below d5)
      clear v0 v1 v2 v3 v4 v5 CJ hb5 AV HRV
      cases b5 with
      | false =>
        have HNO : Hid (¬ (SOk d sp nw sq si le ∧ true = true ∧ SOk d2 sp2 nw2 sq2 si2 le2)) := fun h => HB5.out.neg h.2.2
        clear A5 HR5 HP3
        have TW := A0.out.below B5
        have RW := A1.out.below B5
        have bw := hbO.trans (B5.mono hbO.size)
        have CF := hidM (implOwnSched d sp nw sq si le (.slice pa si.length pc) (.slice qa le.length qc) _ HF.out (by omega) HX.out (HS.out.below bw) (HL.out.below bw))
        have c0 := TW.1 0 _ rfl
        have c1 := TW.1 1 _ rfl
        have c2 := TW.1 2 _ rfl
        have c3 := TW.1 3 _ rfl
        have c4 := TW.1 4 _ rfl
        have c5 := TW.1 5 _ rfl
        go_wp2_with fail
        refine CF.out.mono ?_
        rintro e wf ⟨fa, fc, ga, gc, rfl, of', bf⟩
        have bwf := bw.trans (bf.mono bw.size)
        have RF := RW.below bf
        have hzz := B5.size
        have HFIN := hidM (fun F hF => SchTR.mk (w := w) (w2 := wf) (w3 := wf) (Y := wf) (F := F) (b := false) (d := d) (sp := sp) (nw := nw) (sq := sq) (T := w.heap.size + 1) of' (by omega) (by omega) bwf hF)
        clear c0 c1 c2 c3 c4 c5
        clear CF of' bf TW RW
        have r0 := RF.1 0 _ rfl
        have r1 := RF.1 1 _ rfl
        have r2 := RF.1 2 _ rfl
        have r3 := RF.1 3 _ rfl
        have r4 := RF.1 4 _ rfl
        have r5 := RF.1 5 _ rfl
        have rf := RF.2.1
        go_wp2_with fail
        (try simp only [Exit.inBlock, Exit.then])
        refine bodyPost_ret (sch_result2 rfl _ _ (w.heap.size + 1) _ _ _ _ _ _ _ rfl rfl (six_at RF _ _ _ _ _ _)) rfl ?_
        first | exact .inr ⟨HNO.out, HFIN.out _ rfl⟩ | exact .inr ⟨fun h1 h2 => HNO.out ⟨h1, (by first | exact trivial | rfl), h2⟩, HFIN.out _ rfl⟩
      | true =>
        have HYES : Hid (SOk d sp nw sq si le ∧ true = true ∧ SOk d2 sp2 nw2 sq2 si2 le2) := hidM ⟨HOK.out, rfl, HB5.out.pos⟩
        have CF := hidM (implOwnSched d2 sp2 nw2 sq2 si2 le2 (.slice ao si2.length ac) (.slice bo le2.length bc) w5 HP3.out.few (by have := HP3.out.len; omega) HP3.out.tx HR5.out.1 HR5.out.2)
        have v0 := A5.1 0 _ rfl
        have v1 := A5.1 1 _ rfl
        have v2 := A5.1 2 _ rfl
        have v3 := A5.1 3 _ rfl
        have v4 := A5.1 4 _ rfl
        have v5 := A5.1 5 _ rfl
        go_wp2_with fail
        refine CF.out.mono ?_
        rintro e wf ⟨fa, fc, ga, gc, rfl, of', bf⟩
        have bw5 := hbO.trans (B5.mono hbO.size)
        have bwf := bw5.trans (bf.mono bw5.size)
        have RF := (A1.out.below B5).below bf
        have hzz := B5.size
        have HFIN := hidM (fun F hF => SchTR.mk (w := w) (w2 := wf) (w3 := wf) (Y := wf) (F := F) (b := true) (d := d2) (sp := sp2) (nw := nw2) (sq := sq2) (T := w.heap.size + 1) of' (by omega) (by omega) bwf hF)
        clear CF of' bf v0 v1 v2 v3 v4 v5 A5 HR5
        have r0 := RF.1 0 _ rfl
        have r1 := RF.1 1 _ rfl
        have r2 := RF.1 2 _ rfl
        have r3 := RF.1 3 _ rfl
        have r4 := RF.1 4 _ rfl
        have r5 := RF.1 5 _ rfl
        have rf := RF.2.1
        go_wp2_with fail
        (try simp only [Exit.inBlock, Exit.then])
        refine bodyPost_ret (sch_result2 rfl _ _ (w.heap.size + 1) _ _ _ _ _ _ _ rfl rfl (six_at RF _ _ _ _ _ _)) rfl ?_
        exact .inl ⟨⟨HYES.out.1, HYES.out.2.2⟩, HFIN.out _ rfl⟩
end Go.Proofs.YtcjblhiihgdljaaGreat

namespace Go.Proofs.YtcjblhiihgdljaaGreat
open Go.RowKit
set_option linter.unusedVariables false
set_option linter.unusedSimpArgs false

def four (W : World) (B : Nat) (a b c d : Value) : World := (((W.setCell ⟨B, 0, none⟩ a).setCell ⟨B, 1, none⟩ b).setCell ⟨B, 2, none⟩ c).setCell ⟨B, 3, none⟩ d
theorem four_at {W : World} {B : Nat} {a0 b0 c0 d0 : Value} (h : BAt W B [a0, b0, c0, d0]) (a b c d : Value) : BAt (four W B a b c d) B [a, b, c, d] :=
  (((h.set 0 (by simp) a).set 1 (by simp) b).set 2 (by simp) c).set 3 (by simp) d
theorem four_below {n : Nat} {W0 W : World} {B : Nat} (h : Below n W0 W) (hn : n ≤ B) (a b c d : Value) : Below n W0 (four W B a b c d) :=
  (((h.setCell hn a).setCell hn b).setCell hn c).setCell hn d
theorem four_size (W : World) (B : Nat) (a b c d : Value) : (four W B a b c d).heap.size = W.heap.size := by simp [four]
theorem four_block (W : World) (B : Nat) (a b c d : Value) {k : Nat} (h : k ≠ B) : (four W B a b c d).heap[k]? = W.heap[k]? := by
  unfold four
  rw [Below.heap_setCell _ _ _ _ h, Below.heap_setCell _ _ _ _ h, Below.heap_setCell _ _ _ _ h, Below.heap_setCell _ _ _ _ h]
theorem four_grown (W : World) (B : Nat) (a b c d : Value) : W.grownBy (four W B a b c d) (some B) :=
  (((put_grown W B 0 a).trans (put_grown _ B 1 b)).trans (put_grown _ B 2 c)).trans (put_grown _ B 3 d)
theorem ls_result2 {fn : Func} {q r : Tmp} (h : fn.results = #[.cell q 51, .tmp r]) (tmps : Array Value) (W : World) (B : Nat) (a b c d v : Value)
    (hp : tmps[q]?.getD undef = .pointer (some ⟨B, 0, none⟩)) (hr : tmps[r]?.getD undef = v) (hx : BAt W B [a, b, c, d]) : (results fn tmps).run Tryz.prog W = .ok (.tuple #[.agg #[a, b, c, d], v]) W := by
  have c0 := hx.1 0 _ rfl
  have c1 := hx.1 1 _ rfl
  have c2 := hx.1 2 _ rfl
  have c3 := hx.1 3 _ rfl
  simp [results, h, hp, hr, asAddr, go_sem, c0, c1, c2, c3, Addr.add_lit]
theorem Tryz.zeroLs (w : World) : (zeroValue 51).run Tryz.prog w = .ok (lsA lsv0) w := by
  obtain ⟨i0, hi, hz0, -, -⟩ := info_parts Tryz.infoLs
  simp [zeroValue, typeInfo, hi, hz0]
  rfl
theorem QStO.base_le {w : World} {base Q : Nat} {d sp nw sq : Int} {si : List SiteV} {N : Nat} {le : List LsV} (h : QStO w base Q d sp nw sq si N le) : base ≤ w.heap.size := by
  obtain ⟨sv, ps, cs, mb, h⟩ := h
  have := h.obj.lt
  have := h.qb
  omega
/-- A key is leased. -/
def lHas (le : List LsV) (k : ByteArray) : Bool := le.any fun x => decide (x.k = k)
theorem lHas_iff {le : List LsV} {k : ByteArray} : lHas le k = true ↔ ∃ x ∈ le, x.k = k := by simp [lHas]
/-- What is told of a key that is ended: whether it was leased, and if so the lease. -/
def EndR (le : List LsV) (k : ByteArray) (e : Ending) : Prop := ∃ x, e = .returned (.tuple #[lsA x, .bool (lHas le k)]) ∧ (lHas le k = true → x ∈ le ∧ x.k = k)
theorem LMap.end {w : World} {b n : Nat} {D : DataW Unit} {le : List LsV} (h : LMap w b n D le) {k : ByteArray} {v : Value} {ps : List MemPlace} (hv : leaseD v = some (D.atKey (kLit k) (lsData lsv0), ps)) :
    ∃ x, v = lsA x ∧ Maps.has D (kLit k) = lHas le k ∧ (lHas le k = true → x ∈ le ∧ x.k = k) := by
  obtain ⟨x, rfl, hx⟩ := leaseD_inv hv
  refine ⟨x, rfl, ?_, fun hh => ?_⟩
  · cases hb : lHas le k with
    | true =>
      obtain ⟨y, hy, rfl⟩ := lHas_iff.1 hb
      exact h.yes hy
    | false =>
      refine h.no fun y hy e => ?_
      have := lHas_iff.2 ⟨y, hy, e⟩
      rw [hb] at this
      cases this
  · obtain ⟨y, hy, rfl⟩ := lHas_iff.1 hh
    have e1 := h.at' y hy (lsData lsv0)
    have e2 := (Prod.mk.inj hx).1
    rw [e1] at e2
    have := lsData_inj e2
    subst this
    exact ⟨hy, rfl⟩
set_option maxHeartbeats 4000000 in
theorem implEnd (base Q : Nat) (d sp nw sq : Int) (si : List SiteV) (N : Nat) (le : List LsV) (k : ByteArray) (w : World) (hk : k.size ≤ 1048576) (h : QStO w base Q d sp nw sq si N le) :
    Calls Tryz.prog 70 #[.pointer (some ⟨Q, 0, none⟩), .string k] w fun e w' => EndR le k e ∧ QStO w' base Q d sp nw sq si N (lRem le k) ∧ Below base w w' := by
  obtain ⟨sv, ps, cs, mb, h⟩ := h
  have HQ := hidM h
  have hkl : k.size ≤ maxLen := by unfold maxLen; omega
  obtain ⟨O, hO⟩ : ∃ O, O = w.alloc (.cells #[.string ⟨#[]⟩, .string ⟨#[]⟩, .int .i64 0, .int .i64 0] 51) := ⟨_, rfl⟩
  have bO : Below w.heap.size w O := by rw [hO]; exact (Below.refl _ _).alloc (Nat.le_refl _) _
  have AO : BAt O w.heap.size [.string ⟨#[]⟩, .string ⟨#[]⟩, .int .i64 0, .int .i64 0] := by rw [hO]; exact BAt.new w #[.string ⟨#[]⟩, .string ⟨#[]⟩, .int .i64 0, .int .i64 0] _
  have QO := h.below bO
  obtain ⟨D, hD⟩ := QO.map
  have HD := hidM hD
  have HQO := hidM QO
  have HAO := hidM AO
  have q5 := QO.obj.bat.1 5 _ rfl
  clear hD h QO AO
  go_enter Tryz.func70, Tryz.ntmps70
  go_upto_region 1 with fail
  rw [← hO]
  clear hO
  go_wp2_with (at_lookup; refine wpList_lookup_own_ok _ rfl _ _ 93 rfl 9 51 (Maps.string_keyed Tryz.underlying9) Tryz.underlying93 leaseD (Tryz.zeroLs _) (lsData lsv0) [] rfl mb N D rfl HD.out.own _ _ rfl (string_lit hkl) ?_)
  intro v ps2 hv
  obtain ⟨x, hx, hhas, hin⟩ := HD.out.end hv
  rw [hhas]
  subst hx
  have HIN := hidM hin
  clear hv hhas hin
  generalize hb : lHas le k = b at *
  unfold lsA
  obtain ⟨V, hV⟩ : ∃ V, V = O.alloc (.cells #[.string x.k, .string x.s, .int .i64 x.p, .int .i64 x.u] 51) := ⟨_, rfl⟩
  have bV : Below O.heap.size O V := by rw [hV]; exact (Below.refl _ _).alloc (Nat.le_refl _) _
  have AV : BAt V O.heap.size [.string x.k, .string x.s, .int .i64 x.p, .int .i64 x.u] := by rw [hV]; exact BAt.new O #[.string x.k, .string x.s, .int .i64 x.p, .int .i64 x.u] _
  have DV : V.ownsMap Tryz.prog 9 leaseD mb N D := HD.out.own.kept (row := none) ⟨bV.os, bV.tape, bV.output, bV.size, fun k hk _ => bV.block k hk⟩ (by simp)
  have v5 := (HQO.out.below bV).obj.bat.1 5 _ rfl
  have HDV := hidM DV
  have HAV := hidM AV
  clear DV AV q5
  go_upto_region 2 with fail
  rw [← hV]
  clear hV
  go_wp2_with (at_delete; refine wpList_delete_own _ rfl _ _ 93 9 rfl 51 (Maps.string_keyed Tryz.underlying9) Tryz.underlying93 leaseD mb N D rfl HDV.out _ _ rfl (string_lit hkl) ?_)
  intro w5 h5 t5
  have g5 := t5.grown
  have hmb := HQ.out.map.lt
  have zO := bO.size
  have A5 : BAt w5 O.heap.size [.string x.k, .string x.s, .int .i64 x.p, .int .i64 x.u] := HAV.out.same g5.size (g5.block _ HAV.out.2.2 fun e => by injection e with e; omega)
  have T5 : BAt w5 w.heap.size [.string ⟨#[]⟩, .string ⟨#[]⟩, .int .i64 0, .int .i64 0] := (HAO.out.below bV).same g5.size (g5.block _ (HAO.out.below bV).2.2 fun e => by injection e with e; omega)
  have HFIN : Hid (∀ F, F = four w5 w.heap.size (.string x.k) (.string x.s) (.int .i64 x.p) (.int .i64 x.u) → QStO F base Q d sp nw sq si N (lRem le k) ∧ Below base w F) := fun F hF => by
    have hmm := HQ.out.mbb
    have hzz := bV.size
    have B5 : Below mb w w5 := ((bO.trans (bV.mono zO)).mono (by omega)).grown g5 (by omega) fun b e => by injection e with e; omega
    have hbq : base ≤ w.heap.size := by omega
    have BF : Below mb w F := by rw [hF]; exact four_below B5 (by omega) _ _ _ _
    have gF : w.grownBy F (some mb) := ⟨BF.os, BF.tape, BF.output, BF.size, fun j hj hne => by
      rw [hF, four_block _ _ _ _ _ _ (by omega), g5.block j (by omega) (fun e => hne e), bV.block j (by omega), bO.block j hj]⟩
    have hm : LMapO F mb N (lRem le k) := by
      have h1 : LMap V mb N D le := ⟨HDV.out, HD.out.is, HD.out.at', HD.out.has⟩
      exact (h1.del h5).same (by rw [hF]; exact four_block _ _ _ _ _ _ (by omega))
    exact ⟨⟨_, _, _, _, HQ.out.turn gF hm⟩, BF.mono hmm⟩
  have HT5 := hidM T5
  have a0 := A5.1 0 _ rfl
  have a1 := A5.1 1 _ rfl
  have a2 := A5.1 2 _ rfl
  have a3 := A5.1 3 _ rfl
  have r0 := T5.1 0 _ rfl
  have r1 := T5.1 1 _ rfl
  have r2 := T5.1 2 _ rfl
  have r3 := T5.1 3 _ rfl
  have rf := T5.2.1
  clear h5 t5 g5 v5 HQ HQO HD HDV HAV HAO T5
  go_wp2_with fail
  (try simp only [Exit.inBlock, Exit.then])
  refine bodyPost_ret (ls_result2 rfl _ _ w.heap.size _ _ _ _ _ rfl rfl (four_at HT5.out _ _ _ _)) rfl ?_
  exact ⟨⟨x, by rw [hb]; rfl, fun e => HIN.out (by rw [← hb]; exact e)⟩, HFIN.out _ rfl⟩
theorem implEnded1 (base Q K : Nat) (d sp nw sq : Int) (si : List SiteV) (N : Nat) (le : List LsV) (k : ByteArray) (w : World) (hk : k.size ≤ 1048576) (hK : w.cell? ⟨K, 0, none⟩ = some (.string k)) (hb : base ≤ w.heap.size) (h : QStO w base Q d sp nw sq si N le) :
    Calls Tryz.prog 69 #[.pointer (some ⟨Q, 0, none⟩), .pointer (some ⟨K, 0, none⟩)] w fun e w' => e = .returned (.bool (lHas le k)) ∧ QStO w' base Q d sp nw sq si N (lRem le k) ∧ Below base w w' := by
  have CE := hidM (implEnd base Q d sp nw sq si N le k w hk h)
  clear h
  go_enter Tryz.func69, Tryz.ntmps69
  go_wp2_with fail
  refine CE.out.mono ?_
  rintro e w1 ⟨⟨x, rfl, _⟩, q1, b1⟩
  have HQ1 := hidM q1
  have hbz : base ≤ w1.heap.size := Nat.le_trans hb b1.size
  clear q1 CE
  unfold lsA
  generalize hb2 : lHas le k = b
  go_wp2_with fail
  go_ret
  exact ⟨by rw [hb2]; rfl, by
    obtain ⟨sv, ps, cs, mb, h⟩ := HQ1.out
    exact ⟨sv, ps, cs, mb, h.below ((Below.refl _ _).alloc (Nat.le_refl _) _)⟩, b1.alloc hbz _⟩
/-- What is told of queues and a key that is ended. -/
def EdV (d sp nw sq : Int) (si : List SiteV) (le : List LsV) (k : ByteArray) (R : Bool → List LsV → Prop) : Prop :=
  ((SOk d sp nw sq si le ∧ lHas le k = true) ∧ R true (lRem le k)) ∨ (¬ (SOk d sp nw sq si le ∧ lHas le k = true) ∧ R false le)
theorem implEnded (d sp nw sq : Int) (si : List SiteV) (le : List LsV) (p q : Value) (k : ByteArray) (w : World) (hk : k.size ≤ 1048576) (hn : SitFew si) (hl : le.length ≤ 1048576) (hx : TxB si le) (hp : SitRow w p si) (hq : LsRow w q le) :
    Calls Tryz.prog 25 #[.agg #[.int .i64 d, .int .i64 sp, .int .i64 nw, .int .i64 sq, p, q], .string k] w fun e w' => EdV d sp nw sq si le k fun b le' => SchTR w b d sp nw sq si le' e w' := by
  obtain ⟨pa, pc, hpe⟩ := hp.slice
  obtain ⟨qa, qc, hqe⟩ := hq.slice
  have HS := hidM hp
  have HL := hidM hq
  subst hpe hqe
  clear hp hq
  obtain ⟨O, hO⟩ : ∃ O, O = ((w.alloc (.cells #[.int .i64 d, .int .i64 sp, .int .i64 nw, .int .i64 sq, .slice pa si.length pc, .slice qa le.length qc] 27)).alloc (.cells #[.string k] 9)).alloc (.cells #[.int .i64 0, .int .i64 0, .int .i64 0, .int .i64 0, .slice none 0 0, .slice none 0 0] 27) := ⟨_, rfl⟩
  have hbO : Below w.heap.size w O := by rw [hO]; exact (((Below.refl _ _).alloc (Nat.le_refl _) _).alloc (by simp) _).alloc (by simp; omega) _
  have hzO : O.heap.size = w.heap.size + 3 := by rw [hO]; simp
  have A0 : BAt O w.heap.size [.int .i64 d, .int .i64 sp, .int .i64 nw, .int .i64 sq, .slice pa si.length pc, .slice qa le.length qc] := by rw [hO]; exact ((BAt.new w #[.int .i64 d, .int .i64 sp, .int .i64 nw, .int .i64 sq, .slice pa si.length pc, .slice qa le.length qc] _).alloc _).alloc _
  have AK : BAt O (w.heap.size + 1) [.string k] := by
    rw [hO]
    have := BAt.new (w.alloc (.cells #[.int .i64 d, .int .i64 sp, .int .i64 nw, .int .i64 sq, .slice pa si.length pc, .slice qa le.length qc] 27)) #[.string k] 9
    rw [World.size_alloc] at this
    exact this.alloc _
  have A2 : BAt O (w.heap.size + 1 + 1) [.int .i64 0, .int .i64 0, .int .i64 0, .int .i64 0, .slice none 0 0, .slice none 0 0] := by
    rw [hO]
    have := BAt.new ((w.alloc (.cells #[.int .i64 d, .int .i64 sp, .int .i64 nw, .int .i64 sq, .slice pa si.length pc, .slice qa le.length qc] 27)).alloc (.cells #[.string k] 9)) #[.int .i64 0, .int .i64 0, .int .i64 0, .int .i64 0, .slice none 0 0, .slice none 0 0] 27
    rw [World.size_alloc, World.size_alloc] at this
    exact this
  have HA2 := hidM A2
  have HAK := hidM AK
  have CC := hidM (implChanged d sp nw sq si le (.slice pa si.length pc) (.slice qa le.length qc) 69 #[.pointer (some ⟨w.heap.size + 1, 0, none⟩)] (lHas le k) d sp nw sq si le.length (lRem le k) O hn hl hx (HS.out.below hbO) (HL.out.below hbO) (fun args w => by simp [go_sem, Tryz.func69])
    (fun hok _ => ⟨hn, by have := (lRem_sub le k).length_le; omega, hl, ⟨hx.s, fun x hx' => hx.l x ((lRem_sub le k).subset hx')⟩, hok.la.sublist (lRem_sub le k)⟩)
    (fun W base Q _ hW hb hQ => by
      refine (implEnded1 base Q (w.heap.size + 1) d sp nw sq si le.length le k W hk ((HAK.out.below hW).1 0 _ rfl) hQ.base_le hQ).mono ?_
      rintro e W' ⟨rfl, q1, b1⟩
      exact ⟨rfl, fun _ => q1, b1⟩))
  have c0 := A0.1 0 _ rfl
  have c1 := A0.1 1 _ rfl
  have c2 := A0.1 2 _ rfl
  have c3 := A0.1 3 _ rfl
  have c4 := A0.1 4 _ rfl
  have c5 := A0.1 5 _ rfl
  clear A0 AK A2
  go_enter Tryz.func25, Tryz.ntmps25
  go_upto_region 1 with fail
  rw [← hO]
  clear hO
  go_wp2_with fail
  refine CC.out.mono ?_
  rintro e w1 hc
  have HC1 : Hid (EdV d sp nw sq si le k fun b le' => SchTR O b d sp nw sq si le' e w1) := by
    rcases hc with ⟨⟨h1, h2, h3⟩, h4⟩ | ⟨h1, h4⟩
    · exact .inl ⟨⟨h1, h2⟩, h4⟩
    · exact .inr ⟨fun h => h1 ⟨h.1, h.2, h.1.rem k⟩, h4⟩
  clear hc CC c0 c1 c2 c3 c4 c5
  rcases HC1.out with ⟨hy, ao, ac, bo, bc, rfl, o1, b1⟩ | ⟨hy, ao, ac, bo, bc, rfl, o1, b1⟩
  · have HFIN := hidM (fun F hF => SchTR.mk (w := w) (w2 := w1) (w3 := w1) (Y := w1) (F := F) (b := true) (d := d) (sp := sp) (nw := nw) (sq := sq) (T := w.heap.size + 1 + 1) o1 (by omega) (by omega) (hbO.trans (b1.mono hbO.size)) hF)
    have RF := HA2.out.below b1
    have HRF := hidM RF
    have r0 := RF.1 0 _ rfl
    have r1 := RF.1 1 _ rfl
    have r2 := RF.1 2 _ rfl
    have r3 := RF.1 3 _ rfl
    have r4 := RF.1 4 _ rfl
    have r5 := RF.1 5 _ rfl
    have rf := RF.2.1
    clear HC1 o1 b1 RF HA2 HAK
    go_wp2_with fail
    (try simp only [Exit.inBlock, Exit.then])
    refine bodyPost_ret (sch_result2 rfl _ _ (w.heap.size + 1 + 1) _ _ _ _ _ _ _ rfl rfl (six_at HRF.out _ _ _ _ _ _)) rfl ?_
    exact .inl ⟨hy, HFIN.out _ rfl⟩
  · have HFIN := hidM (fun F hF => SchTR.mk (w := w) (w2 := w1) (w3 := w1) (Y := w1) (F := F) (b := false) (d := d) (sp := sp) (nw := nw) (sq := sq) (T := w.heap.size + 1 + 1) o1 (by omega) (by omega) (hbO.trans (b1.mono hbO.size)) hF)
    have RF := HA2.out.below b1
    have HRF := hidM RF
    have r0 := RF.1 0 _ rfl
    have r1 := RF.1 1 _ rfl
    have r2 := RF.1 2 _ rfl
    have r3 := RF.1 3 _ rfl
    have r4 := RF.1 4 _ rfl
    have r5 := RF.1 5 _ rfl
    have rf := RF.2.1
    clear HC1 o1 b1 RF HA2 HAK
    go_wp2_with fail
    (try simp only [Exit.inBlock, Exit.then])
    refine bodyPost_ret (sch_result2 rfl _ _ (w.heap.size + 1 + 1) _ _ _ _ _ _ _ rfl rfl (six_at HRF.out _ _ _ _ _ _)) rfl ?_
    exact .inr ⟨hy, HFIN.out _ rfl⟩
end Go.Proofs.YtcjblhiihgdljaaGreat

namespace Go.Proofs.YtcjblhiihgdljaaGreat
set_option linter.unusedVariables false

section
variable {P : Program} {ops : Array Oper} {Q : Exit → Act → World → Prop} {md : Region.Mode} {S : World → Prop} {L : Nat}
/-- Whatever comes up, S holds behind it, unless it was number L. -/
def anyBut (P : Program) (md : Region.Mode) (ops : Array Oper) (Q : Exit → Act → World → Prop) (S : World → Prop) (L : Nat) : Nat → Array Bool → Act → World → Prop
  | 0 => fun listed a w => Region.ready md ops listed = [] ∧ Q .normal a w
  | n + 1 => fun listed a w => (Region.ready md ops listed = [] → Q .normal a w) ∧ ∀ i ∈ Region.ready md ops listed, wpOp P ops Q i (fun a' w' => (i ≠ L → S w') ∧ anyBut P md ops Q S L n (listed.setIfInBounds i true) a' w') a w
theorem anyBut_any : ∀ (n : Nat) (listed : Array Bool) (a : Act) (w : World), anyBut P md ops Q S L n listed a w → wpAny P md ops Q n listed a w
  | 0, _, _, _, h => h
  | n + 1, _, _, _, h => ⟨h.1, fun i hi => wpOp_mono (fun a' w' k => anyBut_any n _ a' w' k.2) (h.2 i hi)⟩
/-- Of what may come up, nothing waits for what has not come up. -/
theorem ready_waits {i j : Nat} {listed : Array Bool} {oj : Oper} (hi : i ∈ Region.ready md ops listed) (hj : j ∈ Region.ready md ops listed) (ho : ops[j]? = some oj) : ∀ e ∈ oj.after, Region.binds md e = true → e.on ≠ i := fun e he hb hq => by
  obtain ⟨_, o2, h2, h3⟩ := mem_ready.1 hj
  rw [ho] at h2
  injection h2 with h2
  subst h2
  have h4 := h3 e he hb
  have h5 := (mem_ready.1 hi).1
  rw [hq] at h4
  rcases Nat.lt_or_ge i listed.size with hl | hl
  · simp [hl] at h4 h5
    rw [h4] at h5
    cases h5
  · simp [Array.getElem?_eq_none hl] at h4
theorem anyBut_first {i : Nat} {oi oL : Oper} {v : Value} (hi : ops[i]? = some oi) (hL : ops[L]? = some oL) (hdep : ∃ e ∈ oL.after, Region.binds md e = true ∧ e.on = i) (hsel : ∀ (j : Nat) (o : Oper) cs b, ops[j]? = some o → o.op ≠ .select cs b)
    (hQ : ∀ c a w, Q (.panic c) (a.put oi.dst v) w → Q (.panic c) a w) : ∀ (n : Nat) (listed : Array Bool) (a : Act) (w : World),
      (∀ j oj, ops[j]? = some oj → j ≠ i → listed.getD j true = false → (∀ e ∈ oj.after, Region.binds md e = true → e.on ≠ i) → oi.apart ops oj = true) →
      i ∈ Region.ready md ops listed → YieldsIf P ops S oi v a → S w → anyBut P md ops Q S L n (listed.setIfInBounds i true) (a.put oi.dst v) w → anyBut P md ops Q S L (n + 1) listed a w := by
  intro n
  induction n with
  | zero =>
    intro listed a w _ hr hy hS H
    refine ⟨fun h => absurd (h ▸ hr) (List.not_mem_nil), fun j hj => ?_⟩
    by_cases hji : j = i
    · subst hji
      exact hy.wpOp hi hS ⟨fun _ => hS, H⟩
    · have h1 := ready_mono hj hji
      rw [H.1] at h1
      exact absurd h1 (List.not_mem_nil)
  | succ n ih =>
    intro listed a w hfree hr hy hS H
    refine ⟨fun h => absurd (h ▸ hr) (List.not_mem_nil), fun j hj => ?_⟩
    by_cases hji : j = i
    · subst hji
      exact hy.wpOp hi hS ⟨fun _ => hS, H⟩
    · obtain ⟨hun, oj, hoj, _⟩ := mem_ready.1 hj
      have hno := ready_waits hr hj hoj
      have hjL : j ≠ L := fun e => by
        subst e
        rw [hL] at hoj
        injection hoj with hoj
        subst hoj
        obtain ⟨e, he, hb, hq⟩ := hdep
        exact hno e he hb hq
      have step := wpOp_putIf hoj (hfree j oj hoj hji hun hno) (fun cs b => hsel i oi cs b hi) (fun cs b => hsel j oj cs b hoj) hQ hy (H.2 j (ready_mono hj hji))
      refine wpOp_mono (fun a' w' k => ⟨fun _ => k.2.1 hjL, ih _ a' w' (fun m om hm hmi hum hnm => ?_) (ready_mono hr (Ne.symm hji)) k.1 (k.2.1 hjL) ?_⟩) step
      · refine hfree m om hm hmi ?_ hnm
        by_cases e : j = m
        · rw [← e]; exact hun
        · rw [getD_set_ne true e] at hum; exact hum
      · rw [Array.setIfInBounds_comm _ _ hji]
        exact k.2.2
theorem anyBut_take {i : Nat} {oi oL : Oper} {v : Value} {n : Nat} {listed : Array Bool} {a : Act} {w : World} (hi : ops[i]? = some oi) (hL : ops[L]? = some oL) (hdep : (oL.after.any fun e => Region.binds md e && e.on == i) = true)
    (hs : Region.noSelect ops = true) (hf : Region.free md ops listed i = true) (hr : (Region.ready md ops listed).contains i = true) (hQ : ∀ c a w, Q (.panic c) (a.put oi.dst v) w → Q (.panic c) a w) (hy : YieldsIf P ops S oi v a) (hS : S w)
    (h : anyBut P md ops Q S L n (listed.setIfInBounds i true) (a.put oi.dst v) w) : anyBut P md ops Q S L (n + 1) listed a w := by
  refine anyBut_first hi hL ?_ (Region.noSelect_spec hs) hQ n listed a w (Region.free_spec hi hf) (by simpa using hr) hy hS h
  rw [Array.any_eq_true] at hdep
  obtain ⟨k, hk, h2⟩ := hdep
  rw [Bool.and_eq_true] at h2
  exact ⟨oL.after[k], Array.getElem_mem hk, h2.1, by simpa using h2.2⟩
theorem anyBut_done {listed : Array Bool} {a : Act} {w : World} (hr : Region.ready md ops listed = []) (h : Q .normal a w) : ∀ n, anyBut P md ops Q S L n listed a w
  | 0 => ⟨hr, h⟩
  | _ + 1 => ⟨fun _ => h, by rw [hr]; simp⟩
/-- Each of these may come up next. -/
def EachBut (P : Program) (md : Region.Mode) (ops : Array Oper) (Q : Exit → Act → World → Prop) (S : World → Prop) (L n : Nat) (listed : Array Bool) (a : Act) (w : World) (rs : List Nat) : Prop :=
  ∀ i ∈ rs, wpOp P ops Q i (fun a' w' => (i ≠ L → S w') ∧ anyBut P md ops Q S L n (listed.setIfInBounds i true) a' w') a w
theorem EachBut.nil {n : Nat} {listed : Array Bool} {a : Act} {w : World} : EachBut P md ops Q S L n listed a w [] := fun _ h => absurd h (List.not_mem_nil)
theorem EachBut.cons {n : Nat} {listed : Array Bool} {a : Act} {w : World} {i : Nat} {o : Oper} {rs : List Nat} (ho : ops[i]? = some o)
    (h : ∀ K' : Act → World → Prop, Shut (∀ a w, (i ≠ L → S w) → anyBut P md ops Q S L n (listed.setIfInBounds i true) a w → K' a w) → if Region.wanted o (yielded ops a.tmps) = true then Oper.wp P o a w K' Q else K' (a.put o.dst undef) w)
    (hs : EachBut P md ops Q S L n listed a w rs) : EachBut P md ops Q S L n listed a w (i :: rs) := fun j hj => by
  rcases List.mem_cons.1 hj with rfl | hj
  · exact wpOp_step ho fun K' hK => h K' fun a w h1 h2 => hK a w ⟨h1, h2⟩
  · exact hs j hj
theorem anyBut_ready {rs : List Nat} {n : Nat} {listed : Array Bool} {a : Act} {w : World} (hr : Region.ready md ops listed = rs) (hne : rs ≠ []) (h : EachBut P md ops Q S L n listed a w rs) : anyBut P md ops Q S L (n + 1) listed a w :=
  ⟨fun h0 => absurd (hr ▸ h0) hne, hr ▸ h⟩
theorem wp_region_but {id : Nat} {a : Act} {w : World} (hm : P.follows .mixedOrders = true) (S : World → Prop) (L : Nat) (h : anyBut P .any ops Q S L ops.size (Array.replicate ops.size false) a w.drew) : (Code.region id ops true).wp P Q a w :=
  wp_region_any hm (anyBut_any _ _ _ _ h)
end
end Go.Proofs.YtcjblhiihgdljaaGreat

namespace Go.Proofs.YtcjblhiihgdljaaGreat
open Go.RowKit
set_option linter.unusedVariables false
set_option linter.unusedSimpArgs false

theorem LsRow.parts {w : World} {v : Value} {l : List LsV} (h : LsRow w v l) {i : Nat} (hi : i < l.length) : ∃ g off cap, v = .slice (some ⟨g, off, none⟩) l.length cap ∧ l.length ≤ cap ∧ g < w.heap.size ∧ LsAt w g (off + i * 4) (l.getD i lsv0) ∧
    (∀ c, CRow w (.slice (some ⟨g, off, none⟩) i c) i 4 (lscells (l.take i))) ∧ (∀ c, CRow w (.slice (some ⟨g, off + (i + 1) * 4, none⟩) (l.length - (i + 1)) c) (l.length - (i + 1)) 4 (lscells (l.drop (i + 1)))) := by
  have h0 := h.crow
  rcases h with ⟨rfl, _⟩ | ⟨_, g, off, cap, rfl, hg, hc⟩
  · exact absurd hi (Nat.not_lt_zero _)
  · have hcell : ∀ j u, (lscells l)[j]? = some u → w.cell? ⟨g, off + j, none⟩ = some u := by
      rcases h0.2 with ⟨e, _⟩ | ⟨g', off', c', e, _, h2⟩
      · omega
      · injection e with e1 e2 e3
        injection e1 with e1
        injection e1 with e4 e5
        subst e4 e5
        exact h2
    have hsp : lscells l = lscells (l.take i) ++ lscells (l.drop i) := by rw [← lscells_append, List.take_append_drop]
    have hsp2 : lscells l = lscells (l.take (i + 1)) ++ lscells (l.drop (i + 1)) := by rw [← lscells_append, List.take_append_drop]
    have l1 : (lscells (l.take i)).length = i * 4 := by rw [lscells_length, List.length_take, Nat.min_eq_left (by omega)]
    have l2 : (lscells (l.take (i + 1))).length = (i + 1) * 4 := by rw [lscells_length, List.length_take, Nat.min_eq_left (by omega)]
    refine ⟨g, off, _, rfl, by omega, hg, hc i hi, fun c => ⟨⟨l1, lscells_one' _⟩, .inr ⟨g, off, c, rfl, hg, fun j u hj => hcell j u ?_⟩⟩, fun c => ⟨⟨?_, lscells_one' _⟩, .inr ⟨g, off + (i + 1) * 4, c, rfl, hg, fun j u hj => ?_⟩⟩⟩
    · have := (List.getElem?_eq_some_iff.1 hj).1
      rw [hsp, List.getElem?_append_left this]
      exact hj
    · rw [lscells_length, List.length_drop]
    · rw [Nat.add_assoc]
      refine hcell _ u ?_
      rw [hsp2, List.getElem?_append_right (by omega), l2, show (i + 1) * 4 + j - (i + 1) * 4 = j by omega]
      exact hj
set_option maxRecDepth 100000 in
set_option maxHeartbeats 8000000 in
theorem specL18End (d sp nw sq : Int) (le : List LsV) (p q : Value) (i T : Nat) (w : World) (hi : i < le.length) (hl : le.length ≤ 1073741824) (ho : OAt w T 27 [.int .i64 d, .int .i64 sp, .int .i64 nw, .int .i64 sq, p, q]) (hq : LsRow w q le) :
    Calls Tryz.prog 91 #[.pointer (some ⟨T, 0, none⟩), .int .i64 i] w fun e w' => ∃ qa qc, e = .returned (lsA (le.getD i lsv0)) ∧ OAt w' T 27 [.int .i64 d, .int .i64 sp, .int .i64 nw, .int .i64 sq, p, .slice qa (le.eraseIdx i).length qc] ∧ w'.ownsRow w.heap.size 51 4 (.slice qa (le.eraseIdx i).length qc) (le.eraseIdx i).length (lscells (le.eraseIdx i)) ∧ Below T w w' := by
  obtain ⟨g, off, cap, rfl, hcap, hg, ⟨x0, x1, x2, x3⟩, hfr, hbk⟩ := hq.parts hi
  have HFR := hidM hfr
  have HBK := hidM hbk
  have HER : Hid (le.eraseIdx i = le.take i ++ le.drop (i + 1)) := List.eraseIdx_eq_take_drop_succ _ _
  have hne : (le.eraseIdx i).length = i + (le.length - (i + 1)) := by rw [List.length_eraseIdx_of_lt hi]; omega
  have HNE := hidM hne
  have HTL : Hid ((le.take i).length = i ∧ (le.drop (i + 1)).length = le.length - (i + 1)) := hidM ⟨by rw [List.length_take]; omega, by rw [List.length_drop]⟩
  unfold lsA
  generalize le.eraseIdx i = L2 at *
  generalize le.getD i lsv0 = x at *
  generalize le.take i = L0 at *
  generalize le.drop (i + 1) = L1 at *
  generalize le.length = n at *
  clear hfr hbk hq hne
  obtain ⟨O, hO⟩ : ∃ O, O = w.alloc (.cells #[.string ⟨#[]⟩, .string ⟨#[]⟩, .int .i64 0, .int .i64 0] 51) := ⟨_, rfl⟩
  have bO : Below w.heap.size w O := by rw [hO]; exact (Below.refl _ _).alloc (Nat.le_refl _) _
  have zO : O.heap.size = w.heap.size + 1 := by rw [hO]; simp
  have AO : BAt O w.heap.size [.string ⟨#[]⟩, .string ⟨#[]⟩, .int .i64 0, .int .i64 0] := by rw [hO]; exact BAt.new w #[.string ⟨#[]⟩, .string ⟨#[]⟩, .int .i64 0, .int .i64 0] _
  have TO := ho.below bO
  have y0 := (bO.cell (p := ⟨g, off + i * 4, none⟩) hg).trans x0
  have y1 := (bO.cell (p := ⟨g, off + i * 4 + 1, none⟩) hg).trans x1
  have y2 := (bO.cell (p := ⟨g, off + i * 4 + 2, none⟩) hg).trans x2
  have y3 := (bO.cell (p := ⟨g, off + i * 4 + 3, none⟩) hg).trans x3
  have t5 := TO.bat.1 5 _ rfl
  obtain ⟨V, hV⟩ : ∃ V, V = O.alloc (.cells #[.string x.k, .string x.s, .int .i64 x.p, .int .i64 x.u] 51) := ⟨_, rfl⟩
  have bV : Below O.heap.size O V := by rw [hV]; exact (Below.refl _ _).alloc (Nat.le_refl _) _
  have zV : V.heap.size = O.heap.size + 1 := by rw [hV]; simp
  have AV : BAt V O.heap.size [.string x.k, .string x.s, .int .i64 x.p, .int .i64 x.u] := by rw [hV]; exact BAt.new O #[.string x.k, .string x.s, .int .i64 x.p, .int .i64 x.u] _
  have hT := ho.lt
  have BV : Below w.heap.size w V := bO.trans (bV.mono bO.size)
  have TV := TO.below bV
  have HTV := hidM TV
  have HAV := hidM AV
  have HAO := hidM (AO.below bV)
  have hii : (i : Int) < n := by omega
  have hic : i ≤ cap := by omega
  have hw1 : IntKind.i64.wrap ((i : Int) + 1) = (i : Int) + 1 := by rw [IntKind.wrap_i64]; omega
  have hn1 : ((i : Int) + 1).toNat = i + 1 := by omega
  have hi1 : (i : Int) + 1 ≤ n := by omega
  have hi0 : 0 ≤ (i : Int) + 1 := by omega
  have HZ := hidM (And.intro zO zV)
  clear TO AO AV x0 x1 x2 x3 ho zO zV
  go_enter Tryz.func91, Tryz.ntmps91
  go_upto_region 1 with fail
  rw [← hO]
  clear hO
  go_upto_region 2 with fail
  rw [← hV]
  clear hV y0 y1 y2 y3 t5
  have BVd : Below w.heap.size w V.drew := BV.drew
  have h0 : BAt V.drew T [.int .i64 d, .int .i64 sp, .int .i64 nw, .int .i64 sq, p, .slice (some ⟨g, off, none⟩) n cap] := TV.bat
  refine wp_region_but (by kernel_rfl) (fun W => BAt W T [.int .i64 d, .int .i64 sp, .int .i64 nw, .int .i64 sq, p, .slice (some ⟨g, off, none⟩) n cap]) 19 ?_
  refine anyBut_take (i := 0) (v := ?_) rfl rfl (by kernel_rfl) (by kernel_rfl) (by kernel_rfl) (by kernel_rfl) (fun _ _ _ h => h) (Or.inl ⟨by rfl, fun W hW => ?_⟩) h0 ?_
  rotate_left
  · skip
    clear hW
    go_simp
    try with_reducible rfl
  simp only [Act.put, List.getElem_toArray, List.getElem_cons_zero, List.getElem_cons_succ, List.setIfInBounds_toArray, List.set_cons_zero, List.set_cons_succ]
  refine anyBut_take (i := 2) (v := ?_) rfl rfl (by kernel_rfl) (by kernel_rfl) (by kernel_rfl) (by kernel_rfl) (fun _ _ _ h => h) (Or.inl ⟨by rfl, fun W hW => ?_⟩) h0 ?_
  rotate_left
  · skip
    clear hW
    go_simp
    try with_reducible rfl
  simp only [Act.put, List.getElem_toArray, List.getElem_cons_zero, List.getElem_cons_succ, List.setIfInBounds_toArray, List.set_cons_zero, List.set_cons_succ]
  refine anyBut_take (i := 3) (v := ?_) rfl rfl (by kernel_rfl) (by kernel_rfl) (by kernel_rfl) (by kernel_rfl) (fun _ _ _ h => h) (Or.inl ⟨by rfl, fun W hW => ?_⟩) h0 ?_
  rotate_left
  · skip
    clear hW
    go_simp
    try with_reducible rfl
  simp only [Act.put, List.getElem_toArray, List.getElem_cons_zero, List.getElem_cons_succ, List.setIfInBounds_toArray, List.set_cons_zero, List.set_cons_succ]
  refine anyBut_take (i := 4) (v := ?_) rfl rfl (by kernel_rfl) (by kernel_rfl) (by kernel_rfl) (by kernel_rfl) (fun _ _ _ h => h) (Or.inl ⟨by rfl, fun W hW => ?_⟩) h0 ?_
  rotate_left
  · skip
    clear hW
    go_simp
    try with_reducible rfl
  simp only [Act.put, List.getElem_toArray, List.getElem_cons_zero, List.getElem_cons_succ, List.setIfInBounds_toArray, List.set_cons_zero, List.set_cons_succ]
  refine anyBut_take (i := 5) (v := ?_) rfl rfl (by kernel_rfl) (by kernel_rfl) (by kernel_rfl) (by kernel_rfl) (fun _ _ _ h => h) (Or.inl ⟨by rfl, fun W hW => ?_⟩) h0 ?_
  rotate_left
  · have q0 := hW.1 5 _ rfl
    clear hW
    go_simp
    try with_reducible rfl
  simp only [Act.put, List.getElem_toArray, List.getElem_cons_zero, List.getElem_cons_succ, List.setIfInBounds_toArray, List.set_cons_zero, List.set_cons_succ]
  refine anyBut_take (i := 6) (v := ?_) rfl rfl (by kernel_rfl) (by kernel_rfl) (by kernel_rfl) (by kernel_rfl) (fun _ _ _ h => h) (Or.inl ⟨by rfl, fun W hW => ?_⟩) h0 ?_
  rotate_left
  · skip
    clear hW
    go_simp
    try with_reducible rfl
  simp only [Act.put, List.getElem_toArray, List.getElem_cons_zero, List.getElem_cons_succ, List.setIfInBounds_toArray, List.set_cons_zero, List.set_cons_succ]
  refine anyBut_take (i := 7) (v := ?_) rfl rfl (by kernel_rfl) (by kernel_rfl) (by kernel_rfl) (by kernel_rfl) (fun _ _ _ h => h) (Or.inl ⟨by rfl, fun W hW => ?_⟩) h0 ?_
  rotate_left
  · skip
    clear hW
    go_simp
    try with_reducible rfl
  simp only [Act.put, List.getElem_toArray, List.getElem_cons_zero, List.getElem_cons_succ, List.setIfInBounds_toArray, List.set_cons_zero, List.set_cons_succ]
  refine anyBut_take (i := 9) (v := ?_) rfl rfl (by kernel_rfl) (by kernel_rfl) (by kernel_rfl) (by kernel_rfl) (fun _ _ _ h => h) (Or.inl ⟨by rfl, fun W hW => ?_⟩) h0 ?_
  rotate_left
  · skip
    clear hW
    go_simp
    try with_reducible rfl
  simp only [Act.put, List.getElem_toArray, List.getElem_cons_zero, List.getElem_cons_succ, List.setIfInBounds_toArray, List.set_cons_zero, List.set_cons_succ]
  refine anyBut_take (i := 10) (v := ?_) rfl rfl (by kernel_rfl) (by kernel_rfl) (by kernel_rfl) (by kernel_rfl) (fun _ _ _ h => h) (Or.inl ⟨by rfl, fun W hW => ?_⟩) h0 ?_
  rotate_left
  · skip
    clear hW
    go_simp
    try with_reducible rfl
  simp only [Act.put, List.getElem_toArray, List.getElem_cons_zero, List.getElem_cons_succ, List.setIfInBounds_toArray, List.set_cons_zero, List.set_cons_succ]
  refine anyBut_take (i := 11) (v := ?_) rfl rfl (by kernel_rfl) (by kernel_rfl) (by kernel_rfl) (by kernel_rfl) (fun _ _ _ h => h) (Or.inl ⟨by rfl, fun W hW => ?_⟩) h0 ?_
  rotate_left
  · skip
    clear hW
    go_simp
    try with_reducible rfl
  simp only [Act.put, List.getElem_toArray, List.getElem_cons_zero, List.getElem_cons_succ, List.setIfInBounds_toArray, List.set_cons_zero, List.set_cons_succ]
  refine anyBut_take (i := 12) (v := ?_) rfl rfl (by kernel_rfl) (by kernel_rfl) (by kernel_rfl) (by kernel_rfl) (fun _ _ _ h => h) (Or.inl ⟨by rfl, fun W hW => ?_⟩) h0 ?_
  rotate_left
  · have q0 := hW.1 5 _ rfl
    clear hW
    go_simp
    try with_reducible rfl
  simp only [Act.put, List.getElem_toArray, List.getElem_cons_zero, List.getElem_cons_succ, List.setIfInBounds_toArray, List.set_cons_zero, List.set_cons_succ]
  refine anyBut_take (i := 13) (v := ?_) rfl rfl (by kernel_rfl) (by kernel_rfl) (by kernel_rfl) (by kernel_rfl) (fun _ _ _ h => h) (Or.inl ⟨by rfl, fun W hW => ?_⟩) h0 ?_
  rotate_left
  · skip
    clear hW
    go_simp
    try with_reducible rfl
  simp only [Act.put, List.getElem_toArray, List.getElem_cons_zero, List.getElem_cons_succ, List.setIfInBounds_toArray, List.set_cons_zero, List.set_cons_succ]
  refine anyBut_take (i := 14) (v := ?_) rfl rfl (by kernel_rfl) (by kernel_rfl) (by kernel_rfl) (by kernel_rfl) (fun _ _ _ h => h) (Or.inl ⟨by rfl, fun W hW => ?_⟩) h0 ?_
  rotate_left
  · skip
    clear hW
    go_simp
    try with_reducible rfl
  simp only [Act.put, List.getElem_toArray, List.getElem_cons_zero, List.getElem_cons_succ, List.setIfInBounds_toArray, List.set_cons_zero, List.set_cons_succ]
  refine anyBut_take (i := 15) (v := ?_) rfl rfl (by kernel_rfl) (by kernel_rfl) (by kernel_rfl) (by kernel_rfl) (fun _ _ _ h => h) (Or.inl ⟨by rfl, fun W hW => ?_⟩) h0 ?_
  rotate_left
  · skip
    clear hW
    go_simp
    try with_reducible rfl
  simp only [Act.put, List.getElem_toArray, List.getElem_cons_zero, List.getElem_cons_succ, List.setIfInBounds_toArray, List.set_cons_zero, List.set_cons_succ]
  obtain ⟨AX, hAX⟩ : ∃ A, A = (if cap = i + 1 then some (⟨g, off, none⟩ : Addr) else some ⟨g, off + (i + 1) * 4, none⟩) := ⟨_, rfl⟩
  rw [← hAX]
  have HAX := hidM hAX
  clear hAX
  refine anyBut_ready (rs := [1]) (by kernel_rfl) (by simp) (EachBut.cons rfl (fun K hK => ?_) EachBut.nil)
  go_simp
  obtain ⟨Y, hY⟩ : ∃ Y, Y = (V.alloc (.cells #[] 51)).drew := ⟨_, rfl⟩
  have BY : Below V.heap.size V Y := by rw [hY]; exact ((Below.refl _ _).alloc (Nat.le_refl _) _).drew
  have HE : Hid (Y.ownsRow V.heap.size 51 4 (.slice (some ⟨V.heap.size, 0, none⟩) 0 0) 0 []) := hidM (by rw [hY]; exact own_below (World.ownsRow_made (e := 51) (size := 4) (base := V.heap.size) V #[] 0 (Nat.le_refl _) (by decide) rfl) (Below.refl _ _).drew)
  have hzY : V.heap.size ≤ Y.heap.size := BY.size
  have TY := HTV.out.below BY
  rw [← hY]
  have h1 := TY.bat
  refine hK.out _ _ (fun _ => h1) ?_
  clear hK K h0 hY
  have HC1 := hidM ((HFR.out cap).below (BV.trans (BY.mono BV.size)))
  refine anyBut_ready (rs := [8]) (by kernel_rfl) (by simp) (EachBut.cons rfl (fun K hK => ?_) EachBut.nil)
  rw [if_pos (by rfl)]
  refine wp_append_crow (.tmp 14) (.tmp 20) 25 rfl V.heap.size 51 (.agg #[.string ⟨#[]⟩, .string ⟨#[]⟩, .int .i64 0, .int .i64 0]) 4 48 Tryz.underlying25 Tryz.infoLs rfl (by decide) _ 0 _ rfl HE.out _ i (lscells L0) rfl HC1.out (by omega) (by unfold maxLen; omega) hzY ?_
  intro v1 w1 o1 g1 _
  have B1 : Below V.heap.size V w1 := BY.grown g1 hzY fun b hb => (HE.out.lt b hb).1
  have T1 := HTV.out.below B1
  have h2 := T1.bat
  refine hK.out _ _ (fun _ => h2) ?_
  clear hK K h1 g1 HE HC1 TY
  have hz1 : V.heap.size ≤ w1.heap.size := B1.size
  have HC2 : Hid (CRow w1 (.slice AX (n - (i + 1)) (cap - (i + 1))) (n - (i + 1)) 4 (lscells L1)) := hidM (by
    rw [HAX.out]
    have hb := (HBK.out (cap - (i + 1))).below (BV.trans (B1.mono BV.size))
    by_cases hc : cap = i + 1
    · rw [if_pos hc]
      have h0 : n - (i + 1) = 0 := by omega
      rw [h0] at hb ⊢
      exact ⟨hb.1, .inl ⟨rfl, _, _, rfl⟩⟩
    · rw [if_neg hc]; exact hb)
  have HO1 := hidM o1
  refine anyBut_ready (rs := [16]) (by kernel_rfl) (by simp) (EachBut.cons rfl (fun K hK => ?_) EachBut.nil)
  rw [if_pos (by rfl)]
  refine wp_append_crow (.tmp 21) (.tmp 28) 25 rfl V.heap.size 51 (.agg #[.string ⟨#[]⟩, .string ⟨#[]⟩, .int .i64 0, .int .i64 0]) 4 48 Tryz.underlying25 Tryz.infoLs rfl (by decide) v1 (0 + i) _ rfl HO1.out _ (n - (i + 1)) (lscells L1) rfl HC2.out (by omega) (by unfold maxLen; omega) hz1 ?_
  intro v2 w2 o2 g2 _
  have B2 : Below V.heap.size V w2 := B1.grown g2 hz1 fun b hb => (HO1.out.lt b hb).1
  have T2 := HTV.out.below B2
  have h3 := T2.bat
  refine hK.out _ _ (fun _ => h3) ?_
  have O2 : Hid (w2.ownsRow V.heap.size 51 4 v2 L2.length (lscells L2)) := hidM (by
    rw [HER.out, lscells_append, List.length_append, HTL.out.1, HTL.out.2]
    rw [Nat.zero_add, List.nil_append] at o2
    exact o2)
  clear hK K h2 g2 HO1 HC2 T1 o1 o2
  obtain ⟨va, vc, rfl⟩ : ∃ a c, v2 = .slice a L2.length c := by
    rcases O2.out.2 with ⟨h, h2⟩ | ⟨g, cap, cur, h, _⟩
    · exact ⟨none, 0, by rw [h, h2]⟩
    · exact ⟨_, _, h⟩
  refine anyBut_ready (rs := [17]) (by kernel_rfl) (by simp) (EachBut.cons rfl (fun K hK => ?_) EachBut.nil)
  go_simp
  refine hK.out _ _ (fun _ => h3) ?_
  clear hK K
  refine anyBut_take (i := 18) (v := ?_) rfl rfl (by kernel_rfl) (by kernel_rfl) (by kernel_rfl) (by kernel_rfl) (fun _ _ _ h => h) (Or.inl ⟨by rfl, fun W hW => ?_⟩) h3 ?_
  rotate_left
  · skip
    clear hW
    go_simp
    try with_reducible rfl
  simp only [Act.put, List.getElem_toArray, List.getElem_cons_zero, List.getElem_cons_succ, List.setIfInBounds_toArray, List.set_cons_zero, List.set_cons_succ]
  refine anyBut_ready (rs := [19]) (by kernel_rfl) (by simp) (EachBut.cons rfl (fun K hK => ?_) EachBut.nil)
  have q0 := T2.bat.1 5 _ rfl
  have qf := T2.bat.2.1
  go_simp
  obtain ⟨F, hF⟩ : ∃ F, F = w2.setCell ⟨T, 5, none⟩ (.slice va L2.length vc) := ⟨_, rfl⟩
  have TF : OAt F T 27 [.int .i64 d, .int .i64 sp, .int .i64 nw, .int .i64 sq, p, .slice va L2.length vc] := by rw [hF]; exact T2.set 5 _
  have AF : BAt F w.heap.size [.string ⟨#[]⟩, .string ⟨#[]⟩, .int .i64 0, .int .i64 0] := by rw [hF]; exact (HAO.out.below B2).other (by show w.heap.size ≠ T; omega) 5 _
  have XF : BAt F O.heap.size [.string x.k, .string x.s, .int .i64 x.p, .int .i64 x.u] := by rw [hF]; exact (HAV.out.below B2).other (by have := HZ.out.1; show O.heap.size ≠ T; omega) 5 _
  have HFIN : Hid (∀ G, G = four F w.heap.size (.string x.k) (.string x.s) (.int .i64 x.p) (.int .i64 x.u) → OAt G T 27 [.int .i64 d, .int .i64 sp, .int .i64 nw, .int .i64 sq, p, .slice va L2.length vc] ∧ G.ownsRow w.heap.size 51 4 (.slice va L2.length vc) L2.length (lscells L2) ∧ Below T w G) := fun G hG => by
    have e1 := HZ.out.1
    have e2 := HZ.out.2
    refine ⟨TF.same (by rw [hG]; exact four_block _ _ _ _ _ _ (by omega)), own_wide1 (own_at O2.out fun b hb => ?_) (by omega), ?_⟩
    · have := (O2.out.lt b hb).1
      rw [hG, four_block _ _ _ _ _ _ (by omega), hF]
      exact Below.heap_setCell _ _ _ _ (by show b ≠ T; omega)
    · rw [hG]
      refine four_below ?_ (by omega) _ _ _ _
      rw [hF]
      exact ((BV.trans (B2.mono BV.size)).mono (Nat.le_of_lt hT)).setCell (Nat.le_refl _) _
  have HAF := hidM AF
  rw [← hF]
  refine hK.out _ _ (fun h => absurd rfl h) ?_
  clear hK K q0 qf h3 T2
  refine anyBut_done (by kernel_rfl) ?_ _
  have HXF := hidM XF
  clear hF
  have x0 := XF.1 0 _ rfl
  have x1 := XF.1 1 _ rfl
  have x2 := XF.1 2 _ rfl
  have x3 := XF.1 3 _ rfl
  have r0 := AF.1 0 _ rfl
  have r1 := AF.1 1 _ rfl
  have r2 := AF.1 2 _ rfl
  have r3 := AF.1 3 _ rfl
  have rf := AF.2.1
  clear XF AF TF O2 B2 B1 BVd
  go_wp2_with fail
  (try simp only [Exit.inBlock, Exit.then])
  refine bodyPost_ret (ls_result1 rfl _ _ w.heap.size _ _ _ _ rfl (four_at HAF.out _ _ _ _)) rfl ?_
  first | exact ⟨va, vc, rfl, HFIN.out _ rfl⟩ | exact ⟨rfl, va, vc, HFIN.out _ rfl⟩
theorem leasePos_has (le : List LsV) (k : ByteArray) : (lHas le k = true ∧ ∃ i, i < le.length ∧ leasePos le k = i ∧ (le.getD i lsv0).k = k) ∨ (lHas le k = false ∧ leasePos le k = -1) := by
  unfold leasePos
  rcases posZ_cases (fun i => decide ((le.getD i lsv0).k = k)) le.length with ⟨i, hi, hb, _, e⟩ | ⟨hn, e⟩
  · exact .inl ⟨lHas_iff.2 ⟨_, getD_mem lsv0 hi, of_decide_eq_true hb⟩, i, hi, e, of_decide_eq_true hb⟩
  · refine .inr ⟨?_, e⟩
    cases hh : lHas le k with
    | false => rfl
    | true =>
      obtain ⟨x, hx, hk⟩ := lHas_iff.1 hh
      obtain ⟨j, hj, rfl⟩ := List.getElem_of_mem hx
      have := hn j hj
      rw [List.getD_eq_getElem?_getD, List.getElem?_eq_getElem hj] at this
      exact absurd hk (of_decide_eq_false this)
/-- Queues and a truth that are answered, wherever they lie. -/
def SchTW (w : World) (b : Bool) (d sp nw sq : Int) (si : List SiteV) (le : List LsV) (e : Ending) (w' : World) : Prop := ∃ ao ac bo bc, e = .returned (.tuple #[.agg #[.int .i64 d, .int .i64 sp, .int .i64 nw, .int .i64 sq, .slice ao si.length ac, .slice bo le.length bc], .bool b]) ∧ (SitRow w' (.slice ao si.length ac) si ∧ LsRow w' (.slice bo le.length bc) le) ∧ Below w.heap.size w w'
theorem SchTW.mk {w W F : World} {b : Bool} {d sp nw sq : Int} {si : List SiteV} {le : List LsV} {ao bo : Option Addr} {ac bc B top T : Nat} (hs : SitOwn W B top (.slice ao si.length ac) si) (hl : W.ownsRow B 51 4 (.slice bo le.length bc) le.length (lscells le)) (hB : T < B) (hT : w.heap.size ≤ T) (hw : Below w.heap.size w W)
    (hF : F = six W T (.int .i64 d) (.int .i64 sp) (.int .i64 nw) (.int .i64 sq) (.slice ao si.length ac) (.slice bo le.length bc)) :
    SchTW w b d sp nw sq si le (.returned (.tuple #[.agg #[.int .i64 d, .int .i64 sp, .int .i64 nw, .int .i64 sq, .slice ao si.length ac, .slice bo le.length bc], .bool b])) F :=
  ⟨ao, ac, bo, bc, rfl, ⟨(hs.same (Nat.le_refl _) fun x h1 h2 => by rw [hF]; exact six_block _ _ _ _ _ _ _ _ (by omega)).row, LsRow.of_own (own_at hl fun x hx => by rw [hF]; exact six_block _ _ _ _ _ _ _ _ (by have := (hl.lt x hx).1; omega))⟩, by rw [hF]; exact six_below hw hT _ _ _ _ _ _⟩
set_option maxRecDepth 100000 in
set_option maxHeartbeats 8000000 in
theorem specEnded (d sp nw sq : Int) (si : List SiteV) (le : List LsV) (p q : Value) (k : ByteArray) (w : World) (hn : SitFew si) (hl : le.length ≤ 1073741824) (hp : SitRow w p si) (hq : LsRow w q le) :
    Calls Tryz.prog 37 #[.agg #[.int .i64 d, .int .i64 sp, .int .i64 nw, .int .i64 sq, p, q], .string k] w fun e w' => EdV d sp nw sq si le k fun b le' => SchTW w b d sp nw sq si le' e w' := by
  have HN := hidM hn
  have HS := hidM hp
  have HL := hidM hq
  obtain ⟨pa, pc, rfl⟩ := hp.slice
  obtain ⟨qa, qc, rfl⟩ := hq.slice
  clear hp hq hn
  obtain ⟨O, hO⟩ : ∃ O, O = (w.alloc (.cells #[.int .i64 d, .int .i64 sp, .int .i64 nw, .int .i64 sq, .slice pa si.length pc, .slice qa le.length qc] 27)).alloc (.cells #[.int .i64 0, .int .i64 0, .int .i64 0, .int .i64 0, .slice none 0 0, .slice none 0 0] 27) := ⟨_, rfl⟩
  have hbO : Below w.heap.size w O := by rw [hO]; exact ((Below.refl _ _).alloc (Nat.le_refl _) _).alloc (by simp) _
  have HZO : Hid (O.heap.size = w.heap.size + 2) := hidM (by rw [hO]; simp)
  have A0 : Hid (BAt O w.heap.size [.int .i64 d, .int .i64 sp, .int .i64 nw, .int .i64 sq, .slice pa si.length pc, .slice qa le.length qc]) := hidM (by rw [hO]; exact (BAt.new w #[.int .i64 d, .int .i64 sp, .int .i64 nw, .int .i64 sq, .slice pa si.length pc, .slice qa le.length qc] _).alloc _)
  have A1 : Hid (BAt O (w.heap.size + 1) [.int .i64 0, .int .i64 0, .int .i64 0, .int .i64 0, .slice none 0 0, .slice none 0 0]) := hidM (by
    rw [hO]
    have := BAt.new (w.alloc (.cells #[.int .i64 d, .int .i64 sp, .int .i64 nw, .int .i64 sq, .slice pa si.length pc, .slice qa le.length qc] 27)) #[.int .i64 0, .int .i64 0, .int .i64 0, .int .i64 0, .slice none 0 0, .slice none 0 0] 27
    rw [World.size_alloc] at this
    exact this)
  have CC := hidM (specL18Copy d sp nw sq si le (.slice pa si.length pc) (.slice qa le.length qc) O HN.out hl (HS.out.below hbO) (HL.out.below hbO))
  have c0 := A0.out.1 0 _ rfl
  have c1 := A0.out.1 1 _ rfl
  have c2 := A0.out.1 2 _ rfl
  have c3 := A0.out.1 3 _ rfl
  have c4 := A0.out.1 4 _ rfl
  have c5 := A0.out.1 5 _ rfl
  go_enter Tryz.func37, Tryz.ntmps37
  go_upto_region 1 with fail
  rw [← hO]
  clear hO
  go_wp2_with fail
  refine CC.out.mono ?_
  rintro e w1 ⟨ao, ac, bo, bc, rfl, o1, b1⟩
  have HO1 := hidM o1
  obtain ⟨V, hV⟩ : ∃ V, V = w1.alloc (.cells #[.int .i64 d, .int .i64 sp, .int .i64 nw, .int .i64 sq, .slice ao si.length ac, .slice bo le.length bc] 27) := ⟨_, rfl⟩
  have bV : Below w1.heap.size w1 V := by rw [hV]; exact (Below.refl _ _).alloc (Nat.le_refl _) _
  have AV : Hid (OAt V w1.heap.size 27 [.int .i64 d, .int .i64 sp, .int .i64 nw, .int .i64 sq, .slice ao si.length ac, .slice bo le.length bc]) := hidM (by rw [hV]; exact OAt.new w1 27 [.int .i64 d, .int .i64 sp, .int .i64 nw, .int .i64 sq, .slice ao si.length ac, .slice bo le.length bc])
  have BV : Below O.heap.size O V := b1.trans (bV.mono b1.size)
  have HZ1 : Hid (O.heap.size ≤ w1.heap.size) := hidM b1.size
  have bwV : Below w.heap.size w V := hbO.trans (BV.mono hbO.size)
  have HBV := hidM bV
  clear CC o1 b1 c0 c1 c2 c3 c4 c5
  go_upto_region 2 with fail
  rw [← hV]
  clear hV bV
  have CL := hidM (specL18Lease d sp nw sq le (.slice pa si.length pc) (.slice qa le.length qc) k V (by omega) (HL.out.below bwV))
  have BV1 : Below w1.heap.size w1 V := HBV.out
  have c0 := (A0.out.below BV).1 0 _ rfl
  have c1 := (A0.out.below BV).1 1 _ rfl
  have c2 := (A0.out.below BV).1 2 _ rfl
  have c3 := (A0.out.below BV).1 3 _ rfl
  have c4 := (A0.out.below BV).1 4 _ rfl
  have c5 := (A0.out.below BV).1 5 _ rfl
  have HLP := leasePos_has le k
  generalize hz : leasePos le k = z at *
  go_wp2_with fail
  refine CL.out.mono ?_
  rintro e w2 ⟨rfl, b2⟩
  have bw2 := bwV.trans (b2.mono bwV.size)
  have CS := hidM (specSchedOk d sp nw sq si le (.slice pa si.length pc) (.slice qa le.length qc) w2 HN.out hl (HS.out.below bw2) (HL.out.below bw2))
  have A2 := (A0.out.below BV).below b2
  clear CL c0 c1 c2 c3 c4 c5
  have c0 := A2.1 0 _ rfl
  have c1 := A2.1 1 _ rfl
  have c2 := A2.1 2 _ rfl
  have c3 := A2.1 3 _ rfl
  have c4 := A2.1 4 _ rfl
  have c5 := A2.1 5 _ rfl
  go_wp2_with fail
  refine CS.out.mono ?_
  rintro e w3 ⟨b, rfl, hb, b3⟩
  have HB := hidM hb
  have B3 : Below V.heap.size V w3 := b2.trans (b3.mono b2.size)
  have B13 : Below w1.heap.size w1 w3 := BV1.trans (B3.mono BV1.size)
  clear CS hb b2 b3 c0 c1 c2 c3 c4 c5 A2 BV1
  cases b with
  | false =>
    have HNO : Hid (¬ (SOk d sp nw sq si le ∧ lHas le k = true)) := fun h => HB.out.neg h.1
    clear HLP HB
    have AT0 := (AV.out.below B3).bat
    have RF := (A1.out.below BV).below B3
    have HFIN := hidM (fun F hF => SchTW.mk (w := w) (W := w3) (F := F) (b := false) (d := d) (sp := sp) (nw := nw) (sq := sq) (T := w.heap.size + 1) (HO1.out.1.same (top' := w1.heap.size) (Nat.le_refl _) fun x h1 h2 => B13.block x h2) (own_below HO1.out.2.1 B13) (by have := HZO.out; omega) (by omega) (bwV.trans (B3.mono bwV.size)) hF)
    clear HO1 B3 B13
    have v0 := AT0.1 0 _ rfl
    have v1 := AT0.1 1 _ rfl
    have v2 := AT0.1 2 _ rfl
    have v3 := AT0.1 3 _ rfl
    have v4 := AT0.1 4 _ rfl
    have v5 := AT0.1 5 _ rfl
    have r0 := RF.1 0 _ rfl
    have r1 := RF.1 1 _ rfl
    have r2 := RF.1 2 _ rfl
    have r3 := RF.1 3 _ rfl
    have r4 := RF.1 4 _ rfl
    have r5 := RF.1 5 _ rfl
    have rf := RF.2.1
    have HRF := hidM RF
    clear RF
    go_wp2_with fail
    (try simp only [Exit.inBlock, Exit.then])
    refine bodyPost_ret (sch_result2 rfl _ _ (w.heap.size + 1) _ _ _ _ _ _ _ rfl rfl (six_at HRF.out _ _ _ _ _ _)) rfl ?_
    exact .inr ⟨HNO.out, HFIN.out _ rfl⟩
  | true =>
    have HOK := hidM HB.out.pos
    rcases HLP with ⟨h1, i, hi, rfl, hik⟩ | ⟨h1, rfl⟩
    · have HYES : Hid (SOk d sp nw sq si le ∧ lHas le k = true) := ⟨HOK.out, h1⟩
      have HLR : Hid (lRem le k = le.eraseIdx i) := hidM (by rw [← hik]; exact lRem_one HOK.out.la hi)
      have hzn : ¬ (i : Int) < 0 := by omega
      have T3 := AV.out.below B3
      have CE := hidM (specL18End d sp nw sq le (.slice ao si.length ac) (.slice bo le.length bc) i w1.heap.size w3 hi hl T3 (LsRow.of_own (own_below HO1.out.2.1 B13)))
      clear HB hz hik h1 T3
      go_wp2_with fail
      refine CE.out.mono ?_
      rintro e w4 ⟨ga, gc, rfl, o4, r4, b4⟩
      have B14 : Below w1.heap.size w1 w4 := B13.trans b4
      have AT0 := o4.bat
      have hz13 := B13.size
      have RF : BAt w4 (w.heap.size + 1) [.int .i64 0, .int .i64 0, .int .i64 0, .int .i64 0, .slice none 0 0, .slice none 0 0] := ((A1.out.below BV).below B3).same b4.size (b4.block _ (by have := HZO.out; have := HZ1.out; omega))
      generalize le.eraseIdx i = L2 at *
      have HFIN := hidM (fun F hF => SchTW.mk (w := w) (W := w4) (F := F) (b := true) (d := d) (sp := sp) (nw := nw) (sq := sq) (T := w.heap.size + 1) (B := O.heap.size) (HO1.out.1.same (top' := w1.heap.size) (Nat.le_refl _) fun x h1 h2 => B14.block x h2) (own_wide1 r4 (by have := HZ1.out; omega)) (by have := HZO.out; omega) (by omega) ((bwV.trans (B3.mono bwV.size)).trans (b4.mono (by have := HZO.out; have := HZ1.out; omega))) hF)
      clear HO1 B3 B13 CE o4 r4 b4 B14
      unfold lsA
      have v0 := AT0.1 0 _ rfl
      have v1 := AT0.1 1 _ rfl
      have v2 := AT0.1 2 _ rfl
      have v3 := AT0.1 3 _ rfl
      have v4 := AT0.1 4 _ rfl
      have v5 := AT0.1 5 _ rfl
      have r0 := RF.1 0 _ rfl
      have r1 := RF.1 1 _ rfl
      have r2 := RF.1 2 _ rfl
      have r3 := RF.1 3 _ rfl
      have r4 := RF.1 4 _ rfl
      have r5 := RF.1 5 _ rfl
      have rf := RF.2.1
      have HRF := hidM RF
      clear RF
      go_wp2_with fail
      (try simp only [Exit.inBlock, Exit.then])
      refine bodyPost_ret (sch_result2 rfl _ _ (w.heap.size + 1) _ _ _ _ _ _ _ rfl rfl (six_at HRF.out _ _ _ _ _ _)) rfl ?_
      exact .inl ⟨HYES.out, by rw [HLR.out]; exact HFIN.out _ rfl⟩
    · have HNO : Hid (¬ (SOk d sp nw sq si le ∧ lHas le k = true)) := fun h => by
        have h2 := h.2
        rw [h1] at h2
        cases h2
      clear HB HOK
      have AT0 := (AV.out.below B3).bat
      have RF := (A1.out.below BV).below B3
      have HFIN := hidM (fun F hF => SchTW.mk (w := w) (W := w3) (F := F) (b := false) (d := d) (sp := sp) (nw := nw) (sq := sq) (T := w.heap.size + 1) (HO1.out.1.same (top' := w1.heap.size) (Nat.le_refl _) fun x h1 h2 => B13.block x h2) (own_below HO1.out.2.1 B13) (by have := HZO.out; omega) (by omega) (bwV.trans (B3.mono bwV.size)) hF)
      clear HO1 B3 B13
      have v0 := AT0.1 0 _ rfl
      have v1 := AT0.1 1 _ rfl
      have v2 := AT0.1 2 _ rfl
      have v3 := AT0.1 3 _ rfl
      have v4 := AT0.1 4 _ rfl
      have v5 := AT0.1 5 _ rfl
      have r0 := RF.1 0 _ rfl
      have r1 := RF.1 1 _ rfl
      have r2 := RF.1 2 _ rfl
      have r3 := RF.1 3 _ rfl
      have r4 := RF.1 4 _ rfl
      have r5 := RF.1 5 _ rfl
      have rf := RF.2.1
      have HRF := hidM RF
      clear RF
      go_wp2_with fail
      (try simp only [Exit.inBlock, Exit.then])
      refine bodyPost_ret (sch_result2 rfl _ _ (w.heap.size + 1) _ _ _ _ _ _ _ rfl rfl (six_at HRF.out _ _ _ _ _ _)) rfl ?_
      exact .inr ⟨HNO.out, HFIN.out _ rfl⟩
end Go.Proofs.YtcjblhiihgdljaaGreat

namespace Go.Proofs.YtcjblhiihgdljaaGreat
open Go.RowKit
set_option linter.unusedVariables false

theorem mem_psum {α : Type} (d : α) (f : α → Nat) {l : List α} {x : α} (hx : x ∈ l) : f x ≤ psum (fun i => f (l.getD i d)) l.length := by
  obtain ⟨i, hi, rfl⟩ := List.getElem_of_mem hx
  have h1 := psum_at (fun i => f (l.getD i d)) hi
  rwa [show l.getD i d = l[i] by rw [List.getD_eq_getElem?_getD, List.getElem?_eq_getElem hi]; rfl] at h1
theorem tx_of {si : List SiteV} {le : List LsV} (h : sumSit si + sumLs le ≤ 1048576) : TxB si le := by
  unfold sumSit sumLs at h
  refine ⟨fun x hx => ?_, fun x hx => ?_⟩
  · have h1 := mem_psum sitv0 szSit hx
    have h2 : szSit x ≤ 1048576 := by omega
    unfold szSit sumWt at h2
    refine ⟨by omega, fun y hy => ?_⟩
    have h3 := mem_psum wtv0 szWt hy
    have h4 : szWt y ≤ 1048576 := by omega
    exact h4
  · have h1 := mem_psum lsv0 szLs hx
    have h2 : szLs x ≤ 1048576 := by omega
    unfold szLs at h2
    omega
theorem EdV.det (d sp nw sq : Int) (si : List SiteV) (le : List LsV) (k : ByteArray) : ∃ b L, L.length ≤ le.length ∧ ∀ R, EdV d sp nw sq si le k R → R b L := by
  by_cases h : SOk d sp nw sq si le ∧ lHas le k = true
  · exact ⟨true, lRem le k, (lRem_sub le k).length_le, fun R hR => by
      rcases hR with h2 | h2
      · exact h2.2
      · exact absurd h h2.1⟩
  · exact ⟨false, le, Nat.le_refl _, fun R hR => by
      rcases hR with h2 | h2
      · exact absurd h2.1 h
      · exact h2.2⟩
end Go.Proofs.YtcjblhiihgdljaaGreat
