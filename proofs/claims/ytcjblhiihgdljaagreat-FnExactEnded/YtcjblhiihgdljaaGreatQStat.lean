/- Queues that are being changed: sites by pointers, leases in a map. -/
import Derived.Test.YtcjblhiihgdljaaGreatRows
import Derived.Test.YtcjblhiihgdljaaGreatSitOwn
import Derived.Test.YtcjblhiihgdljaaGreatObjAt
import Derived.Test.YtcjblhiihgdljaaGreatLeaseMap
namespace Go.Proofs.YtcjblhiihgdljaaGreat
open Go.RowKit
set_option linter.unusedVariables false

def ptrs (ps : List Nat) : List Value := ps.map fun P => .pointer (some ⟨P, 0, none⟩)
theorem ptrs_app (a b : List Nat) : ptrs (a ++ b) = ptrs a ++ ptrs b := by unfold ptrs; rw [List.map_append]
theorem ptrs_len (a : List Nat) : (ptrs a).length = a.length := by unfold ptrs; rw [List.length_map]
theorem t_q_site : (95 : TypeId) ≠ 43 := by decide
theorem t_q_ptr : (95 : TypeId) ≠ 76 := by decide
theorem t_q_wait : (95 : TypeId) ≠ 83 := by decide
theorem t_site_ptr : (43 : TypeId) ≠ 76 := by decide
theorem t_ptr_wait : (76 : TypeId) ≠ 83 := by decide
structure QSt (w : World) (base Q : Nat) (d sp nw sq : Int) (sv : Value) (ps : List Nat) (cs : List SiV) (si : List SiteV) (mb N : Nat) (le : List LsV) : Prop where
  obj : OAt w Q 95 [.int .i64 d, .int .i64 sp, .int .i64 nw, .int .i64 sq, sv, .map (some mb)]
  qb : base ≤ Q
  row : w.ownsRow base 76 1 sv ps.length (ptrs ps)
  len : ps.length = si.length
  site : ∀ i, i < ps.length → base ≤ ps.getD i 0 ∧ OAt w (ps.getD i 0) 43 (sivs (cs.getD i siv0))
  dis : ps.Nodup
  part : SitPart w base w.heap.size cs si
  map : LMapO w mb N le
  mbb : base ≤ mb
def QStO (w : World) (base Q : Nat) (d sp nw sq : Int) (si : List SiteV) (N : Nat) (le : List LsV) : Prop := ∃ sv ps cs mb, QSt w base Q d sp nw sq sv ps cs si mb N le
section
variable {w w' : World} {base Q : Nat} {d sp nw sq : Int} {sv : Value} {ps : List Nat} {cs : List SiV} {si : List SiteV} {mb N : Nat} {le : List LsV}
theorem QSt.below (h : QSt w base Q d sp nw sq sv ps cs si mb N le) (hb : Below w.heap.size w w') : QSt w' base Q d sp nw sq sv ps cs si mb N le :=
  ⟨h.obj.below hb, h.qb, own_at h.row fun b e => hb.block b (h.row.lt b e).2, h.len, fun i hi => ⟨(h.site i hi).1, (h.site i hi).2.below hb⟩, h.dis, h.part.same hb.size fun b _ _ h2 => hb.block b h2, h.map.below hb, h.mbb⟩
theorem QSt.wide {base' : Nat} (h : QSt w base Q d sp nw sq sv ps cs si mb N le) (hb : base' ≤ base) : QSt w base' Q d sp nw sq sv ps cs si mb N le :=
  ⟨h.obj, Nat.le_trans hb h.qb, own_wide1 h.row hb, h.len, fun i hi => ⟨Nat.le_trans hb (h.site i hi).1, (h.site i hi).2⟩, h.dis, h.part.wide hb, h.map, Nat.le_trans hb h.mbb⟩
/-- The map has turned, nothing else. -/
theorem QSt.turn (h : QSt w base Q d sp nw sq sv ps cs si mb N le) (hg : w.grownBy w' (some mb)) {N' : Nat} {le' : List LsV} (hm : LMapO w' mb N' le') : QSt w' base Q d sp nw sq sv ps cs si mb N' le' := by
  have hc : ∀ {B : Nat} {t : TypeId} {vs : List Value}, OAt w B t vs → some B ≠ some mb := fun ho e => by
    injection e with e
    subst e
    exact h.map.none_cells ho
  have hr : ∀ {B' : Nat} {e : TypeId} {z n : Nat} {v : Value} {xs : List Value}, w.ownsRow B' e z v n xs → ∀ b, v.ownBlock = some b → w'.heap[b]? = w.heap[b]? := fun ho b hb => hg.block b (ho.lt b hb).2 fun e => by
    injection e with e
    subst e
    obtain ⟨cur, f, g⟩ := own_ty ho hb
    exact h.map.none_cells g
  exact ⟨h.obj.kept hg (hc h.obj), h.qb, own_at h.row (hr h.row), h.len, fun i hi => ⟨(h.site i hi).1, (h.site i hi).2.kept hg (hc (h.site i hi).2)⟩, h.dis,
    h.part.same hg.size fun b ⟨i, hi, e⟩ _ _ => hr (h.part.2.1 i (by rw [← h.part.1]; exact hi)).2.2.1 b e, hm, h.mbb⟩
theorem pget_lt {l : List Nat} {r i : Nat} (h : i < l.length) : (l ++ [r]).getD i 0 = l.getD i 0 := by
  rw [List.getD_eq_getElem?_getD, List.getD_eq_getElem?_getD, List.getElem?_append_left h]
theorem pget_eq {l : List Nat} {r : Nat} : (l ++ [r]).getD l.length 0 = r := by
  rw [List.getD_eq_getElem?_getD, List.getElem?_append_right (Nat.le_refl _)]; simp
/-- A site more, behind the others. -/
theorem QSt.more {Y w4 Z : World} (h : QSt w base Q d sp nw sq sv ps cs si mb N le) (hWY : Below w.heap.size w Y) {c : SiV} {x : SiteV} {P : Nat} (hP : w.heap.size ≤ P) (oP : OAt Y P 43 (sivs c)) (hn : c.n = x.n) (hr : c.r = x.r)
    {B2 : Nat} (hq : Y.ownsRow B2 83 3 c.q x.w.length (wtcells x.w)) (hB2 : w.heap.size ≤ B2) {v4 : Value} (ho : w4.ownsRow base 76 1 v4 (ps.length + 1) (ptrs (ps ++ [P]))) (hg : Y.grownBy w4 sv.ownBlock) (hZ : Z = w4.setCell ⟨Q, 4, none⟩ v4) :
    QSt Z base Q d sp nw sq v4 (ps ++ [P]) (cs ++ [c]) (si ++ [x]) mb N le := by
  have hY := h.below hWY
  have hQ := h.obj.lt
  have hbw : base ≤ w.heap.size := by have := h.qb; omega
  have sY := hWY.size
  have s4 := hg.size
  have hZz : Z.heap.size = w4.heap.size := by rw [hZ]; simp
  have o4 : OAt w4 Q 95 [.int .i64 d, .int .i64 sp, .int .i64 nw, .int .i64 sq, sv, .map (some mb)] := hY.obj.kept hg fun e => hY.obj.no_row t_q_ptr hY.row e.symm
  have hZb : ∀ b, b ≠ Q → Z.heap[b]? = w4.heap[b]? := fun b hb => by rw [hZ]; exact Below.heap_setCell _ _ _ _ hb
  have keepO : ∀ {B : Nat} {vs : List Value}, OAt Y B 43 vs → OAt Z B 43 vs := fun {B vs} ho => by
    have k4 := ho.kept hg fun e => ho.no_row t_site_ptr hY.row e.symm
    exact k4.same (hZb B fun e => by subst e; exact o4.ne k4 t_q_site rfl)
  have keepW : ∀ {B' n : Nat} {v : Value} {xs : List Value}, Y.ownsRow B' 83 3 v n xs → ∀ b, v.ownBlock = some b → Z.heap[b]? = Y.heap[b]? := fun {B' n v xs} ho b hb => by
    have e1 : w4.heap[b]? = Y.heap[b]? := hg.block b (ho.lt b hb).2 fun e => apt_ty hY.row ho t_ptr_wait b e.symm hb
    rw [hZb b fun e => ?_, e1]
    subst e
    exact hY.obj.no_row t_q_wait ho hb
  have m4 : LMapO w4 mb N le := hY.map.kept hg fun e => by
    obtain ⟨cur, f, g⟩ := own_ty hY.row e.symm
    exact hY.map.none_cells g
  refine ⟨by rw [hZ]; exact o4.set 4 v4, h.qb, ?_, by rw [List.length_append, List.length_append, h.len]; rfl, fun i hi => ?_, ?_, ?_, m4.same (hZb mb fun e => ?_), h.mbb⟩
  · rw [List.length_append]
    exact own_at ho fun b hb => hZb b fun e => by subst e; exact o4.no_row t_q_ptr ho hb
  · have hcl : cs.length = ps.length := by rw [h.part.1, h.len]
    rw [List.length_append] at hi
    simp at hi
    by_cases hil : i < ps.length
    · rw [pget_lt hil, si_snoc_lt (by omega)]
      exact ⟨(h.site i hil).1, keepO (hY.site i hil).2⟩
    · obtain rfl : i = ps.length := by omega
      rw [pget_eq, ← hcl, si_snoc_eq]
      exact ⟨by omega, keepO oP⟩
  · rw [List.nodup_append]
    refine ⟨h.dis, by simp, fun a ha b hb e => ?_⟩
    rw [List.mem_singleton] at hb
    subst hb e
    obtain ⟨i, hi, rfl⟩ := List.getElem_of_mem ha
    have := (h.site i hi).2.lt
    rw [List.getD_eq_getElem?_getD, List.getElem?_eq_getElem hi] at this
    simp at this
    omega
  · have P1 : SitPart Z base w.heap.size cs si := h.part.same (Nat.le_refl _) fun b ⟨i, hi, e⟩ _ hb2 => by
      rw [keepW (hY.part.2.1 i (by rw [← h.part.1]; exact hi)).2.2.1 b e]
      exact hWY.block b hb2
    refine P1.snoc (by omega) ⟨hn, hr, own_wide1 (own_at hq (keepW hq)) (by omega), fun b hb => by have := (hq.lt b hb).2; omega⟩ fun b hb => by have := (hq.lt b hb).1; omega
  · subst e
    exact m4.none_cells o4
end
end Go.Proofs.YtcjblhiihgdljaaGreat
