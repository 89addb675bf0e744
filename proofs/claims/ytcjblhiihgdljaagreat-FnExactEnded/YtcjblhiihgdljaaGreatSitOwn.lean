/- Sites and queues that a call owns: each site's row in a block of its own. -/
import Derived.Test.YtcjblhiihgdljaaGreatRows
import Derived.Test.YtcjblhiihgdljaaGreatSitRow
import Derived.Test.YtcjblhiihgdljaaGreatOnlyIn
namespace Go.Proofs.YtcjblhiihgdljaaGreat
open Go.RowKit
set_option linter.unusedVariables false

theorem sit_getD_set (l : List SiteV) (i m : Nat) (hm : m < l.length) (x : SiteV) : (l.set i x).getD m sitv0 = if i = m then x else l.getD m sitv0 := by
  rw [List.getD_eq_getElem?_getD, List.getD_eq_getElem?_getD, List.getElem?_set]
  split
  · rename_i he; subst he; simp [hm]
  · rfl
theorem sit_getD_lt (l : List SiteV) {k i : Nat} (h : i < k) : (l.take k).getD i sitv0 = l.getD i sitv0 := by
  rw [List.getD_eq_getElem?_getD, List.getD_eq_getElem?_getD, List.getElem?_take, if_pos h]
theorem si_snoc_lt {l : List SiV} {r : SiV} {i : Nat} (h : i < l.length) : (l ++ [r]).getD i siv0 = l.getD i siv0 := by
  rw [List.getD_eq_getElem?_getD, List.getD_eq_getElem?_getD, List.getElem?_append_left h]
theorem si_snoc_eq {l : List SiV} {r : SiV} : (l ++ [r]).getD l.length siv0 = r := by
  rw [List.getD_eq_getElem?_getD, List.getElem?_append_right (Nat.le_refl _)]; simp
theorem sit_snoc_lt {l : List SiteV} {r : SiteV} {i : Nat} (h : i < l.length) : (l ++ [r]).getD i sitv0 = l.getD i sitv0 := by
  rw [List.getD_eq_getElem?_getD, List.getD_eq_getElem?_getD, List.getElem?_append_left h]
theorem sit_snoc_eq {l : List SiteV} {r : SiteV} : (l ++ [r]).getD l.length sitv0 = r := by
  rw [List.getD_eq_getElem?_getD, List.getElem?_append_right (Nat.le_refl _)]; simp
/-- What a site's cells hold, where its row is owned. -/
def QIn (w : World) (base top : Nat) (c : SiV) (x : SiteV) : Prop := c.n = x.n ∧ c.r = x.r ∧ w.ownsRow base 83 3 c.q x.w.length (wtcells x.w) ∧ ∀ b, c.q.ownBlock = some b → b < top
theorem QIn.same {w w' : World} {base top top' : Nat} {c : SiV} {x : SiteV} (h : QIn w base top c x) (ht : top ≤ top') (hs : ∀ b, c.q.ownBlock = some b → base ≤ b → b < top → w'.heap[b]? = w.heap[b]?) : QIn w' base top' c x := by
  obtain ⟨h1, h2, h3, h4⟩ := h
  exact ⟨h1, h2, own_at h3 fun b hb => hs b hb (h3.lt b hb).1 (h4 b hb), fun b hb => Nat.lt_of_lt_of_le (h4 b hb) ht⟩
theorem QIn.wide {w : World} {base base' top : Nat} {c : SiV} {x : SiteV} (h : QIn w base top c x) (hb : base' ≤ base) : QIn w base' top c x := ⟨h.1, h.2.1, own_wide1 h.2.2.1 hb, h.2.2.2⟩
def QApart (cs : List SiV) : Prop := ∀ a b, a < cs.length → b < cs.length → a ≠ b → apt (cs.getD a siv0).q (cs.getD b siv0).q
/-- Sites' cells, each with a row of its own. -/
def SitPart (w : World) (base top : Nat) (cs : List SiV) (l : List SiteV) : Prop := cs.length = l.length ∧ (∀ i, i < l.length → QIn w base top (cs.getD i siv0) (l.getD i sitv0)) ∧ QApart cs
theorem SitPart.nil (w : World) (base top : Nat) : SitPart w base top [] [] := ⟨rfl, fun i hi => absurd hi (Nat.not_lt_zero _), fun a b ha => absurd ha (Nat.not_lt_zero _)⟩
theorem SitPart.same {w w' : World} {base top top' : Nat} {cs : List SiV} {l : List SiteV} (h : SitPart w base top cs l) (ht : top ≤ top') (hs : ∀ b, (∃ i, i < cs.length ∧ (cs.getD i siv0).q.ownBlock = some b) → base ≤ b → b < top → w'.heap[b]? = w.heap[b]?) : SitPart w' base top' cs l :=
  ⟨h.1, fun i hi => (h.2.1 i hi).same ht fun b hb => hs b ⟨i, by rw [h.1]; exact hi, hb⟩, h.2.2⟩
theorem SitPart.wide {w : World} {base base' top : Nat} {cs : List SiV} {l : List SiteV} (h : SitPart w base top cs l) (hb : base' ≤ base) : SitPart w base' top cs l := ⟨h.1, fun i hi => (h.2.1 i hi).wide hb, h.2.2⟩
/-- One site more, its row above all that was there. -/
theorem SitPart.snoc {w : World} {base top top' : Nat} {cs : List SiV} {l : List SiteV} {c : SiV} {x : SiteV} (h : SitPart w base top cs l) (ht : top ≤ top') (hx : QIn w base top' c x) (hn : ∀ b, c.q.ownBlock = some b → top ≤ b) : SitPart w base top' (cs ++ [c]) (l ++ [x]) := by
  obtain ⟨h1, h2, h3⟩ := h
  refine ⟨by simp [h1], fun i hi => ?_, fun a b ha hb hne => ?_⟩
  · rw [List.length_append] at hi
    simp at hi
    by_cases hil : i < l.length
    · rw [si_snoc_lt (by omega), sit_snoc_lt hil]
      exact (h2 i hil).same ht fun _ _ _ _ => rfl
    · obtain rfl : i = l.length := by omega
      rw [sit_snoc_eq, ← h1, si_snoc_eq]
      exact hx
  · rw [List.length_append] at ha hb
    simp at ha hb
    have key : ∀ a, a < cs.length → apt (cs.getD a siv0).q c.q := fun a ha z e1 e2 => by
      have := (h2 a (by omega)).2.2.2 z e1
      have := hn z e2
      omega
    by_cases ha1 : a < cs.length
    · by_cases hb1 : b < cs.length
      · rw [si_snoc_lt ha1, si_snoc_lt hb1]
        exact h3 a b ha1 hb1 hne
      · obtain rfl : b = cs.length := by omega
        rw [si_snoc_lt ha1, si_snoc_eq]
        exact key a ha1
    · obtain rfl : a = cs.length := by omega
      have hb1 : b < cs.length := by omega
      rw [si_snoc_lt hb1, si_snoc_eq]
      exact (key b hb1).symm
/-- One site's row has turned, no other. -/
theorem SitPart.turn {w w' : World} {base top : Nat} {cs : List SiV} {l : List SiteV} {k : Nat} {y : SiteV} (h : SitPart w base top cs l) (hk : k < l.length) (hz : top ≤ w.heap.size) (hg : w.grownBy w' (cs.getD k siv0).q.ownBlock)
    (hn : (cs.getD k siv0).n = y.n) (hr : (cs.getD k siv0).r = y.r) (ho : w'.ownsRow base 83 3 (cs.getD k siv0).q y.w.length (wtcells y.w)) : SitPart w' base top cs (l.set k y) := by
  obtain ⟨h1, h2, h3⟩ := h
  refine ⟨by rw [List.length_set]; exact h1, fun i hi => ?_, h3⟩
  rw [List.length_set] at hi
  rw [sit_getD_set l k i hi y]
  split
  · rename_i e
    subst e
    exact ⟨hn, hr, ho, (h2 k hi).2.2.2⟩
  · rename_i e
    exact (h2 i hi).same (Nat.le_refl _) fun b hb _ hbt => hg.block b (by omega) fun e2 => h3 i k (by omega) (by omega) (fun e3 => e e3.symm) b hb e2.symm
/-- A row of sites that is owned. -/
structure SitX (w : World) (base top : Nat) (v : Value) (cs : List SiV) (l : List SiteV) : Prop where
  row : w.ownsRow base 43 3 v l.length (sicells cs)
  lid : ∀ b, v.ownBlock = some b → b < top
  part : SitPart w base top cs l
def SitOwn (w : World) (base top : Nat) (v : Value) (l : List SiteV) : Prop := ∃ cs, SitX w base top v cs l
theorem SitX.same {w w' : World} {base top top' : Nat} {v : Value} {cs : List SiV} {l : List SiteV} (h : SitX w base top v cs l) (ht : top ≤ top') (hs : ∀ b, base ≤ b → b < top → w'.heap[b]? = w.heap[b]?) : SitX w' base top' v cs l :=
  ⟨own_at h.row fun b hb => hs b (h.row.lt b hb).1 (h.lid b hb), fun b hb => Nat.lt_of_lt_of_le (h.lid b hb) ht, h.part.same ht fun b _ => hs b⟩
theorem SitX.wide {w : World} {base base' top : Nat} {v : Value} {cs : List SiV} {l : List SiteV} (h : SitX w base top v cs l) (hb : base' ≤ base) : SitX w base' top v cs l := ⟨own_wide1 h.row hb, h.lid, h.part.wide hb⟩
theorem SitX.slice {w : World} {base top : Nat} {v : Value} {cs : List SiV} {l : List SiteV} (h : SitX w base top v cs l) : ∃ ao cap, v = .slice ao l.length cap := by
  have h1 := h.row
  rw [← h.part.1] at h1
  rw [← h.part.1]
  exact (SiRow.of_own h1).slice
theorem SitX.sit {w : World} {base top : Nat} {v : Value} {cs : List SiV} {l : List SiteV} (h : SitX w base top v cs l) : SitRow w v l := by
  have h1 := h.row
  rw [← h.part.1] at h1
  refine ⟨cs, SiRow.of_own h1, h.part.1, fun i hi => ?_⟩
  obtain ⟨a1, a2, a3, _⟩ := h.part.2.1 i hi
  exact ⟨a1, a2, WtRow.of_own a3⟩
theorem SitOwn.same {w w' : World} {base top top' : Nat} {v : Value} {l : List SiteV} (h : SitOwn w base top v l) (ht : top ≤ top') (hs : ∀ b, base ≤ b → b < top → w'.heap[b]? = w.heap[b]?) : SitOwn w' base top' v l := by
  obtain ⟨cs, h⟩ := h
  exact ⟨cs, h.same ht hs⟩
theorem SitOwn.wide {w : World} {base base' top : Nat} {v : Value} {l : List SiteV} (h : SitOwn w base top v l) (hb : base' ≤ base) : SitOwn w base' top v l := by
  obtain ⟨cs, h⟩ := h
  exact ⟨cs, h.wide hb⟩
theorem SitOwn.row {w : World} {base top : Nat} {v : Value} {l : List SiteV} (h : SitOwn w base top v l) : SitRow w v l := by
  obtain ⟨cs, h⟩ := h
  exact h.sit
theorem t_site_wait : (43 : TypeId) ≠ 83 := by decide
theorem t_site_lease : (43 : TypeId) ≠ 51 := by decide
theorem t_lease_wait : (51 : TypeId) ≠ 83 := by decide
/-- Two rows of different types lead to no block in common. -/
theorem apt_ty {w : World} {B B' : Nat} {e e' : TypeId} {size size' n n' : Nat} {v v' : Value} {xs xs' : List Value} (h : w.ownsRow B e size v n xs) (h' : w.ownsRow B' e' size' v' n' xs') (ht : e ≠ e') : apt v v' := fun b hb hb' => by
  obtain ⟨c1, f1, g1⟩ := own_ty h hb
  obtain ⟨c2, f2, g2⟩ := own_ty h' hb'
  rw [g1] at g2
  injection g2 with g2
  injection g2 with _ g3
  exact ht g3
/-- One site's row has turned, no other, and no site. -/
theorem SitX.turn {w w' : World} {base top : Nat} {v : Value} {cs : List SiV} {l : List SiteV} {k : Nat} {y : SiteV} (h : SitX w base top v cs l) (hk : k < l.length) (hz : top ≤ w.heap.size) (hg : w.grownBy w' (cs.getD k siv0).q.ownBlock)
    (hn : (cs.getD k siv0).n = y.n) (hr : (cs.getD k siv0).r = y.r) (ho : w'.ownsRow base 83 3 (cs.getD k siv0).q y.w.length (wtcells y.w)) : SitX w' base top v cs (l.set k y) := by
  refine ⟨?_, h.lid, h.part.turn hk hz hg hn hr ho⟩
  rw [List.length_set]
  exact own_at h.row fun b hb => hg.block b (by have := h.lid b hb; omega) fun e => apt_ty h.row (h.part.2.1 k hk).2.2.1 t_site_wait b hb e.symm
/-- The cells of sites have turned, no row of theirs. -/
theorem SitX.cells {w w' : World} {base top : Nat} {v : Value} {cs cs' : List SiV} {l l' : List SiteV} (h : SitX w base top v cs l) (hz : top ≤ w.heap.size) (hg : w.grownBy w' v.ownBlock)
    (hr : w'.ownsRow base 43 3 v l'.length (sicells cs')) (hp : SitPart w base top cs' l') : SitX w' base top v cs' l' := by
  refine ⟨hr, h.lid, ?_⟩
  refine ⟨hp.1, fun i hi => ?_, hp.2.2⟩
  have hq := hp.2.1 i hi
  exact hq.same (Nat.le_refl _) fun b hb _ hbt => hg.block b (by omega) fun e => apt_ty h.row hq.2.2.1 t_site_wait b e.symm hb
/-- Queues that are owned: both rows, and what is in them, between base and top. -/
def SchOwn (w : World) (base top : Nat) (va vb : Value) (si : List SiteV) (le : List LsV) : Prop := SitOwn w base top va si ∧ w.ownsRow base 51 4 vb le.length (lscells le) ∧ ∀ b, vb.ownBlock = some b → b < top
theorem SchOwn.same {w w' : World} {base top top' : Nat} {va vb : Value} {si : List SiteV} {le : List LsV} (h : SchOwn w base top va vb si le) (ht : top ≤ top') (hs : ∀ b, base ≤ b → b < top → w'.heap[b]? = w.heap[b]?) : SchOwn w' base top' va vb si le :=
  ⟨h.1.same ht hs, own_at h.2.1 fun b hb => hs b (h.2.1.lt b hb).1 (h.2.2 b hb), fun b hb => Nat.lt_of_lt_of_le (h.2.2 b hb) ht⟩
theorem SchOwn.below {w w' : World} {base top : Nat} {va vb : Value} {si : List SiteV} {le : List LsV} (h : SchOwn w base top va vb si le) (ht : top ≤ w.heap.size) (hb : Below w.heap.size w w') : SchOwn w' base top va vb si le := h.same (Nat.le_refl _) fun b _ h2 => hb.block b (by omega)
theorem SchOwn.only {w w' : World} {base top base' top' : Nat} {va vb : Value} {si : List SiteV} {le : List LsV} (h : SchOwn w base top va vb si le) (ht : top ≤ w.heap.size) (ho : Only base' top' w w') (hd : top ≤ base' ∨ top' ≤ base) : SchOwn w' base top va vb si le := h.same (Nat.le_refl _) fun b h1 h2 => ho.block b (by omega) (by omega)
theorem SchOwn.wide {w : World} {base base' top : Nat} {va vb : Value} {si : List SiteV} {le : List LsV} (h : SchOwn w base top va vb si le) (hb : base' ≤ base) : SchOwn w base' top va vb si le := ⟨h.1.wide hb, own_wide1 h.2.1 hb, h.2.2⟩
theorem SchOwn.row {w : World} {base top : Nat} {va vb : Value} {si : List SiteV} {le : List LsV} (h : SchOwn w base top va vb si le) : SchRow w va vb si le := ⟨h.1.row, LsRow.of_own h.2.1⟩
end Go.Proofs.YtcjblhiihgdljaaGreat
