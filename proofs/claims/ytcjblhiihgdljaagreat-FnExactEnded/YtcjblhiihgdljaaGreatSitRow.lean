/- Rows of sites, and queues, in memory, wherever they lie. -/
import Derived.Test.YtcjblhiihgdljaaGreatRows
import Derived.Test.YtcjblhiihgdljaaGreatWtRow
import Derived.Test.YtcjblhiihgdljaaGreatLsRow
import Derived.Test.YtcjblhiihgdljaaGreatSiRow
namespace Go.Proofs.YtcjblhiihgdljaaGreat
open Go.RowKit
set_option linter.unusedVariables false

/-- A site: its name, from when on it may be asked, and what waits. -/
structure SiteV where
  n : ByteArray
  r : Int
  w : List WtV
def sitv0 : SiteV := ⟨ByteArray.empty, 0, []⟩
/-- Queues. -/
structure SchV where
  d : Int
  sp : Int
  nw : Int
  sq : Int
  si : List SiteV
  le : List LsV
/-- The cells of a site, and what they hold. -/
def SitEq (w : World) (c : SiV) (x : SiteV) : Prop := c.n = x.n ∧ c.r = x.r ∧ WtRow w c.q x.w
theorem SitEq.same {w w' : World} {c : SiV} {x : SiteV} (h : SitEq w c x) (hs : w.heap.size ≤ w'.heap.size) (hb : ∀ k, k < w.heap.size → w'.heap[k]? = w.heap[k]?) : SitEq w' c x := ⟨h.1, h.2.1, h.2.2.same hs hb⟩
def SitRow (w : World) (v : Value) (l : List SiteV) : Prop := ∃ cs : List SiV, SiRow w v cs ∧ cs.length = l.length ∧ ∀ i, i < l.length → SitEq w (cs.getD i siv0) (l.getD i sitv0)
theorem SitRow.same {w w' : World} {v : Value} {l : List SiteV} (h : SitRow w v l) (hs : w.heap.size ≤ w'.heap.size) (hb : ∀ k, k < w.heap.size → w'.heap[k]? = w.heap[k]?) : SitRow w' v l := by
  obtain ⟨cs, h1, h2, h3⟩ := h
  exact ⟨cs, h1.same hs hb, h2, fun i hi => (h3 i hi).same hs hb⟩
theorem SitRow.below {w w' : World} {v : Value} {l : List SiteV} (h : SitRow w v l) (hb : Below w.heap.size w w') : SitRow w' v l := h.same hb.size hb.block
theorem SitRow.slice {w : World} {v : Value} {l : List SiteV} (h : SitRow w v l) : ∃ ao cap, v = .slice ao l.length cap := by
  obtain ⟨cs, h1, h2, h3⟩ := h
  rw [← h2]
  exact h1.slice
theorem SitRow.nil (w : World) (ao : Option Addr) (cap : Nat) : SitRow w (.slice ao 0 cap) [] := ⟨[], SiRow.nil w ao cap, rfl, fun i hi => absurd hi (Nat.not_lt_zero _)⟩
/-- The site at a place of a block. -/
def SitAt (w : World) (g o : Nat) (x : SiteV) : Prop := w.cell? ⟨g, o, none⟩ = some (.string x.n) ∧ w.cell? ⟨g, o + 1, none⟩ = some (.int .i64 x.r) ∧ ∃ q, w.cell? ⟨g, o + 2, none⟩ = some q ∧ WtRow w q x.w
theorem SitAt.below {w w' : World} {g o : Nat} {x : SiteV} (h : SitAt w g o x) (hb : Below w.heap.size w w') (hg : g < w.heap.size) : SitAt w' g o x := by
  obtain ⟨h1, h2, q, h3, h4⟩ := h
  exact ⟨(hb.cell (p := ⟨g, o, none⟩) hg).trans h1, (hb.cell (p := ⟨g, o + 1, none⟩) hg).trans h2, q, (hb.cell (p := ⟨g, o + 2, none⟩) hg).trans h3, h4.below hb⟩
theorem SitRow.cases {w : World} {v : Value} {l : List SiteV} (h : SitRow w v l) : (l = [] ∧ ∃ ao cap, v = .slice ao 0 cap) ∨
    (0 < l.length ∧ ∃ g off cap, v = .slice (some ⟨g, off, none⟩) l.length (l.length + cap) ∧ g < w.heap.size ∧ ∀ i, i < l.length → SitAt w g (off + i * 3) (l.getD i sitv0)) := by
  obtain ⟨cs, h1, h2, h3⟩ := h
  rcases h1 with ⟨rfl, ao, cap, rfl⟩ | ⟨h0, g, off, cap, h4, h5, h6⟩
  · exact .inl ⟨List.eq_nil_of_length_eq_zero h2.symm, ao, cap, rfl⟩
  · rw [h2] at h0 h4 h6
    refine .inr ⟨h0, g, off, cap, h4, h5, fun i hi => ?_⟩
    obtain ⟨a1, a2, a3⟩ := h6 i hi
    obtain ⟨b1, b2, b3⟩ := h3 i hi
    rw [b1] at a1
    rw [b2] at a2
    exact ⟨a1, a2, _, a3, b3⟩
/-- Queues, by their two rows. -/
def SchRow (w : World) (va vb : Value) (si : List SiteV) (le : List LsV) : Prop := SitRow w va si ∧ LsRow w vb le
theorem SchRow.below {w w' : World} {va vb : Value} {si : List SiteV} {le : List LsV} (h : SchRow w va vb si le) (hb : Below w.heap.size w w') : SchRow w' va vb si le := ⟨h.1.below hb, h.2.below hb⟩
end Go.Proofs.YtcjblhiihgdljaaGreat
