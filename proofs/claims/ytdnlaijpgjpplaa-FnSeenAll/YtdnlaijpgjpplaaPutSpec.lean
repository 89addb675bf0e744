/- The contract of the specification's l15Put. -/
import Derived.Test.YtdnlaijpgjpplaaRows
import Derived.Test.YtdnlaijpgjpplaaPutPlain
import Derived.Test.YtdnlaijpgjpplaaPressSpec2
import Derived.Deep.RegionHeld3
namespace Go.Proofs.Ytdnlaijpgjpplaa
open Go.RowKit
set_option linter.unusedVariables false
set_option linter.unusedSimpArgs false

theorem i64_wrap_in (n : Int) (h : -9223372036854775808 ≤ n ∧ n ≤ 9223372036854775807) : IntKind.i64.wrap n = n := by
  simp [IntKind.wrap, IntKind.bits, IntKind.signed]; omega

/-- A row that is owned lies in a block of its own type. -/
theorem own_ty {w : World} {B : Nat} {e : TypeId} {size n : Nat} {v : Value} {xs : List Value} (h : w.ownsRow B e size v n xs) {b : Nat} (hb : v.ownBlock = some b) : ∃ cur f, w.heap[b]? = some (.cells cur e f) := by
  rcases h.2 with ⟨rfl, _⟩ | ⟨g, cap, cur, rfl, _, hg, _⟩
  · cases hb
  · cases hb
    exact ⟨_, _, hg⟩

/-- What is owned stays where a block of another type turns. -/
theorem own_far {w w' : World} {B : Nat} {e t : TypeId} {size n G : Nat} {v : Value} {xs : List Value} {cs : Array Value} {f : Nat × Nat} (h : w.ownsRow B e size v n xs) (hG : w.heap[G]? = some (.cells cs t f)) (ht : t ≠ e) (hs : ∀ k, k < w.heap.size → k ≠ G → w'.heap[k]? = w.heap[k]?) : w'.ownsRow B e size v n xs :=
  own_at h fun b hb => hs b (h.lt b hb).2 fun hx => by
    obtain ⟨cur, f', h2⟩ := own_ty h hb
    rw [hx, hG] at h2
    injection h2 with h2
    injection h2 with _ h3
    exact ht h3

/-- The elements of a row of rows, each owned. -/
def OEl (w : World) (B : Nat) (vs : List Value) (ll : List (List EV)) : Prop := ∀ i, i < ll.length → ∃ x, vs[i]? = some x ∧ w.ownsRow B 35 2 x (ll.getD i []).length (ecells (ll.getD i []))

theorem OEl.far {w w' : World} {B G : Nat} {vs : List Value} {ll : List (List EV)} {t : TypeId} {cs : Array Value} {f : Nat × Nat} (h : OEl w B vs ll) (hG : w.heap[G]? = some (.cells cs t f)) (ht : t ≠ 35) (hs : ∀ k, k < w.heap.size → k ≠ G → w'.heap[k]? = w.heap[k]?) : OEl w' B vs ll := fun i hi => by
  obtain ⟨x, a, b⟩ := h i hi
  exact ⟨x, a, own_far b hG ht hs⟩

theorem OEl.below {w w' : World} {B : Nat} {vs : List Value} {ll : List (List EV)} (h : OEl w B vs ll) (hb : Below w.heap.size w w') : OEl w' B vs ll := fun i hi => by
  obtain ⟨x, a, b⟩ := h i hi
  exact ⟨x, a, own_below b hb⟩

theorem OEl.row {w : World} {base B : Nat} {v : Value} {vs : List Value} {ll : List (List EV)} (h : OEl w B vs ll) (ho : w.ownsRow base 24 1 v ll.length vs) : RunRow w v ll := by
  by_cases h0 : ll.length = 0
  · have hl : ll = [] := List.eq_nil_of_length_eq_zero h0
    rw [h0] at ho
    rcases ho.2 with ⟨rfl, _⟩ | ⟨g, cap, cur, rfl, _⟩
    · exact .inl ⟨hl, _, _, rfl⟩
    · exact .inl ⟨hl, _, _, rfl⟩
  · rcases ho.2 with ⟨_, h3⟩ | ⟨g, cap, cur, rfl, _, hg, hnc, _⟩
    · exact absurd h3 h0
    · refine .inr ⟨by omega, g, 0, cap - ll.length, by rw [Nat.add_sub_cancel' hnc], (ho.lt g rfl).2, fun i hi => ?_⟩
      obtain ⟨x, a1, a2⟩ := h i hi
      exact ⟨x, by rw [Nat.zero_add, ho.cellAt i (by omega)]; exact a1, EntRow.of_own' a2⟩

theorem RunOwn.els {w : World} {base top : Nat} {v : Value} {ll : List (List EV)} (h : RunOwn w base top v ll) : ∃ vs, w.ownsRow base 24 1 v ll.length vs ∧ OEl w base vs ll := by
  obtain ⟨vs, h1, h2⟩ := h
  exact ⟨vs, h1, fun i hi => by obtain ⟨x, a, b⟩ := h2.1 i hi; exact ⟨x, a, b⟩⟩

theorem own_front {w : World} {B : Nat} {e : TypeId} {g n k cap : Nat} {xs : List Value} (h : w.ownsRow B e 1 (.slice (some ⟨g, 0, none⟩) n cap) n xs) (hk : k ≤ n) : w.ownsRow B e 1 (.slice (some ⟨g, 0, none⟩) k cap) k (xs.take k) := by
  have hl : xs.length = n := by simpa using h.1
  rcases h.2 with ⟨h1, _⟩ | ⟨g', cap', cur, h1, h2, h3, h4, h5, h6, h7⟩
  · cases h1
  · injection h1 with e1 e2 e3
    injection e1 with e1
    injection e1 with e1
    subst e1 e3
    refine ⟨by rw [List.length_take]; omega, .inr ⟨g, cap, cur, rfl, h2, h3, by omega, h5, h6, ?_⟩⟩
    rw [← h7, List.take_take]
    congr 1
    omega
theorem two_set {W : World} {R : Nat} {c d : Value} (a b : Value) (hR : W.heap[R]? = some (.cells #[c, d] 27 (0, 0))) :
    (∀ k, k < W.heap.size → k ≠ R → ((W.setCell ⟨R, 0, none⟩ a).setCell ⟨R, 1, none⟩ b).heap[k]? = W.heap[k]?) ∧ BAt ((W.setCell ⟨R, 0, none⟩ a).setCell ⟨R, 1, none⟩ b) R [a, b] := by
  have hlt : R < W.heap.size := (Array.getElem?_eq_some_iff.1 hR).1
  have A : BAt W R [c, d] := ⟨fun j v hv => by rw [cell_of_row W R _ _ _ (0, 0) hR]; simpa using hv, fun j => frozen_of_row _ _ _ _ _ hR, hlt⟩
  exact ⟨fun k _ hk => by rw [Below.heap_setCell _ _ _ _ hk, Below.heap_setCell _ _ _ _ hk], (A.set 0 (by simp) a).set 1 (by simp) b⟩

theorem OEl.crow {w : World} {B base : Nat} {v : Value} {vs : List Value} {ll : List (List EV)} (h : OEl w B vs ll) (ho : w.ownsRow base 24 1 v ll.length vs) : CRow w v ll.length 1 vs := by
  have hl : vs.length = ll.length := by have := ho.1; omega
  refine ⟨⟨by omega, fun u hu => ?_⟩, ?_⟩
  · obtain ⟨i, hi, rfl⟩ := List.getElem_of_mem hu
    obtain ⟨x, a, b⟩ := h i (by omega)
    rw [List.getElem?_eq_getElem hi] at a
    injection a with a
    obtain ⟨p, q, e⟩ := (EntRow.of_own' b).slice
    rw [a, e]
    rfl
  · rcases ho.2 with ⟨rfl, h0⟩ | ⟨g, cap, cur, rfl, _, hg, _⟩
    · exact .inl ⟨h0, _, _, rfl⟩
    · exact .inr ⟨g, 0, _, rfl, (ho.lt g rfl).2, fun j u hj => by rw [Nat.zero_add, ho.cellAt j (by have := (List.getElem?_eq_some_iff.1 hj).1; omega)]; exact hj⟩

theorem put_done {x : EV} {m : List EV} {ll : List (List EV)} {w w' : World} {e : Ending} {PM : List EV} {PL : List (List EV)} {v5 v6 : Value} (h1 : putM m x = PM) (h2 : putL m ll x = PL) (he : e = .returned (.agg #[v5, v6])) (hE : EntRow w' v5 PM) (hR : RunRow w' v6 PL) (hB : Below w.heap.size w w') :
    ∃ ao ac bo bc, e = .returned (.agg #[.slice ao (putM m x).length ac, .slice bo (putL m ll x).length bc]) ∧ EntRow w' (.slice ao (putM m x).length ac) (putM m x) ∧ RunRow w' (.slice bo (putL m ll x).length bc) (putL m ll x) ∧ Below w.heap.size w w' := by
  subst h1 h2
  obtain ⟨a, b, rfl⟩ := hE.slice
  obtain ⟨c, d, rfl⟩ := hR.slice
  exact ⟨a, b, c, d, he, hE, hR, hB⟩

/-- No one of these values' blocks is v's. -/
def APt (v : Value) (vs : List Value) : Prop := ∀ (i : Nat) (y : Value) (b : Nat), vs[i]? = some y → y.ownBlock = some b → v.ownBlock ≠ some b
theorem APt.last {v y : Value} {vs : List Value} (h : APt v vs) (n : Nat) (hy : ∀ b, y.ownBlock = some b → v.ownBlock ≠ some b) : APt v (vs.take n ++ [y]) := fun i z b h1 h2 => by
  by_cases hi : i < (vs.take n).length
  · rw [List.getElem?_append_left hi] at h1
    have hin : i < n := by rw [List.length_take] at hi; omega
    rw [List.getElem?_take, if_pos hin] at h1
    exact h i z b h1 h2
  · rw [List.getElem?_append_right (by omega)] at h1
    cases hk : i - (vs.take n).length with
    | zero =>
      rw [hk] at h1
      obtain rfl : y = z := by simpa using h1
      exact hy b h2
    | succ k => rw [hk] at h1; simp at h1
theorem APt.cons {v y : Value} {vs : List Value} (h : APt v vs) (hy : ∀ b, y.ownBlock = some b → v.ownBlock ≠ some b) : APt v (y :: vs) := fun i z b h1 h2 => by
  cases i with
  | zero =>
    obtain rfl : y = z := by simpa using h1
    exact hy b h2
  | succ i => exact h i z b (by simpa using h1) h2
/-- What comes of putting, owned. -/
def PutOwn (x : EV) (m : List EV) (ll : List (List EV)) (w w' : World) (e : Ending) : Prop :=
  ∃ v5 v6 vs, e = .returned (.agg #[v5, v6]) ∧ w'.ownsRow w.heap.size 35 2 v5 (putM m x).length (ecells (putM m x)) ∧ w'.ownsRow w.heap.size 24 1 v6 (putL m ll x).length vs ∧ OEl w' w.heap.size vs (putL m ll x) ∧ APt v5 vs ∧ Below w.heap.size w w'

theorem put_own {x : EV} {m : List EV} {ll : List (List EV)} {w w' : World} {e : Ending} {PM : List EV} {PL : List (List EV)} {v5 v6 : Value} {vs : List Value} {B5 B6 B7 : Nat} (h1 : putM m x = PM) (h2 : putL m ll x = PL) (he : e = .returned (.agg #[v5, v6])) (hE : w'.ownsRow B5 35 2 v5 PM.length (ecells PM)) (hR : w'.ownsRow B6 24 1 v6 PL.length vs) (hL : OEl w' B7 vs PL) (h5 : w.heap.size ≤ B5) (h6 : w.heap.size ≤ B6) (h7 : w.heap.size ≤ B7) (hap : APt v5 vs) (hB : Below w.heap.size w w') : PutOwn x m ll w w' e := by
  subst h1 h2
  exact ⟨v5, v6, vs, he, own_wide1 hE h5, own_wide1 hR h6, fun i hi => (hL i hi).imp fun y h => ⟨h.1, own_wide1 h.2 h7⟩, hap, hB⟩

theorem OEl.last {w : World} {B : Nat} {vs : List Value} {ll : List (List EV)} {n : Nat} {y : Value} {l : List EV} (h : OEl w B vs ll) (hv : ll.length ≤ vs.length) (hn : n ≤ ll.length) (hy : w.ownsRow B 35 2 y l.length (ecells l)) : OEl w B (vs.take n ++ [y]) (ll.take n ++ [l]) := by
  intro i hi
  rw [List.length_append, List.length_take, List.length_singleton] at hi
  by_cases h1 : i < n
  · obtain ⟨x, a, b⟩ := h i (by omega)
    refine ⟨x, by rw [List.getElem?_append_left (by rw [List.length_take]; omega), List.getElem?_take_of_lt h1]; exact a, ?_⟩
    rw [List.getD_eq_getElem?_getD, List.getElem?_append_left (by rw [List.length_take]; omega), List.getElem?_take_of_lt h1, ← List.getD_eq_getElem?_getD]
    exact b
  · have e1 : i = (vs.take n).length := by rw [List.length_take]; omega
    have e2 : i = (ll.take n).length := by rw [List.length_take]; omega
    refine ⟨y, by rw [e1, List.getElem?_append_right (Nat.le_refl _), Nat.sub_self]; rfl, ?_⟩
    rw [List.getD_eq_getElem?_getD, e2, List.getElem?_append_right (Nat.le_refl _), Nat.sub_self]
    exact hy

theorem OEl.cons {w : World} {B : Nat} {vs : List Value} {ll : List (List EV)} {y : Value} {l : List EV} (h : OEl w B vs ll) (hy : w.ownsRow B 35 2 y l.length (ecells l)) : OEl w B (y :: vs) (l :: ll) := by
  intro i hi
  cases i with
  | zero => exact ⟨y, rfl, hy⟩
  | succ i => exact h i (by simpa using hi)

theorem OEl.wide {w : World} {B B' : Nat} {vs : List Value} {ll : List (List EV)} (h : OEl w B vs ll) (hb : B' ≤ B) : OEl w B' vs ll := fun i hi => by
  obtain ⟨x, a, b⟩ := h i hi
  exact ⟨x, a, own_wide1 b hb⟩

set_option maxRecDepth 100000 in
set_option maxHeartbeats 4000000 in
theorem specL15PutO (x : EV) (m : List EV) (ll : List (List EV)) (p q : Value) (w : World) (hk : sokS m ll = true) (hp : EntRow w p m) (hq : RunRow w q ll) :
    Calls Try.prog 27 #[.agg #[p, q], .string x.s, .int .i64 x.k] w fun e w' => PutOwn x m ll w w' e := by
  obtain ⟨hm8, hl6, h400⟩ := sokS_sz hk
  rw [List.length_append] at h400
  obtain ⟨hAm, hAl⟩ := sokS_asc hk
  have hon := on_len x m
  have hfl : ∀ i, i < ll.length → (ll.getD i []).length ≤ 400 := fun i hi => by have := flat_at hi; omega
  have HAR := hidM (put_asc (m := m) (x := x) hAl)
  obtain ⟨O, hO⟩ : ∃ O, O = (w.alloc (.cells #[p, q] 27)).alloc (.cells #[.slice none 0 0, .slice none 0 0] 27) := ⟨_, rfl⟩
  have bO : Below w.heap.size w O := by rw [hO]; exact ((Below.refl _ _).alloc (Nat.le_refl _) _).alloc (by simp) _
  have hzO : w.heap.size + 2 ≤ O.heap.size := by rw [hO]; simp
  have A0 : BAt O w.heap.size [p, q] := by rw [hO]; exact (BAt.new w #[p, q] _).alloc _
  have HR0 : O.heap[w.heap.size + 1]? = some (.cells #[.slice none 0 0, .slice none 0 0] 27 (0, 0)) := by
    rw [hO]
    have := heap_alloc_new (w.alloc (.cells #[p, q] 27)) (.cells #[.slice none 0 0, .slice none 0 0] 27)
    rwa [World.size_alloc] at this
  have HCP := hidM (specCopy m ll p q O (by omega) (by omega) (fun i hi => by have := hfl i hi; omega) (hp.below bO) (hq.below bO))
  obtain ⟨pa, pc, hpe⟩ := hp.slice
  obtain ⟨qa, qc, hqe⟩ := hq.slice
  subst hpe hqe
  have c0 := A0.1 0 _ rfl
  have c1 := A0.1 1 _ rfl
  clear hp hq A0
  go_enter Try.func27, Try.ntmps27
  go_upto_region 1 with fail
  rw [← hO]
  clear hO
  go_wp2_with fail
  refine HCP.out.mono ?_
  rintro e w1 ⟨p1, q1, rfl, o1, r1, b1⟩
  obtain ⟨vs1, n1, e1⟩ := r1.els
  have O1 := hidM o1
  have N1 := hidM n1
  have E1 := hidM e1
  have EB : Hid (∀ (i : Nat) (y : Value) (b : Nat), vs1[i]? = some y → y.ownBlock = some b → b < w1.heap.size) := hidM (fun i y b h1 h2 => by
    have hi : i < vs1.length := (List.getElem?_eq_some_iff.1 h1).1
    obtain ⟨x', a1, a2⟩ := e1 i (by have := n1.1; omega)
    rw [h1] at a1
    obtain rfl : y = x' := by simpa using a1
    exact (a2.lt b h2).2)
  obtain ⟨ma, mc, hme⟩ := (EntRow.of_own' o1).slice
  obtain ⟨ra, rc, hre⟩ := (e1.row n1).slice
  subst hme hre
  clear o1 r1 n1 e1 HCP c0 c1
  obtain ⟨U, hU⟩ : ∃ U, U = w1.alloc (.cells #[.slice ma m.length mc, .slice ra ll.length rc] 27) := ⟨_, rfl⟩
  have bU : Below w1.heap.size w1 U := by rw [hU]; exact (Below.refl _ _).alloc (Nat.le_refl _) _
  have HDU : U.heap[w1.heap.size]? = some (.cells #[.slice ma m.length mc, .slice ra ll.length rc] 27 (0, 0)) := by rw [hU]; exact heap_alloc_new w1 _
  have BU := b1.trans (bU.mono b1.size)
  have OU := hidM (own_below O1.out bU)
  have NU := hidM (own_below N1.out bU)
  have EU := hidM (E1.out.below bU)
  have hD1 : O.heap.size ≤ w1.heap.size := b1.size
  have hD2 : w1.heap.size < U.heap.size := by rw [hU]; simp
  go_upto_region 2 with fail
  rw [← hU]
  clear hU bU b1 O1 N1 E1
  generalize w1.heap.size = D at *
  obtain ⟨U2, hU2⟩ : ∃ U2, U2 = U.alloc (.cells #[.string x.s, .int .i64 x.k] 35) := ⟨_, rfl⟩
  have bU2 : Below U.heap.size U U2 := by rw [hU2]; exact (Below.refl _ _).alloc (Nat.le_refl _) _
  have HX1 : EntRow U2 (.slice (some ⟨U.heap.size, 0, none⟩) 1 1) [x] := by
    rw [hU2]
    exact EntRow.of_own' (base := 0) (e := 35) (World.ownsRow_lit U #[.string x.s, .int .i64 x.k] 1 (Nat.zero_le _) (by decide) rfl)
  have HMg := hidM (specMerge [x] m _ _ U2 (by simp; omega) (List.pairwise_singleton _ _) hAm HX1 ((EntRow.of_own' OU.out).below bU2))
  have HDU2 : U2.heap[D]? = some (.cells #[.slice ma m.length mc, .slice ra ll.length rc] 27 (0, 0)) := (bU2.block D hD2).trans HDU
  have d0 : U2.cell? ⟨D, 0, none⟩ = some (.slice ma m.length mc) := by rw [cell_of_row U2 D _ _ _ (0, 0) HDU2]; rfl
  have BU2 := BU.trans (bU2.mono BU.size)
  have NU2 := hidM (own_below NU.out bU2)
  have EU2 := hidM (EU.out.below bU2)
  have hD3 : D < U2.heap.size := Nat.lt_of_lt_of_le hD2 bU2.size
  rw [hU2] at d0
  clear HX1 NU EU OU HDU BU
  go_wp2_with fail
  rw [← hU2]
  clear hU2 bU2 d0
  refine HMg.out.mono ?_
  rintro e w2 ⟨v2, rfl, o2, b2⟩
  obtain ⟨va, vc, hve⟩ := (EntRow.of_own' o2).slice
  subst hve
  have HON : Hid (canon ([x] ++ m) = onM x m) := rfl
  rw [HON.out] at o2 ⊢
  have HD2 : w2.heap[D]? = some (.cells #[.slice ma m.length mc, .slice ra ll.length rc] 27 (0, 0)) := (b2.block D hD3).trans HDU2
  have B2 := BU2.trans (b2.mono BU2.size)
  have N2 := own_below NU2.out b2
  have E2 := EU2.out.below b2
  have hOU2 := BU2.size
  have hwO := bO.size
  clear NU2 EU2 HDU2 HMg BU2
  generalize hY : (onM x m).length = ON at *
  have HY := hidM hY
  clear hY
  obtain ⟨w3, hw3⟩ : ∃ w3, w3 = w2.setCell ⟨D, 0, none⟩ (.slice va ON vc) := ⟨_, rfl⟩
  have d0 : w2.cell? ⟨D, 0, none⟩ = some (.slice ma m.length mc) := by rw [cell_of_row w2 D _ _ _ (0, 0) HD2]; rfl
  have f0 : w2.frozen? ⟨D, 0, none⟩ = false := frozen_of_row _ _ _ _ _ HD2
  have hs3 : ∀ k, k < w2.heap.size → k ≠ D → w3.heap[k]? = w2.heap[k]? := fun k _ hk => by rw [hw3]; exact Below.heap_setCell _ _ _ _ hk
  have HD3 : w3.heap[D]? = some (.cells #[.slice va ON vc, .slice ra ll.length rc] 27 (0, 0)) := by rw [hw3]; exact heap_setCell_same w2 D 0 _ _ _ HD2
  have B3 : Below O.heap.size O w3 := by rw [hw3]; exact B2.setCell hD1 _
  have O3 := hidM (own_far (w' := w3) o2 HD2 (by decide) hs3)
  have N3 := hidM (own_far (w' := w3) N2 HD2 (by decide) hs3)
  have E3 := hidM (E2.far (w' := w3) HD2 (by decide) hs3)
  go_upto_region 3 with fail
  rw [← hw3]
  clear hw3 hs3 HD2 d0 f0 o2 N2 E2 b2 B2
  have d0 : w3.cell? ⟨D, 0, none⟩ = some (.slice va ON vc) := by rw [cell_of_row w3 D _ _ _ (0, 0) HD3]; rfl
  have d1 : w3.cell? ⟨D, 1, none⟩ = some (.slice ra ll.length rc) := by rw [cell_of_row w3 D _ _ _ (0, 0) HD3]; rfl
  have f0 : ∀ j, w3.frozen? ⟨D, j, none⟩ = false := fun j => frozen_of_row _ _ _ _ _ HD3
  by_cases h8 : 8 ≤ ON
  · have HPM : Hid (putM m x = []) := if_pos (by rw [HY.out]; exact h8)
    have HPR : Hid (putR m ll x = onM x m :: ll) := if_pos (by rw [HY.out]; exact h8)
    have h8i : 8 ≤ (ON : Int) := by omega
    obtain ⟨V, hV⟩ : ∃ V, V = w3.alloc (.cells #[.slice va ON vc] 24) := ⟨_, rfl⟩
    have bV : Below w3.heap.size w3 V := by rw [hV]; exact (Below.refl _ _).alloc (Nat.le_refl _) _
    have hD4 : D < w3.heap.size := (Array.getElem?_eq_some_iff.1 HD3).1
    have HDV : V.heap[D]? = some (.cells #[.slice va ON vc, .slice ra ll.length rc] 27 (0, 0)) := (bV.block D hD4).trans HD3
    have LV : V.ownsRow w3.heap.size 24 1 (.slice (some ⟨w3.heap.size, 0, none⟩) 1 1) 1 [.slice va ON vc] := by rw [hV]; exact World.ownsRow_lit w3 #[.slice va ON vc] 1 (Nat.le_refl _) (by decide) rfl
    have CV := (E3.out.below bV).crow (own_below N3.out bV)
    have BV := B3.trans (bV.mono B3.size)
    have OV := hidM (own_below O3.out bV)
    have EV2 := hidM (E3.out.below bV)
    have e1 : V.cell? ⟨D, 1, none⟩ = some (.slice ra ll.length rc) := by rw [cell_of_row V _ _ _ _ (0, 0) HDV]; rfl
    have hzV : w3.heap.size < V.heap.size := by rw [hV]; simp
    have hzO3 := B3.size
    clear O3 N3 E3
    rw [hV] at e1 LV CV
    go_wp2_with (at_builtin; refine wpList_append_crow rfl _ _ 25 rfl w3.heap.size 24 (.slice none 0 0) 1 24 Try.underlying25 Try.infoRw rfl (by decide) _ 1 [.slice va ON vc] rfl LV _ ll.length vs1 rfl CV (by omega) (by unfold maxLen; omega) (by simp) ?_)
    rw [← hV]
    rw [← hV] at LV
    intro v4 w4 n4 g4 _
    have hs4 : ∀ k, k < V.heap.size → k ≠ w3.heap.size → w4.heap[k]? = V.heap[k]? := fun k h1 h2 => g4.block k h1 (fun e => h2 (by injection e))
    obtain ⟨curv, fv, hgv⟩ := own_ty LV rfl
    have HD4 : w4.heap[D]? = some (.cells #[.slice va ON vc, .slice ra ll.length rc] 27 (0, 0)) := (hs4 D (by omega) (by omega)).trans HDV
    have O4 := own_wide1 (own_far (w' := w4) OV.out hgv (by decide) hs4) hOU2
    have E4 := OEl.cons (EV2.out.far (w' := w4) hgv (by decide) hs4) (l := onM x m) (by rw [HY.out]; exact O4)
    have B4 : Below O.heap.size O w4 := BV.grown g4 BV.size (fun k hk => by cases hk; exact hzO3)
    obtain ⟨RN, hRN⟩ : ∃ RN, RN = 1 + ll.length := ⟨_, rfl⟩
    have hRN7 : RN ≤ 7 ∧ 1 ≤ RN := by omega
    rw [← hRN] at n4
    have LNX : Hid ((onM x m :: ll).length = RN) := by show _ = _; rw [hRN, List.length_cons]; omega
    have LNX2 := LNX.out
    obtain ⟨a4, c4, hv4⟩ : ∃ a4 c4, v4 = .slice a4 RN c4 := by
      rcases n4.2 with ⟨h, h2⟩ | ⟨gg, cap, cur, h, _⟩
      · exact absurd h2 (by omega)
      · exact ⟨_, _, h⟩
    subst hv4
    have N4 := own_wide1 n4 hzO3
    have AP4 : Hid (APt (.slice (some ⟨w4.heap.size, 0, none⟩) 0 0) (.slice va ON vc :: vs1)) := hidM (APt.cons (fun i y b h1 h2 h3 => by
      have h4 := EB.out i y b h1 h2
      have h5 := (Array.getElem?_eq_some_iff.1 HD4).1
      simp [Value.ownBlock] at h3
      omega) (fun b hb h3 => by
      have h4 := (O4.lt b hb).2
      simp [Value.ownBlock] at h3
      omega))
    clear hs4 hgv OV EV2 n4 g4 LV CV BV HDV e1 hV bV hRN
    obtain ⟨wq, hwq⟩ : ∃ wq, wq = ((w4.setCell ⟨D, 1, none⟩ (.slice a4 RN c4)).alloc (.cells #[] 35)).setCell ⟨D, 0, none⟩ (.slice (some ⟨w4.heap.size, 0, none⟩) 0 0) := ⟨_, rfl⟩
    have d40 : w4.cell? ⟨D, 0, none⟩ = some (.slice va ON vc) := by rw [cell_of_row w4 _ _ _ _ (0, 0) HD4]; rfl
    have d41 : w4.cell? ⟨D, 1, none⟩ = some (.slice ra ll.length rc) := by rw [cell_of_row w4 _ _ _ _ (0, 0) HD4]; rfl
    have f4 : ∀ j, w4.frozen? ⟨D, j, none⟩ = false := fun j => frozen_of_row _ _ _ _ _ HD4
    have HDa : (w4.setCell ⟨D, 1, none⟩ (.slice a4 RN c4)).heap[D]? = some (.cells #[.slice va ON vc, .slice a4 RN c4] 27 (0, 0)) := heap_setCell_same w4 D 1 _ _ _ HD4
    have HDb := (Below.heap_alloc (w4.setCell ⟨D, 1, none⟩ (.slice a4 RN c4)) (.cells #[] 35) D (by have := (Array.getElem?_eq_some_iff.1 HD4).1; simpa using this)).trans HDa
    have HDc : wq.heap[D]? = some (.cells #[.slice (some ⟨w4.heap.size, 0, none⟩) 0 0, .slice a4 RN c4] 27 (0, 0)) := by rw [hwq]; exact heap_setCell_same _ D 0 _ _ _ HDb
    have hsq : ∀ k, k < w4.heap.size → k ≠ D → wq.heap[k]? = w4.heap[k]? := fun k h1 h2 => by
      rw [hwq, Below.heap_setCell _ _ _ _ h2, Below.heap_alloc _ _ _ (by simpa using h1), Below.heap_setCell _ _ _ _ h2]
    have Bq : Below O.heap.size O wq := by rw [hwq]; exact ((B4.setCell hD1 _).alloc (by simp; exact B4.size) _).setCell hD1 _
    have Oq : Hid (wq.ownsRow O.heap.size 35 2 (.slice (some ⟨w4.heap.size, 0, none⟩) 0 0) 0 []) := hidM (by
      have h1 := World.ownsRow_lit (base := O.heap.size) (e := 35) (size := 2) (w4.setCell ⟨D, 1, none⟩ (.slice a4 RN c4)) #[] 0 (by simp; exact B4.size) (Nat.zero_le _) rfl
      have h2 : (w4.setCell ⟨D, 1, none⟩ (.slice a4 RN c4)).heap.size = w4.heap.size := by simp
      rw [h2] at h1
      rw [hwq]
      exact own_far h1 HDb (by decide) (fun k _ hk => Below.heap_setCell _ _ _ _ hk))
    have Nq := hidM (own_far (w' := wq) N4 HD4 (by decide) hsq)
    have Eq5 := hidM (E4.far (w' := wq) HD4 (by decide) hsq)
    have x0 : ((w4.setCell ⟨D, 1, none⟩ (.slice a4 RN c4)).alloc (.cells #[] 35)).cell? ⟨D, 0, none⟩ = some (.slice va ON vc) := by rw [cell_of_row _ D _ _ _ (0, 0) HDb]; rfl
    have xf : ((w4.setCell ⟨D, 1, none⟩ (.slice a4 RN c4)).alloc (.cells #[] 35)).frozen? ⟨D, 0, none⟩ = false := frozen_of_row _ _ _ _ _ HDb
    have f41 := f4 1
    go_upto_region 6 with fail
    rw [← hwq]
    clear hwq hsq HDa HDb HD4 d40 d41 f4 N4 E4 B4 d0 d1 f0 B3 HD3 O4 x0 xf f41
    generalize w4.heap.size = E4z at *
    have d0 : wq.cell? ⟨D, 0, none⟩ = some (.slice (some ⟨E4z, 0, none⟩) 0 0) := by rw [cell_of_row wq D _ _ _ (0, 0) HDc]; rfl
    have d1 : wq.cell? ⟨D, 1, none⟩ = some (.slice a4 RN c4) := by rw [cell_of_row wq D _ _ _ (0, 0) HDc]; rfl
    have f0 : ∀ j, wq.frozen? ⟨D, j, none⟩ = false := fun j => frozen_of_row _ _ _ _ _ HDc
    by_cases h3 : 3 < RN
    · have h3i : 3 < (RN : Int) := by omega
      have ASX : Hid (∀ i, i < (onM x m :: ll).length → Asc ((onM x m :: ll).getD i [])) := by
        have := HAR.out
        rw [HPR.out] at this
        exact this
      have hfl2 : (onM x m :: ll).flatten.length ≤ 409 := by rw [List.flatten_cons, List.length_append, HY.out]; omega
      generalize hRR : onM x m :: ll = RR at *
      have HRR := hidM hRR
      clear hRR
      obtain ⟨g, hga⟩ : ∃ g, a4 = some ⟨g, 0, none⟩ := by
        rcases own_shape Nq.out with ⟨hz, _⟩ | ⟨_, g, gc, hg6⟩
        · exact absurd hz (by omega)
        · injection hg6 with h1 _ _
          exact ⟨g, h1⟩
      subst hga
      obtain ⟨I2, HI2⟩ : ∃ I2, Hid (I2 + 2 = RN) := ⟨RN - 2, by show _ = _; omega⟩
      obtain ⟨I1, HI1⟩ : ∃ I1, Hid (I1 + 1 = RN) := ⟨RN - 1, by show _ = _; omega⟩
      have hI2 : I2 < RN := by have := HI2.out; omega
      have hI1 : I1 < RN := by have := HI1.out; omega
      have eI2 : (RN : Int) - 2 = (I2 : Int) := by have := HI2.out; omega
      have eI1 : (RN : Int) - 1 = (I1 : Int) := by have := HI1.out; omega
      have eW2 : IntKind.i64.wrap (I2 : Int) = (I2 : Int) := i64_wrap_in _ (by omega)
      have hI2i : (I2 : Int) < (RN : Int) := by omega
      have eW1 : IntKind.i64.wrap (I1 : Int) = (I1 : Int) := i64_wrap_in _ (by omega)
      have hI1i : (I1 : Int) < (RN : Int) := by omega
      have HLn := hidM LNX2
      obtain ⟨x1, a1, ox1⟩ := Eq5.out I2 (by have := HLn.out; omega)
      obtain ⟨x2, a2, ox2⟩ := Eq5.out I1 (by have := HLn.out; omega)
      have cx1 : Hid (wq.cell? ⟨g, I2, none⟩ = some x1) := hidM (by rw [Nq.out.cellAt _ (by omega)]; exact a1)
      have cx2 : Hid (wq.cell? ⟨g, I1, none⟩ = some x2) := hidM (by rw [Nq.out.cellAt _ (by omega)]; exact a2)
      have hgW := (Nq.out.lt g rfl).2
      have hcap := own_room Nq.out
      have HAs1 := ASX.out I2 (by have := HLn.out; omega)
      have HAs2 := ASX.out I1 (by have := HLn.out; omega)
      have hz1 := flat_at (ll := RR) (i := I2) (by have := HLn.out; omega)
      have hz2 := flat_at (ll := RR) (i := I1) (by have := HLn.out; omega)
      have HLast : Hid (lastR RR = RR.take I2 ++ [canon (RR.getD I2 [] ++ RR.getD I1 [])]) := hidM (by
        have h1 := HLn.out
        have h2 := HI2.out
        have h3 := HI1.out
        unfold lastR
        rw [if_pos (by omega), show RR.length - 2 = I2 by omega, show RR.length - 1 = I1 by omega])
      obtain ⟨p1, s1, hx1⟩ := (EntRow.of_own' ox1).slice
      obtain ⟨p2, s2, hx2⟩ := (EntRow.of_own' ox2).slice
      have HMr : Hid (∀ W, Below wq.heap.size wq W → Calls Try.prog 38 #[x1, x2] W fun e w' => ∃ v', e = .returned v' ∧ w'.ownsRow W.heap.size 35 2 v' (canon (RR.getD I2 [] ++ RR.getD I1 [])).length (ecells (canon (RR.getD I2 [] ++ RR.getD I1 []))) ∧ Below W.heap.size W w') := fun W bW => specMerge _ _ x1 x2 W (by omega) HAs1 HAs2 ((EntRow.of_own' ox1).below bW) ((EntRow.of_own' ox2).below bW)
      generalize canon (RR.getD I2 [] ++ RR.getD I1 []) = LM at *
      subst hx1 hx2
      clear ox1 ox2 a1 a2 HAs1 HAs2 HAR hz1 hz2
      generalize (RR.getD I2 []).length = n1 at *
      generalize (RR.getD I1 []).length = n2 at *
      go_upto_region 8 with fail
      have HD8 : Hid (∀ W, Below wq.heap.size wq W → W.cell? ⟨D, 1, none⟩ = some (.slice (some ⟨g, 0, none⟩) RN c4) ∧ W.cell? ⟨g, I2, none⟩ = some (.slice p1 n1 s1) ∧ W.cell? ⟨g, I1, none⟩ = some (.slice p2 n2 s2)) := fun W bW => ⟨(bW.cell (p := ⟨D, 1, none⟩) (Array.getElem?_eq_some_iff.1 HDc).1).trans d1, (bW.cell (p := ⟨g, I2, none⟩) hgW).trans cx1.out, (bW.cell (p := ⟨g, I1, none⟩) hgW).trans cx2.out⟩
      clear d0 d1 f0 cx1 cx2
      refine wp_region_held_drew (S := fun W => Below wq.heap.size wq W) (by kernel_rfl) (Below.refl _ _).drew (fun h0 => ?_)
      refine wpAnyH_take (i := 0) (v := ?_) rfl (by kernel_rfl) (by kernel_rfl) (by kernel_rfl) (fun _ _ _ h => h) (Or.inl ⟨by rfl, fun W hW => ?_⟩) h0 ?_
      rotate_left
      · clear hW
        go_simp
        try with_reducible rfl
      simp only [Act.put, List.getElem_toArray, List.getElem_cons_zero, List.getElem_cons_succ, List.setIfInBounds_toArray, List.set_cons_zero, List.set_cons_succ]
      refine wpAnyH_take (i := 1) (v := .slice (some ⟨g, 0, none⟩) RN c4) rfl (by kernel_rfl) (by kernel_rfl) (by kernel_rfl) (fun _ _ _ h => h) (Or.inl ⟨by rfl, fun W hW => ?_⟩) h0 ?_
      · have q0 := (HD8.out W hW).1
        go_simp
      simp only [Act.put, List.getElem_toArray, List.getElem_cons_zero, List.getElem_cons_succ, List.setIfInBounds_toArray, List.set_cons_zero, List.set_cons_succ]
      refine wpAnyH_take (i := 2) (v := ?_) rfl (by kernel_rfl) (by kernel_rfl) (by kernel_rfl) (fun _ _ _ h => h) (Or.inl ⟨by rfl, fun W hW => ?_⟩) h0 ?_
      rotate_left
      · clear hW
        go_simp
        try with_reducible rfl
      simp only [Act.put, List.getElem_toArray, List.getElem_cons_zero, List.getElem_cons_succ, List.setIfInBounds_toArray, List.set_cons_zero, List.set_cons_succ]
      refine wpAnyH_take (i := 3) (v := ?_) rfl (by kernel_rfl) (by kernel_rfl) (by kernel_rfl) (fun _ _ _ h => h) (Or.inl ⟨by rfl, fun W hW => ?_⟩) h0 ?_
      rotate_left
      · clear hW
        go_simp
        try with_reducible rfl
      simp only [Act.put, List.getElem_toArray, List.getElem_cons_zero, List.getElem_cons_succ, List.setIfInBounds_toArray, List.set_cons_zero, List.set_cons_succ]
      refine wpAnyH_take (i := 4) (v := .pointer (some ⟨g, I2, none⟩)) rfl (by kernel_rfl) (by kernel_rfl) (by kernel_rfl) (fun _ _ _ h => h) (Or.inl ⟨by rfl, fun W hW => ?_⟩) h0 ?_
      · clear hW
        go_simp
      simp only [Act.put, List.getElem_toArray, List.getElem_cons_zero, List.getElem_cons_succ, List.setIfInBounds_toArray, List.set_cons_zero, List.set_cons_succ]
      refine wpAnyH_take (i := 5) (v := .slice p1 n1 s1) rfl (by kernel_rfl) (by kernel_rfl) (by kernel_rfl) (fun _ _ _ h => h) (Or.inl ⟨by rfl, fun W hW => ?_⟩) h0 ?_
      · have q0 := (HD8.out W hW).2.1
        go_simp
      simp only [Act.put, List.getElem_toArray, List.getElem_cons_zero, List.getElem_cons_succ, List.setIfInBounds_toArray, List.set_cons_zero, List.set_cons_succ]
      refine wpAnyH_take (i := 6) (v := ?_) rfl (by kernel_rfl) (by kernel_rfl) (by kernel_rfl) (fun _ _ _ h => h) (Or.inl ⟨by rfl, fun W hW => ?_⟩) h0 ?_
      rotate_left
      · clear hW
        go_simp
        try with_reducible rfl
      simp only [Act.put, List.getElem_toArray, List.getElem_cons_zero, List.getElem_cons_succ, List.setIfInBounds_toArray, List.set_cons_zero, List.set_cons_succ]
      refine wpAnyH_take (i := 7) (v := .slice (some ⟨g, 0, none⟩) RN c4) rfl (by kernel_rfl) (by kernel_rfl) (by kernel_rfl) (fun _ _ _ h => h) (Or.inl ⟨by rfl, fun W hW => ?_⟩) h0 ?_
      · have q0 := (HD8.out W hW).1
        go_simp
      simp only [Act.put, List.getElem_toArray, List.getElem_cons_zero, List.getElem_cons_succ, List.setIfInBounds_toArray, List.set_cons_zero, List.set_cons_succ]
      refine wpAnyH_take (i := 8) (v := ?_) rfl (by kernel_rfl) (by kernel_rfl) (by kernel_rfl) (fun _ _ _ h => h) (Or.inl ⟨by rfl, fun W hW => ?_⟩) h0 ?_
      rotate_left
      · clear hW
        go_simp
        try with_reducible rfl
      simp only [Act.put, List.getElem_toArray, List.getElem_cons_zero, List.getElem_cons_succ, List.setIfInBounds_toArray, List.set_cons_zero, List.set_cons_succ]
      refine wpAnyH_take (i := 9) (v := ?_) rfl (by kernel_rfl) (by kernel_rfl) (by kernel_rfl) (fun _ _ _ h => h) (Or.inl ⟨by rfl, fun W hW => ?_⟩) h0 ?_
      rotate_left
      · clear hW
        go_simp
        try with_reducible rfl
      simp only [Act.put, List.getElem_toArray, List.getElem_cons_zero, List.getElem_cons_succ, List.setIfInBounds_toArray, List.set_cons_zero, List.set_cons_succ]
      refine wpAnyH_take (i := 10) (v := .pointer (some ⟨g, I1, none⟩)) rfl (by kernel_rfl) (by kernel_rfl) (by kernel_rfl) (fun _ _ _ h => h) (Or.inl ⟨by rfl, fun W hW => ?_⟩) h0 ?_
      · clear hW
        go_simp
      simp only [Act.put, List.getElem_toArray, List.getElem_cons_zero, List.getElem_cons_succ, List.setIfInBounds_toArray, List.set_cons_zero, List.set_cons_succ]
      refine wpAnyH_take (i := 11) (v := .slice p2 n2 s2) rfl (by kernel_rfl) (by kernel_rfl) (by kernel_rfl) (fun _ _ _ h => h) (Or.inl ⟨by rfl, fun W hW => ?_⟩) h0 ?_
      · have q0 := (HD8.out W hW).2.2
        go_simp
      simp only [Act.put, List.getElem_toArray, List.getElem_cons_zero, List.getElem_cons_succ, List.setIfInBounds_toArray, List.set_cons_zero, List.set_cons_succ]
      refine wpAnyH_ready (rs := [12]) (by kernel_rfl) (by simp) (AllReadyH.cons rfl (fun K hK => ?_) AllReadyH.nil)
      go_simp
      refine (HMr.out _ h0).mono ?_
      rintro e w5 ⟨v5, rfl, o5, b5⟩
      have b5z : Below wq.heap.size wq w5 := h0.trans (b5.mono h0.size)
      refine hK.out _ _ b5z (fun h1 => ?_)
      clear hK K h1
      obtain ⟨la, lc, hle5⟩ := (EntRow.of_own' o5).slice
      subst hle5
      refine wpAnyH_take (i := 13) (v := ?_) rfl (by kernel_rfl) (by kernel_rfl) (by kernel_rfl) (fun _ _ _ h => h) (Or.inl ⟨by rfl, fun W hW => ?_⟩) b5z ?_
      rotate_left
      · clear hW
        go_simp
        try with_reducible rfl
      simp only [Act.put, List.getElem_toArray, List.getElem_cons_zero, List.getElem_cons_succ, List.setIfInBounds_toArray, List.set_cons_zero, List.set_cons_succ]
      refine wpAnyH_done (by kernel_rfl) ?_ _
      have HD5 := (b5z.block D (Array.getElem?_eq_some_iff.1 HDc).1).trans HDc
      have B5 : Below O.heap.size O w5 := Bq.trans (b5z.mono Bq.size)
      have O5 := own_below Oq.out b5z
      have N5 := own_below Nq.out b5z
      have E5 := OEl.below Eq5.out b5z
      have hg5 : ∃ cur f, w5.heap[g]? = some (.cells cur 24 f) := own_ty N5 rfl
      have o5w := own_wide1 o5 (show O.heap.size ≤ _ from (Bq.trans (h0.mono Bq.size)).size)
      have hvl : RR.length ≤ (.slice va ON vc :: vs1).length := by have := N5.1; have := HLn.out; omega
      have AP5 : Hid (APt (.slice (some ⟨E4z, 0, none⟩) 0 0) ((.slice va ON vc :: vs1).take I2 ++ [.slice la LM.length lc])) := hidM (APt.last AP4.out I2 (fun b hb hv => by have h1 := (o5.lt b hb).1; have h2 := (Oq.out.lt b hv).2; have h3 := h0.size; omega))
      clear HD8 HMr o5 b5
      generalize hLN : LM.length = LN at *
      have HLN := hidM hLN
      clear hLN eW2 eW1
      have d1 : w5.cell? ⟨D, 1, none⟩ = some (.slice (some ⟨g, 0, none⟩) RN c4) := by rw [cell_of_row w5 _ _ _ _ (0, 0) HD5]; rfl
      have NF5 := own_front N5 (k := I2) (by omega)
      have hgO : O.heap.size ≤ g := (N5.lt g rfl).1
      obtain ⟨curg, fg, hgo⟩ := hg5
      have hDg : D ≠ g := fun e => by
        rw [e, hgo] at HD5
        injection HD5 with HD5
        injection HD5 with _ h9
        exact absurd h9 (by decide)
      have hEl := OEl.last E5 hvl (n := I2) (by have := HLn.out; omega) (by rw [HLN.out]; exact o5w)
      have hD5s : D < w5.heap.size := (Array.getElem?_eq_some_iff.1 HD5).1
      have HO5 := hidM O5
      have HEl := hidM hEl
      have hcap2 : I2 ≤ c4 := by omega
      clear O5 hEl E5 N5 o5w hcap
      go_wp2_with (at_builtin; refine wpList_append_newAt _ rfl _ _ 25 rfl O.heap.size 24 (.slice none 0 0) 24 Try.underlying25 Try.infoRw rfl _ _ _ rfl NF5 #[.slice la LN lc] 1 rfl rfl (by intro u hu; simp at hu; rw [hu]; rfl) (by omega) (by unfold maxLen; omega) B5.size ?_)
      intro v7 w7 n7 g7 _
      have hs7 : ∀ k, k < w5.heap.size → k ≠ g → w7.heap[k]? = w5.heap[k]? := fun k h1 h2 => g7.block k h1 (fun e => h2 (by injection e))
      have HD7 : w7.heap[D]? = some (.cells #[(.slice (some ⟨E4z, 0, none⟩) 0 0), .slice (some ⟨g, 0, none⟩) RN c4] 27 (0, 0)) := (hs7 D hD5s hDg).trans HD5
      have O7 := own_far (w' := w7) HO5.out hgo (by decide) hs7
      have E7 := HEl.out.far (w' := w7) hgo (by decide) hs7
      have B7 : Below O.heap.size O w7 := B5.grown g7 B5.size (fun k hk => by cases hk; exact hgO)
      obtain ⟨a7, c7, hv7⟩ : ∃ a7 c7, v7 = .slice a7 (I2 + 1) c7 := by
        rcases n7.2 with ⟨h, h2⟩ | ⟨gg, cap, cur, h, _⟩
        · exact absurd h2 (by omega)
        · exact ⟨_, _, h⟩
      subst hv7
      clear NF5 g7 hs7 HO5 HEl hgo d1 HD5 B5
      obtain ⟨w8, hw8⟩ : ∃ w8, w8 = w7.setCell ⟨D, 1, none⟩ (.slice a7 (I2 + 1) c7) := ⟨_, rfl⟩
      have d1 : w7.cell? ⟨D, 1, none⟩ = some (.slice (some ⟨g, 0, none⟩) RN c4) := by rw [cell_of_row w7 _ _ _ _ (0, 0) HD7]; rfl
      have f1 : w7.frozen? ⟨D, 1, none⟩ = false := frozen_of_row _ _ _ _ _ HD7
      have hs8 : ∀ k, k < w7.heap.size → k ≠ D → w8.heap[k]? = w7.heap[k]? := fun k _ hk => by rw [hw8]; exact Below.heap_setCell _ _ _ _ hk
      have HD8 : w8.heap[D]? = some (.cells #[(.slice (some ⟨E4z, 0, none⟩) 0 0), .slice a7 (I2 + 1) c7] 27 (0, 0)) := by rw [hw8]; exact heap_setCell_same w7 D 1 _ _ _ HD7
      have B8 : Below O.heap.size O w8 := by rw [hw8]; exact B7.setCell hD1 _
      have O8 := hidM (own_far (w' := w8) O7 HD7 (by decide) hs8)
      have N8 := hidM (own_far (w' := w8) n7 HD7 (by decide) hs8)
      have E8 := hidM (E7.far (w' := w8) HD7 (by decide) hs8)
      clear O7 E7 n7 hs8
      go_upto_region 10 with fail
      rw [← hw8]
      clear hw8 d1 f1 HD7 B7
      have HRz := (B8.block (w.heap.size + 1) (by omega)).trans HR0
      obtain ⟨hsZ, AZ⟩ := two_set (.slice (some ⟨E4z, 0, none⟩) 0 0) (.slice a7 (I2 + 1) c7) HRz
      have r0 : w8.cell? ⟨w.heap.size + 1, 0, none⟩ = some (.slice none 0 0) := by rw [cell_of_row w8 _ _ _ _ (0, 0) HRz]; rfl
      have r1 : w8.cell? ⟨w.heap.size + 1, 1, none⟩ = some (.slice none 0 0) := by rw [cell_of_row w8 _ _ _ _ (0, 0) HRz]; rfl
      have rf : ∀ j, w8.frozen? ⟨w.heap.size + 1, j, none⟩ = false := fun j => frozen_of_row _ _ _ _ _ HRz
      have d0 : w8.cell? ⟨D, 0, none⟩ = some (.slice (some ⟨E4z, 0, none⟩) 0 0) := by rw [cell_of_row w8 _ _ _ _ (0, 0) HD8]; rfl
      have d1 : w8.cell? ⟨D, 1, none⟩ = some (.slice a7 (I2 + 1) c7) := by rw [cell_of_row w8 _ _ _ _ (0, 0) HD8]; rfl
      have OF := hidM (own_far O8.out HRz (by decide) hsZ)
      have NF := hidM (own_far N8.out HRz (by decide) hsZ)
      have EF := hidM (E8.out.far HRz (by decide) hsZ)
      have BF : Below w.heap.size w ((w8.setCell ⟨w.heap.size + 1, 0, none⟩ (.slice (some ⟨E4z, 0, none⟩) 0 0)).setCell ⟨w.heap.size + 1, 1, none⟩ (.slice a7 (I2 + 1) c7)) := ((bO.trans (B8.mono bO.size)).setCell (by simp) _).setCell (by simp) _
      clear hsZ
      go_wp2_with fail
      refine bodyPost_ret (seen_resultS rfl _ _ (w.heap.size + 1) _ _ rfl AZ) rfl ?_
      have HPL : putL m ll x = RR.take I2 ++ [LM] := by unfold putL; rw [HPR.out]; exact HLast.out
      have hLL : (RR.take I2 ++ [LM]).length = I2 + 1 := by rw [List.length_append, List.length_take]; have := HLn.out; simp; omega
      exact put_own HPM.out HPL rfl (by skip; exact OF.out) (by rw [hLL]; exact NF.out) EF.out (by omega) (by omega) (by omega) AP5.out BF
    · have h3i : ¬ 3 < (RN : Int) := by omega
      have HPL : Hid (putL m ll x = onM x m :: ll) := hidM (by unfold putL; rw [HPR.out]; exact if_neg (by rw [LNX.out]; exact h3))
      go_upto_region 10 with fail
      clear d0 d1 f0
      have HRz := (Bq.block (w.heap.size + 1) (by omega)).trans HR0
      obtain ⟨hsZ, AZ⟩ := two_set (.slice (some ⟨E4z, 0, none⟩) 0 0) (.slice a4 RN c4) HRz
      have r0 : wq.cell? ⟨w.heap.size + 1, 0, none⟩ = some (.slice none 0 0) := by rw [cell_of_row wq _ _ _ _ (0, 0) HRz]; rfl
      have r1 : wq.cell? ⟨w.heap.size + 1, 1, none⟩ = some (.slice none 0 0) := by rw [cell_of_row wq _ _ _ _ (0, 0) HRz]; rfl
      have rf : ∀ j, wq.frozen? ⟨w.heap.size + 1, j, none⟩ = false := fun j => frozen_of_row _ _ _ _ _ HRz
      have d0 : wq.cell? ⟨D, 0, none⟩ = some (.slice (some ⟨E4z, 0, none⟩) 0 0) := by rw [cell_of_row wq _ _ _ _ (0, 0) HDc]; rfl
      have d1 : wq.cell? ⟨D, 1, none⟩ = some (.slice a4 RN c4) := by rw [cell_of_row wq _ _ _ _ (0, 0) HDc]; rfl
      have OF := hidM (own_far Oq.out HRz (by decide) hsZ)
      have NF := hidM (own_far Nq.out HRz (by decide) hsZ)
      have EF := hidM (Eq5.out.far HRz (by decide) hsZ)
      have BF : Below w.heap.size w ((wq.setCell ⟨w.heap.size + 1, 0, none⟩ (.slice (some ⟨E4z, 0, none⟩) 0 0)).setCell ⟨w.heap.size + 1, 1, none⟩ (.slice a4 RN c4)) := ((bO.trans (Bq.mono bO.size)).setCell (by simp) _).setCell (by simp) _
      clear hsZ
      go_wp2_with fail
      refine bodyPost_ret (seen_resultS rfl _ _ (w.heap.size + 1) _ _ rfl AZ) rfl ?_
      exact put_own HPM.out HPL.out rfl OF.out (by rw [LNX2]; exact NF.out) EF.out (by omega) (by omega) (by omega) AP4.out BF
  · have HPM : Hid (putM m x = onM x m) := if_neg (by rw [HY.out]; exact h8)
    have HPR : Hid (putR m ll x = ll) := if_neg (by rw [HY.out]; exact h8)
    have h8i : ¬ 8 ≤ (ON : Int) := by omega
    have AP3 : Hid (APt (.slice va ON vc) vs1) := hidM (fun i y b h1 h2 h3 => by
      have h4 := EB.out i y b h1 h2
      have h5 := (O3.out.lt b h3).1
      omega)
    by_cases h3 : 3 < ll.length
    · have h3i : 3 < (ll.length : Int) := by omega
      have ASX := hidM hAl
      obtain ⟨g, hga⟩ : ∃ g, ra = some ⟨g, 0, none⟩ := by
        rcases own_shape N3.out with ⟨hz, _⟩ | ⟨_, g, gc, hg6⟩
        · exact absurd hz (by omega)
        · injection hg6 with h1 _ _
          exact ⟨g, h1⟩
      subst hga
      obtain ⟨I2, HI2⟩ : ∃ I2, Hid (I2 + 2 = ll.length) := ⟨ll.length - 2, by show _ = _; omega⟩
      obtain ⟨I1, HI1⟩ : ∃ I1, Hid (I1 + 1 = ll.length) := ⟨ll.length - 1, by show _ = _; omega⟩
      have hI2 : I2 < ll.length := by have := HI2.out; omega
      have hI1 : I1 < ll.length := by have := HI1.out; omega
      have eI2 : (ll.length : Int) - 2 = (I2 : Int) := by have := HI2.out; omega
      have eI1 : (ll.length : Int) - 1 = (I1 : Int) := by have := HI1.out; omega
      have eW2 : IntKind.i64.wrap (I2 : Int) = (I2 : Int) := i64_wrap_in _ (by omega)
      have hI2i : (I2 : Int) < (ll.length : Int) := by omega
      have eW1 : IntKind.i64.wrap (I1 : Int) = (I1 : Int) := i64_wrap_in _ (by omega)
      have hI1i : (I1 : Int) < (ll.length : Int) := by omega
      have HLn := hidM (Eq.refl ll.length)
      obtain ⟨x1, a1, ox1⟩ := E3.out I2 (by have := HLn.out; omega)
      obtain ⟨x2, a2, ox2⟩ := E3.out I1 (by have := HLn.out; omega)
      have cx1 : Hid (w3.cell? ⟨g, I2, none⟩ = some x1) := hidM (by rw [N3.out.cellAt _ (by omega)]; exact a1)
      have cx2 : Hid (w3.cell? ⟨g, I1, none⟩ = some x2) := hidM (by rw [N3.out.cellAt _ (by omega)]; exact a2)
      have hgW := (N3.out.lt g rfl).2
      have hcap := own_room N3.out
      have HAs1 := ASX.out I2 (by have := HLn.out; omega)
      have HAs2 := ASX.out I1 (by have := HLn.out; omega)
      have hz1 := flat_at (ll := ll) (i := I2) (by have := HLn.out; omega)
      have hz2 := flat_at (ll := ll) (i := I1) (by have := HLn.out; omega)
      have HLast : Hid (lastR ll = ll.take I2 ++ [canon (ll.getD I2 [] ++ ll.getD I1 [])]) := hidM (by
        have h1 := HLn.out
        have h2 := HI2.out
        have h3 := HI1.out
        unfold lastR
        rw [if_pos (by omega), show ll.length - 2 = I2 by omega, show ll.length - 1 = I1 by omega])
      obtain ⟨p1, s1, hx1⟩ := (EntRow.of_own' ox1).slice
      obtain ⟨p2, s2, hx2⟩ := (EntRow.of_own' ox2).slice
      have HMr : Hid (∀ W, Below w3.heap.size w3 W → Calls Try.prog 38 #[x1, x2] W fun e w' => ∃ v', e = .returned v' ∧ w'.ownsRow W.heap.size 35 2 v' (canon (ll.getD I2 [] ++ ll.getD I1 [])).length (ecells (canon (ll.getD I2 [] ++ ll.getD I1 []))) ∧ Below W.heap.size W w') := fun W bW => specMerge _ _ x1 x2 W (by omega) HAs1 HAs2 ((EntRow.of_own' ox1).below bW) ((EntRow.of_own' ox2).below bW)
      generalize canon (ll.getD I2 [] ++ ll.getD I1 []) = LM at *
      subst hx1 hx2
      clear ox1 ox2 a1 a2 HAs1 HAs2 HAR hz1 hz2
      generalize (ll.getD I2 []).length = n1 at *
      generalize (ll.getD I1 []).length = n2 at *
      go_upto_region 8 with fail
      have HD8 : Hid (∀ W, Below w3.heap.size w3 W → W.cell? ⟨D, 1, none⟩ = some (.slice (some ⟨g, 0, none⟩) ll.length rc) ∧ W.cell? ⟨g, I2, none⟩ = some (.slice p1 n1 s1) ∧ W.cell? ⟨g, I1, none⟩ = some (.slice p2 n2 s2)) := fun W bW => ⟨(bW.cell (p := ⟨D, 1, none⟩) (Array.getElem?_eq_some_iff.1 HD3).1).trans d1, (bW.cell (p := ⟨g, I2, none⟩) hgW).trans cx1.out, (bW.cell (p := ⟨g, I1, none⟩) hgW).trans cx2.out⟩
      clear d0 d1 f0 cx1 cx2
      refine wp_region_held_drew (S := fun W => Below w3.heap.size w3 W) (by kernel_rfl) (Below.refl _ _).drew (fun h0 => ?_)
      refine wpAnyH_take (i := 0) (v := ?_) rfl (by kernel_rfl) (by kernel_rfl) (by kernel_rfl) (fun _ _ _ h => h) (Or.inl ⟨by rfl, fun W hW => ?_⟩) h0 ?_
      rotate_left
      · clear hW
        go_simp
        try with_reducible rfl
      simp only [Act.put, List.getElem_toArray, List.getElem_cons_zero, List.getElem_cons_succ, List.setIfInBounds_toArray, List.set_cons_zero, List.set_cons_succ]
      refine wpAnyH_take (i := 1) (v := .slice (some ⟨g, 0, none⟩) ll.length rc) rfl (by kernel_rfl) (by kernel_rfl) (by kernel_rfl) (fun _ _ _ h => h) (Or.inl ⟨by rfl, fun W hW => ?_⟩) h0 ?_
      · have q0 := (HD8.out W hW).1
        go_simp
      simp only [Act.put, List.getElem_toArray, List.getElem_cons_zero, List.getElem_cons_succ, List.setIfInBounds_toArray, List.set_cons_zero, List.set_cons_succ]
      refine wpAnyH_take (i := 2) (v := ?_) rfl (by kernel_rfl) (by kernel_rfl) (by kernel_rfl) (fun _ _ _ h => h) (Or.inl ⟨by rfl, fun W hW => ?_⟩) h0 ?_
      rotate_left
      · clear hW
        go_simp
        try with_reducible rfl
      simp only [Act.put, List.getElem_toArray, List.getElem_cons_zero, List.getElem_cons_succ, List.setIfInBounds_toArray, List.set_cons_zero, List.set_cons_succ]
      refine wpAnyH_take (i := 3) (v := ?_) rfl (by kernel_rfl) (by kernel_rfl) (by kernel_rfl) (fun _ _ _ h => h) (Or.inl ⟨by rfl, fun W hW => ?_⟩) h0 ?_
      rotate_left
      · clear hW
        go_simp
        try with_reducible rfl
      simp only [Act.put, List.getElem_toArray, List.getElem_cons_zero, List.getElem_cons_succ, List.setIfInBounds_toArray, List.set_cons_zero, List.set_cons_succ]
      refine wpAnyH_take (i := 4) (v := .pointer (some ⟨g, I2, none⟩)) rfl (by kernel_rfl) (by kernel_rfl) (by kernel_rfl) (fun _ _ _ h => h) (Or.inl ⟨by rfl, fun W hW => ?_⟩) h0 ?_
      · clear hW
        go_simp
      simp only [Act.put, List.getElem_toArray, List.getElem_cons_zero, List.getElem_cons_succ, List.setIfInBounds_toArray, List.set_cons_zero, List.set_cons_succ]
      refine wpAnyH_take (i := 5) (v := .slice p1 n1 s1) rfl (by kernel_rfl) (by kernel_rfl) (by kernel_rfl) (fun _ _ _ h => h) (Or.inl ⟨by rfl, fun W hW => ?_⟩) h0 ?_
      · have q0 := (HD8.out W hW).2.1
        go_simp
      simp only [Act.put, List.getElem_toArray, List.getElem_cons_zero, List.getElem_cons_succ, List.setIfInBounds_toArray, List.set_cons_zero, List.set_cons_succ]
      refine wpAnyH_take (i := 6) (v := ?_) rfl (by kernel_rfl) (by kernel_rfl) (by kernel_rfl) (fun _ _ _ h => h) (Or.inl ⟨by rfl, fun W hW => ?_⟩) h0 ?_
      rotate_left
      · clear hW
        go_simp
        try with_reducible rfl
      simp only [Act.put, List.getElem_toArray, List.getElem_cons_zero, List.getElem_cons_succ, List.setIfInBounds_toArray, List.set_cons_zero, List.set_cons_succ]
      refine wpAnyH_take (i := 7) (v := .slice (some ⟨g, 0, none⟩) ll.length rc) rfl (by kernel_rfl) (by kernel_rfl) (by kernel_rfl) (fun _ _ _ h => h) (Or.inl ⟨by rfl, fun W hW => ?_⟩) h0 ?_
      · have q0 := (HD8.out W hW).1
        go_simp
      simp only [Act.put, List.getElem_toArray, List.getElem_cons_zero, List.getElem_cons_succ, List.setIfInBounds_toArray, List.set_cons_zero, List.set_cons_succ]
      refine wpAnyH_take (i := 8) (v := ?_) rfl (by kernel_rfl) (by kernel_rfl) (by kernel_rfl) (fun _ _ _ h => h) (Or.inl ⟨by rfl, fun W hW => ?_⟩) h0 ?_
      rotate_left
      · clear hW
        go_simp
        try with_reducible rfl
      simp only [Act.put, List.getElem_toArray, List.getElem_cons_zero, List.getElem_cons_succ, List.setIfInBounds_toArray, List.set_cons_zero, List.set_cons_succ]
      refine wpAnyH_take (i := 9) (v := ?_) rfl (by kernel_rfl) (by kernel_rfl) (by kernel_rfl) (fun _ _ _ h => h) (Or.inl ⟨by rfl, fun W hW => ?_⟩) h0 ?_
      rotate_left
      · clear hW
        go_simp
        try with_reducible rfl
      simp only [Act.put, List.getElem_toArray, List.getElem_cons_zero, List.getElem_cons_succ, List.setIfInBounds_toArray, List.set_cons_zero, List.set_cons_succ]
      refine wpAnyH_take (i := 10) (v := .pointer (some ⟨g, I1, none⟩)) rfl (by kernel_rfl) (by kernel_rfl) (by kernel_rfl) (fun _ _ _ h => h) (Or.inl ⟨by rfl, fun W hW => ?_⟩) h0 ?_
      · clear hW
        go_simp
      simp only [Act.put, List.getElem_toArray, List.getElem_cons_zero, List.getElem_cons_succ, List.setIfInBounds_toArray, List.set_cons_zero, List.set_cons_succ]
      refine wpAnyH_take (i := 11) (v := .slice p2 n2 s2) rfl (by kernel_rfl) (by kernel_rfl) (by kernel_rfl) (fun _ _ _ h => h) (Or.inl ⟨by rfl, fun W hW => ?_⟩) h0 ?_
      · have q0 := (HD8.out W hW).2.2
        go_simp
      simp only [Act.put, List.getElem_toArray, List.getElem_cons_zero, List.getElem_cons_succ, List.setIfInBounds_toArray, List.set_cons_zero, List.set_cons_succ]
      refine wpAnyH_ready (rs := [12]) (by kernel_rfl) (by simp) (AllReadyH.cons rfl (fun K hK => ?_) AllReadyH.nil)
      go_simp
      refine (HMr.out _ h0).mono ?_
      rintro e w5 ⟨v5, rfl, o5, b5⟩
      have b5z : Below w3.heap.size w3 w5 := h0.trans (b5.mono h0.size)
      refine hK.out _ _ b5z (fun h1 => ?_)
      clear hK K h1
      obtain ⟨la, lc, hle5⟩ := (EntRow.of_own' o5).slice
      subst hle5
      refine wpAnyH_take (i := 13) (v := ?_) rfl (by kernel_rfl) (by kernel_rfl) (by kernel_rfl) (fun _ _ _ h => h) (Or.inl ⟨by rfl, fun W hW => ?_⟩) b5z ?_
      rotate_left
      · clear hW
        go_simp
        try with_reducible rfl
      simp only [Act.put, List.getElem_toArray, List.getElem_cons_zero, List.getElem_cons_succ, List.setIfInBounds_toArray, List.set_cons_zero, List.set_cons_succ]
      refine wpAnyH_done (by kernel_rfl) ?_ _
      have HD5 := (b5z.block D (Array.getElem?_eq_some_iff.1 HD3).1).trans HD3
      have B5 : Below O.heap.size O w5 := B3.trans (b5z.mono B3.size)
      have O5 := own_below O3.out b5z
      have N5 := own_below N3.out b5z
      have E5 := OEl.below E3.out b5z
      have hg5 : ∃ cur f, w5.heap[g]? = some (.cells cur 24 f) := own_ty N5 rfl
      have o5w := own_wide1 o5 (show O.heap.size ≤ _ from (B3.trans (h0.mono B3.size)).size)
      have hvl : ll.length ≤ vs1.length := by have := N5.1; have := HLn.out; omega
      have AP5 : Hid (APt (.slice va ON vc) (vs1.take I2 ++ [.slice la LM.length lc])) := hidM (APt.last AP3.out I2 (fun b hb hv => by have h1 := (o5.lt b hb).1; have h2 := (O3.out.lt b hv).2; have h3 := h0.size; omega))
      clear HD8 HMr o5 b5
      generalize hLN : LM.length = LN at *
      have HLN := hidM hLN
      clear hLN eW2 eW1
      have d1 : w5.cell? ⟨D, 1, none⟩ = some (.slice (some ⟨g, 0, none⟩) ll.length rc) := by rw [cell_of_row w5 _ _ _ _ (0, 0) HD5]; rfl
      have NF5 := own_front N5 (k := I2) (by omega)
      have hgO : O.heap.size ≤ g := (N5.lt g rfl).1
      obtain ⟨curg, fg, hgo⟩ := hg5
      have hDg : D ≠ g := fun e => by
        rw [e, hgo] at HD5
        injection HD5 with HD5
        injection HD5 with _ h9
        exact absurd h9 (by decide)
      have hEl := OEl.last E5 hvl (n := I2) (by have := HLn.out; omega) (by rw [HLN.out]; exact o5w)
      have hD5s : D < w5.heap.size := (Array.getElem?_eq_some_iff.1 HD5).1
      have HO5 := hidM O5
      have HEl := hidM hEl
      have hcap2 : I2 ≤ rc := by omega
      clear O5 hEl E5 N5 o5w hcap
      go_wp2_with (at_builtin; refine wpList_append_newAt _ rfl _ _ 25 rfl O.heap.size 24 (.slice none 0 0) 24 Try.underlying25 Try.infoRw rfl _ _ _ rfl NF5 #[.slice la LN lc] 1 rfl rfl (by intro u hu; simp at hu; rw [hu]; rfl) (by omega) (by unfold maxLen; omega) B5.size ?_)
      intro v7 w7 n7 g7 _
      have hs7 : ∀ k, k < w5.heap.size → k ≠ g → w7.heap[k]? = w5.heap[k]? := fun k h1 h2 => g7.block k h1 (fun e => h2 (by injection e))
      have HD7 : w7.heap[D]? = some (.cells #[(.slice va ON vc), .slice (some ⟨g, 0, none⟩) ll.length rc] 27 (0, 0)) := (hs7 D hD5s hDg).trans HD5
      have O7 := own_far (w' := w7) HO5.out hgo (by decide) hs7
      have E7 := HEl.out.far (w' := w7) hgo (by decide) hs7
      have B7 : Below O.heap.size O w7 := B5.grown g7 B5.size (fun k hk => by cases hk; exact hgO)
      obtain ⟨a7, c7, hv7⟩ : ∃ a7 c7, v7 = .slice a7 (I2 + 1) c7 := by
        rcases n7.2 with ⟨h, h2⟩ | ⟨gg, cap, cur, h, _⟩
        · exact absurd h2 (by omega)
        · exact ⟨_, _, h⟩
      subst hv7
      clear NF5 g7 hs7 HO5 HEl hgo d1 HD5 B5
      obtain ⟨w8, hw8⟩ : ∃ w8, w8 = w7.setCell ⟨D, 1, none⟩ (.slice a7 (I2 + 1) c7) := ⟨_, rfl⟩
      have d1 : w7.cell? ⟨D, 1, none⟩ = some (.slice (some ⟨g, 0, none⟩) ll.length rc) := by rw [cell_of_row w7 _ _ _ _ (0, 0) HD7]; rfl
      have f1 : w7.frozen? ⟨D, 1, none⟩ = false := frozen_of_row _ _ _ _ _ HD7
      have hs8 : ∀ k, k < w7.heap.size → k ≠ D → w8.heap[k]? = w7.heap[k]? := fun k _ hk => by rw [hw8]; exact Below.heap_setCell _ _ _ _ hk
      have HD8 : w8.heap[D]? = some (.cells #[(.slice va ON vc), .slice a7 (I2 + 1) c7] 27 (0, 0)) := by rw [hw8]; exact heap_setCell_same w7 D 1 _ _ _ HD7
      have B8 : Below O.heap.size O w8 := by rw [hw8]; exact B7.setCell hD1 _
      have O8 := hidM (own_far (w' := w8) O7 HD7 (by decide) hs8)
      have N8 := hidM (own_far (w' := w8) n7 HD7 (by decide) hs8)
      have E8 := hidM (E7.far (w' := w8) HD7 (by decide) hs8)
      clear O7 E7 n7 hs8
      go_upto_region 10 with fail
      rw [← hw8]
      clear hw8 d1 f1 HD7 B7
      have HRz := (B8.block (w.heap.size + 1) (by omega)).trans HR0
      obtain ⟨hsZ, AZ⟩ := two_set (.slice va ON vc) (.slice a7 (I2 + 1) c7) HRz
      have r0 : w8.cell? ⟨w.heap.size + 1, 0, none⟩ = some (.slice none 0 0) := by rw [cell_of_row w8 _ _ _ _ (0, 0) HRz]; rfl
      have r1 : w8.cell? ⟨w.heap.size + 1, 1, none⟩ = some (.slice none 0 0) := by rw [cell_of_row w8 _ _ _ _ (0, 0) HRz]; rfl
      have rf : ∀ j, w8.frozen? ⟨w.heap.size + 1, j, none⟩ = false := fun j => frozen_of_row _ _ _ _ _ HRz
      have d0 : w8.cell? ⟨D, 0, none⟩ = some (.slice va ON vc) := by rw [cell_of_row w8 _ _ _ _ (0, 0) HD8]; rfl
      have d1 : w8.cell? ⟨D, 1, none⟩ = some (.slice a7 (I2 + 1) c7) := by rw [cell_of_row w8 _ _ _ _ (0, 0) HD8]; rfl
      have OF := hidM (own_far O8.out HRz (by decide) hsZ)
      have NF := hidM (own_far N8.out HRz (by decide) hsZ)
      have EF := hidM (E8.out.far HRz (by decide) hsZ)
      have BF : Below w.heap.size w ((w8.setCell ⟨w.heap.size + 1, 0, none⟩ (.slice va ON vc)).setCell ⟨w.heap.size + 1, 1, none⟩ (.slice a7 (I2 + 1) c7)) := ((bO.trans (B8.mono bO.size)).setCell (by simp) _).setCell (by simp) _
      clear hsZ
      go_wp2_with fail
      refine bodyPost_ret (seen_resultS rfl _ _ (w.heap.size + 1) _ _ rfl AZ) rfl ?_
      have HPL : putL m ll x = ll.take I2 ++ [LM] := by unfold putL; rw [HPR.out]; exact HLast.out
      have hLL : (ll.take I2 ++ [LM]).length = I2 + 1 := by rw [List.length_append, List.length_take]; have := HLn.out; simp; omega
      exact put_own HPM.out HPL rfl (by rw [HY.out]; exact OF.out) (by rw [hLL]; exact NF.out) EF.out (by omega) (by omega) (by omega) AP5.out BF
    · have h3i : ¬ 3 < (ll.length : Int) := by omega
      have HPL : Hid (putL m ll x = ll) := hidM (by unfold putL; rw [HPR.out]; exact if_neg h3)
      go_upto_region 10 with fail
      clear d0 d1 f0
      have HRz := (B3.block (w.heap.size + 1) (by omega)).trans HR0
      obtain ⟨hsZ, AZ⟩ := two_set (.slice va ON vc) (.slice ra ll.length rc) HRz
      have r0 : w3.cell? ⟨w.heap.size + 1, 0, none⟩ = some (.slice none 0 0) := by rw [cell_of_row w3 _ _ _ _ (0, 0) HRz]; rfl
      have r1 : w3.cell? ⟨w.heap.size + 1, 1, none⟩ = some (.slice none 0 0) := by rw [cell_of_row w3 _ _ _ _ (0, 0) HRz]; rfl
      have rf : ∀ j, w3.frozen? ⟨w.heap.size + 1, j, none⟩ = false := fun j => frozen_of_row _ _ _ _ _ HRz
      have d0 : w3.cell? ⟨D, 0, none⟩ = some (.slice va ON vc) := by rw [cell_of_row w3 _ _ _ _ (0, 0) HD3]; rfl
      have d1 : w3.cell? ⟨D, 1, none⟩ = some (.slice ra ll.length rc) := by rw [cell_of_row w3 _ _ _ _ (0, 0) HD3]; rfl
      have OF := hidM (own_far O3.out HRz (by decide) hsZ)
      have NF := hidM (own_far N3.out HRz (by decide) hsZ)
      have EF := hidM (E3.out.far HRz (by decide) hsZ)
      have BF : Below w.heap.size w ((w3.setCell ⟨w.heap.size + 1, 0, none⟩ (.slice va ON vc)).setCell ⟨w.heap.size + 1, 1, none⟩ (.slice ra ll.length rc)) := ((bO.trans (B3.mono bO.size)).setCell (by simp) _).setCell (by simp) _
      clear hsZ
      go_wp2_with fail
      refine bodyPost_ret (seen_resultS rfl _ _ (w.heap.size + 1) _ _ rfl AZ) rfl ?_
      exact put_own HPM.out HPL.out rfl (by rw [HY.out]; exact OF.out) NF.out EF.out (by omega) (by omega) (by omega) AP3.out BF
theorem specL15Put (x : EV) (m : List EV) (ll : List (List EV)) (p q : Value) (w : World) (hk : sokS m ll = true) (hp : EntRow w p m) (hq : RunRow w q ll) :
    Calls Try.prog 27 #[.agg #[p, q], .string x.s, .int .i64 x.k] w fun e w' => ∃ ao ac bo bc, e = .returned (.agg #[.slice ao (putM m x).length ac, .slice bo (putL m ll x).length bc]) ∧ EntRow w' (.slice ao (putM m x).length ac) (putM m x) ∧ RunRow w' (.slice bo (putL m ll x).length bc) (putL m ll x) ∧ Below w.heap.size w w' := by
  refine (specL15PutO x m ll p q w hk hp hq).mono ?_
  rintro e w' ⟨v5, v6, vs, he, h1, h2, h3, _, h4⟩
  exact put_done rfl rfl he (EntRow.of_own' h1) (h3.row h2) h4
end Go.Proofs.Ytdnlaijpgjpplaa
