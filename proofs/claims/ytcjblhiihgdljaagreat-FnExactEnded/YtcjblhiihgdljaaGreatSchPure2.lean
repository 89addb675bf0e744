/- Queues, plainly: leases that are given back one behind the other. -/
import Derived.Test.YtcjblhiihgdljaaGreatRows
import Derived.Test.YtcjblhiihgdljaaGreatSchPure
namespace Go.Proofs.YtcjblhiihgdljaaGreat
open Go.RowKit
set_option linter.unusedVariables false

structure StV where
  si : List SiteV
  sq : Int
  le : List LsV
def backS (s : StV) (x : LsV) : StV := ⟨waitV s.si s.sq x.s x.k x.p, s.sq + 1, lRem s.le x.k⟩
/-- Of the first m leases all that p tells are given back. -/
def backN (si : List SiteV) (sq : Int) (le : List LsV) (p : LsV → Bool) (m : Nat) : StV := ((le.take m).filter p).foldl backS ⟨si, sq, le⟩
theorem backN_zero (si : List SiteV) (sq : Int) (le : List LsV) (p : LsV → Bool) : backN si sq le p 0 = ⟨si, sq, le⟩ := rfl
theorem takeD_snoc {α : Type} (d : α) (l : List α) {m : Nat} (h : m < l.length) : l.take (m + 1) = l.take m ++ [l.getD m d] := by
  rw [List.take_add_one, List.getElem?_eq_getElem h, List.getD_eq_getElem?_getD, List.getElem?_eq_getElem h]
  rfl
theorem backN_yes {si : List SiteV} {sq : Int} {le : List LsV} {p : LsV → Bool} {m : Nat} (h : m < le.length) (hp : p (le.getD m lsv0) = true) : backN si sq le p (m + 1) = backS (backN si sq le p m) (le.getD m lsv0) := by
  unfold backN
  rw [takeD_snoc lsv0 le h, List.filter_append, List.filter_cons, if_pos hp, List.foldl_append]
  rfl
theorem backN_no {si : List SiteV} {sq : Int} {le : List LsV} {p : LsV → Bool} {m : Nat} (h : m < le.length) (hp : p (le.getD m lsv0) = false) : backN si sq le p (m + 1) = backN si sq le p m := by
  unfold backN
  rw [takeD_snoc lsv0 le h, List.filter_append, List.filter_cons, if_neg (by rw [hp]; decide), List.filter_nil, List.append_nil]
def cntN (le : List LsV) (p : LsV → Bool) (m : Nat) : Nat := ((le.take m).filter p).length
theorem cntN_yes {le : List LsV} {p : LsV → Bool} {m : Nat} (h : m < le.length) (hp : p (le.getD m lsv0) = true) : cntN le p (m + 1) = cntN le p m + 1 := by
  unfold cntN
  rw [takeD_snoc lsv0 le h, List.filter_append, List.filter_cons, if_pos hp, List.length_append]
  rfl
theorem cntN_no {le : List LsV} {p : LsV → Bool} {m : Nat} (h : m < le.length) (hp : p (le.getD m lsv0) = false) : cntN le p (m + 1) = cntN le p m := by
  unfold cntN
  rw [takeD_snoc lsv0 le h, List.filter_append, List.filter_cons, if_neg (by rw [hp]; decide), List.filter_nil, List.append_nil]
theorem cntN_le (le : List LsV) (p : LsV → Bool) {m n : Nat} (h : m ≤ n) : cntN le p m ≤ cntN le p n := by
  unfold cntN
  exact ((List.take_sublist_take_left h).filter p).length_le
theorem cntN_most (le : List LsV) (p : LsV → Bool) (m : Nat) : cntN le p m ≤ le.length := by
  unfold cntN
  have h1 := List.length_filter_le p (le.take m)
  have h2 := (List.take_sublist m le).length_le
  omega
/-- What is left of the first m. -/
def keptN (le : List LsV) (p : LsV → Bool) (m : Nat) : List LsV := (le.take m).filter fun x => !p x
theorem keptN_yes {le : List LsV} {p : LsV → Bool} {m : Nat} (h : m < le.length) (hp : p (le.getD m lsv0) = true) : keptN le p (m + 1) = keptN le p m := by
  unfold keptN
  rw [takeD_snoc lsv0 le h, List.filter_append, List.filter_cons, if_neg (by rw [hp]; decide), List.filter_nil, List.append_nil]
theorem keptN_no {le : List LsV} {p : LsV → Bool} {m : Nat} (h : m < le.length) (hp : p (le.getD m lsv0) = false) : keptN le p (m + 1) = keptN le p m ++ [le.getD m lsv0] := by
  unfold keptN
  rw [takeD_snoc lsv0 le h, List.filter_append, List.filter_cons, if_pos (by rw [hp]; decide), List.filter_nil]
theorem dropD_snoc {α : Type} (d : α) (l : List α) {m : Nat} (h : m < l.length) : l.drop m = l.getD m d :: l.drop (m + 1) := by
  rw [List.drop_eq_getElem_cons h, List.getD_eq_getElem?_getD, List.getElem?_eq_getElem h]
  rfl
theorem waitV_has {si : List SiteV} (hs : si.Pairwise fun x y => sBef x y = true) {sq : Int} {n k : ByteArray} {p : Int} (h : ∃ y ∈ si, y.n = n) : (waitV si sq n k p).length = si.length := by
  unfold waitV
  rw [List.length_set]
  unfold sitIns
  rw [if_pos ((has_iff hs n).2 h)]
structure BackP (si : List SiteV) (sq : Int) (le : List LsV) (p : LsV → Bool) (m : Nat) (s : StV) : Prop where
  rt : SRt s.sq s.si s.le
  hsq : s.sq = sq + cntN le p m
  hle : s.le = keptN le p m ++ le.drop m
  at' : m < le.length → s.le.getD (keptN le p m).length lsv0 = le.getD m lsv0 ∧ (keptN le p m).length < s.le.length
  hsi : s.si.length = si.length
  wl : (waitL s.si).length = (waitL si).length + cntN le p m
  ll : s.le.length + cntN le p m = le.length
  ks : (keysL s.si s.le).Perm (keysL si le)
theorem app_at {α : Type} (d : α) (a b : List α) (x : α) : (a ++ x :: b).getD a.length d = x := by
  rw [List.getD_eq_getElem?_getD, List.getElem?_append_right (Nat.le_refl _), Nat.sub_self]
  rfl
theorem backP {si : List SiteV} {sq : Int} {le : List LsV} (h : SRt sq si le) (hq : 0 ≤ sq) (p : LsV → Bool) : ∀ m, m ≤ le.length → BackP si sq le p m (backN si sq le p m) := by
  have hat : ∀ m (s : StV), s.le = keptN le p m ++ le.drop m → m < le.length → s.le.getD (keptN le p m).length lsv0 = le.getD m lsv0 ∧ (keptN le p m).length < s.le.length := fun m s hs hm => by
    rw [hs, dropD_snoc lsv0 le hm]
    exact ⟨app_at _ _ _ _, by simp⟩
  intro m
  induction m with
  | zero => intro _; exact ⟨h, by simp [backN, cntN], by simp [backN, keptN], hat 0 _ (by simp [backN, keptN]), rfl, by simp [backN, cntN], by simp [backN, cntN], List.Perm.refl _⟩
  | succ m ih =>
    intro hm
    have hlt : m < le.length := by omega
    have H := ih (by omega)
    cases hp : p (le.getD m lsv0) with
    | false =>
      rw [backN_no hlt hp]
      have e : (backN si sq le p m).le = keptN le p (m + 1) ++ le.drop (m + 1) := by rw [H.hle, dropD_snoc lsv0 le hlt, keptN_no hlt hp, List.append_assoc]; rfl
      exact ⟨H.rt, by rw [cntN_no hlt hp]; exact H.hsq, e, hat (m + 1) _ e, H.hsi, by rw [cntN_no hlt hp]; exact H.wl, by rw [cntN_no hlt hp]; exact H.ll, H.ks⟩
    | true =>
      rw [backN_yes hlt hp]
      obtain ⟨a1, a2⟩ := H.at' hlt
      have hx : le.getD m lsv0 ∈ (backN si sq le p m).le := by rw [← a1]; exact getD_mem lsv0 a2
      have hq2 : 0 ≤ (backN si sq le p m).sq := by rw [H.hsq]; omega
      have e : (backS (backN si sq le p m) (le.getD m lsv0)).le = keptN le p (m + 1) ++ le.drop (m + 1) := by
        show lRem (backN si sq le p m).le (le.getD m lsv0).k = _
        rw [← a1, lRem_one H.rt.la a2, H.hle, keptN_yes hlt hp, List.eraseIdx_append_of_length_le (Nat.le_refl _), Nat.sub_self, dropD_snoc lsv0 le hlt]
        rfl
      have hll := lRem_len H.rt.la hx
      have hkp := waitV_perm (backN si sq le p m).si (backN si sq le p m).sq (le.getD m lsv0).s (le.getD m lsv0).k (le.getD m lsv0).p
      refine ⟨H.rt.back hq2 hx, ?_, e, hat (m + 1) _ e, ?_, ?_, ?_, ?_⟩
      · show (backN si sq le p m).sq + 1 = _
        rw [cntN_yes hlt hp, H.hsq]; omega
      · exact (waitV_has H.rt.sa (H.rt.ls _ hx).2.2.2.2.2).trans H.hsi
      · have := hkp.length_eq
        simp only [List.length_cons] at this
        show (waitL (waitV _ _ _ _ _)).length = _
        rw [this, H.wl, cntN_yes hlt hp]; omega
      · show (lRem _ _).length + _ = _
        have := H.ll
        rw [cntN_yes hlt hp]; omega
      · refine List.Perm.trans ?_ H.ks
        unfold keysL
        show (((waitL (waitV _ _ _ _ _)).map _) ++ (lRem _ _).map _).Perm _
        refine ((hkp.map (·.k)).append_right _).trans ?_
        show ((le.getD m lsv0).k :: ((waitL (backN si sq le p m).si).map (·.k) ++ (lRem (backN si sq le p m).le (le.getD m lsv0).k).map (·.k))).Perm _
        refine List.perm_middle.symm.trans (List.Perm.append_left _ ?_)
        have e1 : lRem (backN si sq le p m).le (le.getD m lsv0).k = (backN si sq le p m).le.eraseIdx (keptN le p m).length := by rw [← a1]; exact lRem_one H.rt.la a2
        have e2 := out_perm lsv0 _ a2
        rw [a1] at e2
        rw [e1]
        exact (e2.map (·.k)).symm
def dueB (nw : Int) (x : LsV) : Bool := decide (x.u ≤ nw)
/-- All that is over waits again. -/
def passS (si : List SiteV) (sq : Int) (le : List LsV) (nw : Int) : StV := backN si sq le (dueB nw) le.length
def allB (_ : LsV) : Bool := true
def anewS (si : List SiteV) (sq : Int) (le : List LsV) (r : Int) : StV := ⟨(backN si sq le allB le.length).si.map fun x => ⟨x.n, r, x.w⟩, (backN si sq le allB le.length).sq, (backN si sq le allB le.length).le⟩
theorem waitL_map (si : List SiteV) (r : Int) : waitL (si.map fun x => ⟨x.n, r, x.w⟩) = waitL si := by
  unfold waitL
  rw [List.flatMap_map]
theorem cntN_all (le : List LsV) : cntN le allB le.length = le.length := by
  unfold cntN
  rw [List.take_length, show le.filter allB = le from List.filter_eq_self.2 fun _ _ => rfl]
theorem SOk.anew {d sp nw sq : Int} {si : List SiteV} {le : List LsV} (h : SOk d sp nw sq si le) (hs : sq + le.length ≤ 1000000) : SOk d sp nw (anewS si sq le (nw + d)).sq (anewS si sq le (nw + d)).si (anewS si sq le (nw + d)).le ∧ (anewS si sq le (nw + d)).le = [] ∧ (keysL (anewS si sq le (nw + d)).si []).Perm (keysL si le) := by
  have ht := h.t
  have B := backP h.rt (by omega) allB le.length (Nat.le_refl _)
  have hr := B.rt
  have hc := cntN_all le
  have hl0 : (backN si sq le allB le.length).le = [] := by
    have := B.ll
    exact List.eq_nil_of_length_eq_zero (by omega)
  have e := B.hsq
  have hw := B.wl
  have hz := B.hsi
  have hk := B.ks
  rw [hl0] at hk hr
  unfold anewS
  rw [hl0]
  generalize backN si sq le allB le.length = s at *
  refine ⟨?_, rfl, ?_⟩
  · refine SRt.ok ⟨fun x hx => ?_, ?_, fun x hx => ?_, fun x hx => absurd hx (List.not_mem_nil), List.Pairwise.nil, ?_, ?_⟩ ?_ ?_ ?_
    · obtain ⟨y, hy, rfl⟩ := List.mem_map.1 hx
      refine ⟨(hr.st y hy).1, ?_, ?_⟩
      · show 0 ≤ nw + d; omega
      · show nw + d ≤ 1000000000; omega
    · rw [List.pairwise_map]
      exact hr.sa
    · obtain ⟨y, hy, rfl⟩ := List.mem_map.1 hx
      exact hr.wt y hy
    · have := hr.keys
      unfold keysL at this ⊢
      rw [waitL_map]
      exact this
    · rw [waitL_map]
      exact hr.seqs
    · show 1 ≤ d ∧ d ≤ 1000 ∧ 1 ≤ sp ∧ sp ≤ 10000 ∧ 0 ≤ nw ∧ nw ≤ 100000000 ∧ 0 ≤ s.sq ∧ s.sq ≤ 1000000
      omega
    · rw [List.length_map]
      have := h.few
      omega
    · rw [waitL_map]
      have := h.all
      simp only [List.length_nil]
      omega
  · unfold keysL at hk ⊢
    rw [waitL_map]
    exact hk
end Go.Proofs.YtcjblhiihgdljaaGreat
