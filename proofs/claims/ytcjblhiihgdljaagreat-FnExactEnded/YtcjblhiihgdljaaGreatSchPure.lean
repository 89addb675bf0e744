/- Queues, plainly: what is put, handed out, ended, given back. -/
import Derived.Test.YtcjblhiihgdljaaGreatRows
import Derived.Test.YtcjblhiihgdljaaGreatSchPlain
namespace Go.Proofs.YtcjblhiihgdljaaGreat
open Go.RowKit
set_option linter.unusedVariables false

theorem cnt_at {α : Type} (p : α → Bool) (d : α) : ∀ (l : List α) (i : Nat), i ≤ l.length → (∀ t, t < i → p (l.getD t d) = true) → (∀ t, i ≤ t → t < l.length → p (l.getD t d) = false) → l.countP p = i
  | [], i, h, _, _ => by simp at h; simp [h]
  | a :: l, 0, _, _, h2 => by
    rw [List.countP_eq_zero]
    intro x hx
    obtain ⟨t, ht, rfl⟩ := mem_getD d hx
    rw [h2 t (Nat.zero_le _) ht]
    decide
  | a :: l, i + 1, h, h1, h2 => by
    have ha : p a = true := h1 0 (by omega)
    rw [List.countP_cons_of_pos ha, cnt_at p d l i (by simp at h; omega) (fun t ht => by simpa using h1 (t + 1) (by omega)) (fun t h3 h4 => by simpa using h2 (t + 1) (by omega) (by simp; omega))]
/-- One more in an ordered list: behind all that are ahead of it. -/
def putB {α : Type} (lt : α → α → Bool) (x : α) (l : List α) : List α := l.take (l.countP fun y => lt y x) ++ x :: l.drop (l.countP fun y => lt y x)
theorem putB_len {α : Type} (lt : α → α → Bool) (x : α) (l : List α) : (putB lt x l).length = l.length + 1 := by
  unfold putB
  have := List.countP_le_length (p := fun y => lt y x) (l := l)
  simp
  omega
theorem putB_perm {α : Type} (lt : α → α → Bool) (x : α) (l : List α) : (putB lt x l).Perm (x :: l) := by
  unfold putB
  refine List.perm_middle.trans ?_
  rw [List.take_append_drop]
theorem put_pos {α : Type} {lt : α → α → Bool} (tr : ∀ a b c, lt a b = true → lt b c = true → lt a c = true) (ay : ∀ a b, lt a b = true → lt b a = false) (d : α) {l : List α} (hs : l.Pairwise fun a b => lt a b = true) {x : α} {i : Nat} (hi : i ≤ l.length)
    (hb : 0 < i → lt (l.getD (i - 1) d) x = true) (ha : i < l.length → lt x (l.getD i d) = true) : (l.countP fun y => lt y x) = i := by
  refine cnt_at _ d l i hi (fun t ht => ?_) fun t h1 h2 => ?_
  · by_cases e : t = i - 1
    · subst e; exact hb (by omega)
    · exact tr _ _ _ (pair_at (R := fun a b => lt a b = true) d hs (by omega) (by omega)) (hb (by omega))
  · refine ay _ _ ?_
    by_cases e : t = i
    · subst e; exact ha h2
    · exact tr _ _ _ (ha (by omega)) (pair_at (R := fun a b => lt a b = true) d hs (by omega) h2)
theorem putB_nil {α : Type} (lt : α → α → Bool) (x : α) : putB lt x [] = [x] := rfl
theorem putB_yes {α : Type} {lt : α → α → Bool} {x a : α} (l : List α) (h : lt a x = true) : putB lt x (a :: l) = a :: putB lt x l := by
  unfold putB
  rw [List.countP_cons_of_pos (p := fun y => lt y x) h]
  rfl
theorem putB_no {α : Type} {lt : α → α → Bool} (tr : ∀ a b c, lt a b = true → lt b c = true → lt a c = true) {x a : α} {l : List α} (hs : (a :: l).Pairwise fun a b => lt a b = true) (h : lt a x = false) : putB lt x (a :: l) = x :: a :: l := by
  unfold putB
  have : ((a :: l).countP fun y => lt y x) = 0 := by
    rw [List.countP_eq_zero]
    intro b hb hbx
    rcases List.mem_cons.1 hb with rfl | hb
    · rw [h] at hbx; cases hbx
    · have := tr _ _ _ ((List.pairwise_cons.1 hs).1 b hb) hbx
      rw [h] at this; cases this
  rw [this]
  rfl
theorem putB_pair {α : Type} {lt : α → α → Bool} (tr : ∀ a b c, lt a b = true → lt b c = true → lt a c = true) {x : α} : ∀ {l : List α}, (l.Pairwise fun a b => lt a b = true) → (∀ y ∈ l, lt y x = true ∨ lt x y = true) → (putB lt x l).Pairwise fun a b => lt a b = true
  | [], _, _ => by rw [putB_nil]; exact List.pairwise_singleton _ _
  | a :: l, hs, ht => by
    cases h : lt a x with
    | true =>
      rw [putB_yes l h]
      refine List.pairwise_cons.2 ⟨fun b hb => ?_, putB_pair tr (List.pairwise_cons.1 hs).2 fun y hy => ht y (List.mem_cons_of_mem _ hy)⟩
      rcases List.mem_cons.1 ((putB_perm lt x l).mem_iff.1 hb) with rfl | hb
      · exact h
      · exact (List.pairwise_cons.1 hs).1 b hb
    | false =>
      rw [putB_no tr hs h]
      have hx : lt x a = true := by
        rcases ht a (List.mem_cons_self ..) with h2 | h2
        · rw [h] at h2; cases h2
        · exact h2
      refine List.pairwise_cons.2 ⟨fun b hb => ?_, hs⟩
      rcases List.mem_cons.1 hb with rfl | hb
      · exact hx
      · exact tr _ _ _ hx ((List.pairwise_cons.1 hs).1 b hb)
def sBef (a b : SiteV) : Bool := tl a.n b.n
def lBef (a b : LsV) : Bool := tl a.k b.k
/-- How many sites are ahead of a name. -/
def sPos (si : List SiteV) (n : ByteArray) : Nat := si.countP fun x => tl x.n n
def newS (n : ByteArray) : SiteV := ⟨n, 0, []⟩
def sHas (si : List SiteV) (n : ByteArray) : Bool := decide (sPos si n < si.length) && decide ((si.getD (sPos si n) sitv0).n = n)
/-- A site is there from now on. -/
def sitIns (si : List SiteV) (n : ByteArray) : List SiteV := if sHas si n = true then si else putB sBef (newS n) si
def addW (x : SiteV) (y : WtV) : SiteV := ⟨x.n, x.r, putB wBef y x.w⟩
/-- A key waits at a site. -/
def waitV (si : List SiteV) (sq : Int) (n k : ByteArray) (p : Int) : List SiteV := (sitIns si n).set (sPos si n) (addW ((sitIns si n).getD (sPos si n) sitv0) ⟨k, p, sq⟩)
def lRem (le : List LsV) (k : ByteArray) : List LsV := le.filter fun x => !decide (x.k = k)
/-- What stands at a place goes. -/
def outW (x : SiteV) (k : Nat) (r : Int) : SiteV := ⟨x.n, r, x.w.eraseIdx k⟩
theorem sPos_le (si : List SiteV) (n : ByteArray) : sPos si n ≤ si.length := List.countP_le_length
theorem sitIns_at (si : List SiteV) (n : ByteArray) : sPos si n < (sitIns si n).length ∧ ((sitIns si n).getD (sPos si n) sitv0).n = n := by
  unfold sitIns
  split
  · rename_i h
    unfold sHas at h
    simp only [Bool.and_eq_true, decide_eq_true_eq] at h
    exact h
  · have h1 := sPos_le si n
    refine ⟨by rw [putB_len]; omega, ?_⟩
    show ((si.take (sPos si n) ++ newS n :: si.drop (sPos si n)).getD (sPos si n) sitv0).n = n
    rw [List.getD_eq_getElem?_getD, List.getElem?_append_right (by simp; omega), List.length_take, Nat.min_eq_left h1, Nat.sub_self]
    rfl
theorem sitIns_len (si : List SiteV) (n : ByteArray) : (sitIns si n).length ≤ si.length + 1 := by
  unfold sitIns
  split
  · omega
  · rw [putB_len]; exact Nat.le_refl _
theorem set_split {α : Type} (d : α) (l : List α) {k : Nat} (h : k < l.length) (y : α) : l.set k y = l.take k ++ y :: l.drop (k + 1) ∧ l = l.take k ++ l.getD k d :: l.drop (k + 1) := by
  refine ⟨by rw [List.set_eq_take_append_cons_drop, if_pos h], ?_⟩
  rw [List.getD_eq_getElem?_getD, List.getElem?_eq_getElem h]
  show l = l.take k ++ l[k] :: l.drop (k + 1)
  rw [← List.drop_eq_getElem_cons h, List.take_append_drop]
theorem waitL_app (a b : List SiteV) : waitL (a ++ b) = waitL a ++ waitL b := by unfold waitL; rw [List.flatMap_append]
theorem waitL_cons (x : SiteV) (b : List SiteV) : waitL (x :: b) = x.w ++ waitL b := by unfold waitL; rw [List.flatMap_cons]
theorem waitL_ins (si : List SiteV) (n : ByteArray) : waitL (sitIns si n) = waitL si := by
  unfold sitIns
  split
  · rfl
  · unfold putB
    rw [waitL_app, waitL_cons, newS, List.nil_append, ← waitL_app, List.take_append_drop]
theorem waitL_set_add (si : List SiteV) {k : Nat} (h : k < si.length) (y : SiteV) (a : WtV) (hp : y.w.Perm (a :: (si.getD k sitv0).w)) : (waitL (si.set k y)).Perm (a :: waitL si) := by
  obtain ⟨e1, e2⟩ := set_split sitv0 si h y
  rw [e1, waitL_app, waitL_cons]
  have : waitL si = waitL (si.take k) ++ ((si.getD k sitv0).w ++ waitL (si.drop (k + 1))) := by
    conv => lhs; rw [e2]
    rw [waitL_app, waitL_cons]
  rw [this]
  refine ((hp.append_right _).append_left _).trans ?_
  exact List.perm_middle
theorem waitV_perm (si : List SiteV) (sq : Int) (n k : ByteArray) (p : Int) : (waitL (waitV si sq n k p)).Perm (⟨k, p, sq⟩ :: waitL si) := by
  unfold waitV
  have h := waitL_set_add (sitIns si n) (sitIns_at si n).1 (addW ((sitIns si n).getD (sPos si n) sitv0) ⟨k, p, sq⟩) ⟨k, p, sq⟩ (putB_perm _ _ _)
  rwa [waitL_ins] at h
theorem waitV_len (si : List SiteV) (sq : Int) (n k : ByteArray) (p : Int) : (waitV si sq n k p).length ≤ si.length + 1 := by
  unfold waitV
  rw [List.length_set]
  exact sitIns_len _ _
theorem wait_tot (y : WtV) (k : ByteArray) (p sq : Int) (h : y.q < sq) : wBef y ⟨k, p, sq⟩ = true ∨ wBef ⟨k, p, sq⟩ y = true := by
  rw [wBef_iff, wBef_iff]
  show (p < y.p ∨ (y.p = p ∧ y.q < sq)) ∨ (y.p < p ∨ _)
  omega
theorem out_perm {α : Type} (d : α) (l : List α) {k : Nat} (h : k < l.length) : l.Perm (l.getD k d :: l.eraseIdx k) := by
  obtain ⟨_, e⟩ := set_split d l h (l.getD k d)
  rw [List.eraseIdx_eq_take_drop_succ]
  conv => lhs; rw [e]
  exact List.perm_middle
theorem waitL_set_out (si : List SiteV) {s : Nat} (hs : s < si.length) {k : Nat} (hk : k < (si.getD s sitv0).w.length) (r : Int) : (waitL si).Perm ((si.getD s sitv0).w.getD k wtv0 :: waitL (si.set s (outW (si.getD s sitv0) k r))) := by
  obtain ⟨e1, e2⟩ := set_split sitv0 si hs (outW (si.getD s sitv0) k r)
  rw [e1, waitL_app, waitL_cons]
  have : waitL si = waitL (si.take s) ++ ((si.getD s sitv0).w ++ waitL (si.drop (s + 1))) := by
    conv => lhs; rw [e2]
    rw [waitL_app, waitL_cons]
  rw [this]
  refine (((out_perm wtv0 _ hk).append_right _).append_left _).trans ?_
  exact List.perm_middle
/-- What is right beside numbers. -/
structure SRt (sq : Int) (si : List SiteV) (le : List LsV) : Prop where
  st : ∀ x ∈ si, 0 < x.n.size ∧ 0 ≤ x.r ∧ x.r ≤ 1000000000
  sa : si.Pairwise (fun x y => sBef x y = true)
  wt : ∀ x ∈ si, (∀ y ∈ x.w, 0 < y.k.size ∧ 0 ≤ y.p ∧ y.p ≤ 1000 ∧ 0 ≤ y.q ∧ y.q < sq) ∧ x.w.Pairwise (fun a b => wBef a b = true)
  ls : ∀ x ∈ le, 0 < x.k.size ∧ 0 ≤ x.p ∧ x.p ≤ 1000 ∧ 0 ≤ x.u ∧ x.u ≤ 1000000000 ∧ ∃ y ∈ si, y.n = x.s
  la : le.Pairwise (fun x y => lBef x y = true)
  keys : (keysL si le).Nodup
  seqs : ((waitL si).map (·.q)).Nodup
theorem SOk.rt {d sp nw sq : Int} {si : List SiteV} {le : List LsV} (h : SOk d sp nw sq si le) : SRt sq si le := ⟨h.st, h.sa, h.wt, h.ls, h.la, h.keys, h.seqs⟩
theorem SRt.ok {d sp nw sq : Int} {si : List SiteV} {le : List LsV} (h : SRt sq si le) (t : 1 ≤ d ∧ d ≤ 1000 ∧ 1 ≤ sp ∧ sp ≤ 10000 ∧ 0 ≤ nw ∧ nw ≤ 100000000 ∧ 0 ≤ sq ∧ sq ≤ 1000000) (f : si.length ≤ 200) (a : (waitL si).length + le.length ≤ 200) : SOk d sp nw sq si le := ⟨t, f, a, h.st, h.sa, h.wt, h.ls, h.la, h.keys, h.seqs⟩
theorem mem_waitL {si : List SiteV} {y : WtV} : y ∈ waitL si ↔ ∃ x ∈ si, y ∈ x.w := List.mem_flatMap
theorem sBef_tr : ∀ a b c : SiteV, sBef a b = true → sBef b c = true → sBef a c = true := fun a b c => tl_trans
theorem sBef_ay : ∀ a b : SiteV, sBef a b = true → sBef b a = false := fun a b => tl_asym
theorem lBef_tr : ∀ a b c : LsV, lBef a b = true → lBef b c = true → lBef a c = true := fun a b c => tl_trans
theorem lBef_ay : ∀ a b : LsV, lBef a b = true → lBef b a = false := fun a b => tl_asym
theorem wBef_tr : ∀ a b c : WtV, wBef a b = true → wBef b c = true → wBef a c = true := fun a b c => wBef_trans
theorem wBef_ay : ∀ a b : WtV, wBef a b = true → wBef b a = false := fun a b h => by
  cases h2 : wBef b a with
  | false => rfl
  | true => rw [wBef_iff] at h h2; omega
/-- In sorted sites a name that is there is at its place. -/
theorem has_iff {si : List SiteV} (hs : si.Pairwise fun x y => sBef x y = true) (n : ByteArray) : sHas si n = true ↔ ∃ y ∈ si, y.n = n := by
  constructor
  · intro h
    unfold sHas at h
    simp only [Bool.and_eq_true, decide_eq_true_eq] at h
    exact ⟨_, getD_mem sitv0 h.1, h.2⟩
  · rintro ⟨y, hy, rfl⟩
    obtain ⟨i, hi, rfl⟩ := mem_getD sitv0 hy
    have e : sPos si (si.getD i sitv0).n = i := cnt_at _ sitv0 si i (by omega) (fun t ht => pair_at (R := fun x y => sBef x y = true) sitv0 hs ht hi) fun t h1 h2 => by
      by_cases e : t = i
      · subst e; exact tl_irrefl _
      · exact tl_asym (pair_at (R := fun x y => sBef x y = true) sitv0 hs (show i < t by omega) h2)
    unfold sHas
    rw [e, decide_eq_true hi, decide_eq_true rfl]
    rfl
theorem sPos_at {si : List SiteV} (hs : si.Pairwise fun x y => sBef x y = true) {i : Nat} (hi : i < si.length) : sPos si (si.getD i sitv0).n = i := cnt_at _ sitv0 si i (by omega) (fun t ht => pair_at (R := fun x y => sBef x y = true) sitv0 hs ht hi) fun t h1 h2 => by
  by_cases e : t = i
  · subst e; exact tl_irrefl _
  · exact tl_asym (pair_at (R := fun x y => sBef x y = true) sitv0 hs (show i < t by omega) h2)
theorem sitIns_pair {si : List SiteV} (hs : si.Pairwise fun x y => sBef x y = true) (n : ByteArray) : (sitIns si n).Pairwise fun x y => sBef x y = true := by
  unfold sitIns
  split
  · exact hs
  · rename_i h
    refine putB_pair sBef_tr hs fun y hy => ?_
    cases h1 : sBef y (newS n) with
    | true => exact .inl rfl
    | false =>
      right
      cases h2 : sBef (newS n) y with
      | true => rfl
      | false => exact absurd ((has_iff hs n).2 ⟨y, hy, tl_tri h1 h2⟩) h
theorem sitIns_mem {si : List SiteV} {n : ByteArray} {x : SiteV} (h : x ∈ sitIns si n) : x ∈ si ∨ x = newS n := by
  unfold sitIns at h
  split at h
  · exact .inl h
  · rcases List.mem_cons.1 ((putB_perm _ _ _).mem_iff.1 h) with h | h
    · exact .inr h
    · exact .inl h
theorem sitIns_sub {si : List SiteV} {n : ByteArray} {x : SiteV} (h : x ∈ si) : x ∈ sitIns si n := by
  unfold sitIns
  split
  · exact h
  · exact (putB_perm _ _ _).mem_iff.2 (List.mem_cons_of_mem _ h)
theorem set_pair {si : List SiteV} (hs : si.Pairwise fun x y => sBef x y = true) {k : Nat} (hk : k < si.length) {y : SiteV} (hn : y.n = (si.getD k sitv0).n) : (si.set k y).Pairwise fun x y => sBef x y = true := by
  have e : (si.set k y).map (·.n) = si.map (·.n) := by
    rw [List.map_set, hn]
    refine List.ext_getElem? fun i => ?_
    rw [List.getElem?_set]
    split
    · rename_i h
      subst h
      rw [List.length_map, if_pos hk, List.getElem?_map, List.getD_eq_getElem?_getD, List.getElem?_eq_getElem hk]
      rfl
    · rfl
  have h1 : ∀ l : List SiteV, (l.Pairwise fun x y => sBef x y = true) ↔ (l.map (·.n)).Pairwise fun a b => tl a b = true := fun l => by rw [List.pairwise_map]; rfl
  rw [h1] at hs ⊢
  rw [e]
  exact hs
theorem mem_names {si : List SiteV} {k : Nat} (hk : k < si.length) {y : SiteV} (hn : y.n = (si.getD k sitv0).n) {s : ByteArray} (h : ∃ z ∈ si, z.n = s) : ∃ z ∈ si.set k y, z.n = s := by
  obtain ⟨z, hz, rfl⟩ := h
  obtain ⟨i, hi, rfl⟩ := mem_getD sitv0 hz
  by_cases e : k = i
  · subst e
    exact ⟨y, List.mem_set hi y, hn⟩
  · refine ⟨_, getD_mem sitv0 (l := si.set k y) (i := i) (by rw [List.length_set]; exact hi), ?_⟩
    rw [List.getD_eq_getElem?_getD, List.getElem?_set, if_neg e, ← List.getD_eq_getElem?_getD]
theorem waitV_mem {si : List SiteV} {sq : Int} {n k : ByteArray} {p : Int} {x : SiteV} (h : x ∈ waitV si sq n k p) : (x ∈ si ∨ x = newS n) ∨ (∃ z, (z ∈ si ∨ z = newS n) ∧ z.n = n ∧ x = addW z ⟨k, p, sq⟩) := by
  unfold waitV at h
  rcases List.mem_or_eq_of_mem_set h with h | h
  · exact .inl (sitIns_mem h)
  · exact .inr ⟨_, sitIns_mem (getD_mem sitv0 (sitIns_at si n).1), (sitIns_at si n).2, h⟩
theorem SRt.wait {sq : Int} {si : List SiteV} {le : List LsV} (h : SRt sq si le) {n k : ByteArray} {p : Int} (hq : 0 ≤ sq) (hn : 0 < n.size) (hk : 0 < k.size) (hp : 0 ≤ p ∧ p ≤ 1000) (hf : k ∉ keysL si le) : SRt (sq + 1) (waitV si sq n k p) le := by
  have hin := sitIns_at si n
  have hw0 : ∀ z : SiteV, z ∈ si ∨ z = newS n → (0 < z.n.size ∧ 0 ≤ z.r ∧ z.r ≤ 1000000000) ∧ (∀ y ∈ z.w, 0 < y.k.size ∧ 0 ≤ y.p ∧ y.p ≤ 1000 ∧ 0 ≤ y.q ∧ y.q < sq) ∧ z.w.Pairwise (fun a b => wBef a b = true) := fun z hz => by
    rcases hz with hz | rfl
    · exact ⟨h.st z hz, h.wt z hz⟩
    · exact ⟨⟨hn, Int.le_refl _, show (0 : Int) ≤ 1000000000 by decide⟩, fun y hy => absurd hy (List.not_mem_nil), List.Pairwise.nil⟩
  have hkp := waitV_perm si sq n k p
  have hkeys : (keysL (waitV si sq n k p) le).Perm (k :: keysL si le) := by
    unfold keysL
    exact ((hkp.map (·.k)).append_right _)
  refine ⟨fun x hx => ?_, ?_, fun x hx => ?_, fun x hx => ?_, h.la, ?_, ?_⟩
  · rcases waitV_mem hx with hx | ⟨z, hz, _, rfl⟩
    · exact (hw0 x hx).1
    · exact (hw0 z hz).1
  · exact set_pair (sitIns_pair h.sa n) hin.1 rfl
  · rcases waitV_mem hx with hx | ⟨z, hz, _, rfl⟩
    · have := (hw0 x hx).2
      exact ⟨fun y hy => by have := this.1 y hy; omega, this.2⟩
    · have hz2 := (hw0 z hz).2
      refine ⟨fun y hy => ?_, putB_pair wBef_tr hz2.2 fun y hy => wait_tot y k p sq (hz2.1 y hy).2.2.2.2⟩
      rcases List.mem_cons.1 ((putB_perm wBef _ z.w).mem_iff.1 hy) with rfl | hy
      · exact ⟨hk, hp.1, hp.2, hq, show sq < sq + 1 by omega⟩
      · have := hz2.1 y hy; omega
  · obtain ⟨a1, a2, a3, a4, a5, y, hy, e⟩ := h.ls x hx
    exact ⟨a1, a2, a3, a4, a5, mem_names (y := addW ((sitIns si n).getD (sPos si n) sitv0) ⟨k, p, sq⟩) hin.1 rfl ⟨y, sitIns_sub hy, e⟩⟩
  · rw [hkeys.nodup_iff]
    exact List.nodup_cons.2 ⟨hf, h.keys⟩
  · rw [(hkp.map (·.q)).nodup_iff]
    refine List.nodup_cons.2 ⟨fun hm => ?_, h.seqs⟩
    obtain ⟨y, hy, e⟩ := List.mem_map.1 hm
    obtain ⟨x, hx, hy⟩ := mem_waitL.1 hy
    have := ((h.wt x hx).1 y hy).2.2.2.2
    have e2 : y.q = sq := e
    omega
theorem lRem_mem {le : List LsV} {k : ByteArray} {x : LsV} : x ∈ lRem le k ↔ x ∈ le ∧ x.k ≠ k := by
  unfold lRem
  rw [List.mem_filter]
  simp
theorem lRem_sub (le : List LsV) (k : ByteArray) : (lRem le k).Sublist le := List.filter_sublist
theorem SRt.rem {sq : Int} {si : List SiteV} {le : List LsV} (h : SRt sq si le) (k : ByteArray) : SRt sq si (lRem le k) :=
  ⟨h.st, h.sa, h.wt, fun x hx => h.ls x ((lRem_sub le k).subset hx), h.la.sublist (lRem_sub le k), h.keys.sublist ((List.Sublist.refl _).append ((lRem_sub le k).map _)), h.seqs⟩
theorem SRt.fresh {sq : Int} {si : List SiteV} {le : List LsV} (h : SRt sq si le) {x : LsV} (hx : x ∈ le) : x.k ∉ keysL si (lRem le x.k) := by
  have hk := h.keys
  unfold keysL at hk ⊢
  rw [List.nodup_append] at hk
  rw [List.mem_append]
  rintro (h1 | h1)
  · exact hk.2.2 _ h1 _ (List.mem_map.2 ⟨x, hx, rfl⟩) rfl
  · obtain ⟨y, hy, e⟩ := List.mem_map.1 h1
    exact (lRem_mem.1 hy).2 e
/-- A lease is given back. -/
theorem SRt.back {sq : Int} {si : List SiteV} {le : List LsV} (h : SRt sq si le) (hq : 0 ≤ sq) {x : LsV} (hx : x ∈ le) : SRt (sq + 1) (waitV si sq x.s x.k x.p) (lRem le x.k) := by
  obtain ⟨a1, a2, a3, a4, a5, y, hy, e⟩ := h.ls x hx
  refine (h.rem x.k).wait hq ?_ a1 ⟨a2, a3⟩ (h.fresh hx)
  rw [← e]
  exact (h.st y hy).1
theorem lRem_one {le : List LsV} (hl : le.Pairwise fun x y => lBef x y = true) {i : Nat} (hi : i < le.length) : lRem le (le.getD i lsv0).k = le.eraseIdx i := by
  obtain ⟨_, e⟩ := set_split lsv0 le hi (le.getD i lsv0)
  rw [List.eraseIdx_eq_take_drop_succ]
  generalize hx : le.getD i lsv0 = x at *
  generalize le.take i = a at *
  generalize le.drop (i + 1) = b at *
  subst e
  unfold lRem
  rw [List.pairwise_append, List.pairwise_cons] at hl
  rw [List.filter_append, List.filter_cons, if_neg (by simp)]
  congr 1
  · rw [List.filter_eq_self]
    intro y hy
    have := hl.2.2 y hy x (List.mem_cons_self ..)
    simpa using tl_ne this
  · rw [List.filter_eq_self]
    intro y hy
    have := hl.2.1.1 y hy
    simpa using (tl_ne this).symm
theorem lRem_len {le : List LsV} (hl : le.Pairwise fun x y => lBef x y = true) {x : LsV} (hx : x ∈ le) : (lRem le x.k).length + 1 = le.length := by
  obtain ⟨i, hi, rfl⟩ := mem_getD lsv0 hx
  rw [lRem_one hl hi, List.length_eraseIdx, if_pos hi]
  omega
theorem SOk.rem {d sp nw sq : Int} {si : List SiteV} {le : List LsV} (h : SOk d sp nw sq si le) (k : ByteArray) : SOk d sp nw sq si (lRem le k) := (h.rt.rem k).ok h.t h.few (by have := h.all; have := (lRem_sub le k).length_le; omega)
/-- What is handed out. -/
def handS (si : List SiteV) (s k : Nat) (r : Int) : List SiteV := si.set s (outW (si.getD s sitv0) k r)
def handL (si : List SiteV) (le : List LsV) (s k : Nat) (u : Int) : List LsV := putB lBef ⟨((si.getD s sitv0).w.getD k wtv0).k, (si.getD s sitv0).n, ((si.getD s sitv0).w.getD k wtv0).p, u⟩ le
theorem SOk.hand {d sp nw sq : Int} {si : List SiteV} {le : List LsV} (h : SOk d sp nw sq si le) {s k : Nat} (hs : s < si.length) (hk : k < (si.getD s sitv0).w.length) : SOk d sp nw sq (handS si s k (nw + d)) (handL si le s k (nw + sp)) := by
  have ht := h.t
  have hx := getD_mem sitv0 hs
  have hp := waitL_set_out si hs hk (nw + d)
  have hlp : (handL si le s k (nw + sp)).Perm _ := putB_perm lBef _ le
  have hy := getD_mem wtv0 hk
  have hyw := (h.wt _ hx).1 _ hy
  have hmem : ∀ z, z ∈ handS si s k (nw + d) → z ∈ si ∨ z = outW (si.getD s sitv0) k (nw + d) := fun z hz => List.mem_or_eq_of_mem_set hz
  have hkeys : (keysL (handS si s k (nw + d)) (handL si le s k (nw + sp))).Perm (keysL si le) := by
    unfold keysL
    refine ((hlp.map (·.k)).append_left _).trans ?_
    refine List.perm_middle.trans ?_
    exact ((hp.map (·.k)).symm.append_right _)
  have hlen := hp.length_eq
  have hll := hlp.length_eq
  simp only [List.length_cons] at hlen hll
  have hall := h.all
  have hkey : ((si.getD s sitv0).w.getD k wtv0).k ∉ le.map (·.k) := fun hm => by
    have := h.keys
    unfold keysL at this
    rw [List.nodup_append] at this
    exact this.2.2 _ (List.mem_map.2 ⟨_, mem_waitL.2 ⟨_, hx, hy⟩, rfl⟩) _ hm rfl
  refine ⟨ht, by show (si.set _ _).length ≤ 200; rw [List.length_set]; exact h.few, by show (waitL (handS si s k (nw + d))).length + _ ≤ 200; unfold handS; omega, fun z hz => ?_, set_pair h.sa hs rfl, fun z hz => ?_, fun z hz => ?_, ?_, ?_, ?_⟩
  · rcases hmem z hz with hz | rfl
    · exact h.st z hz
    · have := (h.st _ hx).1
      refine ⟨this, ?_, ?_⟩
      · show 0 ≤ nw + d; omega
      · show nw + d ≤ 1000000000; omega
  · rcases hmem z hz with hz | rfl
    · exact h.wt z hz
    · have h2 := h.wt _ hx
      have hsub := List.eraseIdx_sublist (si.getD s sitv0).w k
      exact ⟨fun y hy => h2.1 y (hsub.subset hy), h2.2.sublist hsub⟩
  · rcases List.mem_cons.1 (hlp.mem_iff.1 hz) with rfl | hz
    · refine ⟨hyw.1, hyw.2.1, hyw.2.2.1, ?_, ?_, mem_names (y := outW (si.getD s sitv0) k (nw + d)) hs rfl ⟨_, hx, rfl⟩⟩
      · show 0 ≤ nw + sp; omega
      · show nw + sp ≤ 1000000000; omega
    · obtain ⟨a1, a2, a3, a4, a5, y, hy, e⟩ := h.ls z hz
      exact ⟨a1, a2, a3, a4, a5, mem_names (y := outW (si.getD s sitv0) k (nw + d)) hs rfl ⟨y, hy, e⟩⟩
  · refine putB_pair lBef_tr h.la fun y hy => ?_
    cases h1 : lBef y ⟨((si.getD s sitv0).w.getD k wtv0).k, (si.getD s sitv0).n, ((si.getD s sitv0).w.getD k wtv0).p, nw + sp⟩ with
    | true => exact .inl rfl
    | false =>
      right
      cases h2 : lBef ⟨((si.getD s sitv0).w.getD k wtv0).k, (si.getD s sitv0).n, ((si.getD s sitv0).w.getD k wtv0).p, nw + sp⟩ y with
      | true => rfl
      | false =>
        have e : y.k = ((si.getD s sitv0).w.getD k wtv0).k := tl_tri h1 h2
        exact absurd (List.mem_map.2 ⟨y, hy, e⟩) hkey
  · rw [hkeys.nodup_iff]; exact h.keys
  · have := (hp.map (·.q)).nodup_iff.1 h.seqs
    exact (List.nodup_cons.1 this).2
def allL (si : List SiteV) (le : List LsV) : List WtV := waitL si ++ le.map fun x => ⟨x.k, x.p, -1⟩
theorem allL_keys (si : List SiteV) (le : List LsV) : (allL si le).map (·.k) = keysL si le := by
  unfold allL keysL
  rw [List.map_append, List.map_map]
  rfl
theorem allL_len (si : List SiteV) (le : List LsV) : (allL si le).length = (waitL si).length + le.length := by
  unfold allL
  rw [List.length_append, List.length_map]
end Go.Proofs.YtcjblhiihgdljaaGreat
