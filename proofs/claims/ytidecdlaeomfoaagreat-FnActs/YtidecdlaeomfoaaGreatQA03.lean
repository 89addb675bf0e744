/- PunyPlain, AdaptWalk. -/
import Derived.Test.YtidecdlaeomfoaaGreatQA02
set_option maxHeartbeats 2000000
set_option maxRecDepth 20000
namespace Go.Proofs.YtidecdlaeomfoaaGreat
open Go.RowKit
def limN (k bias : Nat) : Nat := if k ≤ bias then 1 else if 26 < k - bias then 26 else k - bias
theorem lim_le (k bias : Nat) : 1 ≤ limN k bias ∧ limN k bias ≤ 26 := by
 unfold limN
 split
 ·omega
 split <;> omega
def numF : Nat → Nat → Nat → Nat → List Nat
 | 0, _, _, _ => []
 | f + 1, k, bias, q => if q < limN k bias then [q] else (limN k bias + (q - limN k bias) % (36 - limN k bias)) :: numF f (k + 36) bias ((q - limN k bias) / (36 - limN k bias))
def readL (bias : Nat) : Nat → Nat → Nat → List Nat → Option (Nat × List Nat)
 | _, _, _, [] => none
 | k, i, w, d :: ds => if 1099511627776 < i ∨ 1099511627776 < w ∨ 36 ≤ d then none else if d < limN k bias then some (i + d * w, ds) else readL bias (k + 36) (i + d * w) (w * (36 - limN k bias)) ds
theorem num_step (q t : Nat) (h : t ≤ q) : (t + (q - t) % (36 - t)) + (36 - t) * ((q - t) / (36 - t)) = q := by
 have := Nat.mod_add_div (q - t) (36 - t)
 omega
theorem num_less (q t f : Nat) (h1 : 1 ≤ t) (h2 : t ≤ 26) (hq : q < 2 ^ (f + 1)) : (q - t) / (36 - t) < 2 ^ f := by
 have h3 : (q - t) / (36 - t) ≤ (q - t) / 2 := Nat.div_le_div_left (by omega) (by omega)
 have h4 : 2 ^ (f + 1) = 2 * 2 ^ f := by rw [Nat.pow_succ]; omega
 omega
theorem read_num (bias : Nat) (r : List Nat) : ∀ (f k q i w : Nat), q < 2 ^ f → i + w * q ≤ 17179869184 → w ≤ 1099511627776 → readL bias k i w (numF (f + 1) k bias q ++ r) = some (i + w * q, r) := by
 intro f
 induction f with
 | zero =>
  intro k q i w hq hi hw
  have h0 : q = 0 := by simpa using hq
  subst h0
  have hl := lim_le k bias
  have e : numF (0 + 1) k bias 0 = [0] := by unfold numF; rw [if_pos (by omega)]
  rw [e]
  show readL bias k i w (0 :: r) = _
  unfold readL
  rw [if_neg (by omega), if_pos (by omega)]
  simp
 | succ f ih =>
  intro k q i w hq hi hw
  obtain ⟨l1, l2⟩ := lim_le k bias
  by_cases hlt : q < limN k bias
  ·have e : numF (f + 1 + 1) k bias q = [q] := by rw [numF, if_pos hlt]
   rw [e]
   show readL bias k i w (q :: r) = _
   unfold readL
   rw [if_neg (by omega), if_pos hlt, Nat.mul_comm q w]
  have e : numF (f + 1 + 1) k bias q = (limN k bias + (q - limN k bias) % (36 - limN k bias)) :: numF (f + 1) (k + 36) bias ((q - limN k bias) / (36 - limN k bias)) := by rw [numF, if_neg hlt]
  rw [e]
  obtain ⟨t, ht⟩ : ∃ t, limN k bias = t := ⟨_, rfl⟩
  rw [ht] at hlt l1 l2 ⊢
  have hs := num_step q t (by omega)
  have hless := num_less q t f l1 l2 hq
  have hm : (q - t) % (36 - t) < 36 - t := Nat.mod_lt _ (by omega)
  have hw1 : w ≤ w * q := Nat.le_mul_of_pos_right w (by omega)
  generalize (q - t) % (36 - t) = m at *
  generalize (q - t) / (36 - t) = q' at *
  have hsum : i + (t + m) * w + w * (36 - t) * q' = i + w * q := by
   rw [← hs, Nat.mul_add, Nat.mul_comm (t + m) w, Nat.mul_assoc]
   omega
  have hw2 : w * (36 - t) ≤ w * 35 := Nat.mul_le_mul_left w (by omega)
  show readL bias k i w ((t + m) :: (numF (f + 1) (k + 36) bias q' ++ r)) = _
  unfold readL
  rw [if_neg (by omega), if_neg (by omega), ht, ih (k + 36) q' _ _ hless (by omega) (by omega), hsum]
def digB (n : Nat) : Nat := if n < 26 then 97 + n else 22 + n
def valB (c : Nat) : Nat := if 97 ≤ c ∧ c ≤ 122 then c - 97 else if 48 ≤ c ∧ c ≤ 57 then c - 22 else 36
theorem val_dig {n : Nat} (h : n < 36) : valB (digB n) = n := by
 unfold digB valB
 split
 ·rw [if_pos (by omega)]; omega
 rw [if_neg (by omega), if_pos (by omega)]; omega
theorem dig_lt {n : Nat} (h : n < 36) : digB n < 128 ∧ digB n ≠ 45 := by
 unfold digB
 split <;> omega
theorem num_lt (bias : Nat) : ∀ (f k q : Nat), ∀ d ∈ numF f k bias q, d < 36 := by
 intro f
 induction f with
 | zero => intro k q d h; simp [numF] at h
 | succ f ih =>
  intro k q d h
  obtain ⟨l1, l2⟩ := lim_le k bias
  unfold numF at h
  split at h
  ·rw [List.mem_singleton.1 h]; omega
  rcases List.mem_cons.1 h with h | h
  ·rw [h]
   have hm : (q - limN k bias) % (36 - limN k bias) < 36 - limN k bias := Nat.mod_lt _ (by omega)
   omega
  exact ih _ _ d h
theorem num_pos (bias f k q : Nat) : numF (f + 1) k bias q ≠ [] := by
 unfold numF
 split <;> simp
def adaptF : Nat → Nat → Nat → Nat
 | 0, d, k => k + 36 * d / (d + 38)
 | f + 1, d, k => if 455 < d then adaptF f (d / 35) (k + 36) else k + 36 * d / (d + 38)
def adaptN (delta n : Nat) (first : Bool) : Nat :=
 if 1000000000000 < delta ∨ n < 1 ∨ 1000000 < n then 0
 else adaptF 64 ((if first then delta / 700 else delta / 2) + (if first then delta / 700 else delta / 2) / n) 0
def passD (n : Nat) : List Nat → Nat → List Nat × Nat
 | [], d => ([], d)
 | c :: r, d => if c < n then passD n r (d + 1) else if c = n then (d :: (passD n r 0).1, (passD n r 0).2) else passD n r d
def leastN (n : Nat) : List Nat → Nat
 | [] => 1114112
 | c :: r => if n ≤ c ∧ c < leastN n r then c else leastN n r
def encD (l : List Nat) : Nat → Nat → Nat → Nat → List Nat
 | 0, _, _, _ => []
 | f + 1, n, d, h => if h < l.length then (passD (leastN n l) l (d + (leastN n l - n) * (h + 1))).1 ++ encD l f (leastN n l + 1) ((passD (leastN n l) l (d + (leastN n l - n) * (h + 1))).2 + 1) (h + (passD (leastN n l) l (d + (leastN n l - n) * (h + 1))).1.length) else []
def insAt (i x : Nat) (l : List Nat) : List Nat := l.take i ++ x :: l.drop i
theorem insAt_mid (a b : List Nat) (x : Nat) : insAt a.length x (a ++ b) = a ++ x :: b := by simp [insAt]
def insD : Nat → Nat → List Nat → List Nat → Option (List Nat)
 | _, _, out, [] => some out
 | n, i, out, d :: ds =>
  if 60 < out.length + 1 ∨ 1114111 < n + (i + d) / (out.length + 1) then none
  else insD (n + (i + d) / (out.length + 1)) ((i + d) % (out.length + 1) + 1) (insAt ((i + d) % (out.length + 1)) (n + (i + d) / (out.length + 1)) out) ds
theorem ins_step (n0 i0 d n pos : Nat) (out ds : List Nat) (hn : n0 ≤ n) (hp : pos ≤ out.length) (hl : out.length < 60) (hm : n ≤ 1114111) (he : d + i0 + n0 * (out.length + 1) = n * (out.length + 1) + pos) :
  insD n0 i0 out (d :: ds) = insD n (pos + 1) (insAt pos n out) ds := by
 have hx : i0 + d = (n - n0) * (out.length + 1) + pos := by
  have h1 : (n - n0) * (out.length + 1) + n0 * (out.length + 1) = n * (out.length + 1) := by rw [← Nat.add_mul]; congr 1; omega
  omega
 have hdiv : (i0 + d) / (out.length + 1) = n - n0 := by
  rw [hx, Nat.mul_comm, Nat.mul_add_div (by omega), Nat.div_eq_of_lt (by omega)]; omega
 have hmod : (i0 + d) % (out.length + 1) = pos := by
  rw [hx, Nat.mul_comm, Nat.mul_add_mod, Nat.mod_eq_of_lt (by omega)]
 rw [insD, hdiv, hmod, show n0 + (n - n0) = n by omega, if_neg (by omega)]
theorem ins_pass (n : Nat) (hn : n ≤ 1114111) : ∀ (l2 l1 : List Nat) (d n0 i0 : Nat) (ds : List Nat), n0 ≤ n → (l1 ++ l2).length ≤ 60 →
  d + i0 + n0 * ((l1.filter (· ≤ n) ++ l2.filter (· < n)).length + 1) = n * ((l1.filter (· ≤ n) ++ l2.filter (· < n)).length + 1) + (l1.filter (· ≤ n)).length →
  ∃ n1 i1, n1 ≤ n ∧ insD n0 i0 (l1.filter (· ≤ n) ++ l2.filter (· < n)) ((passD n l2 d).1 ++ ds) = insD n1 i1 ((l1 ++ l2).filter (· ≤ n)) ds ∧
   (passD n l2 d).2 + i1 + n1 * (((l1 ++ l2).filter (· ≤ n)).length + 1) = n * (((l1 ++ l2).filter (· ≤ n)).length + 1) + ((l1 ++ l2).filter (· ≤ n)).length ∧
   (l1.filter (· ≤ n) ++ l2.filter (· < n)).length + (passD n l2 d).1.length = ((l1 ++ l2).filter (· ≤ n)).length := by
 intro l2
 induction l2 with
 | nil =>
  intro l1 d n0 i0 ds h0 hlen he
  refine ⟨n0, i0, h0, ?_, ?_, ?_⟩
  ·simp [passD]
  ·simpa [passD] using he
  simp [passD]
 | cons c r ih =>
  intro l1 d n0 i0 ds h0 hlen he
  have hass : l1 ++ c :: r = (l1 ++ [c]) ++ r := by simp
  rcases Nat.lt_trichotomy c n with hc | hc | hc
  ·have ep : passD n (c :: r) d = passD n r (d + 1) := by rw [passD, if_pos hc]
   have e1 : (l1 ++ [c]).filter (· ≤ n) = l1.filter (· ≤ n) ++ [c] := by simp [List.filter_append, Nat.le_of_lt hc]
   have e2 : (c :: r).filter (· < n) = c :: r.filter (· < n) := by simp [hc]
   have e3 : l1.filter (· ≤ n) ++ (c :: r).filter (· < n) = (l1 ++ [c]).filter (· ≤ n) ++ r.filter (· < n) := by rw [e1, e2]; simp
   rw [e3] at he ⊢
   rw [ep, hass]
   exact ih (l1 ++ [c]) (d + 1) n0 i0 ds h0 (by rw [← hass]; exact hlen) (by
    have h1 : ((l1 ++ [c]).filter (· ≤ n)).length = (l1.filter (· ≤ n)).length + 1 := by rw [e1]; simp
    omega)
  ·subst hc
   have ep : passD c (c :: r) d = (d :: (passD c r 0).1, (passD c r 0).2) := by rw [passD, if_neg (by omega), if_pos rfl]
   have e1 : (l1 ++ [c]).filter (· ≤ c) = l1.filter (· ≤ c) ++ [c] := by simp [List.filter_append]
   have e2 : (c :: r).filter (· < c) = r.filter (· < c) := by simp
   rw [e2] at he ⊢
   rw [ep, hass]
   have hout : (l1.filter (· ≤ c) ++ r.filter (· < c)).length < 60 := by
    have h1 := List.length_filter_le (fun x => decide (x ≤ c)) l1
    have h2 := List.length_filter_le (fun x => decide (x < c)) r
    simp only [List.length_append, List.length_cons] at hlen ⊢
    omega
   have hst := ins_step n0 i0 d c (l1.filter (· ≤ c)).length (l1.filter (· ≤ c) ++ r.filter (· < c)) ((passD c r 0).1 ++ ds) h0 (by simp) hout hn he
   have e4 : insAt (l1.filter (· ≤ c)).length c (l1.filter (· ≤ c) ++ r.filter (· < c)) = (l1 ++ [c]).filter (· ≤ c) ++ r.filter (· < c) := by rw [insAt_mid, e1]; simp
   rw [e4] at hst
   obtain ⟨n1, i1, g0, g1, g2, g3⟩ := ih (l1 ++ [c]) 0 c ((l1.filter (· ≤ c)).length + 1) ds (Nat.le_refl _) (by rw [← hass]; exact hlen) (by rw [e1, List.length_append]; simp; omega)
   refine ⟨n1, i1, g0, ?_, g2, ?_⟩
   ·show insD n0 i0 _ (d :: ((passD c r 0).1 ++ ds)) = _
    rw [hst, g1]
   rw [← g3, e1]
   simp; omega
  have ep : passD n (c :: r) d = passD n r d := by rw [passD, if_neg (by omega), if_neg (by omega)]
  have e1 : (l1 ++ [c]).filter (· ≤ n) = l1.filter (· ≤ n) := by
   rw [List.filter_append, List.filter_cons_of_neg (by simp; omega)]
   simp
  have e2 : (c :: r).filter (· < n) = r.filter (· < n) := List.filter_cons_of_neg (by simp; omega)
  have e3 : l1.filter (· ≤ n) ++ (c :: r).filter (· < n) = (l1 ++ [c]).filter (· ≤ n) ++ r.filter (· < n) := by rw [e1, e2]
  rw [e3] at he ⊢
  rw [ep, hass]
  exact ih (l1 ++ [c]) d n0 i0 ds h0 (by rw [← hass]; exact hlen) (by rw [e1] at he ⊢; exact he)
theorem least_spec (n : Nat) : ∀ (l : List Nat), (∀ c ∈ l, c ≤ 1114111) → (∃ c ∈ l, n ≤ c) → leastN n l ∈ l ∧ n ≤ leastN n l ∧ ∀ c ∈ l, n ≤ c → leastN n l ≤ c
 | [], _, h => by obtain ⟨c, hc, _⟩ := h; simp at hc
 | c :: r, hv, h => by
  have hc := hv c (by simp)
  have hv' : ∀ c ∈ r, c ≤ 1114111 := fun x hx => hv x (by simp [hx])
  by_cases hr : ∃ x ∈ r, n ≤ x
  ·obtain ⟨h1, h2, h3⟩ := least_spec n r hv' hr
   unfold leastN
   split
   ·next hlt =>
    refine ⟨by simp, hlt.1, fun x hx hn => ?_⟩
    rcases List.mem_cons.1 hx with rfl | hx
    ·omega
    have := h3 x hx hn; omega
   next hlt =>
   refine ⟨by simp [h1], h2, fun x hx hn => ?_⟩
   rcases List.mem_cons.1 hx with rfl | hx
   ·omega
   exact h3 x hx hn
  have hcn : n ≤ c := by
   obtain ⟨x, hx, hn⟩ := h
   rcases List.mem_cons.1 hx with rfl | hx
   ·exact hn
   exact absurd ⟨x, hx, hn⟩ hr
  have hbig : ∀ (r : List Nat), (¬ ∃ x ∈ r, n ≤ x) → leastN n r = 1114112 := by
   intro r
   induction r with
   | nil => intro _; rfl
   | cons y r ih =>
    intro hno
    unfold leastN
    rw [if_neg (fun hy => hno ⟨y, by simp, hy.1⟩)]
    exact ih (fun ⟨x, hx, hn⟩ => hno ⟨x, by simp [hx], hn⟩)
  unfold leastN
  rw [hbig r hr, if_pos (by omega)]
  refine ⟨by simp, hcn, fun x hx hn => ?_⟩
  rcases List.mem_cons.1 hx with rfl | hx
  ·omega
  exact absurd ⟨x, hx, hn⟩ hr
theorem filter_more (m : Nat) : ∀ (l : List Nat), m ∈ l → (l.filter (· < m)).length < (l.filter (· ≤ m)).length := by
 have hle : ∀ (l : List Nat), (l.filter (· < m)).length ≤ (l.filter (· ≤ m)).length := by
  intro l
  induction l with
  | nil => simp
  | cons c r ih =>
   by_cases h1 : c < m
   ·rw [List.filter_cons_of_pos (by simpa using h1), List.filter_cons_of_pos (by simp; omega)]; simp; exact ih
   rw [List.filter_cons_of_neg (by simpa using h1)]
   by_cases h2 : c ≤ m
   ·rw [List.filter_cons_of_pos (by simpa using h2)]; simp; omega
   rw [List.filter_cons_of_neg (by simpa using h2)]; exact ih
 intro l
 induction l with
 | nil => intro h; simp at h
 | cons c r ih =>
  intro h
  by_cases h1 : c < m
  ·have hr : m ∈ r := by
    rcases List.mem_cons.1 h with rfl | h
    ·omega
    exact h
   rw [List.filter_cons_of_pos (by simpa using h1), List.filter_cons_of_pos (by simp; omega)]; simp; exact ih hr
  rw [List.filter_cons_of_neg (by simpa using h1)]
  by_cases h2 : c ≤ m
  ·rw [List.filter_cons_of_pos (by simpa using h2)]
   have := hle r
   simp; omega
  have hr : m ∈ r := by
   rcases List.mem_cons.1 h with rfl | h
   ·omega
   exact h
  rw [List.filter_cons_of_neg (by simpa using h2)]; exact ih hr
theorem filter_congr' (l : List Nat) (p q : Nat → Bool) (h : ∀ c ∈ l, p c = q c) : l.filter p = l.filter q := List.filter_congr h
theorem ins_enc (l : List Nat) (hl : l.length ≤ 60) (hv : ∀ c ∈ l, c ≤ 1114111) : ∀ (f n d n0 i0 : Nat), n0 ≤ n → l.length ≤ (l.filter (· < n)).length + f →
  d + i0 + n0 * ((l.filter (· < n)).length + 1) = n * ((l.filter (· < n)).length + 1) → insD n0 i0 (l.filter (· < n)) (encD l f n d (l.filter (· < n)).length) = some l := by
 intro f
 induction f with
 | zero =>
  intro n d n0 i0 _ hf _
  have h1 := List.length_filter_le (fun x => decide (x < n)) l
  have h2 : l.filter (· < n) = l := List.filter_eq_self.2 (List.length_filter_eq_length_iff.1 (by omega))
  rw [encD, insD, h2]
 | succ f ih =>
  intro n d n0 i0 h0 hf he
  have hfl := List.length_filter_le (fun x => decide (x < n)) l
  by_cases hlt : (l.filter (· < n)).length < l.length
  ·have hex : ∃ c ∈ l, n ≤ c := by
    by_cases hx : ∃ c ∈ l, n ≤ c
    ·exact hx
    have h2 : l.filter (· < n) = l := List.filter_eq_self.2 (fun c hc => by
     simp only [decide_eq_true_eq]
     rcases Nat.lt_or_ge c n with h | h
     ·exact h
     exact absurd ⟨c, hc, h⟩ hx)
    rw [h2] at hlt
    omega
   obtain ⟨m1, m2, m3⟩ := least_spec n l hv hex
   have hd : encD l (f + 1) n d (l.filter (· < n)).length = (passD (leastN n l) l (d + (leastN n l - n) * ((l.filter (· < n)).length + 1))).1 ++ encD l f (leastN n l + 1) ((passD (leastN n l) l (d + (leastN n l - n) * ((l.filter (· < n)).length + 1))).2 + 1) ((l.filter (· < n)).length + (passD (leastN n l) l (d + (leastN n l - n) * ((l.filter (· < n)).length + 1))).1.length) := by
    rw [encD, if_pos hlt]
   rw [hd]
   generalize leastN n l = m at *
   have hsame : l.filter (· < n) = l.filter (· < m) := filter_congr' l _ _ (fun c hc => by
    rcases Nat.lt_or_ge c n with h | h
    ·simp [h]; omega
    have := m3 c hc h
    rw [decide_eq_false (by omega), decide_eq_false (by omega)])
   have hle : l.filter (· < m + 1) = l.filter (· ≤ m) := filter_congr' l _ _ (fun c _ => decide_eq_decide.2 (by omega))
   have hmore := filter_more m l m1
   have hmv := hv m m1
   rw [hsame] at he hf ⊢
   generalize hds : encD l f (m + 1) _ _ = ds
   have hstep := ins_pass m hmv l [] (d + (m - n) * ((l.filter (· < m)).length + 1)) n0 i0 ds (by omega) (by simpa using hl) (by
    simp only [List.filter_nil, List.nil_append, List.length_nil, Nat.add_zero]
    have h1 : (m - n) * ((l.filter (· < m)).length + 1) + n * ((l.filter (· < m)).length + 1) = m * ((l.filter (· < m)).length + 1) := by rw [← Nat.add_mul]; congr 1; omega
    omega)
   simp only [List.filter_nil, List.nil_append] at hstep
   obtain ⟨n1, i1, g0, g1, g2, g3⟩ := hstep
   rw [g1, ← hds, g3]
   have hnext := ih (m + 1) ((passD m l (d + (m - n) * ((l.filter (· < m)).length + 1))).2 + 1) n1 i1 (by omega) (by rw [hle]; omega) (by
    rw [hle, Nat.add_mul]
    omega)
   rw [hle] at hnext
   exact hnext
  have h2 : l.filter (· < n) = l := List.filter_eq_self.2 (List.length_filter_eq_length_iff.1 (by omega))
  rw [encD, if_neg hlt, insD, h2]
theorem pass_le (n : Nat) : ∀ (l : List Nat) (d M : Nat), d + l.length ≤ M → (∀ x ∈ (passD n l d).1, x ≤ M) ∧ (passD n l d).2 ≤ M
 | [], d, M, h => ⟨fun x hx => by simp [passD] at hx, by simpa [passD] using h⟩
 | c :: r, d, M, h => by
  simp only [List.length_cons] at h
  unfold passD
  split
  ·exact pass_le n r (d + 1) M (by omega)
  split
  ·have hr := pass_le n r 0 M (by omega)
   refine ⟨fun x hx => ?_, hr.2⟩
   rcases List.mem_cons.1 hx with rfl | hx
   ·omega
   exact hr.1 x hx
  exact pass_le n r d M (by omega)
theorem pass_len (n : Nat) : ∀ (l : List Nat) (d : Nat), (l.filter (· < n)).length + (passD n l d).1.length = (l.filter (· ≤ n)).length
 | [], d => by simp [passD]
 | c :: r, d => by
  unfold passD
  split
  ·next h =>
   have hr := pass_len n r (d + 1)
   rw [List.filter_cons_of_pos (by simpa using h), List.filter_cons_of_pos (by simp; omega)]
   simp only [List.length_cons]
   omega
  next h =>
  rw [List.filter_cons_of_neg (by simpa using h)]
  split
  ·next e =>
   have hr := pass_len n r 0
   rw [List.filter_cons_of_pos (by simp; omega)]
   simp only [List.length_cons]
   omega
  next e =>
  have hr := pass_len n r d
  rw [List.filter_cons_of_neg (by simp; omega)]
  exact hr
theorem least_of (l : List Nat) (n : Nat) (hv : ∀ c ∈ l, c ≤ 1114111) (hlt : (l.filter (· < n)).length < l.length) : leastN n l ∈ l ∧ n ≤ leastN n l ∧ ∀ c ∈ l, n ≤ c → leastN n l ≤ c := by
 refine least_spec n l hv ?_
 by_cases hx : ∃ c ∈ l, n ≤ c
 ·exact hx
 have h2 : l.filter (· < n) = l := List.filter_eq_self.2 (fun c hc => by
  simp only [decide_eq_true_eq]
  rcases Nat.lt_or_ge c n with h | h
  ·exact h
  exact absurd ⟨c, hc, h⟩ hx)
 rw [h2] at hlt
 omega
theorem filter_same (l : List Nat) (n m : Nat) (h2 : n ≤ m) (h3 : ∀ c ∈ l, n ≤ c → m ≤ c) : l.filter (· < n) = l.filter (· < m) :=
 filter_congr' l _ _ (fun c hc => by
  rcases Nat.lt_or_ge c n with h | h
  ·simp [h]; omega
  have := h3 c hc h
  rw [decide_eq_false (by omega), decide_eq_false (by omega)])
theorem filter_le_lt (l : List Nat) (m : Nat) : l.filter (· < m + 1) = l.filter (· ≤ m) := filter_congr' l _ _ (fun c _ => decide_eq_decide.2 (by omega))
theorem enc_le (l : List Nat) (hl : l.length ≤ 60) (hv : ∀ c ∈ l, c ≤ 1114111) : ∀ (f n d : Nat), d ≤ 61 * n → ∀ x ∈ encD l f n d (l.filter (· < n)).length, x ≤ 67960831 := by
 intro f
 induction f with
 | zero => intro n d _ x hx; simp [encD] at hx
 | succ f ih =>
  intro n d hd x hx
  by_cases hlt : (l.filter (· < n)).length < l.length
  ·obtain ⟨m1, m2, m3⟩ := least_of l n hv hlt
   rw [encD, if_pos hlt] at hx
   generalize leastN n l = m at *
   have hmv := hv m m1
   rw [filter_same l n m m2 m3] at hx hlt
   have hb : d + (m - n) * ((l.filter (· < m)).length + 1) ≤ 61 * m := by
    have h1 : (m - n) * ((l.filter (· < m)).length + 1) ≤ (m - n) * 61 := Nat.mul_le_mul_left _ (by omega)
    omega
   have hp := pass_le m l (d + (m - n) * ((l.filter (· < m)).length + 1)) (61 * m + 60) (by omega)
   have hpl := pass_len m l (d + (m - n) * ((l.filter (· < m)).length + 1))
   rcases List.mem_append.1 hx with hx | hx
   ·have := hp.1 x hx; omega
   rw [hpl, ← filter_le_lt] at hx
   exact ih (m + 1) _ (by have := hp.2; omega) x hx
  rw [encD, if_neg hlt] at hx
  simp at hx
def codeV (basic : Nat) : Nat → Nat → List Nat → List Nat
 | _, _, [] => []
 | h, bias, d :: ds => numF 28 36 bias d ++ codeV basic (h + 1) (adaptN d (h + 1) (h == basic)) ds
def rawL (basic : Nat) : Nat → List Nat → Nat → Nat → Nat → List Nat → Option (List Nat)
 | _, [], _, _, _, out => some out
 | 0, _ :: _, _, _, _, _ => none
 | f + 1, v :: vs, n, i, bias, out =>
  match readL bias 36 0 1 (v :: vs) with
  | none => none
  | some (more, rest) =>
   if 60 < out.length + 1 ∨ 1114111 < n + (i + more) / (out.length + 1) then none
   else rawL basic f rest (n + (i + more) / (out.length + 1)) ((i + more) % (out.length + 1) + 1) (adaptN more (out.length + 1) (out.length == basic)) (insAt ((i + more) % (out.length + 1)) (n + (i + more) / (out.length + 1)) out)
theorem insAt_length (i x : Nat) (l : List Nat) : (insAt i x l).length = l.length + 1 := by
 unfold insAt
 rw [List.length_append, List.length_cons, List.length_take, List.length_drop]
 omega
theorem raw_code (basic : Nat) : ∀ (ds : List Nat) (f h bias n i : Nat) (out : List Nat), out.length = h → (∀ d ∈ ds, d ≤ 67960831) → ds.length ≤ f →
  rawL basic f (codeV basic h bias ds) n i bias out = insD n i out ds
 | [], f, h, bias, n, i, out, _, _, _ => by cases f <;> rfl
 | d :: ds, f, h, bias, n, i, out, hh, hd, hf => by
  obtain ⟨f, rfl⟩ : ∃ g, f = g + 1 := ⟨f - 1, by simp at hf; omega⟩
  have hdd := hd d (by simp)
  have hread := read_num bias (codeV basic (h + 1) (adaptN d (h + 1) (h == basic)) ds) 27 36 d 0 1 (by simp; omega) (by omega) (by omega)
  have hne : ∃ v vs, numF (27 + 1) 36 bias d ++ codeV basic (h + 1) (adaptN d (h + 1) (h == basic)) ds = v :: vs := by
   cases hx : numF (27 + 1) 36 bias d with
   | nil => exact absurd hx (num_pos bias 27 36 d)
   | cons v vs => exact ⟨v, _, rfl⟩
  obtain ⟨v, vs, hv⟩ := hne
  have hcode : codeV basic h bias (d :: ds) = v :: vs := hv
  rw [hv] at hread
  rw [hcode, rawL, hread]
  simp only [Nat.zero_add, Nat.one_mul]
  rw [insD]
  split
  ·rfl
  subst hh
  exact raw_code basic ds f _ _ _ _ _ (insAt_length _ _ _) (fun x hx => hd x (by simp [hx])) (by simp at hf; omega)
def encV (l : List Nat) : List Nat := codeV (l.filter (· < 128)).length (l.filter (· < 128)).length 72 (encD l l.length 128 0 (l.filter (· < 128)).length)
theorem enc_count (l : List Nat) (hv : ∀ c ∈ l, c ≤ 1114111) : ∀ (f n d : Nat), (l.filter (· < n)).length + (encD l f n d (l.filter (· < n)).length).length ≤ l.length := by
 intro f
 induction f with
 | zero => intro n d; simp only [encD, List.length_nil, Nat.add_zero]; exact List.length_filter_le _ _
 | succ f ih =>
  intro n d
  by_cases hlt : (l.filter (· < n)).length < l.length
  ·obtain ⟨m1, m2, m3⟩ := least_of l n hv hlt
   rw [encD, if_pos hlt]
   generalize leastN n l = m at *
   rw [filter_same l n m m2 m3]
   have hpl := pass_len m l (d + (m - n) * ((l.filter (· < m)).length + 1))
   rw [List.length_append, hpl, ← filter_le_lt]
   rw [← filter_le_lt] at hpl
   have := ih (m + 1) ((passD m l (d + (m - n) * ((l.filter (· < m)).length + 1))).2 + 1)
   omega
  rw [encD, if_neg hlt]
  simp only [List.length_nil, Nat.add_zero]
  exact List.length_filter_le _ _
def encC (l : List Nat) : List Nat := l.filter (· < 128) ++ (if 0 < (l.filter (· < 128)).length then [45] else []) ++ (encV l).map digB
def splitD : List Nat → Option (List Nat × List Nat)
 | [] => none
 | c :: r => match splitD r with
  | some (a, b) => some (c :: a, b)
  | none => if c = 45 then some ([], r) else none
theorem split_none : ∀ (b : List Nat), (∀ c ∈ b, c ≠ 45) → splitD b = none
 | [], _ => rfl
 | c :: r, h => by
  rw [splitD, split_none r (fun x hx => h x (by simp [hx]))]
  exact if_neg (h c (by simp))
theorem split_at (b : List Nat) (hb : ∀ c ∈ b, c ≠ 45) : ∀ (a : List Nat), splitD (a ++ 45 :: b) = some (a, b)
 | [] => by
  show splitD (45 :: b) = _
  rw [splitD, split_none b hb]
  rfl
 | c :: a => by
  show splitD (c :: (a ++ 45 :: b)) = _
  rw [splitD, split_at b hb a]
def headD (s : List Nat) : List Nat := match splitD s with
 | some (a, _) => a
 | none => []
def tailD (s : List Nat) : List Nat := match splitD s with
 | some (_, b) => b
 | none => s
def rawC (s : List Nat) : Option (List Nat) := rawL (headD s).length s.length ((tailD s).map valB) 128 0 72 (headD s)
theorem codeV_lt (basic : Nat) : ∀ (ds : List Nat) (h bias : Nat), ∀ v ∈ codeV basic h bias ds, v < 36
 | [], _, _, v, hv => by simp [codeV] at hv
 | d :: ds, h, bias, v, hv => by
  rcases List.mem_append.1 hv with hv | hv
  ·exact num_lt bias 28 36 d v hv
  exact codeV_lt basic ds _ _ v hv
theorem encV_lt (l : List Nat) : ∀ v ∈ encV l, v < 36 := codeV_lt _ _ _ _
theorem dig_back : ∀ (vs : List Nat), (∀ v ∈ vs, v < 36) → (vs.map digB).map valB = vs
 | [], _ => rfl
 | v :: vs, h => by
  rw [List.map_cons, List.map_cons, val_dig (h v (by simp)), dig_back vs (fun x hx => h x (by simp [hx]))]
theorem dig_dash (vs : List Nat) (h : ∀ v ∈ vs, v < 36) : ∀ c ∈ vs.map digB, c ≠ 45 := by
 intro c hc
 obtain ⟨v, hv, rfl⟩ := List.mem_map.1 hc
 exact (dig_lt (h v hv)).2
theorem enc_parts (l : List Nat) : headD (encC l) = l.filter (· < 128) ∧ tailD (encC l) = (encV l).map digB := by
 have hd := dig_dash (encV l) (encV_lt l)
 unfold headD tailD encC
 by_cases h : 0 < (l.filter (· < 128)).length
 ·rw [if_pos h, List.append_assoc]
  show (match splitD (l.filter (· < 128) ++ 45 :: (encV l).map digB) with | some (a, _) => a | none => []) = _ ∧ _
  rw [split_at _ hd]
  exact ⟨rfl, by show (match splitD (l.filter (· < 128) ++ 45 :: (encV l).map digB) with | some (_, b) => b | none => _) = _; rw [split_at _ hd]⟩
 have he : l.filter (· < 128) = [] := List.eq_nil_of_length_eq_zero (by omega)
 rw [if_neg h, he]
 simp only [List.nil_append]
 rw [split_none _ hd]
 exact ⟨rfl, rfl⟩
theorem num_len (bias : Nat) : ∀ (f k q : Nat), (numF f k bias q).length ≤ f
 | 0, _, _ => by simp [numF]
 | f + 1, k, q => by
  unfold numF
  split
  ·simp
  have := num_len bias f (k + 36) ((q - limN k bias) / (36 - limN k bias))
  simp; omega
theorem codeV_ge (basic : Nat) : ∀ (ds : List Nat) (h bias : Nat), ds.length ≤ (codeV basic h bias ds).length
 | [], _, _ => by simp
 | d :: ds, h, bias => by
  have h1 := codeV_ge basic ds (h + 1) (adaptN d (h + 1) (h == basic))
  have h2 : 1 ≤ (numF 28 36 bias d).length := by
   cases hx : numF 28 36 bias d with
   | nil => exact absurd hx (num_pos bias 27 36 d)
   | cons => simp
  show (d :: ds).length ≤ (numF 28 36 bias d ++ codeV basic (h + 1) (adaptN d (h + 1) (h == basic)) ds).length
  rw [List.length_append, List.length_cons]
  omega
theorem raw_enc' (l : List Nat) (hl : l.length ≤ 60) (hv : ∀ c ∈ l, c ≤ 1114111) : rawC (encC l) = some l := by
 unfold rawC
 obtain ⟨h1, h2⟩ := enc_parts l
 rw [h1, h2, dig_back _ (encV_lt l)]
 have hc := enc_count l hv l.length 128 0
 have hge := codeV_ge (l.filter (· < 128)).length (encD l l.length 128 0 (l.filter (· < 128)).length) (l.filter (· < 128)).length 72
 unfold encV
 rw [raw_code _ _ _ _ 72 128 0 _ rfl (enc_le l hl hv l.length 128 0 (by omega)) ?_]
 ·exact ins_enc l hl hv l.length 128 0 128 0 (Nat.le_refl _) (by omega) (by omega)
 unfold encC encV
 rw [List.length_append, List.length_append, List.length_map]
 omega
def runeN (c : Nat) : Bool := decide (c ≤ 1114111) && !(decide (55296 ≤ c) && decide (c ≤ 57343))
def encOk (l : List Nat) : Bool := decide (l.length ≤ 60) && l.all runeN
def decC (s : List Nat) : Option (List Nat) := match rawC s with
 | some l => if encOk l = true ∧ encC l = s then some l else none
 | none => none
theorem encOk_parts {l : List Nat} (h : encOk l = true) : l.length ≤ 60 ∧ ∀ c ∈ l, c ≤ 1114111 := by
 simp only [encOk, Bool.and_eq_true, decide_eq_true_eq, List.all_eq_true] at h
 refine ⟨h.1, fun c hc => ?_⟩
 have := h.2 c hc
 simp only [runeN, Bool.and_eq_true, decide_eq_true_eq] at this
 exact this.1
theorem dec_enc {l : List Nat} (h : encOk l = true) : decC (encC l) = some l := by
 unfold decC
 obtain ⟨h1, h2⟩ := encOk_parts h
 rw [raw_enc' l h1 h2]
 exact if_pos ⟨h, rfl⟩
theorem dec_iff (s l : List Nat) : decC s = some l ↔ encOk l = true ∧ encC l = s := by
 constructor
 ·intro h
  unfold decC at h
  split at h
  ·split at h
   ·next hh => cases h; exact hh
   cases h
  cases h
 rintro ⟨h, rfl⟩
 exact dec_enc h
theorem enc_ascii {l : List Nat} : ∀ c ∈ encC l, c < 128 := by
 intro c hc
 unfold encC at hc
 rcases List.mem_append.1 hc with hc | hc
 ·rcases List.mem_append.1 hc with hc | hc
  ·have := (List.mem_filter.1 hc).2
   simpa using this
  split at hc
  ·rw [List.mem_singleton.1 hc]; omega
  simp at hc
 obtain ⟨v, hv, rfl⟩ := List.mem_map.1 hc
 exact (dig_lt (encV_lt l v hv)).1
def adaptZ (delta n : Int) (first : Bool) : Int := if 0 ≤ delta ∧ 1 ≤ n then (adaptN delta.toNat n.toNat first : Int) else 0
theorem adaptF_le : ∀ (f d k : Nat), adaptF f d k ≤ k + 36 * f + 36
 | 0, d, k => by
  unfold adaptF
  have : 36 * d / (d + 38) ≤ 36 := Nat.div_le_of_le_mul (by omega)
  omega
 | f + 1, d, k => by
  unfold adaptF
  split
  ·have := adaptF_le f (d / 35) (k + 36); omega
  have : 36 * d / (d + 38) ≤ 36 := Nat.div_le_of_le_mul (by omega)
  omega
theorem adaptN_le (d n : Nat) (first : Bool) : adaptN d n first ≤ 2400 := by
 unfold adaptN
 split
 ·omega
 have := adaptF_le 64 ((if first then d / 700 else d / 2) + (if first then d / 700 else d / 2) / n) 0
 omega
theorem adaptF_more {f d k : Nat} (h : 455 < d) (hf : d < 2 ^ f) : ∃ g, f = g + 1 ∧ adaptF f d k = adaptF g (d / 35) (k + 36) ∧ d / 35 < 2 ^ g := by
 cases f with
 | zero => simp at hf; omega
 | succ g =>
  refine ⟨g, rfl, by rw [adaptF, if_pos h], ?_⟩
  have h4 : 2 ^ (g + 1) = 2 * 2 ^ g := by rw [Nat.pow_succ]; omega
  omega
theorem adaptF_end {f d k : Nat} (h : d ≤ 455) : adaptF f d k = k + 36 * d / (d + 38) := by
 cases f with
 | zero => rfl
 | succ g => rw [adaptF, if_neg (by omega)]
theorem adaptN_in {delta n : Nat} {first : Bool} (h1 : (delta : Int) ≤ 1000000000000) (h2 : 1 ≤ (n : Int)) (h3 : (n : Int) ≤ 1000000) (x : Nat) (hx : x = if first then delta / 700 else delta / 2) : adaptN delta n first = adaptF 64 (x + x / n) 0 := by
 unfold adaptN
 rw [if_neg (by omega), hx]
theorem specAdapt_in (delta n : Nat) (first : Bool) (w : World) (h1 : (delta : Int) ≤ 1000000000000) (h2 : 1 ≤ (n : Int)) (h3 : (n : Int) ≤ 1000000) :
  Calls Tryz.prog 99 #[.int .i64 (delta : Int), .int .i64 (n : Int), .bool first] w fun e w' => e = .returned (.int .i64 (adaptN delta n first : Int)) ∧ w = w' := by
 have h0 : 0 ≤ (delta : Int) := by omega
 obtain ⟨x, hx⟩ : ∃ x : Nat, x = if first then delta / 700 else delta / 2 := ⟨_, rfl⟩
 have HN : Hid (adaptN delta n first = adaptF 64 (x + x / n) 0) := adaptN_in h1 h2 h3 x hx
 have hy : x / n ≤ x := Nat.div_le_self x n
 have hne : ¬ (n : Int) = 0 := by omega
 have hxle : (x : Int) ≤ 500000000000 := by cases first <;> simp at hx <;> omega
 obtain ⟨z, hz⟩ : ∃ z : Nat, x / n = z := ⟨_, rfl⟩
 have hZ : (x : Int) / (n : Int) = (z : Int) := by rw [← hz]; simp
 rw [hz] at HN hy
 have hzle : (z : Int) ≤ (x : Int) := by omega
 have HP : Hid (x + z < 2 ^ 64) := by
  show _ < _
  have : (2 : Nat) ^ 64 = 18446744073709551616 := by decide
  omega
 clear hz hy
 cases first with
 | true =>
  have hX : (delta : Int) / 700 = (x : Int) := by simp at hx; omega
  clear hx
  go_enter Tryz.func99, Tryz.ntmps99
  go_wp2_with fail
  refine (specL1In_yes _ _ _ _ h0 h1).mono ?_
  rintro e w' ⟨rfl, rfl⟩
  go_wp2_with fail
  refine (specL1In_yes _ _ _ _ h2 h3).mono ?_
  rintro e w' ⟨rfl, rfl⟩
  go_wp2_with fail
  go_loop [0, 7] (fun a b => ∃ f d k : Nat, a = .int .i64 d ∧ b = .int .i64 k ∧ d ≤ x + z ∧ k + 36 * f ≤ 2304 ∧ d < 2 ^ f ∧ adaptF f d k = adaptF 64 (x + z) 0) (fun a _ => (intOf a).toNat)
  case atStart => exact ⟨64, x + z, 0, by simp, rfl, Nat.le_refl _, by omega, HP.out, rfl⟩
  obtain ⟨f, d, k, rfl, rfl, hd, hk, hf, he⟩ := hrel
  have HE : Hid (adaptF f d k = adaptF 64 (x + z) 0) := he
  have HF : Hid (d < 2 ^ f) := hf
  clear he hf
  by_cases hlt : 455 < (d : Int)
  ·obtain ⟨g, hg, he, hl⟩ := adaptF_more (k := k) (show 455 < d by omega) HF.out
   have HE2 : Hid (adaptF g (d / 35) (k + 36) = adaptF 64 (x + z) 0) := he.symm.trans HE.out
   have HF2 : Hid (d / 35 < 2 ^ g) := hl
   clear he hl
   go_wp2
   go_round
   case rel => exact ⟨g, d / 35, k + 36, by simp, by go_num, by omega, by omega, HF2.out, HE2.out⟩
   case measure => simp [intOf]; omega
  have HR : Hid (adaptN delta n true = k + 36 * d / (d + 38)) := by show _ = _; rw [HN.out, ← HE.out, adaptF_end (by omega)]
  have hnz : ¬ (d : Int) + 38 = 0 := by omega
  have hr0 : 36 * d / (d + 38) ≤ 36 := Nat.div_le_of_le_mul (by omega)
  obtain ⟨r, hr⟩ : ∃ r : Nat, 36 * d / (d + 38) = r := ⟨_, rfl⟩
  have hR : (36 * (d : Int)) / ((d : Int) + 38) = (r : Int) := by rw [← hr]; simp
  rw [hr] at HR hr0
  clear hr
  go_wp2
  go_ret
  exact ⟨ret_int (by rw [HR.out]; simp), rfl⟩
 | false =>
  have hX : (delta : Int) / 2 = (x : Int) := by simp at hx; omega
  clear hx
  go_enter Tryz.func99, Tryz.ntmps99
  go_wp2_with fail
  refine (specL1In_yes _ _ _ _ h0 h1).mono ?_
  rintro e w' ⟨rfl, rfl⟩
  go_wp2_with fail
  refine (specL1In_yes _ _ _ _ h2 h3).mono ?_
  rintro e w' ⟨rfl, rfl⟩
  go_wp2_with fail
  go_loop [0, 7] (fun a b => ∃ f d k : Nat, a = .int .i64 d ∧ b = .int .i64 k ∧ d ≤ x + z ∧ k + 36 * f ≤ 2304 ∧ d < 2 ^ f ∧ adaptF f d k = adaptF 64 (x + z) 0) (fun a _ => (intOf a).toNat)
  case atStart => exact ⟨64, x + z, 0, by simp, rfl, Nat.le_refl _, by omega, HP.out, rfl⟩
  obtain ⟨f, d, k, rfl, rfl, hd, hk, hf, he⟩ := hrel
  have HE : Hid (adaptF f d k = adaptF 64 (x + z) 0) := he
  have HF : Hid (d < 2 ^ f) := hf
  clear he hf
  by_cases hlt : 455 < (d : Int)
  ·obtain ⟨g, hg, he, hl⟩ := adaptF_more (k := k) (show 455 < d by omega) HF.out
   have HE2 : Hid (adaptF g (d / 35) (k + 36) = adaptF 64 (x + z) 0) := he.symm.trans HE.out
   have HF2 : Hid (d / 35 < 2 ^ g) := hl
   clear he hl
   go_wp2
   go_round
   case rel => exact ⟨g, d / 35, k + 36, by simp, by go_num, by omega, by omega, HF2.out, HE2.out⟩
   case measure => simp [intOf]; omega
  have HR : Hid (adaptN delta n false = k + 36 * d / (d + 38)) := by show _ = _; rw [HN.out, ← HE.out, adaptF_end (by omega)]
  have hnz : ¬ (d : Int) + 38 = 0 := by omega
  have hr0 : 36 * d / (d + 38) ≤ 36 := Nat.div_le_of_le_mul (by omega)
  obtain ⟨r, hr⟩ : ∃ r : Nat, 36 * d / (d + 38) = r := ⟨_, rfl⟩
  have hR : (36 * (d : Int)) / ((d : Int) + 38) = (r : Int) := by rw [← hr]; simp
  rw [hr] at HR hr0
  clear hr
  go_wp2
  go_ret
  exact ⟨ret_int (by rw [HR.out]; simp), rfl⟩
theorem adaptZ_in {delta n : Int} {first : Bool} (h : 0 ≤ delta ∧ 1 ≤ n) : adaptZ delta n first = (adaptN delta.toNat n.toNat first : Int) := if_pos h
theorem adaptZ_out {delta n : Int} {first : Bool} (h : delta < 0 ∨ 1000000000000 < delta ∨ n < 1 ∨ 1000000 < n) : adaptZ delta n first = 0 := by
 unfold adaptZ
 split
 ·unfold adaptN
  rw [if_pos (by omega)]
  rfl
 rfl
theorem specAdapt (delta n : Int) (first : Bool) (w : World) :
  Calls Tryz.prog 99 #[.int .i64 delta, .int .i64 n, .bool first] w fun e w' => e = .returned (.int .i64 (adaptZ delta n first)) ∧ w = w' := by
 by_cases h1 : 0 ≤ delta ∧ delta ≤ 1000000000000
 ·by_cases h2 : 1 ≤ n ∧ n ≤ 1000000
  ·rw [adaptZ_in ⟨h1.1, h2.1⟩]
   obtain ⟨d, rfl⟩ := Int.eq_ofNat_of_zero_le h1.1
   obtain ⟨m, rfl⟩ := Int.eq_ofNat_of_zero_le (show 0 ≤ n by omega)
   exact specAdapt_in d m first w h1.2 h2.1 h2.2
  have HV : Hid (adaptZ delta n first = 0) := adaptZ_out (by omega)
  have H2 : Hid (n < 1 ∨ 1000000 < n) := by show _ ∨ _; omega
  obtain ⟨a1, a2⟩ := h1
  clear h2
  go_enter Tryz.func99, Tryz.ntmps99
  go_wp2_with fail
  refine (specL1In_yes _ _ _ _ a1 a2).mono ?_
  rintro e w' ⟨rfl, rfl⟩
  go_wp2_with fail
  refine (specL1In_no _ _ _ _ H2.out).mono ?_
  rintro e w' ⟨rfl, rfl⟩
  go_wp2_with fail
  go_ret
  exact ⟨ret_int (by rw [HV.out]), rfl⟩
 have HV : Hid (adaptZ delta n first = 0) := adaptZ_out (by omega)
 have H1 : Hid (delta < 0 ∨ 1000000000000 < delta) := by show _ ∨ _; omega
 clear h1
 go_enter Tryz.func99, Tryz.ntmps99
 go_wp2_with fail
 refine (specL1In_no _ _ _ _ H1.out).mono ?_
 rintro e w' ⟨rfl, rfl⟩
 go_wp2_with fail
 go_ret
 exact ⟨ret_int (by rw [HV.out]), rfl⟩
end Go.Proofs.YtidecdlaeomfoaaGreat
