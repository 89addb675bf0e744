/- Plain laws of addresses of eight groups, of no program: their texts, where noughts stand for a row, and back. -/
import Derived.Test.YtophgcneckjdjaaDoorSplPlain
namespace Go.Proofs.YtophgcneckjdjaaDoor
open Go.RowKit

def hxU (i : Nat) : UInt8 := UInt8.ofNat (if i < 10 then 48 + i else 87 + i)
/-- A number below 65536 to sixteen. -/
def hex4 (n : Nat) : List UInt8 := if n < 16 then [hxU n] else if n < 256 then [hxU (n / 16), hxU (n % 16)] else if n < 4096 then [hxU (n / 256), hxU (n / 16 % 16), hxU (n % 16)] else [hxU (n / 4096), hxU (n / 256 % 16), hxU (n / 16 % 16), hxU (n % 16)]

theorem hxU_hex : ∀ i, i < 16 → hexN (hxU i).toNat = (i : Int) := by decide +kernel
theorem hxU_no : ∀ i, i < 16 → hxU i ≠ 58 ∧ hxU i ≠ 46 := by decide +kernel
theorem digF_hx {i n : Nat} (h : i < 16) (r : List UInt8) : digF 16 n (hxU i :: r) = digF 16 (n * 16 + i) r := by
  rw [digF, hxU_hex i h, if_pos (by omega)]
  rfl

theorem hex4_num {n : Nat} (h : n < 65536) : numL 16 4 (hex4 n) = some n := by
  unfold hex4 numL
  split
  · rw [if_pos (by simp), digF_hx (by omega), digF]
    congr 1
    omega
  · split
    · rw [if_pos (by simp), digF_hx (by omega), digF_hx (by omega), digF]
      congr 1
      omega
    · split
      · rw [if_pos (by simp), digF_hx (by omega), digF_hx (by omega), digF_hx (by omega), digF]
        congr 1
        omega
      · rw [if_pos (by simp), digF_hx (by omega), digF_hx (by omega), digF_hx (by omega), digF_hx (by omega), digF]
        congr 1
        omega

theorem hex4_no {n : Nat} (h : n < 65536) : ∀ c ∈ hex4 n, c ≠ 58 ∧ c ≠ 46 := by
  intro c hc
  unfold hex4 at hc
  split at hc
  · simp only [List.mem_cons, List.not_mem_nil, or_false] at hc
    subst hc
    exact hxU_no _ (by omega)
  · split at hc
    · simp only [List.mem_cons, List.not_mem_nil, or_false] at hc
      rcases hc with rfl | rfl <;> exact hxU_no _ (by omega)
    · split at hc
      · simp only [List.mem_cons, List.not_mem_nil, or_false] at hc
        rcases hc with rfl | rfl | rfl <;> exact hxU_no _ (by omega)
      · simp only [List.mem_cons, List.not_mem_nil, or_false] at hc
        rcases hc with rfl | rfl | rfl | rfl <;> exact hxU_no _ (by omega)

theorem hex4_len (n : Nat) : 1 ≤ (hex4 n).length ∧ (hex4 n).length ≤ 4 := by
  unfold hex4
  split
  · simp
  · split
    · simp
    · split <;> simp
theorem hex4_ne (n : Nat) : (hex4 n).isEmpty = false := by
  have := (hex4_len n).1
  cases h : hex4 n with
  | nil => rw [h] at this; simp at this
  | cons _ _ => rfl

theorem hex4_nil (n : Nat) : hex4 n ≠ [] := by
  intro e
  have h := hex4_ne n
  rw [e] at h
  cases h

/-- Where the first double colon cuts a text. -/
def cut6L : List UInt8 → Option (List UInt8 × List UInt8)
  | [] => none
  | c :: r => if c = 58 ∧ r.head? = some 58 then some ([], r.tail) else (cut6L r).map fun p => (c :: p.1, p.2)

theorem cutL_no : ∀ {l : List UInt8}, (∀ c ∈ l, c ≠ 58) → cut6L l = none
  | [], _ => rfl
  | c :: r, h => by
    rw [cut6L, if_neg (fun e => h c List.mem_cons_self e.1), cutL_no (fun d hd => h d (List.mem_cons_of_mem _ hd))]
    rfl

theorem cutL_app {x : List UInt8} (hx : cut6L x = none) (hne : x.head? ≠ some 58) : ∀ p, cut6L (p ++ x) = (cut6L p).map fun q => (q.1, q.2 ++ x)
  | [] => by rw [List.nil_append, hx]; rfl
  | [c] => by
    rw [List.cons_append, List.nil_append, cut6L, if_neg (fun e => hne e.2), hx]
    simp [cut6L]
  | c :: d :: r => by
    have ih := cutL_app hx hne (d :: r)
    rw [List.cons_append, cut6L, cut6L]
    by_cases h : c = 58 ∧ d = 58
    · rw [if_pos (by simpa using h), if_pos (by simpa using h)]
      simp
    · rw [if_neg (by simpa using h), if_neg (by simpa using h), ih]
      cases cut6L (d :: r) <;> rfl

theorem cutL_pre (y : List UInt8) : ∀ {p : List UInt8}, (∀ c ∈ p, c ≠ 58) → cut6L (p ++ y) = (cut6L y).map fun q => (p ++ q.1, q.2)
  | [], _ => by
    rw [List.nil_append]
    cases cut6L y <;> rfl
  | c :: r, h => by
    rw [List.cons_append, cut6L, if_neg (fun e => h c List.mem_cons_self e.1), cutL_pre y (fun d hd => h d (List.mem_cons_of_mem _ hd))]
    cases cut6L y <;> rfl

theorem cutL_split : ∀ {l a b : List UInt8}, cut6L l = some (a, b) → l = a ++ 58 :: 58 :: b
  | [], _, _, h => by cases h
  | c :: r, a, b, h => by
    rw [cut6L] at h
    split at h
    · rename_i hc
      cases h
      obtain ⟨rfl, hr⟩ := hc
      cases r with
      | nil => simp at hr
      | cons d q => simp at hr; subst hr; rfl
    · cases hr : cut6L r with
      | none => rw [hr] at h; cases h
      | some p =>
        rw [hr] at h
        cases h
        rw [List.cons_append, ← cutL_split (a := p.1) (b := p.2) hr]

def partOk (x : List UInt8) : Prop := x ≠ [] ∧ ∀ c ∈ x, c ≠ 58

theorem jl_head {b : UInt8} {x : List UInt8} {r : List (List UInt8)} (hx : partOk x) : (jl b (x :: r)).head? ≠ some 58 := by
  obtain ⟨h1, h2⟩ := hx
  cases x with
  | nil => exact absurd rfl h1
  | cons c q =>
    have hc := h2 c List.mem_cons_self
    cases r <;> simp [jl, hc]

theorem cut_jl : ∀ {fs : List (List UInt8)}, (∀ x ∈ fs, partOk x) → cut6L (jl 58 fs) = none
  | [], _ => rfl
  | [x], h => cutL_no (h x List.mem_cons_self).2
  | x :: y :: r, h => by
    have ih := cut_jl (fs := y :: r) fun z hz => h z (List.mem_cons_of_mem _ hz)
    rw [jl, cutL_pre _ (h x List.mem_cons_self).2, cut6L, if_neg (fun e => jl_head (h y (by simp)) e.2), ih]
    rfl

theorem cut_text (B : List UInt8) : ∀ {fs : List (List UInt8)}, (∀ x ∈ fs, partOk x) → cut6L (jl 58 fs ++ 58 :: 58 :: B) = some (jl 58 fs, B)
  | [], _ => by simp [jl, cut6L]
  | [x], h => by
    rw [jl, cutL_pre _ (h x List.mem_cons_self).2, cut6L, if_pos (by simp)]
    simp
  | x :: y :: r, h => by
    have ih := cut_text B (fs := y :: r) fun z hz => h z (List.mem_cons_of_mem _ hz)
    have hh := jl_head (b := 58) (r := r) (h y (by simp))
    rw [jl, List.append_assoc, cutL_pre _ (h x List.mem_cons_self).2, List.cons_append, cut6L, if_neg ?_, ih]
    · rfl
    · intro e
      apply hh
      cases hj : jl 58 (y :: r) with
      | nil => 
        have h1 := h y (by simp)
        cases r <;> simp [jl] at hj
        exact absurd hj h1.1
      | cons c q => 
        rw [hj] at e
        simpa using e.2

/-- A group. -/
def g16 (x : List UInt8) : Option Nat := if x.isEmpty then none else numL 16 4 x
/-- Groups of fields; where t, the last field may be an address of four. -/
def grp (t : Bool) : List (List UInt8) → Option (List Nat)
  | [] => some []
  | x :: r => match (if t && r.isEmpty then p4 x else none) with
    | some n => some [n / 65536, n % 65536]
    | none => match g16 x with
      | none => none
      | some v => (grp t r).map (v :: ·)
def grpS (t : Bool) (l : List UInt8) : Option (List Nat) := if l.isEmpty then some [] else grp t (spl 58 l)
def fill8 (a b : List Nat) : List Nat := a ++ List.replicate (8 - a.length - b.length) 0 ++ b
def par6 (l : List UInt8) : Option (List Nat) := match cut6L l with
  | none => match grpS true l with
    | none => none
    | some g => if g.length = 8 then some g else none
  | some (a, b) => match grpS false a, grpS true b with
    | some x, some y => if x.length + y.length ≤ 7 then some (fill8 x y) else none
    | _, _ => none
/-- The same of groups alone. -/
def par6g (l : List UInt8) : Option (List Nat) := match cut6L l with
  | none => match grpS false l with
    | none => none
    | some g => if g.length = 8 then some g else none
  | some (a, b) => match grpS false a, grpS false b with
    | some x, some y => if x.length + y.length ≤ 7 then some (fill8 x y) else none
    | _, _ => none
def two4 (n : Nat) : List UInt8 := jl 58 [hex4 (n / 65536), hex4 (n % 65536)]

def lastG (y : List UInt8) : Option (List Nat) := match p4 y with
  | some n => some [n / 65536, n % 65536]
  | none => (g16 y).map fun v => [v]

theorem grp_cons_f (x : List UInt8) (r : List (List UInt8)) : grp false (x :: r) = match g16 x with
    | none => none
    | some v => (grp false r).map (v :: ·) := by
  rw [grp]; rfl

theorem grp_app : ∀ xs ys, grp false (xs ++ ys) = (grp false xs).bind fun g => (grp false ys).map (g ++ ·)
  | [], ys => by
    rw [List.nil_append, grp]
    cases grp false ys <;> rfl
  | x :: r, ys => by
    rw [List.cons_append, grp_cons_f, grp_cons_f, grp_app r ys]
    cases g16 x <;> cases grp false r <;> cases grp false ys <;> rfl

theorem grp_last : ∀ xs y, grp true (xs ++ [y]) = (grp false xs).bind fun g => (lastG y).map (g ++ ·)
  | [], y => by
    rw [List.nil_append, grp]
    simp only [List.isEmpty_nil, Bool.and_self, if_true, grp, lastG, Option.bind_some]
    cases p4 y <;> cases g16 y <;> rfl
  | x :: r, y => by
    rw [List.cons_append, grp, grp_cons_f, grp_last r y]
    simp only [show (r ++ [y]).isEmpty = false by cases r <;> rfl, Bool.and_false, Bool.false_eq_true, if_false]
    cases g16 x <;> cases grp false r <;> cases lastG y <;> rfl

/-- What ends where a field ends. -/
def endsOk (b : List UInt8) : Prop := b = [] ∨ ∃ q, b = q ++ [58]

theorem spl_ends {b : List UInt8} (h : endsOk b) : ∃ xs, ∀ x, spl 58 (b ++ x) = xs ++ spl 58 x := by
  rcases h with rfl | ⟨q, rfl⟩
  · exact ⟨[], fun x => rfl⟩
  · exact ⟨spl 58 q, fun x => by rw [List.append_assoc, List.cons_append, List.nil_append, spl_app]⟩

theorem two4_spl {n : Nat} (h : n < 4294967296) : spl 58 (two4 n) = [hex4 (n / 65536), hex4 (n % 65536)] := by
  refine spl_jl 58 (by simp) ?_
  intro x hx
  simp only [List.mem_cons, List.not_mem_nil, or_false] at hx
  rcases hx with rfl | rfl
  · exact fun c hc => (hex4_no (by omega) c hc).1
  · exact fun c hc => (hex4_no (by omega) c hc).1

theorem g16_hex {n : Nat} (h : n < 65536) : g16 (hex4 n) = some n := by
  unfold g16
  rw [hex4_ne, hex4_num h]
  rfl

theorem grp_two {n : Nat} (h : n < 4294967296) : grp false [hex4 (n / 65536), hex4 (n % 65536)] = some [n / 65536, n % 65536] := by
  rw [grp_cons_f, g16_hex (by omega), grp_cons_f, g16_hex (by omega), grp]
  rfl

theorem p4_nil : p4 [] = none := by rfl

theorem grpS_four {b tl : List UInt8} {n : Nat} (hb : endsOk b) (h58 : ∀ c ∈ tl, c ≠ 58) (h : p4 tl = some n) : grpS true (b ++ tl) = grpS false (b ++ two4 n) := by
  obtain ⟨xs, hs⟩ := spl_ends hb
  have hn := (p4_some h).1
  have h1 : (b ++ tl).isEmpty = false := by
    cases tl with
    | nil => rw [p4_nil] at h; cases h
    | cons c r => cases b <;> rfl
  have h2 : (b ++ two4 n).isEmpty = false := by
    have h3 := (hex4_len (n / 65536)).1
    cases b with
    | cons c r => rfl
    | nil =>
      unfold two4
      cases h4 : hex4 (n / 65536) with
      | nil => rw [h4] at h3; simp at h3
      | cons c r => rfl
  unfold grpS
  rw [h1, h2, hs tl, hs (two4 n), spl_none 58 h58, two4_spl hn, grp_last, grp_app, grp_two hn]
  simp only [lastG, h]

theorem grpS_plain {b tl : List UInt8} (hb : endsOk b) (h58 : ∀ c ∈ tl, c ≠ 58) (h : p4 tl = none) : grpS true (b ++ tl) = grpS false (b ++ tl) := by
  obtain ⟨xs, hs⟩ := spl_ends hb
  unfold grpS
  rw [hs tl, spl_none 58 h58, grp_last, grp_app, grp_cons_f]
  simp only [lastG, h, grp]
  cases g16 tl <;> rfl

theorem cut_ends {p a b : List UInt8} (hp : endsOk p) (h : cut6L p = some (a, b)) : endsOk b := by
  have e := cutL_split h
  rcases hp with rfl | ⟨q, rfl⟩
  · cases h
  · by_cases hb : b = []
    · exact .inl hb
    · obtain ⟨b', c, rfl⟩ : ∃ b' c, b = b' ++ [c] := ⟨b.dropLast, b.getLast hb, (List.dropLast_concat_getLast hb).symm⟩
      have e2 : q ++ [58] = (a ++ 58 :: 58 :: b') ++ [c] := by simp [e]
      have := (List.append_inj' e2 rfl).2
      cases this
      exact .inr ⟨b', rfl⟩

theorem two4_cut {n : Nat} (h : n < 4294967296) : cut6L (two4 n) = none ∧ (two4 n).head? ≠ some 58 := by
  have hp : ∀ x ∈ [hex4 (n / 65536), hex4 (n % 65536)], partOk x := by
    intro x hx
    simp only [List.mem_cons, List.not_mem_nil, or_false] at hx
    rcases hx with rfl | rfl
    · exact ⟨hex4_nil _, fun c hc => (hex4_no (by omega) c hc).1⟩
    · exact ⟨hex4_nil _, fun c hc => (hex4_no (by omega) c hc).1⟩
  exact ⟨cut_jl hp, jl_head (hp _ (by simp))⟩

theorem no58_head {l : List UInt8} (h : ∀ c ∈ l, c ≠ 58) : l.head? ≠ some 58 := by
  cases l with
  | nil => simp
  | cons c r => simpa using h c List.mem_cons_self

theorem par6_four {p tl : List UInt8} {n : Nat} (hp : endsOk p) (h58 : ∀ c ∈ tl, c ≠ 58) (h : p4 tl = some n) : par6g (p ++ two4 n) = par6 (p ++ tl) := by
  obtain ⟨t1, t2⟩ := two4_cut (p4_some h).1
  unfold par6 par6g
  rw [cutL_app (cutL_no h58) (no58_head h58), cutL_app t1 t2]
  cases hc : cut6L p with
  | none =>
    simp only [Option.map_none]
    rw [grpS_four hp h58 h]
  | some ab =>
    obtain ⟨a, b⟩ := ab
    simp only [Option.map_some]
    rw [grpS_four (cut_ends hp hc) h58 h]

theorem par6_plain {p tl : List UInt8} (hp : endsOk p) (h58 : ∀ c ∈ tl, c ≠ 58) (h : p4 tl = none) : par6g (p ++ tl) = par6 (p ++ tl) := by
  unfold par6 par6g
  rw [cutL_app (cutL_no h58) (no58_head h58)]
  cases hc : cut6L p with
  | none =>
    simp only [Option.map_none]
    rw [grpS_plain hp h58 h]
  | some ab =>
    obtain ⟨a, b⟩ := ab
    simp only [Option.map_some]
    rw [grpS_plain (cut_ends hp hc) h58 h]

/-- Groups as a text. -/
def gtL (gs : List Nat) : List UInt8 := jl 58 (gs.map hex4)

theorem gt_parts {gs : List Nat} (h : ∀ g ∈ gs, g < 65536) : ∀ x ∈ gs.map hex4, partOk x := by
  intro x hx
  obtain ⟨g, hg, rfl⟩ := List.mem_map.1 hx
  exact ⟨hex4_nil _, fun c hc => (hex4_no (h g hg) c hc).1⟩

theorem gt_grp (t : Bool) : ∀ {gs : List Nat}, (∀ g ∈ gs, g < 65536) → grp t (gs.map hex4) = some gs
  | [], _ => by cases t <;> rfl
  | g :: r, h => by
    have hg := h g List.mem_cons_self
    have h4 : p4 (hex4 g) = none := by
      unfold p4
      rw [spl_none 46 (fun c hc => (hex4_no hg c hc).2), if_neg (by simp)]
    rw [List.map_cons, grp, h4, gt_grp t (fun x hx => h x (List.mem_cons_of_mem _ hx)), g16_hex hg]
    simp

theorem gt_nil {gs : List Nat} : (gtL gs).isEmpty = gs.isEmpty := by
  match gs with
  | [] => rfl
  | [g] => simpa [gtL, jl] using hex4_ne g
  | g :: h :: r => 
    unfold gtL
    rw [List.map_cons, List.map_cons, jl]
    cases hex4 g <;> rfl

theorem gt_grpS (t : Bool) {gs : List Nat} (h : ∀ g ∈ gs, g < 65536) : grpS t (gtL gs) = some gs := by
  unfold grpS
  rw [gt_nil]
  cases gs with
  | nil => rfl
  | cons g r =>
    simp only [List.isEmpty_cons, Bool.false_eq_true, if_false]
    unfold gtL
    rw [spl_jl 58 (by simp) (fun x hx => (gt_parts h x hx).2), gt_grp t h]

/-- An address as a text: where f < e noughts stand for the groups from f on, up to e. -/
def ip6T (w : List Nat) (f e : Nat) : List UInt8 := if e - f < 2 then gtL w else gtL (w.take f) ++ 58 :: 58 :: gtL (w.drop e)

theorem par6_gt {w : List Nat} (hl : w.length = 8) (h : ∀ g ∈ w, g < 65536) : par6 (gtL w) = some w := by
  unfold par6
  rw [show cut6L (gtL w) = none from cut_jl (gt_parts h)]
  simp only
  rw [gt_grpS true h]
  simp only [hl, if_true]

theorem par6_text {w : List Nat} {f e : Nat} (hl : w.length = 8) (h : ∀ g ∈ w, g < 65536) (he : e ≤ 8) (hz : ∀ i, f ≤ i → i < e → w.getD i 0 = 0) : par6 (ip6T w f e) = some w := by
  unfold ip6T
  split
  · exact par6_gt hl h
  · have h1 : ∀ g ∈ w.take f, g < 65536 := fun g hg => h g (List.mem_of_mem_take hg)
    have h2 : ∀ g ∈ w.drop e, g < 65536 := fun g hg => h g (List.mem_of_mem_drop hg)
    unfold par6
    rw [show cut6L (gtL (w.take f) ++ 58 :: 58 :: gtL (w.drop e)) = some (gtL (w.take f), gtL (w.drop e)) from cut_text _ (gt_parts h1)]
    simp only
    rw [gt_grpS false h1, gt_grpS true h2]
    simp only [List.length_take, List.length_drop]
    rw [if_pos (by omega)]
    congr 1
    unfold fill8
    apply List.ext_getElem
    · simp; omega
    · intro i i1 i2
      simp only [List.length_append, List.length_take, List.length_replicate, List.length_drop] at i1
      by_cases c1 : i < f
      · rw [List.getElem_append_left (by simp; omega), List.getElem_append_left (by simp; omega), List.getElem_take]
      · by_cases c2 : i < e
        · rw [List.getElem_append_left (by simp; omega), List.getElem_append_right (by simp; omega), List.getElem_replicate]
          have := hz i (by omega) c2
          rw [List.getD_eq_getElem?_getD, List.getElem?_eq_getElem (by omega)] at this
          exact this.symm
        · rw [List.getElem_append_right (by simp; omega), List.getElem_drop]
          congr 1
          simp
          omega

theorem gt_len : ∀ gs : List Nat, (gtL gs).length ≤ 5 * gs.length - 1 ∧ gs.length ≤ (gtL gs).length
  | [] => by simp [gtL, jl]
  | [g] => by have := hex4_len g; simp [gtL, jl]; omega
  | g :: h :: r => by
    have ih := gt_len (h :: r)
    have hg := hex4_len g
    unfold gtL at ih ⊢
    rw [List.map_cons, List.map_cons, jl, List.length_append, List.length_cons]
    rw [List.map_cons] at ih
    simp only [List.length_cons] at ih ⊢
    omega

theorem ip6_len {w : List Nat} {f e : Nat} (hl : w.length = 8) (he : e ≤ 8) : 2 ≤ (ip6T w f e).length ∧ (ip6T w f e).length ≤ 39 := by
  unfold ip6T
  have g1 := gt_len w
  have g2 := gt_len (w.take f)
  have g3 := gt_len (w.drop e)
  split
  · omega
  · simp only [List.length_append, List.length_cons, List.length_take, List.length_drop] at g2 g3 ⊢
    omega

/-- The longest row of noughts, the first of these, as the code finds it: where it begins and ends, and where the row at hand begins. -/
def rowI : Nat → Nat × Nat × Nat → List Bool → Nat × Nat × Nat
  | _, s, [] => s
  | i, (f, t, b), z :: r => rowI (i + 1) (if z then (if t - f < i + 1 - b then (b, i + 1, b) else (f, t, b)) else (f, t, i + 1)) r
def runZ : List Bool → Nat
  | true :: r => runZ r + 1
  | _ => 0
/-- As the specification finds it: 8 and 8 where there is none of two or more. -/
def rowS : Nat → Nat × Nat → List Bool → Nat × Nat
  | _, s, [] => s
  | a, (f, t), z :: r => rowS (a + 1) (if 1 < runZ (z :: r) ∧ t - f < runZ (z :: r) then (a, a + runZ (z :: r)) else (f, t)) r
def rowOkB (z : List Bool) : Bool :=
  let p := rowI 0 (0, 0, 0) z
  let q := rowS 0 (8, 8) z
  decide (p.1 ≤ p.2.1) && decide (p.2.1 ≤ 8) && (if p.2.1 - p.1 < 2 then decide (q = (8, 8)) else decide (q = (p.1, p.2.1)) && (List.range 8).all fun i => !(decide (p.1 ≤ i) && decide (i < p.2.1)) || z.getD i false)
theorem rows_ok : ∀ a b c d e f g h : Bool, rowOkB [a, b, c, d, e, f, g, h] = true := by decide +kernel
end Go.Proofs.YtophgcneckjdjaaDoor
