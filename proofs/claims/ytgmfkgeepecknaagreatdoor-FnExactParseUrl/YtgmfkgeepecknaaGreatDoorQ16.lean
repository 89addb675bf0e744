/- HostBack, DotPlain, UrlPath, DportWalk, UrlBits, UrlPlain. -/
import Derived.Test.YtgmfkgeepecknaaGreatDoorQ15
import Derived.Lib.SlTrimSet
set_option maxHeartbeats 1000000
namespace Go.Proofs.YtgmfkgeepecknaaGreatDoor
open Go.RowKit
theorem grp_lt (t : Bool) : ∀ {fs : List (List UInt8)} {g : List Nat}, grp t fs = some g → ∀ x ∈ g, x < 65536
 | [], g, h, x, hx => by cases h; simp at hx
 | y :: r, g, h, x, hx => by
  rw [grp] at h
  split at h
  ·rename_i n hn
   cases h
   have hn4 : n < 4294967296 := by
    split at hn
    ·exact (p4_some hn).1
    cases hn
   simp only [List.mem_cons, List.not_mem_nil, or_false] at hx
   omega
  split at h
  ·cases h
  rename_i v hv
  cases hr : grp t r with
  | none => rw [hr] at h; cases h
  | some q =>
   rw [hr] at h
   cases h
   rcases List.mem_cons.1 hx with rfl | h2
   ·unfold g16 at hv
    split at hv
    ·cases hv
    exact g16_lt hv
   exact grp_lt t hr x h2
theorem grpS_lt (t : Bool) {l : List UInt8} {g : List Nat} (h : grpS t l = some g) : ∀ x ∈ g, x < 65536 := by
 unfold grpS at h
 split at h
 ·cases h
  intro x hx
  simp at hx
 exact grp_lt t h
theorem par6_lt {l : List UInt8} {g : List Nat} (h : par6 l = some g) : ∀ x ∈ g, x < 65536 := by
 unfold par6 at h
 split at h
 ·split at h
  ·cases h
  rename_i q hq
  split at h
  ·cases h
   exact grpS_lt true hq
  cases h
 split at h
 ·rename_i a b ha hb
  split at h
  ·cases h
   intro x hx
   unfold fill8 at hx
   rcases List.mem_append.1 hx with h1 | h1
   ·rcases List.mem_append.1 h1 with h2 | h2
    ·exact grpS_lt false ha x h2
    rw [(List.mem_replicate.1 h2).2]
    decide
   exact grpS_lt true hb x h1
  cases h
 cases h
theorem okG_nat {g : List Nat} (h : ∀ x ∈ g, x < 65536) : okG (g.map fun (x : Nat) => (x : Int)) = true := by
 refine okG_yes ?_
 intro x hx
 obtain ⟨y, hy, rfl⟩ := List.mem_map.1 hx
 have := h y hy
 omega
theorem read_ok (s : ByteArray) : (∃ c, readH s = .bad c ∧ 1 ≤ c ∧ c ≤ 4) ∨ (hOk (rV (readH s)) = true ∧ rC (readH s) = 0) := by
 have key : ∀ l, (∃ c, readM l = .bad c ∧ 1 ≤ c ∧ c ≤ 4) ∨ nameL ⟨l.toArray⟩ = some l → (∃ c, readM l = .bad c ∧ 1 ≤ c ∧ c ≤ 4) ∨ (hOk (rV (readM l)) = true ∧ rC (readM l) = 0) := by
  intro l hl
  rcases hl with hl | hl
  ·exact .inl hl
  unfold readM
  split
  ·cases h : loA ⟨l.toArray⟩ with
   | none => exact .inl ⟨4, rfl, by decide, by decide⟩
   | some v =>
    have := loA_lt h
    refine .inr ⟨?_, rfl⟩
    show hOk ⟨2, ⟨#[]⟩, v, zeros⟩ = true
    unfold hOk
    rw [if_neg (show ¬ (2 : Int) = 1 by decide), if_pos rfl]
    simp only [Bool.and_eq_true, decide_eq_true_eq]
    exact ⟨⟨rfl, by omega, by omega⟩, trivial⟩
  rename_i he
  refine .inr ⟨?_, rfl⟩
  show hOk ⟨1, ⟨l.toArray⟩, 0, zeros⟩ = true
  unfold hOk
  rw [if_pos rfl]
  have he' : endL ⟨l.toArray⟩ = false := by simpa using he
  simp [hl, he']
 unfold readH
 split
 ·exact .inl ⟨1, rfl, by decide, by decide⟩
 rename_i c r hl
 split
 ·unfold readS
  split
  ·cases h : par6 r.dropLast with
   | none => exact .inl ⟨2, rfl, by decide, by decide⟩
   | some g =>
    refine .inr ⟨?_, rfl⟩
    show hOk ⟨3, ⟨#[]⟩, 0, g.map fun (x : Nat) => (x : Int)⟩ = true
    unfold hOk
    rw [if_neg (show ¬ (3 : Int) = 1 by decide), if_neg (show ¬ (3 : Int) = 2 by decide), if_pos rfl]
    simp only [okG_nat (par6_lt h)]
    rfl
  exact .inl ⟨2, rfl, by decide, by decide⟩
 unfold readN
 split
 ·exact .inl ⟨3, rfl, by decide, by decide⟩
 rename_i n hn
 obtain ⟨_, _, _, _, _, _, hb, _, _⟩ := name_back hn
 exact key n (.inr hb)
def isd (l : List UInt8) : Nat := if unL l = [46] then 1 else if unL l = [46, 46] then 2 else 0
theorem isd_le (l : List UInt8) : isd l ≤ 2 := by unfold isd; split; omega; split <;> omega
theorem isd_nil : isd [] = 0 := by decide
theorem isd_dots {l : List UInt8} {n : Nat} (h : unL l = List.replicate n 46) : isd l = if 1 ≤ n ∧ n ≤ 2 then n else 0 := by
 unfold isd
 rw [h]
 match n with
 | 0 => decide
 | 1 => decide
 | 2 => decide
 | n + 3 =>
  have h1 : ¬ (List.replicate (n + 3) (46 : UInt8) = [46]) := fun e => by have := congrArg List.length e; simp at this
  have h2 : ¬ (List.replicate (n + 3) (46 : UInt8) = [46, 46]) := fun e => by have := congrArg List.length e; simp at this
  rw [if_neg h1, if_neg h2, if_neg (by omega)]
theorem isd_other {l : List UInt8} {n : Nat} {c : UInt8} {r : List UInt8} (h : unL l = List.replicate n 46 ++ c :: r) (hc : c ≠ 46) : isd l = 0 := by
 have hm : c ∈ unL l := by rw [h]; simp
 unfold isd
 rw [if_neg, if_neg]
 ·intro e; rw [e] at hm; simp at hm; exact hc hm
 intro e; rw [e] at hm; simp at hm; exact hc hm
def stepD (out : List ByteArray) (x : ByteArray) : List ByteArray := if isd (toL x) = 0 then out ++ [x] else if isd (toL x) = 2 then out.dropLast else out
def foldD (l : List ByteArray) : List ByteArray := l.foldl stepD []
def lastD (l : List ByteArray) : ByteArray := l.getD (l.length - 1) ByteArray.empty
def keptD (l : List ByteArray) : List ByteArray := if isd (toL (lastD l)) = 0 then foldD l else foldD l ++ [ByteArray.empty]
def slL (l : List ByteArray) : List UInt8 := l.flatMap fun x => 47 :: toL x
def partsD (p : ByteArray) : List ByteArray := (fieldsL p 47).drop 1
def rooted (p : ByteArray) : Bool := p.data.toList.head? == some 47
def dropT (p : ByteArray) : ByteArray := if rooted p then ⟨(slL (keptD (partsD p))).toArray⟩ else p
theorem map_toL_inj {a b : List ByteArray} (h : a.map toL = b.map toL) : a = b := by
 induction a generalizing b with
 | nil => cases b with
  | nil => rfl
  | cons _ _ => simp at h
 | cons x a ih => cases b with
  | nil => simp at h
  | cons y b =>
   simp only [List.map_cons, List.cons.injEq] at h
   rw [toL_inj h.1, ih h.2]
theorem fieldsL_47 (s : ByteArray) : (fieldsL s 47).map toL = spl 47 s.data.toList := fieldsL_spl s 47
theorem spl_cons_hit (b : UInt8) (l : List UInt8) : spl b (b :: l) = [] :: spl b l := by
 simp [spl]
theorem spl_no (b : UInt8) : ∀ l, ∀ x ∈ spl b l, ∀ c ∈ x, c ≠ b := by
 intro l
 have : ∀ r : List UInt8, ∀ x ∈ spl b r.reverse, ∀ c ∈ x, c ≠ b := by
  intro r
  induction r with
  | nil => intro x hx c hc; simp [spl] at hx; subst hx; cases hc
  | cons a r ih =>
   obtain ⟨xs, y, h, hn⟩ := spl_snoc b r.reverse
   rw [h] at ih
   rw [List.reverse_cons, hn a]
   intro x hx c hc
   split at hx
   ·simp only [List.mem_append, List.mem_cons, List.not_mem_nil, or_false] at hx
    rcases hx with h1 | h1 | h1
    ·exact ih x (by simp [h1]) c hc
    ·exact ih x (by simp [h1]) c hc
    subst h1; cases hc
   next hne =>
   simp only [List.mem_append, List.mem_singleton] at hx
   rcases hx with h1 | h1
   ·exact ih x (by simp [h1]) c hc
   subst h1
   rcases List.mem_append.1 hc with h2 | h2
   ·exact ih y (by simp) c h2
   rw [List.mem_singleton.1 h2]; exact hne
 have h := this l.reverse
 rwa [List.reverse_reverse] at h
theorem rooted_data {p : ByteArray} (h : rooted p = true) : ∃ r, p.data.toList = 47 :: r := by
 unfold rooted at h
 cases hp : p.data.toList with
 | nil => rw [hp] at h; simp at h
 | cons a r => rw [hp] at h; simp at h; exact ⟨r, by rw [h]⟩
theorem fields_rooted {p : ByteArray} (h : rooted p = true) : fieldsL p 47 = ByteArray.empty :: fieldsL (p.extract 1 p.size) 47 := by
 obtain ⟨r, hr⟩ := rooted_data h
 apply map_toL_inj
 have hx : (p.extract 1 p.size).data.toList = r := by rw [extract_list, take_all p p.size (Nat.le_refl _), hr]; rfl
 rw [List.map_cons, fieldsL_47, fieldsL_47, hx, hr, spl_cons_hit]
 rfl
theorem parts_rooted {p : ByteArray} (h : rooted p = true) : partsD p = fieldsL (p.extract 1 p.size) 47 := by
 unfold partsD
 rw [fields_rooted h]
 rfl
theorem fields_parts {p : ByteArray} (h : rooted p = true) : fieldsL p 47 = ByteArray.empty :: partsD p := by
 rw [parts_rooted h, fields_rooted h]
theorem sl_parts {p : ByteArray} (h : rooted p = true) : slL (partsD p) = p.data.toList := by
 have h1 := fieldsL_join p 47 (by decide) (by decide)
 rw [fields_parts h] at h1
 exact h1
theorem parts_pos {p : ByteArray} (h : rooted p = true) : 0 < (partsD p).length := by
 rw [parts_rooted h]
 simp [fieldsL]
def sumD (f : ByteArray → Nat) (l : List ByteArray) : Nat := (l.map f).sum
theorem sumD_snoc (f : ByteArray → Nat) (l : List ByteArray) (x : ByteArray) : sumD f (l ++ [x]) = sumD f l + f x := by simp [sumD]
theorem sumD_drop (f : ByteArray → Nat) (l : List ByteArray) : sumD f l.dropLast ≤ sumD f l := by
 rcases List.eq_nil_or_concat l with h | ⟨m, x, h⟩
 ·rw [h]; exact Nat.le_refl _
 rw [h, List.concat_eq_append, List.dropLast_concat, sumD_snoc]; omega
theorem sumD_step (f : ByteArray → Nat) (out : List ByteArray) (x : ByteArray) : sumD f (stepD out x) ≤ sumD f out + f x := by
 unfold stepD
 split
 ·rw [sumD_snoc]; exact Nat.le_refl _
 split
 ·have := sumD_drop f out; omega
 omega
theorem sumD_dot (f : ByteArray → Nat) (out : List ByteArray) (x : ByteArray) (h : isd (toL x) ≠ 0) : sumD f (stepD out x) ≤ sumD f out := by
 unfold stepD
 rw [if_neg h]
 split
 ·exact sumD_drop f out
 exact Nat.le_refl _
theorem foldD_snoc (l : List ByteArray) (x : ByteArray) : foldD (l ++ [x]) = stepD (foldD l) x := by simp [foldD]
theorem sumD_fold (f : ByteArray → Nat) : ∀ r : List ByteArray, sumD f (foldD r.reverse) ≤ sumD f r.reverse
 | [] => Nat.le_refl _
 | x :: r => by
  rw [List.reverse_cons, foldD_snoc, sumD_snoc]
  have h1 := sumD_step f (foldD r.reverse) x
  have h2 := sumD_fold f r
  omega
theorem sum_fold (f : ByteArray → Nat) (l : List ByteArray) : sumD f (foldD l) ≤ sumD f l := by
 have h := sumD_fold f l.reverse
 rwa [List.reverse_reverse] at h
theorem lastD_snoc (l : List ByteArray) (x : ByteArray) : lastD (l ++ [x]) = x := by
 unfold lastD
 simp [List.getD_eq_getElem?_getD]
theorem sum_kept (f : ByteArray → Nat) (hf : ∀ x, f ByteArray.empty ≤ f x) (l : List ByteArray) : sumD f (keptD l) ≤ sumD f l := by
 unfold keptD
 split
 ·exact sum_fold f l
 next h =>
 rcases List.eq_nil_or_concat l with e | ⟨m, x, e⟩
 ·rw [e] at h
  exact absurd isd_nil h
 rw [List.concat_eq_append] at e
 rw [e, lastD_snoc] at h
 rw [e, foldD_snoc, sumD_snoc, sumD_snoc]
 have h1 := sumD_dot f (foldD m) x h
 have h2 := sum_fold f m
 have h3 := hf x
 omega
theorem sum_one (l : List ByteArray) : sumD (fun _ => 1) l = l.length := by
 induction l with
 | nil => rfl
 | cons x l ih => simp only [sumD, List.map_cons, List.sum_cons, List.length_cons] at ih ⊢; omega
theorem sum_size (l : List ByteArray) : sumD (fun x => x.size + 1) l = (slL l).length := by
 induction l with
 | nil => rfl
 | cons x l ih =>
  simp only [sumD, List.map_cons, List.sum_cons, slL, List.flatMap_cons, List.length_append, List.length_cons] at ih ⊢
  rw [ih]
  simp [toL]
theorem kept_length (l : List ByteArray) : (keptD l).length ≤ l.length := by
 have h := sum_kept (fun _ => 1) (fun _ => Nat.le_refl _) l
 rwa [sum_one, sum_one] at h
theorem kept_size (l : List ByteArray) : (slL (keptD l)).length ≤ (slL l).length := by
 have h := sum_kept (fun x => x.size + 1) (fun x => Nat.add_le_add_right (Nat.zero_le _) 1) l
 rwa [sum_size, sum_size] at h
theorem fold_length (l : List ByteArray) : (foldD l).length ≤ l.length := by
 have h := sum_fold (fun _ => 1) l
 rwa [sum_one, sum_one] at h
theorem step_mem {out : List ByteArray} {x y : ByteArray} (h : y ∈ stepD out x) : y ∈ out ∨ (y = x ∧ isd (toL x) = 0) := by
 unfold stepD at h
 split at h
 ·next e =>
  rcases List.mem_append.1 h with h1 | h1
  ·exact .inl h1
  exact .inr ⟨List.mem_singleton.1 h1, e⟩
 split at h
 ·exact .inl (List.dropLast_subset _ h)
 exact .inl h
theorem fold_mem : ∀ (r : List ByteArray) (y : ByteArray), y ∈ foldD r.reverse → y ∈ r ∧ isd (toL y) = 0
 | [], y, h => by simp [foldD] at h
 | x :: r, y, h => by
  rw [List.reverse_cons, foldD_snoc] at h
  rcases step_mem h with h1 | ⟨h1, h2⟩
  ·have h3 := fold_mem r y h1
   exact ⟨List.mem_cons_of_mem _ h3.1, h3.2⟩
  subst h1; exact ⟨by simp, h2⟩
theorem kept_mem {l : List ByteArray} {y : ByteArray} (h : y ∈ keptD l) : (y ∈ l ∨ y = ByteArray.empty) ∧ isd (toL y) = 0 := by
 have hf : ∀ y, y ∈ foldD l → y ∈ l ∧ isd (toL y) = 0 := fun y hy => by
  have := fold_mem l.reverse y (by rwa [List.reverse_reverse])
  exact ⟨List.mem_reverse.1 this.1, this.2⟩
 unfold keptD at h
 split at h
 ·exact ⟨.inl (hf y h).1, (hf y h).2⟩
 rcases List.mem_append.1 h with h1 | h1
 ·exact ⟨.inl (hf y h1).1, (hf y h1).2⟩
 rw [List.mem_singleton.1 h1]; exact ⟨.inr rfl, isd_nil⟩
theorem kept_ne {l : List ByteArray} (h : 0 < l.length) : keptD l ≠ [] := by
 unfold keptD
 split
 ·next e =>
  rcases List.eq_nil_or_concat l with e1 | ⟨m, x, e1⟩
  ·rw [e1] at h; simp at h
  rw [List.concat_eq_append] at e1
  rw [e1, lastD_snoc] at e
  rw [e1, foldD_snoc]
  unfold stepD
  rw [if_pos e]
  simp
 simp
theorem fold_id : ∀ r : List ByteArray, (∀ x ∈ r, isd (toL x) = 0) → foldD r.reverse = r.reverse
 | [], _ => rfl
 | x :: r, h => by
  rw [List.reverse_cons, foldD_snoc, fold_id r fun y hy => h y (List.mem_cons_of_mem _ hy)]
  unfold stepD
  rw [if_pos (h x (by simp))]
theorem kept_id {l : List ByteArray} (h : ∀ x ∈ l, isd (toL x) = 0) : keptD l = l := by
 have h1 := fold_id l.reverse fun x hx => h x (List.mem_reverse.1 hx)
 rw [List.reverse_reverse] at h1
 unfold keptD
 rw [if_pos]
 ·exact h1
 rcases List.eq_nil_or_concat l with e | ⟨m, x, e⟩
 ·rw [e]; exact isd_nil
 rw [List.concat_eq_append] at e
 rw [e, lastD_snoc]
 exact h x (by rw [e]; simp)
theorem parts_no (p : ByteArray) : ∀ x ∈ partsD p, ∀ c ∈ toL x, c ≠ 47 := by
 intro x hx c hc
 have h1 : toL x ∈ spl 47 p.data.toList := by
  rw [← fieldsL_47]
  exact List.mem_map_of_mem (List.mem_of_mem_drop hx)
 exact spl_no 47 _ _ h1 c hc
theorem sl_jl (l : List ByteArray) : slL l = jl 47 ([] :: l.map toL) := by
 have h1 : ∀ l : List ByteArray, jl 47 ([] :: l.map toL) = slL l := by
  intro l
  have h2 : ∀ (z : List UInt8) (l : List ByteArray), jl 47 (z :: l.map toL) = z ++ slL l := by
   intro z l
   induction l generalizing z with
   | nil => simp [jl, slL]
   | cons x l ih => rw [List.map_cons, jl, ih]; simp [slL]
  exact h2 [] l
 exact (h1 l).symm
theorem dropT_rooted {p : ByteArray} (h : rooted p = true) : rooted (dropT p) = true := by
 unfold dropT
 rw [if_pos h]
 cases hk : keptD (partsD p) with
 | nil => exact absurd hk (kept_ne (parts_pos h))
 | cons x l => simp [rooted, slL]
theorem dropT_data {p : ByteArray} (h : rooted p = true) : (dropT p).data.toList = slL (keptD (partsD p)) := by
 unfold dropT
 rw [if_pos h]
theorem dropT_fields {p : ByteArray} (h : rooted p = true) : fieldsL (dropT p) 47 = ByteArray.empty :: keptD (partsD p) := by
 apply map_toL_inj
 rw [fieldsL_47, dropT_data h, sl_jl _, spl_jl 47 (by simp)]
 ·rfl
 intro x hx c hc
 rcases List.mem_cons.1 hx with h1 | h1
 ·subst h1; cases hc
 obtain ⟨y, hy, e⟩ := List.mem_map.1 h1
 subst e
 rcases (kept_mem hy).1 with h2 | h2
 ·exact parts_no p y h2 c hc
 subst h2; cases hc
theorem dropT_parts {p : ByteArray} (h : rooted p = true) : partsD (dropT p) = keptD (partsD p) := by
 unfold partsD
 rw [dropT_fields h]
 rfl
theorem dropT_twice {p : ByteArray} (h : rooted p = true) : dropT (dropT p) = dropT p := by
 apply toL_inj
 show (dropT (dropT p)).data.toList = (dropT p).data.toList
 rw [dropT_data (dropT_rooted h), dropT_parts h, dropT_data h, kept_id fun x hx => (kept_mem hx).2]
theorem dropT_size (p : ByteArray) : (dropT p).size ≤ p.size := by
 by_cases h : rooted p = true
 ·have h1 := kept_size (partsD p)
  rw [← dropT_data h, sl_parts h] at h1
  simpa using h1
 unfold dropT
 rw [if_neg h]
 exact Nat.le_refl _
theorem dot_hit {s : ByteArray} {k n : Nat} (hk : k < s.size) (h : s[k].toNat = 46) (he : unL s.data.toList = List.replicate n 46 ++ unL (s.data.toList.drop k)) :
  unL s.data.toList = List.replicate (n + 1) 46 ++ unL (s.data.toList.drop (k + 1)) := by
 have hp : pctAt s k < 0 := by
  by_cases h2 : k + 2 < s.size
  ·rw [pctAt_in s k h2]; unfold pctV; rw [if_neg (by omega)]; omega
  rw [pctAt_out s k (by omega)]; omega
 have hc : s[k] = 46 := UInt8.toNat_inj.1 h
 rw [he]
 unfold unL
 rw [tok_miss _ _ s k hk hp, hc, List.replicate_succ']
 simp
theorem dot_pct {s : ByteArray} {k n : Nat} (hk : k + 2 < s.size) (h : s[k].toNat = 37) (h1 : s[k + 1].toNat = 50) (h2 : s[k + 2].toNat = 101 ∨ s[k + 2].toNat = 69) (he : unL s.data.toList = List.replicate n 46 ++ unL (s.data.toList.drop k)) :
  unL s.data.toList = List.replicate (n + 1) 46 ++ unL (s.data.toList.drop (k + 3)) := by
 have hp : pctAt s k = 46 := by
  rw [pctAt_in s k hk, h, h1]
  rcases h2 with h2 | h2 <;> rw [h2] <;> decide
 rw [he]
 unfold unL
 rw [tok_hit _ _ s k (by omega), hp, List.replicate_succ']
 simp
theorem hex_2e : ∀ x, x < 256 → ∀ y, y < 256 → hexN x * 16 + hexN y = 46 → 0 ≤ hexN x → 0 ≤ hexN y → x = 50 ∧ (y = 101 ∨ y = 69) := by
 intro x _ y _ h hx hy
 have h1 := hexN_le x
 have h2 := hexN_le y
 have hx2 : hexN x = 2 := by omega
 have hy2 : hexN y = 14 := by omega
 unfold hexN at hx2 hy2
 refine ⟨?_, ?_⟩
 ·split at hx2
  ·omega
  split at hx2
  ·omega
  split at hx2 <;> omega
 split at hy2
 ·omega
 split at hy2
 ·omega
 split at hy2 <;> omega
theorem dot_out {s : ByteArray} {k n : Nat} (hk : k < s.size) (h : s[k].toNat ≠ 46) (h2 : ∀ _ : k + 2 < s.size, ¬ (s[k].toNat = 37 ∧ s[k + 1].toNat = 50 ∧ (s[k + 2].toNat = 101 ∨ s[k + 2].toNat = 69)))
  (he : unL s.data.toList = List.replicate n 46 ++ unL (s.data.toList.drop k)) : isd s.data.toList = 0 := by
 by_cases hp : 0 ≤ pctAt s k
 ·have hk2 := pctAt_lt hp
  have hin := pctAt_in s k hk2
  have hne : pctAt s k ≠ 46 := by
   intro e
   rw [hin] at e
   unfold pctV at e
   split at e
   ·next hc =>
    have := hex_2e _ s[k + 1].toNat_lt _ s[k + 2].toNat_lt e hc.2.1 hc.2.2
    exact h2 hk2 ⟨hc.1, this.1, this.2⟩
   omega
  have hle := pctAt_le s k
  refine isd_other (n := n) (c := UInt8.ofNat (pctAt s k).toNat) (r := unL (s.data.toList.drop (k + 3))) ?_ ?_
  ·rw [he]
   conv => lhs; rw [show unL (s.data.toList.drop k) = _ from tok_hit _ _ s k hp]
   rfl
  intro e
  have e2 := congrArg UInt8.toNat e
  have e3 : (UInt8.ofNat (pctAt s k).toNat).toNat = (pctAt s k).toNat % 256 := by simp
  rw [e3] at e2
  have e4 : (pctAt s k).toNat % 256 = 46 := e2
  omega
 refine isd_other (n := n) (c := s[k]) (r := unL (s.data.toList.drop (k + 1))) ?_ fun e => h (by rw [e]; rfl)
 rw [he]
 conv => lhs; rw [show unL (s.data.toList.drop k) = _ from tok_miss _ _ s k hk (by omega)]
 rfl
theorem dot_end {s : ByteArray} {k n : Nat} (hk : s.size ≤ k) (he : unL s.data.toList = List.replicate n 46 ++ unL (s.data.toList.drop k)) : isd s.data.toList = if 1 ≤ n ∧ n ≤ 2 then n else 0 := by
 apply isd_dots
 rw [he, List.drop_of_length_le (by simpa using hk)]
 simp [unL, tokL]
theorem step_zero {out : List ByteArray} {x : ByteArray} (h : isd (toL x) = 0) : stepD out x = out ++ [x] := by unfold stepD; rw [if_pos h]
theorem step_one {out : List ByteArray} {x : ByteArray} (h : isd (toL x) = 1) : stepD out x = out := by unfold stepD; rw [if_neg (by omega), if_neg (by omega)]
theorem step_two {out : List ByteArray} {x : ByteArray} (h : isd (toL x) = 2) : stepD out x = out.take (out.length - 1) := by unfold stepD; rw [if_neg (by omega), if_pos h, List.dropLast_eq_take]
theorem fold_take (l : List ByteArray) (k : Nat) (h : k < l.length) : foldD (l.take (k + 1)) = stepD (foldD (l.take k)) (l.getD k ByteArray.empty) := by
 rw [btake_snoc l k h, foldD_snoc]
theorem sl_snoc (l : List ByteArray) (x : ByteArray) : slL (l ++ [x]) = slL l ++ 47 :: toL x := by simp [slL]
theorem sl_take (l : List ByteArray) (k : Nat) : (slL (l.take k)).length ≤ (slL l).length := by
 conv => rhs; rw [← List.take_append_drop k l]
 unfold slL
 rw [List.flatMap_append, List.length_append]
 omega
theorem sl_jn (l : List ByteArray) (h : l ≠ []) : slL l = 47 :: jn 47 l := by
 cases l with
 | nil => exact absurd rfl h
 | cons x l => simp [slL, jn, toL]
theorem hex47 : hexN 47 = -1 := by decide
theorem hd_slash (a : UInt8) (r y : List UInt8) (h : pctHd (a :: r) < 0) : pctHd (a :: (r ++ 47 :: y)) < 0 := by
 match r, h with
 | [], _ =>
  match y with
  | [] => show (-1 : Int) < 0; decide
  | c :: _ =>
   show pctV a.toNat 47 c.toNat < 0
   unfold pctV
   rw [if_neg (fun h => by have := h.2.1; rw [hex47] at this; omega)]
   decide
 | [b], _ =>
  show pctV a.toNat b.toNat 47 < 0
  unfold pctV
  rw [if_neg (fun h => by have := h.2.2; rw [hex47] at this; omega)]
  decide
 | b :: c :: r, h => exact h
theorem tok_slash {α : Type} (f g : UInt8 → List α) (y x : List UInt8) : tokL f g (x ++ 47 :: y) = tokL f g x ++ (g 47 ++ tokL f g y) := by
 induction x using tok_ind with
 | h0 => exact tok_byte f g 47 y (hd_no 47 y (by decide))
 | h1 a b c r h ih =>
  show tokL f g (a :: b :: c :: (r ++ 47 :: y)) = _
  rw [tok_pct f g a b c _ h, tok_pct f g a b c _ h, ih, List.append_assoc]
 | h2 a r h ih =>
  show tokL f g (a :: (r ++ 47 :: y)) = _
  rw [tok_byte f g a _ (hd_slash a r y h), tok_byte f g a r h, ih, List.append_assoc]
theorem tok_slz {α : Type} (f g : UInt8 → List α) : ∀ (K : List ByteArray) (z : List UInt8), tokL f g (z ++ slL K) = tokL f g z ++ K.flatMap fun x => g 47 ++ tokL f g (toL x)
 | [], z => by simp [slL]
 | x :: K, z => by
  have e : z ++ slL (x :: K) = z ++ 47 :: (toL x ++ slL K) := by simp [slL]
  rw [e, tok_slash, tok_slz f g K (toL x)]
  simp
theorem tok_sl {α : Type} (f g : UInt8 → List α) (K : List ByteArray) : tokL f g (slL K) = K.flatMap fun x => g 47 ++ tokL f g (toL x) := tok_slz f g K []
theorem kept47 : keptB 1 47 = [47] := by decide
theorem ok_sl (K : List ByteArray) : okL 1 (slL K) = K.all fun x => okL 1 (toL x) := by
 unfold okL okT
 rw [tok_sl]
 induction K with
 | nil => rfl
 | cons x K ih => rw [List.flatMap_cons, List.all_append, ih, List.all_cons, List.all_append]; rfl
def plB (set : Int) (x : ByteArray) : ByteArray := ⟨(plL set (toL x)).toArray⟩
theorem toL_plB (set : Int) (x : ByteArray) : toL (plB set x) = plL set (toL x) := rfl
theorem pl_sl (K : List ByteArray) : plL 1 (slL K) = slL (K.map (plB 1)) := by
 unfold plL
 rw [tok_sl]
 induction K with
 | nil => rfl
 | cons x K ih =>
  rw [List.flatMap_cons, ih]
  have e : keptB 1 (47 : UInt8) = [47] := kept47
  rw [e]
  simp [slL, toL_plB, plL]
theorem dig_no47 : ∀ n, n < 16 → digU n ≠ 47 := by decide +kernel
theorem put_no47 (c : UInt8) : ∀ b ∈ putB c, b ≠ 47 := by
 intro b hb
 have hc := c.toNat_lt
 unfold putB at hb
 simp only [List.mem_cons, List.not_mem_nil, or_false] at hb
 rcases hb with rfl | rfl | rfl
 ·decide
 ·exact dig_no47 _ (by omega)
 exact dig_no47 _ (by omega)
theorem free_no47 (c : UInt8) : ∀ b ∈ freeB c, b ≠ 47 := by
 intro b hb
 unfold freeB at hb
 split at hb
 ·next h =>
  rw [List.mem_singleton.1 hb]
  intro e
  rw [e] at h
  exact absurd h (by decide)
 exact put_no47 c b hb
theorem kept_no47 (set : Int) (c : UInt8) (h : c ≠ 47) : ∀ b ∈ keptB set c, b ≠ 47 := by
 intro b hb
 unfold keptB at hb
 split at hb
 ·rw [List.mem_singleton.1 hb]; exact h
 exact put_no47 c b hb
theorem pl_no47 (set : Int) (l : List UInt8) : (∀ c ∈ l, c ≠ 47) → ∀ b ∈ plL set l, b ≠ 47 := by
 induction l using tok_ind with
 | h0 => intro _ b hb; simp [plL, tokL] at hb
 | h1 a b c r h ih =>
  intro hl x hx
  rw [pl_pct set a b c r h] at hx
  rcases List.mem_append.1 hx with h1 | h1
  ·exact free_no47 _ x h1
  exact ih (fun y hy => hl y (by simp [hy])) x h1
 | h2 a r h ih =>
  intro hl x hx
  rw [pl_byte set a r h] at hx
  rcases List.mem_append.1 hx with h1 | h1
  ·exact kept_no47 set a (hl a (by simp)) x h1
  exact ih (fun y hy => hl y (by simp [hy])) x h1
theorem sl_inj {K M : List ByteArray} (hK : ∀ x ∈ K, ∀ c ∈ toL x, c ≠ 47) (hM : ∀ x ∈ M, ∀ c ∈ toL x, c ≠ 47) (h : slL K = slL M) : K = M := by
 have key : ∀ {L : List ByteArray}, (∀ x ∈ L, ∀ c ∈ toL x, c ≠ 47) → spl 47 (slL L) = [] :: L.map toL := fun {L} hL => by
  rw [sl_jl, spl_jl 47 (by simp)]
  intro x hx c hc
  rcases List.mem_cons.1 hx with h1 | h1
  ·subst h1; cases hc
  obtain ⟨y, hy, rfl⟩ := List.mem_map.1 h1
  exact hL y hy c hc
 have h1 := key hK
 rw [h, key hM] at h1
 simp only [List.cons.injEq, true_and] at h1
 exact (map_toL_inj h1).symm
def pathOk (p : ByteArray) : Prop := rooted p = true ∧ okL 1 (toL p) = true ∧ plL 1 (toL p) = toL p ∧ dropT p = p
theorem parts_plain {p : ByteArray} (hr : rooted p = true) (ho : okL 1 (toL p) = true) (hp : plL 1 (toL p) = toL p) : ∀ x ∈ partsD p, okL 1 (toL x) = true ∧ plL 1 (toL x) = toL x := by
 have hs := sl_parts hr
 have hno := parts_no p
 have h1 : slL ((partsD p).map (plB 1)) = slL (partsD p) := by
  rw [← pl_sl, hs]
  exact hp
 have h2 : (partsD p).map (plB 1) = partsD p := by
  refine sl_inj ?_ hno h1
  intro x hx c hc
  obtain ⟨y, hy, rfl⟩ := List.mem_map.1 hx
  exact pl_no47 1 (toL y) (hno y hy) c hc
 have h3 : ((partsD p).all fun x => okL 1 (toL x)) = true := by
  rw [← ok_sl, hs]
  exact ho
 intro x hx
 refine ⟨List.all_eq_true.1 h3 x hx, ?_⟩
 obtain ⟨i, hi, rfl⟩ := List.getElem_of_mem hx
 have h4 := congrArg (fun l => l[i]?) h2
 simp only [List.getElem?_map, List.getElem?_eq_getElem hi, Option.map_some, Option.some.injEq] at h4
 rw [← toL_plB, h4]
theorem drop_plain {p : ByteArray} (hr : rooted p = true) (ho : okL 1 (toL p) = true) (hp : plL 1 (toL p) = toL p) : pathOk (dropT p) := by
 have hk : ∀ x ∈ keptD (partsD p), okL 1 (toL x) = true ∧ plL 1 (toL x) = toL x := fun x hx => by
  rcases (kept_mem hx).1 with h | h
  ·exact parts_plain hr ho hp x h
  rw [h]; exact ⟨rfl, rfl⟩
 have hd : toL (dropT p) = slL (keptD (partsD p)) := dropT_data hr
 refine ⟨dropT_rooted hr, ?_, ?_, dropT_twice hr⟩
 ·rw [hd, ok_sl]
  exact List.all_eq_true.2 fun x hx => (hk x hx).1
 rw [hd, pl_sl]
 congr 1
 conv => rhs; rw [← List.map_id (keptD (partsD p))]
 refine List.map_congr_left fun x hx => ?_
 apply toL_inj
 exact (hk x hx).2
theorem rooted_of {p : ByteArray} {r : List UInt8} (h : toL p = 47 :: r) : rooted p = true := by
 unfold rooted
 rw [show p.data.toList = _ from h]
 rfl
theorem path_made {q : ByteArray} (h : rooted q = true) : pathOk (dropT (plB 1 q)) := by
 obtain ⟨r, hr⟩ := rooted_data h
 have hq : toL (plB 1 q) = 47 :: plL 1 r := by
  rw [toL_plB, show toL q = _ from hr, pl_byte 1 47 r (hd_no 47 r (by decide)), kept47]
  rfl
 refine drop_plain (rooted_of hq) ?_ ?_
 ·rw [toL_plB]; exact ok_pl 1 (by decide) _
 rw [toL_plB]; exact pl_pl 1 (by decide) _
def dport (s : Int) : Int := if s = 1 then 80 else if s = 2 then 443 else 0
theorem specDefaultPort (s : Int) (w : World) :
  Calls Tryz.prog 34 #[.int .i64 s] w fun e w' => e = .returned (.int .i64 (dport s)) ∧ w = w' := by
 by_cases h1 : s = 1
 ·subst h1
  go_enter Tryz.func34, Tryz.ntmps34
  go_wp2
  go_ret
  exact ⟨rfl, rfl⟩
 have q1 : (s == 1) = false := beq_eq_false_iff_ne.2 h1
 by_cases h2 : s = 2
 ·subst h2
  go_enter Tryz.func34, Tryz.ntmps34
  go_wp2
  go_ret
  exact ⟨rfl, rfl⟩
 have q2 : (s == 2) = false := beq_eq_false_iff_ne.2 h2
 have HD : Hid (dport s = 0) := by show _ = _; unfold dport; rw [if_neg h1, if_neg h2]
 clear h1 h2
 go_enter Tryz.func34, Tryz.ntmps34
 go_wp2
 go_ret
 exact ⟨ret_int (by rw [HD.out]), rfl⟩
theorem implDefaultPort (s : Int) (w : World) :
  Calls Tryz.prog 17 #[.int .i64 s] w fun e w' => e = .returned (.int .i64 (dport s)) ∧ w = w' := by
 by_cases h1 : s = 1
 ·subst h1
  go_enter Tryz.func17, Tryz.ntmps17
  go_wp2
  go_ret
  exact ⟨rfl, rfl⟩
 have q1 : (s == 1) = false := beq_eq_false_iff_ne.2 h1
 by_cases h2 : s = 2
 ·subst h2
  go_enter Tryz.func17, Tryz.ntmps17
  go_wp2
  go_ret
  exact ⟨rfl, rfl⟩
 have q2 : (s == 2) = false := beq_eq_false_iff_ne.2 h2
 have HD : Hid (dport s = 0) := by show _ = _; unfold dport; rw [if_neg h1, if_neg h2]
 clear h1 h2
 go_enter Tryz.func17, Tryz.ntmps17
 go_wp2
 go_ret
 exact ⟨ret_int (by rw [HD.out]), rfl⟩
end Go.Proofs.YtgmfkgeepecknaaGreatDoor
namespace Go.Proofs.YtgmfkgeepecknaaGreatDoor
open Go.RowKit
set_option linter.unusedVariables false
def blanksU : List UInt8 := [32, 9, 10, 13]
def httpL : List UInt8 := [104, 116, 116, 112, 58]
def httpsL : List UInt8 := [104, 116, 116, 112, 115, 58]
def schT (s : Int) : List UInt8 := if s = 1 then httpL else httpsL
def dec5 (n : Nat) : List UInt8 := if n < 10 then [dgU n] else if n < 100 then [dgU (n / 10), dgU (n % 10)] else if n < 1000 then [dgU (n / 100), dgU (n / 10 % 10), dgU (n % 10)]
 else if n < 10000 then [dgU (n / 1000), dgU (n / 100 % 10), dgU (n / 10 % 10), dgU (n % 10)] else [dgU (n / 10000), dgU (n / 1000 % 10), dgU (n / 100 % 10), dgU (n / 10 % 10), dgU (n % 10)]
def portT (s p : Int) : List UInt8 := if p = dport s then [] else 58 :: dec5 p.toNat
def cleanL (l : List UInt8) : List UInt8 := ((Lib.trimS l blanksU).takeWhile fun c => c != 35).filter fun c => c != 9 && c != 10 && c != 13
def slB (c : UInt8) : Bool := c == 47 || c == 92
def schemeL (t : List UInt8) : Option (Int × List UInt8) :=
 if 6 < t.length ∧ (lowerL t).take 5 = httpL ∧ slB (t.getD 5 0) = true ∧ slB (t.getD 6 0) = true then some (1, t.drop 5)
 else if 7 < t.length ∧ (lowerL t).take 6 = httpsL ∧ slB (t.getD 6 0) = true ∧ slB (t.getD 7 0) = true then some (2, t.drop 6) else none
def noEnd (c : UInt8) : Bool := !(slB c || c == 63)
def lastB (l : List UInt8) : Nat → Nat
 | 0 => 0
 | k + 1 => if l.getD k 0 = 93 then k else lastB l k
def colI (l : List UInt8) : Option Nat := ((l.drop (lastB l l.length)).findIdx? fun c => c == 58).map fun k => k + lastB l l.length
def backL (l : List UInt8) : List UInt8 := l.map fun c => if c = 92 then 47 else c
def orSl (l : List UInt8) : List UInt8 := if l = [] then [47] else l
def portN (s : Int) (p : List UInt8) : Int := if p = [] then dport s else match numL 10 5 p with
 | none => -1
 | some n => (n : Int)
theorem dec5_step {n : Nat} (h0 : 10 ≤ n) (h : n < 100000) : dec5 n = dec5 (n / 10) ++ [dgU (n % 10)] := by
 unfold dec5
 by_cases h1 : n < 100
 ·rw [if_neg (by omega), if_pos h1, if_pos (by omega)]; rfl
 rw [if_neg (by omega), if_neg h1, if_neg (by omega : ¬ n / 10 < 10)]
 by_cases h2 : n < 1000
 ·rw [if_pos h2, if_pos (by omega), Nat.div_div_eq_div_mul]; rfl
 rw [if_neg h2, if_neg (by omega : ¬ n / 10 < 100)]
 by_cases h3 : n < 10000
 ·rw [if_pos h3, if_pos (by omega), Nat.div_div_eq_div_mul, Nat.div_div_eq_div_mul]; rfl
 rw [if_neg h3, if_neg (by omega : ¬ n / 10 < 1000), if_pos (by omega), Nat.div_div_eq_div_mul, Nat.div_div_eq_div_mul, Nat.div_div_eq_div_mul]; rfl
structure UV where
 s : Int
 h : HV
 p : Int
 a : ByteArray
 q : Bool
 r : ByteArray
def orgL (u : UV) : List UInt8 := schT u.s ++ 47 :: 47 :: (toL (hTx u.h) ++ portT u.s u.p)
def rstL (u : UV) : List UInt8 := if u.q then toL u.a ++ 63 :: toL u.r else toL u.a
def uOk (u : UV) : Bool := decide (dport u.s ≠ 0) && hOk u.h && decide (1 ≤ u.p ∧ u.p ≤ 65535) && rooted u.a && (u.q || decide (u.r.size = 0)) &&
 okL 1 (toL u.a) && decide (plL 1 (toL u.a) = toL u.a) && decide (toL (dropT u.a) = toL u.a) && okL 2 (toL u.r) && decide (plL 2 (toL u.r) = toL u.r)
def uTx (u : UV) : List UInt8 := if uOk u = true then orgL u ++ rstL u else []
def tailU (s : Int) (h : HV) (p : Int) (l : List UInt8) : UV :=
 ⟨s, h, p, dropT (plB 1 ⟨(backL (orSl (l.takeWhile fun c => c != 63))).toArray⟩), !(l.dropWhile fun c => c != 63).isEmpty, plB 2 ⟨((l.dropWhile fun c => c != 63).drop 1).toArray⟩⟩
def noneU : UV := ⟨0, ⟨0, ⟨#[]⟩, 0, zeros⟩, 0, ⟨#[]⟩, false, ⟨#[]⟩⟩
def fitU (u : UV) : Int × UV := if (orgL u).length + (rstL u).length ≤ 2000 then (0, u) else (1, noneU)
def hostU (s p : Int) (auth rest : List UInt8) : Int × UV := if rC (readH ⟨auth.toArray⟩) = 0 then fitU (tailU s (rV (readH ⟨auth.toArray⟩)) p rest) else (4, noneU)
def cutU (s : Int) (auth rest : List UInt8) : Int × UV := match colI auth with
 | none => hostU s (dport s) auth rest
 | some k => if 1 ≤ portN s (auth.drop (k + 1)) ∧ portN s (auth.drop (k + 1)) ≤ 65535 then hostU s (portN s (auth.drop (k + 1))) (auth.take k) rest else (5, noneU)
def authU (s : Int) (auth rest : List UInt8) : Int × UV := if auth.contains 64 = true then (3, noneU) else cutU s auth rest
def slashU (s : Int) (t : List UInt8) : Int × UV := authU s ((t.dropWhile slB).takeWhile noEnd) ((t.dropWhile slB).dropWhile noEnd)
def readT (t : List UInt8) : Int × UV := match schemeL t with
 | none => (2, noneU)
 | some (s, t) => slashU s t
def readU (l : List UInt8) : Int × UV := if 2000 < l.length then (1, noneU) else readT (cleanL l)
end Go.Proofs.YtgmfkgeepecknaaGreatDoor
