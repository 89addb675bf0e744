/- Plain laws of chapter 7: dots, what is left of parts, their texts, slashes. -/
import Derived.Test.YtamnhegianpedaaFieldSpl
namespace Go.Proofs.Ytamnhegianpedaa
open Go.RowKit

/-- How many dots a text tells: one, two, or none. -/
def isd (l : List UInt8) : Nat := if unL l = [46] then 1 else if unL l = [46, 46] then 2 else 0
theorem isd_le (l : List UInt8) : isd l ≤ 2 := by unfold isd; split; omega; split <;> omega
theorem isd_nil : isd [] = 0 := by decide
theorem isd_dots {l : List UInt8} {n : Nat} (h : unL l = List.replicate n 46) : isd l = if 1 ≤ n ∧ n ≤ 2 then n else 0 := by
  unfold isd
  rw [h]
  match n with
  | 0 => decide
  | 1 => decide
  | 2 => decide
  | n + 3 =>
    have h1 : ¬ (List.replicate (n + 3) (46 : UInt8) = [46]) := fun e => by have := congrArg List.length e; simp at this
    have h2 : ¬ (List.replicate (n + 3) (46 : UInt8) = [46, 46]) := fun e => by have := congrArg List.length e; simp at this
    rw [if_neg h1, if_neg h2, if_neg (by omega)]
theorem isd_other {l : List UInt8} {n : Nat} {c : UInt8} {r : List UInt8} (h : unL l = List.replicate n 46 ++ c :: r) (hc : c ≠ 46) : isd l = 0 := by
  have hm : c ∈ unL l := by rw [h]; simp
  unfold isd
  rw [if_neg, if_neg]
  · intro e; rw [e] at hm; simp at hm; exact hc hm
  · intro e; rw [e] at hm; simp at hm; exact hc hm

/-- One part more. -/
def stepD (out : List ByteArray) (x : ByteArray) : List ByteArray := if isd (toL x) = 0 then out ++ [x] else if isd (toL x) = 2 then out.dropLast else out
def foldD (l : List ByteArray) : List ByteArray := l.foldl stepD []
def lastD (l : List ByteArray) : ByteArray := l.getD (l.length - 1) ByteArray.empty
/-- The parts that are left. -/
def keptD (l : List ByteArray) : List ByteArray := if isd (toL (lastD l)) = 0 then foldD l else foldD l ++ [ByteArray.empty]
/-- Parts, each with a slash ahead. -/
def slL (l : List ByteArray) : List UInt8 := l.flatMap fun x => 47 :: toL x
/-- The parts of a path. -/
def partsD (p : ByteArray) : List ByteArray := (fieldsL p 47).drop 1
def rooted (p : ByteArray) : Bool := p.data.toList.head? == some 47
/-- A path without its dots. -/
def dropT (p : ByteArray) : ByteArray := if rooted p then ⟨(slL (keptD (partsD p))).toArray⟩ else p

theorem map_toL_inj {a b : List ByteArray} (h : a.map toL = b.map toL) : a = b := by
  induction a generalizing b with
  | nil => cases b with
    | nil => rfl
    | cons _ _ => simp at h
  | cons x a ih => cases b with
    | nil => simp at h
    | cons y b =>
      simp only [List.map_cons, List.cons.injEq] at h
      rw [toL_inj h.1, ih h.2]
theorem fieldsL_47 (s : ByteArray) : (fieldsL s 47).map toL = spl 47 s.data.toList := fieldsL_spl s 47

theorem spl_cons_hit (b : UInt8) (l : List UInt8) : spl b (b :: l) = [] :: spl b l := by
  simp [spl]
theorem spl_ne_nil (b : UInt8) (l : List UInt8) : spl b l ≠ [] := by
  obtain ⟨xs, y, h, _⟩ := spl_snoc b l
  rw [h]; simp
theorem spl_no (b : UInt8) : ∀ l, ∀ x ∈ spl b l, ∀ c ∈ x, c ≠ b := by
  intro l
  have : ∀ r : List UInt8, ∀ x ∈ spl b r.reverse, ∀ c ∈ x, c ≠ b := by
    intro r
    induction r with
    | nil => intro x hx c hc; simp [spl] at hx; subst hx; cases hc
    | cons a r ih =>
      obtain ⟨xs, y, h, hn⟩ := spl_snoc b r.reverse
      rw [h] at ih
      rw [List.reverse_cons, hn a]
      intro x hx c hc
      split at hx
      · simp only [List.mem_append, List.mem_cons, List.not_mem_nil, or_false] at hx
        rcases hx with h1 | h1 | h1
        · exact ih x (by simp [h1]) c hc
        · exact ih x (by simp [h1]) c hc
        · subst h1; cases hc
      · next hne =>
        simp only [List.mem_append, List.mem_singleton] at hx
        rcases hx with h1 | h1
        · exact ih x (by simp [h1]) c hc
        · subst h1
          rcases List.mem_append.1 hc with h2 | h2
          · exact ih y (by simp) c h2
          · rw [List.mem_singleton.1 h2]; exact hne
  have h := this l.reverse
  rwa [List.reverse_reverse] at h
theorem spl_count (b : UInt8) : ∀ l, (spl b l).length = l.count b + 1 := by
  intro l
  have : ∀ r : List UInt8, (spl b r.reverse).length = r.reverse.count b + 1 := by
    intro r
    induction r with
    | nil => simp [spl]
    | cons a r ih =>
      obtain ⟨xs, y, h, hn⟩ := spl_snoc b r.reverse
      rw [h] at ih
      rw [List.reverse_cons, hn a, List.count_append]
      simp only [List.length_append, List.length_cons, List.length_nil] at ih
      by_cases e : a = b
      · rw [if_pos e, e, List.count_singleton_self]; simp only [List.length_append, List.length_cons, List.length_nil]; omega
      · rw [if_neg e, List.count_singleton, if_neg (by simpa using e)]; simp only [List.length_append, List.length_cons, List.length_nil]; omega
  have h := this l.reverse
  rwa [List.reverse_reverse] at h

theorem rooted_data {p : ByteArray} (h : rooted p = true) : ∃ r, p.data.toList = 47 :: r := by
  unfold rooted at h
  cases hp : p.data.toList with
  | nil => rw [hp] at h; simp at h
  | cons a r => rw [hp] at h; simp at h; exact ⟨r, by rw [h]⟩

theorem fields_rooted {p : ByteArray} (h : rooted p = true) : fieldsL p 47 = ByteArray.empty :: fieldsL (p.extract 1 p.size) 47 := by
  obtain ⟨r, hr⟩ := rooted_data h
  apply map_toL_inj
  have hx : (p.extract 1 p.size).data.toList = r := by rw [extract_list, take_all p p.size (Nat.le_refl _), hr]; rfl
  rw [List.map_cons, fieldsL_47, fieldsL_47, hx, hr, spl_cons_hit]
  rfl
theorem parts_rooted {p : ByteArray} (h : rooted p = true) : partsD p = fieldsL (p.extract 1 p.size) 47 := by
  unfold partsD
  rw [fields_rooted h]
  rfl
theorem fields_parts {p : ByteArray} (h : rooted p = true) : fieldsL p 47 = ByteArray.empty :: partsD p := by
  rw [parts_rooted h, fields_rooted h]
theorem sl_parts {p : ByteArray} (h : rooted p = true) : slL (partsD p) = p.data.toList := by
  have h1 := fieldsL_join p 47 (by decide) (by decide)
  rw [fields_parts h] at h1
  exact h1
theorem parts_pos {p : ByteArray} (h : rooted p = true) : 0 < (partsD p).length := by
  rw [parts_rooted h]
  simp [fieldsL]

/-- A sum over parts. -/
def sumD (f : ByteArray → Nat) (l : List ByteArray) : Nat := (l.map f).sum
theorem sumD_snoc (f : ByteArray → Nat) (l : List ByteArray) (x : ByteArray) : sumD f (l ++ [x]) = sumD f l + f x := by simp [sumD]
theorem sumD_app (f : ByteArray → Nat) (l m : List ByteArray) : sumD f (l ++ m) = sumD f l + sumD f m := by simp [sumD]
theorem sumD_drop (f : ByteArray → Nat) (l : List ByteArray) : sumD f l.dropLast ≤ sumD f l := by
  rcases List.eq_nil_or_concat l with h | ⟨m, x, h⟩
  · rw [h]; exact Nat.le_refl _
  · rw [h, List.concat_eq_append, List.dropLast_concat, sumD_snoc]; omega
theorem sumD_step (f : ByteArray → Nat) (out : List ByteArray) (x : ByteArray) : sumD f (stepD out x) ≤ sumD f out + f x := by
  unfold stepD
  split
  · rw [sumD_snoc]; exact Nat.le_refl _
  · split
    · have := sumD_drop f out; omega
    · omega
theorem sumD_dot (f : ByteArray → Nat) (out : List ByteArray) (x : ByteArray) (h : isd (toL x) ≠ 0) : sumD f (stepD out x) ≤ sumD f out := by
  unfold stepD
  rw [if_neg h]
  split
  · exact sumD_drop f out
  · exact Nat.le_refl _
theorem foldD_snoc (l : List ByteArray) (x : ByteArray) : foldD (l ++ [x]) = stepD (foldD l) x := by simp [foldD]
theorem sumD_fold (f : ByteArray → Nat) : ∀ r : List ByteArray, sumD f (foldD r.reverse) ≤ sumD f r.reverse
  | [] => Nat.le_refl _
  | x :: r => by
    rw [List.reverse_cons, foldD_snoc, sumD_snoc]
    have h1 := sumD_step f (foldD r.reverse) x
    have h2 := sumD_fold f r
    omega
theorem sum_fold (f : ByteArray → Nat) (l : List ByteArray) : sumD f (foldD l) ≤ sumD f l := by
  have h := sumD_fold f l.reverse
  rwa [List.reverse_reverse] at h
theorem lastD_snoc (l : List ByteArray) (x : ByteArray) : lastD (l ++ [x]) = x := by
  unfold lastD
  simp [List.getD_eq_getElem?_getD]
theorem sum_kept (f : ByteArray → Nat) (hf : ∀ x, f ByteArray.empty ≤ f x) (l : List ByteArray) : sumD f (keptD l) ≤ sumD f l := by
  unfold keptD
  split
  · exact sum_fold f l
  · next h =>
    rcases List.eq_nil_or_concat l with e | ⟨m, x, e⟩
    · rw [e] at h
      exact absurd isd_nil h
    · rw [List.concat_eq_append] at e
      rw [e, lastD_snoc] at h
      rw [e, foldD_snoc, sumD_snoc, sumD_snoc]
      have h1 := sumD_dot f (foldD m) x h
      have h2 := sum_fold f m
      have h3 := hf x
      omega
theorem sum_one (l : List ByteArray) : sumD (fun _ => 1) l = l.length := by
  induction l with
  | nil => rfl
  | cons x l ih => simp only [sumD, List.map_cons, List.sum_cons, List.length_cons] at ih ⊢; omega
theorem sum_size (l : List ByteArray) : sumD (fun x => x.size + 1) l = (slL l).length := by
  induction l with
  | nil => rfl
  | cons x l ih =>
    simp only [sumD, List.map_cons, List.sum_cons, slL, List.flatMap_cons, List.length_append, List.length_cons] at ih ⊢
    rw [ih]
    simp [toL]
theorem kept_length (l : List ByteArray) : (keptD l).length ≤ l.length := by
  have h := sum_kept (fun _ => 1) (fun _ => Nat.le_refl _) l
  rwa [sum_one, sum_one] at h
theorem kept_size (l : List ByteArray) : (slL (keptD l)).length ≤ (slL l).length := by
  have h := sum_kept (fun x => x.size + 1) (fun x => Nat.add_le_add_right (Nat.zero_le _) 1) l
  rwa [sum_size, sum_size] at h
theorem fold_length (l : List ByteArray) : (foldD l).length ≤ l.length := by
  have h := sum_fold (fun _ => 1) l
  rwa [sum_one, sum_one] at h

theorem step_mem {out : List ByteArray} {x y : ByteArray} (h : y ∈ stepD out x) : y ∈ out ∨ (y = x ∧ isd (toL x) = 0) := by
  unfold stepD at h
  split at h
  · next e =>
    rcases List.mem_append.1 h with h1 | h1
    · exact .inl h1
    · exact .inr ⟨List.mem_singleton.1 h1, e⟩
  · split at h
    · exact .inl (List.dropLast_subset _ h)
    · exact .inl h
theorem fold_mem : ∀ (r : List ByteArray) (y : ByteArray), y ∈ foldD r.reverse → y ∈ r ∧ isd (toL y) = 0
  | [], y, h => by simp [foldD] at h
  | x :: r, y, h => by
    rw [List.reverse_cons, foldD_snoc] at h
    rcases step_mem h with h1 | ⟨h1, h2⟩
    · have h3 := fold_mem r y h1
      exact ⟨List.mem_cons_of_mem _ h3.1, h3.2⟩
    · subst h1; exact ⟨by simp, h2⟩
theorem kept_mem {l : List ByteArray} {y : ByteArray} (h : y ∈ keptD l) : (y ∈ l ∨ y = ByteArray.empty) ∧ isd (toL y) = 0 := by
  have hf : ∀ y, y ∈ foldD l → y ∈ l ∧ isd (toL y) = 0 := fun y hy => by
    have := fold_mem l.reverse y (by rwa [List.reverse_reverse])
    exact ⟨List.mem_reverse.1 this.1, this.2⟩
  unfold keptD at h
  split at h
  · exact ⟨.inl (hf y h).1, (hf y h).2⟩
  · rcases List.mem_append.1 h with h1 | h1
    · exact ⟨.inl (hf y h1).1, (hf y h1).2⟩
    · rw [List.mem_singleton.1 h1]; exact ⟨.inr rfl, isd_nil⟩
theorem kept_ne {l : List ByteArray} (h : 0 < l.length) : keptD l ≠ [] := by
  unfold keptD
  split
  · next e =>
    rcases List.eq_nil_or_concat l with e1 | ⟨m, x, e1⟩
    · rw [e1] at h; simp at h
    · rw [List.concat_eq_append] at e1
      rw [e1, lastD_snoc] at e
      rw [e1, foldD_snoc]
      unfold stepD
      rw [if_pos e]
      simp
  · simp
theorem fold_id : ∀ r : List ByteArray, (∀ x ∈ r, isd (toL x) = 0) → foldD r.reverse = r.reverse
  | [], _ => rfl
  | x :: r, h => by
    rw [List.reverse_cons, foldD_snoc, fold_id r fun y hy => h y (List.mem_cons_of_mem _ hy)]
    unfold stepD
    rw [if_pos (h x (by simp))]
theorem kept_id {l : List ByteArray} (h : ∀ x ∈ l, isd (toL x) = 0) : keptD l = l := by
  have h1 := fold_id l.reverse fun x hx => h x (List.mem_reverse.1 hx)
  rw [List.reverse_reverse] at h1
  unfold keptD
  rw [if_pos]
  · exact h1
  · rcases List.eq_nil_or_concat l with e | ⟨m, x, e⟩
    · rw [e]; exact isd_nil
    · rw [List.concat_eq_append] at e
      rw [e, lastD_snoc]
      exact h x (by rw [e]; simp)

theorem parts_no (p : ByteArray) : ∀ x ∈ partsD p, ∀ c ∈ toL x, c ≠ 47 := by
  intro x hx c hc
  have h1 : toL x ∈ spl 47 p.data.toList := by
    rw [← fieldsL_47]
    exact List.mem_map_of_mem (List.mem_of_mem_drop hx)
  exact spl_no 47 _ _ h1 c hc
theorem sl_jl (l : List ByteArray) : slL l = jl 47 ([] :: l.map toL) := by
  have h1 : ∀ l : List ByteArray, jl 47 ([] :: l.map toL) = slL l := by
    intro l
    have h2 : ∀ (z : List UInt8) (l : List ByteArray), jl 47 (z :: l.map toL) = z ++ slL l := by
      intro z l
      induction l generalizing z with
      | nil => simp [jl, slL]
      | cons x l ih => rw [List.map_cons, jl, ih]; simp [slL]
    exact h2 [] l
  exact (h1 l).symm

theorem dropT_rooted {p : ByteArray} (h : rooted p = true) : rooted (dropT p) = true := by
  unfold dropT
  rw [if_pos h]
  cases hk : keptD (partsD p) with
  | nil => exact absurd hk (kept_ne (parts_pos h))
  | cons x l => simp [rooted, slL]
theorem dropT_data {p : ByteArray} (h : rooted p = true) : (dropT p).data.toList = slL (keptD (partsD p)) := by
  unfold dropT
  rw [if_pos h]
theorem dropT_fields {p : ByteArray} (h : rooted p = true) : fieldsL (dropT p) 47 = ByteArray.empty :: keptD (partsD p) := by
  apply map_toL_inj
  rw [fieldsL_47, dropT_data h, sl_jl _, spl_jl 47 (by simp)]
  · rfl
  · intro x hx c hc
    rcases List.mem_cons.1 hx with h1 | h1
    · subst h1; cases hc
    · obtain ⟨y, hy, e⟩ := List.mem_map.1 h1
      subst e
      rcases (kept_mem hy).1 with h2 | h2
      · exact parts_no p y h2 c hc
      · subst h2; cases hc
theorem dropT_parts {p : ByteArray} (h : rooted p = true) : partsD (dropT p) = keptD (partsD p) := by
  unfold partsD
  rw [dropT_fields h]
  rfl
theorem dropT_twice {p : ByteArray} (h : rooted p = true) : dropT (dropT p) = dropT p := by
  apply toL_inj
  show (dropT (dropT p)).data.toList = (dropT p).data.toList
  rw [dropT_data (dropT_rooted h), dropT_parts h, dropT_data h, kept_id fun x hx => (kept_mem hx).2]
theorem dropT_size (p : ByteArray) : (dropT p).size ≤ p.size := by
  by_cases h : rooted p = true
  · have h1 := kept_size (partsD p)
    rw [← dropT_data h, sl_parts h] at h1
    simpa using h1
  · unfold dropT
    rw [if_neg h]
    exact Nat.le_refl _

/-- How many slashes. -/
def depL (p : ByteArray) : Nat := p.data.toList.count 47
theorem dep_fields (p : ByteArray) : (fieldsL p 47).length = depL p + 1 := by
  have h := spl_count 47 p.data.toList
  rw [← fieldsL_47, List.length_map] at h
  exact h
theorem dep_drop {p : ByteArray} (h : rooted p = true) : depL (dropT p) ≤ depL p := by
  have h1 := dep_fields p
  have h2 := dep_fields (dropT p)
  rw [dropT_fields h] at h2
  rw [fields_parts h] at h1
  have h3 := kept_length (partsD p)
  simp only [List.length_cons] at h1 h2
  omega

/-- How many bytes there are up to the last slash of the first k. -/
def upN (p : ByteArray) : Nat → Nat
  | 0 => 0
  | k + 1 => if p.data.toList.getD k 0 = 47 then k + 1 else upN p k
theorem upN_le (p : ByteArray) : ∀ k, upN p k ≤ k
  | 0 => Nat.le_refl _
  | k + 1 => by
    have := upN_le p k
    unfold upN
    split <;> omega
theorem upN_at (p : ByteArray) : ∀ k, upN p k = 0 ∨ p.data.toList.getD (upN p k - 1) 0 = 47
  | 0 => .inl rfl
  | k + 1 => by
    unfold upN
    split
    · next h => exact .inr h
    · exact upN_at p k
theorem upN_pos {p : ByteArray} (h : rooted p = true) : ∀ k, 0 < k → 0 < upN p k
  | 0, hk => by omega
  | k + 1, _ => by
    unfold upN
    split
    · omega
    · next hn =>
      by_cases h0 : k = 0
      · obtain ⟨r, hr⟩ := rooted_data h
        rw [h0, hr] at hn
        exact absurd rfl hn
      · exact upN_pos h k (by omega)
/-- A path up to its last slash. -/
def upT (p : ByteArray) : ByteArray := p.extract 0 (upN p p.size)
theorem dot_hit {s : ByteArray} {k n : Nat} (hk : k < s.size) (h : s[k].toNat = 46) (he : unL s.data.toList = List.replicate n 46 ++ unL (s.data.toList.drop k)) :
    unL s.data.toList = List.replicate (n + 1) 46 ++ unL (s.data.toList.drop (k + 1)) := by
  have hp : pctAt s k < 0 := by
    by_cases h2 : k + 2 < s.size
    · rw [pctAt_in s k h2]; unfold pctV; rw [if_neg (by omega)]; omega
    · rw [pctAt_out s k (by omega)]; omega
  have hc : s[k] = 46 := UInt8.toNat_inj.1 h
  rw [he]
  unfold unL
  rw [tok_miss _ _ s k hk hp, hc, List.replicate_succ']
  simp
theorem dot_pct {s : ByteArray} {k n : Nat} (hk : k + 2 < s.size) (h : s[k].toNat = 37) (h1 : s[k + 1].toNat = 50) (h2 : s[k + 2].toNat = 101 ∨ s[k + 2].toNat = 69) (he : unL s.data.toList = List.replicate n 46 ++ unL (s.data.toList.drop k)) :
    unL s.data.toList = List.replicate (n + 1) 46 ++ unL (s.data.toList.drop (k + 3)) := by
  have hp : pctAt s k = 46 := by
    rw [pctAt_in s k hk, h, h1]
    rcases h2 with h2 | h2 <;> rw [h2] <;> decide
  rw [he]
  unfold unL
  rw [tok_hit _ _ s k (by omega), hp, List.replicate_succ']
  simp
theorem hex_2e : ∀ x, x < 256 → ∀ y, y < 256 → hexN x * 16 + hexN y = 46 → 0 ≤ hexN x → 0 ≤ hexN y → x = 50 ∧ (y = 101 ∨ y = 69) := by
  intro x _ y _ h hx hy
  have h1 := hexN_le x
  have h2 := hexN_le y
  have hx2 : hexN x = 2 := by omega
  have hy2 : hexN y = 14 := by omega
  unfold hexN at hx2 hy2
  refine ⟨?_, ?_⟩
  · split at hx2
    · omega
    · split at hx2
      · omega
      · split at hx2 <;> omega
  · split at hy2
    · omega
    · split at hy2
      · omega
      · split at hy2 <;> omega
theorem dot_out {s : ByteArray} {k n : Nat} (hk : k < s.size) (h : s[k].toNat ≠ 46) (h2 : ∀ _ : k + 2 < s.size, ¬ (s[k].toNat = 37 ∧ s[k + 1].toNat = 50 ∧ (s[k + 2].toNat = 101 ∨ s[k + 2].toNat = 69)))
    (he : unL s.data.toList = List.replicate n 46 ++ unL (s.data.toList.drop k)) : isd s.data.toList = 0 := by
  by_cases hp : 0 ≤ pctAt s k
  · have hk2 := pctAt_lt hp
    have hin := pctAt_in s k hk2
    have hne : pctAt s k ≠ 46 := by
      intro e
      rw [hin] at e
      unfold pctV at e
      split at e
      · next hc =>
        have := hex_2e _ s[k + 1].toNat_lt _ s[k + 2].toNat_lt e hc.2.1 hc.2.2
        exact h2 hk2 ⟨hc.1, this.1, this.2⟩
      · omega
    have hle := pctAt_le s k
    refine isd_other (n := n) (c := UInt8.ofNat (pctAt s k).toNat) (r := unL (s.data.toList.drop (k + 3))) ?_ ?_
    · rw [he]
      conv => lhs; rw [show unL (s.data.toList.drop k) = _ from tok_hit _ _ s k hp]
      rfl
    · intro e
      have e2 := congrArg UInt8.toNat e
      have e3 : (UInt8.ofNat (pctAt s k).toNat).toNat = (pctAt s k).toNat % 256 := by simp
      rw [e3] at e2
      have e4 : (pctAt s k).toNat % 256 = 46 := e2
      omega
  · refine isd_other (n := n) (c := s[k]) (r := unL (s.data.toList.drop (k + 1))) ?_ fun e => h (by rw [e]; rfl)
    rw [he]
    conv => lhs; rw [show unL (s.data.toList.drop k) = _ from tok_miss _ _ s k hk (by omega)]
    rfl
theorem dot_end {s : ByteArray} {k n : Nat} (hk : s.size ≤ k) (he : unL s.data.toList = List.replicate n 46 ++ unL (s.data.toList.drop k)) : isd s.data.toList = if 1 ≤ n ∧ n ≤ 2 then n else 0 := by
  apply isd_dots
  rw [he, List.drop_of_length_le (by simpa using hk)]
  simp [unL, tokL]

/-- What two dots take away, and what is appended. -/
theorem step_zero {out : List ByteArray} {x : ByteArray} (h : isd (toL x) = 0) : stepD out x = out ++ [x] := by unfold stepD; rw [if_pos h]
theorem step_one {out : List ByteArray} {x : ByteArray} (h : isd (toL x) = 1) : stepD out x = out := by unfold stepD; rw [if_neg (by omega), if_neg (by omega)]
theorem step_two {out : List ByteArray} {x : ByteArray} (h : isd (toL x) = 2) : stepD out x = out.take (out.length - 1) := by unfold stepD; rw [if_neg (by omega), if_pos h, List.dropLast_eq_take]
theorem fold_take (l : List ByteArray) (k : Nat) (h : k < l.length) : foldD (l.take (k + 1)) = stepD (foldD (l.take k)) (l.getD k ByteArray.empty) := by
  rw [btake_snoc l k h, foldD_snoc]

theorem sl_snoc (l : List ByteArray) (x : ByteArray) : slL (l ++ [x]) = slL l ++ 47 :: toL x := by simp [slL]
theorem sl_take (l : List ByteArray) (k : Nat) : (slL (l.take k)).length ≤ (slL l).length := by
  conv => rhs; rw [← List.take_append_drop k l]
  unfold slL
  rw [List.flatMap_append, List.length_append]
  omega
theorem sl_jn (l : List ByteArray) (h : l ≠ []) : slL l = 47 :: jn 47 l := by
  cases l with
  | nil => exact absurd rfl h
  | cons x l => simp [slL, jn, toL]
end Go.Proofs.Ytamnhegianpedaa
