/- HostPlain, AppAt, PartsWalk, NamesBack, Loose4Impl, Parse4Walk, Par6Spec. -/
import Derived.Test.YtidecdlaeomfoaaGreatQA10
import Derived.Test.YtidecdlaeomfoaaGreatQA12
import Derived.Maps.AppendAt
import Derived.Sort.OwnSorted
set_option maxHeartbeats 8000000
set_option maxRecDepth 20000
namespace Go.Proofs.YtidecdlaeomfoaaGreat
open Go.RowKit
structure HV where
 k : Int
 s : ByteArray
 n : Int
 z : List Int
def zeros : List Int := [0, 0, 0, 0, 0, 0, 0, 0]
def hOk (h : HV) : Bool :=
 if h.k = 1 then decide (nameL h.s = some h.s.data.toList) && !endL h.s && decide (h.n = 0) && decide (h.z = zeros)
 else if h.k = 2 then decide (h.s.size = 0) && decide (0 ≤ h.n ∧ h.n < 4294967296) && decide (h.z = zeros)
 else if h.k = 3 then decide (h.s.size = 0) && decide (h.n = 0) && okG h.z
 else false
def hTx (h : HV) : ByteArray := if hOk h = true then (if h.k = 1 then h.s else if h.k = 2 then ip4T h.n else ⟨(91 :: (ip6L h.z ++ [93])).toArray⟩) else ⟨#[]⟩
structure HostR where
 t : Nat
 c : Int
 l : List UInt8
 n : Nat
 g : List Nat
def HostR.bad (c : Int) : HostR := ⟨0, c, [], 0, []⟩
def HostR.nm (l : List UInt8) : HostR := ⟨1, 0, l, 0, []⟩
def HostR.fo (n : Nat) : HostR := ⟨2, 0, [], n, []⟩
def HostR.si (g : List Nat) : HostR := ⟨3, 0, [], 0, g⟩
def unB (s : ByteArray) : ByteArray := ⟨(unL s.data.toList).toArray⟩
def readM (n : List UInt8) : HostR := if endL ⟨n.toArray⟩ = true then (match loA ⟨n.toArray⟩ with
 | none => .bad 4
 | some v => .fo v) else .nm n
def readN (s : ByteArray) : HostR := match nameL (unB s) with
 | none => .bad 3
 | some n => readM n
def readB (r : Option (List Nat)) : HostR := match r with
 | none => .bad 2
 | some g => .si g
def readS (r : List UInt8) : HostR := if r.getLast? = some 93 then readB (par6 r.dropLast) else .bad 2
def readH (s : ByteArray) : HostR := match s.data.toList with
 | [] => .bad 1
 | c :: r => if c = 91 then readS r else readN s
def rV (r : HostR) : HV := match r.t with
 | 0 => ⟨0, ⟨#[]⟩, 0, zeros⟩
 | 1 => ⟨1, ⟨r.l.toArray⟩, 0, zeros⟩
 | 2 => ⟨2, ⟨#[]⟩, r.n, zeros⟩
 | _ => ⟨3, ⟨#[]⟩, 0, r.g.map fun (x : Nat) => (x : Int)⟩
def rC (r : HostR) : Int := r.c
theorem readH_nil {s : ByteArray} (h : s.size = 0) : readH s = .bad 1 := by
 have e : s.data.toList = [] := List.eq_nil_of_length_eq_zero (by simpa using h)
 unfold readH
 rw [e]
theorem readH_six {s : ByteArray} (h : 0 < s.size) (h0 : s[0].toNat = 91) : readH s = readS (s.extract 1 s.size).data.toList := by
 have e := toL_one s h
 unfold readH
 rw [e]
 simp only
 rw [if_pos (u8_is h0)]
theorem readH_name {s : ByteArray} (h : 0 < s.size) (h0 : ¬ s[0].toNat = 91) : readH s = readN s := by
 have e := toL_one s h
 unfold readH
 rw [e]
 simp only
 rw [if_neg (u8_not h0)]
theorem unB_size (s : ByteArray) : (unB s).size ≤ s.size := by
 unfold unB
 show (unL s.data.toList).toArray.size ≤ s.size
 rw [List.size_toArray]
 have := un_len s.data.toList
 simpa using this
theorem arr_back (s : ByteArray) : (⟨s.data.toList.toArray⟩ : ByteArray) = s := by
 apply toL_inj
 simp [toL]
theorem nameL_le {s : ByteArray} {n : List UInt8} (h : nameL s = some n) : n.length ≤ 253 := by
 unfold nameL namesL at h
 split at h
 ·split at h
  ·cases h; assumption
  cases h
 cases h
theorem wpList_append_newAt {P : Program} (wr : World) {ops : Array Oper} {rest : List Oper} {o : Oper} {a : Act} {Q : Exit → Act → World → Prop}
  (hg : o.guard = none) (s x : Operand) (t : TypeId) (hop : o.op = .call { callee := .builtin .append, args := #[s, x], argTypes := #[t, t] })
  (B : Nat) (e : TypeId) (z : Value) (bytes : Nat) (ht : P.underlying t = some (.slice e)) (hinfo : (P.info? e).map (fun i => (i.zero, i.size, i.bytes)) = some (some z, 1, bytes)) (hz : z.cells.size = 1)
  (v : Value) (n : Nat) (xs : List Value) (hs : a.eval s = v) (hown : wr.ownsRow B e 1 v n xs)
  (cs : Array Value) (m : Nat) (hm : cs.size = m) (hx : a.eval x = .slice (some ⟨wr.heap.size, 0, none⟩) m m) (h1 : ∀ u ∈ cs.toList, u.oneCell' = true)
  (hroom : (n + m) * bytes ≤ 140737488355328) (hroom' : n + m ≤ maxLen) (hB : B ≤ wr.heap.size)
  (hK : ∀ v' w1, w1.ownsRow B e 1 v' (n + m) (xs ++ cs.toList) → wr.grownBy w1 v.ownBlock → (v'.ownBlock = v.ownBlock ∨ v'.ownBlock = some (wr.heap.size + 1)) → wpList P ops Q rest (a.put o.dst v') w1) :
  wpList P ops Q (o :: rest) a (wr.alloc (.cells cs e)) := by
 obtain ⟨i0, hi, hz0, hz1, hz2⟩ := info_parts hinfo
 refine wpList_append_own_at (wr.alloc (.cells cs e)) hg s x t hop B e i0 z 1 bytes ht hi hz0 hz1 hz2 hz (by decide) v n xs hs (hown.alloc _) ⟨wr.heap.size, 0, none⟩ m m cs.toList hx (by simp [hm]) ?_ h1 hroom' hroom (by simp; omega) ?_
 ·intro j u hj
  rw [Addr.add_lit, Nat.zero_add]
  rw [World.cell?_alloc_at _ _ _ _ rfl]
  simpa using hj
 intro v' w1 h1 h2 _ h4
 refine hK v' w1 h1 ⟨h2.os, h2.tape, h2.output, ?_, fun k hk hne => (h2.block k (by simp; omega) hne).trans (Below.heap_alloc wr _ k hk)⟩ (by simpa using h4)
 have := h2.size
 simp at this
 omega
theorem own_base {w : World} {B B' : Nat} {e : TypeId} {size : Nat} {v : Value} {n : Nat} {xs : List Value} (h : w.ownsRow B e size v n xs) (hb : B' ≤ B) : w.ownsRow B' e size v n xs :=
 ⟨h.1, h.2.imp id fun ⟨g, cap, cur, h1, h2, h3⟩ => ⟨g, cap, cur, h1, Nat.le_trans hb h2, h3⟩⟩
def partsL (s : ByteArray) : List ByteArray := if s.size = 0 then [] else (fieldsL s 46).reverse
theorem fieldsL_pos (s : ByteArray) (b : Int) : 0 < (fieldsL s b).length := by simp [fieldsL]
def noDot (l : List UInt8) : Prop := ∀ c ∈ l, c ≠ 46
theorem cut_eq : ∀ {a b r q : List UInt8}, noDot a → noDot b → (r = [] ∨ ∃ t, r = 46 :: t) → (q = [] ∨ ∃ t, q = 46 :: t) → a ++ r = b ++ q → a = b ∧ r = q
 | [], [], r, q, _, _, _, _, h => ⟨rfl, h⟩
 | [], y :: b, r, q, _, hb, hr, _, h => by
  exfalso
  rcases hr with rfl | ⟨t, rfl⟩
  ·simp at h
  simp at h
  exact hb y List.mem_cons_self h.1.symm
 | x :: a, [], r, q, ha, _, _, hq, h => by
  exfalso
  rcases hq with rfl | ⟨t, rfl⟩
  ·simp at h
  simp at h
  exact ha x List.mem_cons_self h.1
 | x :: a, y :: b, r, q, ha, hb, hr, hq, h => by
  simp only [List.cons_append, List.cons.injEq] at h
  obtain ⟨h1, h2⟩ := cut_eq (fun c hc => ha c (List.mem_cons_of_mem _ hc)) (fun c hc => hb c (List.mem_cons_of_mem _ hc)) hr hq h.2
  exact ⟨by rw [h.1, h1], h2⟩
theorem jn_cons (x y : ByteArray) (r : List ByteArray) : jn 46 (x :: y :: r) = x.data.toList ++ 46 :: jn 46 (y :: r) := by
 simp [jn]
theorem data_inj {x y : ByteArray} (h : x.data.toList = y.data.toList) : x = y := by
 apply ByteArray.ext
 exact Array.toList_inj.1 h
theorem jn_inj : ∀ {xs ys : List ByteArray}, xs ≠ [] → ys ≠ [] → (∀ x ∈ xs, noDot x.data.toList) → (∀ y ∈ ys, noDot y.data.toList) → jn 46 xs = jn 46 ys → xs = ys
 | [], _, h, _, _, _, _ => absurd rfl h
 | _ :: _, [], _, h, _, _, _ => absurd rfl h
 | [x], [y], _, _, _, _, h => by
  simp only [jn, List.flatMap_nil, List.append_nil] at h
  rw [data_inj h]
 | [x], y :: z :: r, _, _, hx, hy, h => by
  exfalso
  rw [jn_cons] at h
  have h' : x.data.toList ++ [] = y.data.toList ++ 46 :: jn 46 (z :: r) := by rw [← h]; simp [jn]
  obtain ⟨_, h2⟩ := cut_eq (hx x List.mem_cons_self) (hy y List.mem_cons_self) (.inl rfl) (.inr ⟨_, rfl⟩) h'
  cases h2
 | x :: z :: r, [y], _, _, hx, hy, h => by
  exfalso
  rw [jn_cons] at h
  have h' : x.data.toList ++ 46 :: jn 46 (z :: r) = y.data.toList ++ [] := by rw [h]; simp [jn]
  obtain ⟨_, h2⟩ := cut_eq (hx x List.mem_cons_self) (hy y List.mem_cons_self) (.inr ⟨_, rfl⟩) (.inl rfl) h'
  cases h2
 | x :: z :: r, y :: u :: q, _, _, hx, hy, h => by
  rw [jn_cons, jn_cons] at h
  obtain ⟨h1, h2⟩ := cut_eq (hx x List.mem_cons_self) (hy y List.mem_cons_self) (.inr ⟨_, rfl⟩) (.inr ⟨_, rfl⟩) h
  have h3 : jn 46 (z :: r) = jn 46 (u :: q) := by simpa using h2
  have h4 := jn_inj (by simp) (by simp) (fun a ha => hx a (List.mem_cons_of_mem _ ha)) (fun a ha => hy a (List.mem_cons_of_mem _ ha)) h3
  rw [data_inj h1, h4]
theorem fields_noDot (s : ByteArray) : ∀ k, k ≤ s.size → (fieldsTo s 46 k).2 ≤ k ∧ (∀ x ∈ (fieldsTo s 46 k).1, noDot x.data.toList) ∧ noDot ((s.data.toList.take k).drop (fieldsTo s 46 k).2)
 | 0, _ => by simp [fieldsTo, noDot]
 | k + 1, hk => by
  obtain ⟨h0, h1, h2⟩ := fields_noDot s k (by omega)
  by_cases e : (s[k].toNat : Int) = 46
  ·rw [fieldsTo_hit s 46 k (by omega) e]
   refine ⟨Nat.le_refl _, fun x hx => ?_, ?_⟩
   ·rcases List.mem_append.1 hx with h | h
    ·exact h1 x h
    rw [List.mem_singleton.1 h, extract_list]
    exact h2
   simp only
   rw [List.drop_of_length_le (by rw [List.length_take]; omega)]
   intro c hc
   simp at hc
  rw [fieldsTo_miss s 46 k (by omega) e]
  refine ⟨by omega, h1, ?_⟩
  rw [take_snoc s k (by omega), List.drop_append_of_le_length (by rw [List.length_take]; simp; omega)]
  intro c hc
  rcases List.mem_append.1 hc with h | h
  ·exact h2 c h
  rw [List.mem_singleton.1 h]
  intro h3
  apply e
  rw [h3]
  rfl
theorem fieldsL_noDot (s : ByteArray) : ∀ x ∈ fieldsL s 46, noDot x.data.toList := by
 obtain ⟨_, h1, h2⟩ := fields_noDot s s.size (Nat.le_refl _)
 intro x hx
 unfold fieldsL at hx
 rcases List.mem_append.1 hx with h | h
 ·exact h1 x h
 rw [List.mem_singleton.1 h, extract_list]
 exact h2
theorem lab_noDot {l : List UInt8} (h : labL l = true) : noDot l := fun c hc he => by
 have := labB_parts ((labL_parts h).2.2.2.2 c hc)
 rw [he] at this
 revert this
 decide
theorem fields_jn {ls : List ByteArray} (hne : ls ≠ []) (h : ∀ a ∈ ls, labL a.data.toList = true) : fieldsL ⟨(jn 46 ls).toArray⟩ 46 = ls := by
 refine jn_inj (by intro h0; have := fieldsL_pos ⟨(jn 46 ls).toArray⟩ 46; rw [h0] at this; simp at this) hne (fieldsL_noDot _) (fun x hx => lab_noDot (h x hx)) ?_
 exact fieldsL_join ⟨(jn 46 ls).toArray⟩ 46 (by decide) (by decide)
theorem dropE_labs {ls : List ByteArray} (h : ∀ a ∈ ls, labL a.data.toList = true) : dropE ls = ls := by
 unfold dropE
 refine if_neg fun hh => ?_
 have hl : ls.length - 1 < ls.length := by omega
 have hm : ls.getD (ls.length - 1) ByteArray.empty ∈ ls := by
  rw [List.getD_eq_getElem?_getD, List.getElem?_eq_getElem hl]
  exact List.getElem_mem hl
 have := (labL_parts (h _ hm)).1
 have e : (ls.getD (ls.length - 1) ByteArray.empty).data.toList.length = (ls.getD (ls.length - 1) ByteArray.empty).size := by simp
 omega
theorem name_back {s : ByteArray} {n : List UInt8} (h : nameL s = some n) : ∃ ls : List ByteArray, ls ≠ [] ∧ ls.length ≤ 253 ∧ n.length ≤ 253 ∧ (∀ a ∈ ls, labL a.data.toList = true ∧ a.size ≤ 63) ∧ n = jn 46 ls ∧
  nameL ⟨n.toArray⟩ = some n ∧ partsL ⟨n.toArray⟩ = ls.reverse ∧ 0 < n.length := by
 unfold nameL at h
 have hp := dropE_pos (fieldsL_pos s 46)
 generalize dropE (fieldsL s 46) = fs at h hp
 unfold namesL at h
 cases hr : ascs fs with
 | none => rw [hr] at h; cases h
 | some ls =>
  rw [hr] at h
  simp only at h
  split at h
  ·rename_i hle
   cases h
   have hl := ascs_len hr
   have hne : ls ≠ [] := by intro h0; rw [h0] at hl; simp at hl; omega
   have hlab := ascs_labs hr
   have hlab1 : ∀ a ∈ ls, labL a.data.toList = true := fun a ha => (hlab a ha).1
   have hf := fields_jn hne hlab1
   have hpos : 0 < (jn 46 ls).length ∧ ls.length ≤ (jn 46 ls).length := by
    have key : ∀ ms : List ByteArray, ms.length ≤ (ms.flatMap fun y => (46 : UInt8) :: y.data.toList).length := by
     intro ms
     induction ms with
     | nil => simp
     | cons m ms ih => rw [List.flatMap_cons, List.length_append, List.length_cons, List.length_cons]; omega
    match ls, hne, hlab1 with
    | x :: xs, _, h1 =>
     have h2 := (labL_parts (h1 x List.mem_cons_self)).1
     have h3 := key xs
     unfold jn
     rw [List.length_append, List.length_cons]
     omega
   refine ⟨ls, hne, by omega, hle, fun a ha => ⟨hlab1 a ha, labs_size hlab a ha⟩, rfl, ?_, ?_, hpos.1⟩
   ·unfold nameL
    rw [hf, dropE_labs hlab1]
    exact namesL_yes (ascs_self fun a ha => (hlab a ha).2) hle
   unfold partsL
   rw [hf, if_neg]
   show ¬ (jn 46 ls).toArray.size = 0
   rw [List.size_toArray]
   omega
  cases h

theorem st_end (fs : List ByteArray) (k n : Nat) (h : ¬ k < fs.length) : stF n ((fs.drop k).map toL) = some n := by
 rw [List.drop_of_length_le (by omega)]; rfl
theorem st_step (fs : List ByteArray) (k n : Nat) (h : k < fs.length) : stF n ((fs.drop k).map toL) = match str1 (toL (fs.getD k ByteArray.empty)) with
  | none => none
  | some v => stF (n * 256 + v) ((fs.drop (k + 1)).map toL) := by
 rw [drop_bytes fs k h]
 rfl
theorem str1_nil {y : ByteArray} (h : y.size = 0) : str1 (toL y) = none := by
 have : toL y = [] := List.eq_nil_of_length_eq_zero (by simpa [toL] using h)
 rw [this]; rfl
theorem str1_at {y : ByteArray} (h : 0 < y.size) : str1 (toL y) = match numL 10 3 (toL y) with
  | none => none
  | some v => if 255 < v ∨ 1 < y.size ∧ y[0].toNat = 48 then none else some v := by
 have e := toL_one y h
 unfold str1
 rw [show (toL y).isEmpty = false by unfold toL; rw [e]; rfl]
 simp only [Bool.false_eq_true, if_false]
 cases numL 10 3 (toL y) with
 | none => rfl
 | some v =>
  simp only
  have e1 : (1 < (toL y).length ∧ (toL y).head? = some 48) ↔ (1 < y.size ∧ y[0].toNat = 48) := by
   have e2 : (toL y).head? = some y[0] := by unfold toL; rw [e]; rfl
   have e3 : (toL y).length = y.size := by simp [toL]
   rw [e2, e3]
   constructor
   ·rintro ⟨a, b⟩
    exact ⟨a, by injection b with b; rw [b]; rfl⟩
   rintro ⟨a, b⟩
   exact ⟨a, by rw [u8_is (d := 48) b]⟩
  simp only [e1]
theorem specParseIp4 (s : ByteArray) (w : World) (hs : s.size ≤ 1048576) :
  Calls Tryz.prog 85 #[.string s] w fun e w' => e = .returned (numA (p4 s.data.toList)) ∧ Below w.heap.size w w' := by
 have CF : Hid (Calls Tryz.prog 74 #[.string s, .int .u8 46] w fun e w' => ∃ v, e = .returned v ∧ w'.ownsRow w.heap.size 9 1 v (fieldsL s 46).length (scells (fieldsL s 46)) ∧ Below w.heap.size w w') := specFields s 46 w hs
 have hpos : 0 < (fieldsL s 46).length := by simp [fieldsL]
 have hlen : (fieldsL s 46).length ≤ 1048577 := by
  have := (fieldsTo_le s 46 s.size).2
  simp [fieldsL]; omega
 have HSZ : Hid (∀ x ∈ fieldsL s 46, x.size ≤ 1048576) := fields_sizes46 s hs
 have HP : Hid (p4 s.data.toList = if (fieldsL s 46).length = 4 then stF 0 ((fieldsL s 46).map toL) else none) := by
  show _ = _
  unfold p4
  rw [← fieldsL_46, List.length_map]
 generalize fieldsL s 46 = fs at CF hpos hlen HSZ HP
 by_cases h4 : fs.length = 4
 ·have HF : Hid (p4 s.data.toList = stF 0 (fs.map toL)) := by
   show _ = _
   rw [HP.out, if_pos h4]
  have HM : Hid (fs.length = 4) := h4
  go_enter Tryz.func85, Tryz.ntmps85
  go_wp2_with fail
  refine CF.out.mono ?_
  rintro e wa ⟨va, rfl, OV, ba⟩
  rcases own_shape OV with ⟨h, _⟩ | ⟨_, g, cap, rfl⟩
  ·omega
  rw [h4] at OV ⊢
  clear h4 hpos hlen CF HP
  go_wp2_with fail
  go_loop [5, 6] (fun x i => ∃ (k n : Nat) (a : Int), k ≤ 4 ∧ i = .int .i64 k ∧ x = .int .i64 a ∧ a = (n : Int) ∧ n < 256 ^ k ∧ stF n ((fs.drop k).map toL) = stF 0 (fs.map toL)) (fun _ i => 4 - (intOf i).toNat)
  case atStart => exact ⟨0, 0, 0, by omega, rfl, rfl, rfl, by decide, rfl⟩
  obtain ⟨k, n, a, hk, rfl, rfl, ha, hn, hf⟩ := hrel
  have HR : Hid (stF n ((fs.drop k).map toL) = stF 0 (fs.map toL)) := hf
  have HN : Hid (n < 256 ^ k) := hn
  have HA : Hid (a = (n : Int)) := ha
  clear hf
  by_cases hlt : k < 4
  ·have hn2 : n < 16777216 := Nat.lt_of_lt_of_le hn (pow256 (by omega))
   have ha0 : 0 ≤ a := by omega
   have ha1 : a < 16777216 := by omega
   clear hn hn2 ha
   have hc := scell_at OV k (by omega)
   have hsy := HSZ.out _ (mem_getD (k := k) (by have := HM.out; omega))
   have HS : Hid (_ = _) := st_step fs k n (by have := HM.out; omega)
   have CN : Hid (∀ W, CS 50 #[.string (fs.getD k ByteArray.empty), .int .i64 10, .int .i64 3] W (.int .i64 (numZ (numL 10 3 (toL (fs.getD k ByteArray.empty)))))) := fun W => spec5Number _ 10 3 W (by omega) (by omega)
   generalize fs.getD k ByteArray.empty = y at hc hsy HS CN
   have hki : (k : Int) < 4 := by omega
   by_cases he : y.size = 0
   ·have HZ : Hid (p4 s.data.toList = none) := by
     show _ = _
     rw [HF.out, ← HR.out, HS.out, str1_nil he]
    have hem := empty_yes he
    clear he
    generalize numZ (numL 10 3 (toL y)) = z at CN
    go_wp2_with fail
    refine (CN.out _).mono ?_
    rintro e w' ⟨rfl, rfl⟩
    go_wp2_with fail
    go_ret2
    exact ⟨by rw [HZ.out]; rfl, ba⟩
   have hpy : 0 < y.size := by omega
   have hem := empty_no hpy
   have HS1 : Hid (_ = _) := str1_at hpy
   clear he
   cases hv : numL 10 3 (toL y) with
   | none =>
    rw [hv] at CN HS1
    have HZ : Hid (p4 s.data.toList = none) := by
     show _ = _
     rw [HF.out, ← HR.out, HS.out, HS1.out]
    clear hv
    go_wp2_with fail
    refine (CN.out _).mono ?_
    rintro e w' ⟨rfl, rfl⟩
    simp only [numZ]
    go_wp2_with fail
    refine (specL1In_no _ _ _ _ (by omega)).mono ?_
    rintro e w' ⟨rfl, rfl⟩
    go_wp2_with fail
    go_ret2
    exact ⟨by rw [HZ.out]; rfl, ba⟩
   | some v =>
    rw [hv] at CN HS1
    clear hv
    obtain ⟨x, hx⟩ : ∃ x : Int, (v : Int) = x := ⟨_, rfl⟩
    have HX : Hid ((v : Int) = x) := hx
    have hx0 : 0 ≤ x := by omega
    by_cases hvr : 255 < v
    ·have HZ : Hid (p4 s.data.toList = none) := by
      show _ = _
      rw [HF.out, ← HR.out, HS.out, HS1.out]
      simp only
      rw [if_pos (.inl hvr)]
     have hx1 : 255 < x := by omega
     clear hvr hx
     go_wp2_with fail
     refine (CN.out _).mono ?_
     rintro e w' ⟨rfl, rfl⟩
     simp only [numZ]
     rw [HX.out]
     go_wp2_with fail
     refine (specL1In_no _ _ _ _ (by omega)).mono ?_
     rintro e w' ⟨rfl, rfl⟩
     go_wp2_with fail
     go_ret2
     exact ⟨by rw [HZ.out]; rfl, ba⟩
    have hx1 : x ≤ 255 := by omega
    have hx2 : v < 256 := by omega
    have HV : Hid (v < 256) := hx2
    obtain ⟨d, hd⟩ : ∃ d : Nat, y[0].toNat = d := ⟨_, rfl⟩
    by_cases hq : 1 < y.size ∧ d = 48
    ·have HZ : Hid (p4 s.data.toList = none) := by
      show _ = _
      rw [HF.out, ← HR.out, HS.out, HS1.out]
      simp only
      rw [if_pos (.inr ⟨hq.1, hd.trans hq.2⟩)]
     obtain ⟨hq1, rfl⟩ := hq
     have hq1' : 1 < (y.size : Int) := by omega
     clear hvr hx hx2
     go_wp2_with fail
     refine (CN.out _).mono ?_
     rintro e w' ⟨rfl, rfl⟩
     simp only [numZ]
     rw [HX.out]
     go_wp2_with fail
     refine (specL1In_yes _ _ _ _ (by omega) (by omega)).mono ?_
     rintro e w' ⟨rfl, rfl⟩
     go_wp2_with fail
     go_ret2
     exact ⟨by rw [HZ.out]; rfl, ba⟩
    have HG : Hid (stF (n * 256 + v) ((fs.drop (k + 1)).map toL) = stF 0 (fs.map toL)) := by
     show _ = _
     rw [← HR.out, HS.out, HS1.out]
     simp only
     rw [if_neg]
     rintro (h | ⟨h, h'⟩)
     ·exact hvr h
     exact hq ⟨h, hd.symm.trans h'⟩
    clear hvr hx hx2
    by_cases hq1 : 1 < y.size
    ·have hq1' : 1 < (y.size : Int) := by omega
     have hq2 : ((d : Int) == 48) = false := by simp; omega
     clear hq
     go_wp2_with fail
     refine (CN.out _).mono ?_
     rintro e w' ⟨rfl, rfl⟩
     simp only [numZ]
     rw [HX.out]
     go_wp2_with fail
     refine (specL1In_yes _ _ _ _ (by omega) (by omega)).mono ?_
     rintro e w' ⟨rfl, rfl⟩
     go_wp2_with fail
     go_round
     case rel => exact ⟨k + 1, n * 256 + v, a * 256 + x, by omega, by go_num, by go_num, by have h1 := HA.out; have h2 := HX.out; omega, by have h1 := HN.out; have h2 := HV.out; rw [Nat.pow_succ]; omega, HG.out⟩
     case measure => simp [intOf]; omega
    have hq1' : ¬ 1 < (y.size : Int) := by omega
    clear hq
    go_wp2_with fail
    refine (CN.out _).mono ?_
    rintro e w' ⟨rfl, rfl⟩
    simp only [numZ]
    rw [HX.out]
    go_wp2_with fail
    refine (specL1In_yes _ _ _ _ (by omega) (by omega)).mono ?_
    rintro e w' ⟨rfl, rfl⟩
    go_wp2_with fail
    go_round
    case rel => exact ⟨k + 1, n * 256 + v, a * 256 + x, by omega, by go_num, by go_num, by have h1 := HA.out; have h2 := HX.out; omega, by have h1 := HN.out; have h2 := HV.out; rw [Nat.pow_succ]; omega, HG.out⟩
    case measure => simp [intOf]; omega
  have HZ : Hid (p4 s.data.toList = some n) := by
   show _ = _
   rw [HF.out, ← HR.out]
   exact st_end fs k n (by have := HM.out; omega)
  have hki : ¬ (k : Int) < 4 := by omega
  clear hn ha
  go_wp2_with fail
  go_ret2
  exact ⟨by rw [HZ.out]; have h1 := HA.out; simp [numA]; exact h1, ba⟩
 have HZ : Hid (p4 s.data.toList = none) := by
  show _ = _
  rw [HP.out, if_neg h4]
 have h4' : ((fs.length : Int) == 4) = false := by simp; omega
 clear h4 HP
 go_enter Tryz.func85, Tryz.ntmps85
 go_wp2_with fail
 refine CF.out.mono ?_
 rintro e wa ⟨va, rfl, OV, ba⟩
 rcases own_shape OV with ⟨h, _⟩ | ⟨_, g, cap, rfl⟩
 ·omega
 have h0' : 0 < (fs.length : Int) := by omega
 go_wp2_with fail
 refine wp_loop_rounds 1 ?_
 rw [rounds_succ]
 go_wp2_with fail
 go_ret2
 exact ⟨by rw [HZ.out]; rfl, ba⟩
def dblN : List UInt8 → Option Nat
 | [] => none
 | c :: r => if c = 58 ∧ r.head? = some 58 then some 0 else (dblN r).map (· + 1)
theorem dbl_cut : ∀ l, cut6L l = (dblN l).map fun k => (l.take k, l.drop (k + 2))
 | [] => rfl
 | c :: r => by
  rw [cut6L, dblN, dbl_cut r]
  split
  ·cases r <;> simp
  cases dblN r <;> simp
theorem dbl_lt : ∀ {l : List UInt8} {k : Nat}, dblN l = some k → k + 2 ≤ l.length
 | [], k, h => by cases h
 | c :: r, k, h => by
  rw [dblN] at h
  split at h
  ·rename_i hc
   cases h
   cases r with
   | nil => simp at hc
   | cons d q => simp
  cases hr : dblN r with
  | none => rw [hr] at h; cases h
  | some j =>
   rw [hr] at h
   cases h
   have := dbl_lt hr
   simp
   omega
theorem dbl_step (s : ByteArray) (k : Nat) (h : k + 1 < s.size) : dblN (s.data.toList.drop k) = if s[k].toNat = 58 ∧ s[k + 1].toNat = 58 then some 0 else (dblN (s.data.toList.drop (k + 1))).map (· + 1) := by
 have h1 : s.data.toList.drop k = s[k] :: s.data.toList.drop (k + 1) := List.drop_eq_getElem_cons (by simp; omega)
 have h2 : s.data.toList.drop (k + 1) = s[k + 1] :: s.data.toList.drop (k + 1 + 1) := List.drop_eq_getElem_cons (by simp; omega)
 rw [h1, dblN]
 have h3 : (s.data.toList.drop (k + 1)).head? = some s[k + 1] := by rw [h2]; rfl
 rw [h3]
 by_cases hc : s[k].toNat = 58 ∧ s[k + 1].toNat = 58
 ·rw [if_pos hc, if_pos ⟨u8_is hc.1, by rw [u8_is (d := 58) hc.2]⟩]
 rw [if_neg hc, if_neg]
 rintro ⟨a, b⟩
 apply hc
 injection b with b
 exact ⟨by rw [a]; rfl, by rw [b]; rfl⟩
theorem dbl_end (s : ByteArray) (k : Nat) (h : ¬ k + 1 < s.size) : dblN (s.data.toList.drop k) = none := by
 have hl : (s.data.toList.drop k).length ≤ 1 := by simp; omega
 match hd : s.data.toList.drop k, hl with
 | [], _ => rfl
 | [c], _ => simp [dblN]
 | _ :: _ :: _, hl => simp at hl
def dblZ (r : Option Nat) : Int := match r with
 | none => -1
 | some k => k
theorem specDouble (s : ByteArray) (w : World) (hs : s.size ≤ 1048576) :
  Calls Tryz.prog 72 #[.string s] w fun e w' => e = .returned (.int .i64 (dblZ (dblN s.data.toList))) ∧ Below w.heap.size w w' := by
 go_enter Tryz.func72, Tryz.ntmps72
 go_wp2
 go_loopw [3] (fun i wr => ∃ k : Nat, k ≤ s.size ∧ i = .int .i64 k ∧ dblN s.data.toList = (dblN (s.data.toList.drop k)).map (· + k) ∧ Below w.heap.size w wr) (fun i _ => s.size - (intOf i).toNat)
 case atStart => exact ⟨0, Nat.zero_le _, rfl, by simp, Below.refl _ _⟩
 obtain ⟨k, hk, rfl, hd, hbel⟩ := hrel
 have HD : Hid (dblN s.data.toList = (dblN (s.data.toList.drop k)).map (· + k)) := hd
 clear hd
 by_cases hlt : k + 1 < s.size
 ·obtain ⟨c, hc⟩ : ∃ c : Nat, s[k].toNat = c := ⟨_, rfl⟩
  obtain ⟨d, hd⟩ : ∃ d : Nat, s[k + 1].toNat = d := ⟨_, rfl⟩
  have HS : Hid (dblN (s.data.toList.drop k) = if c = 58 ∧ d = 58 then some 0 else (dblN (s.data.toList.drop (k + 1))).map (· + 1)) := by
   show _ = _
   rw [dbl_step s k hlt, hc, hd]
  have hki : (k : Int) + 1 < (s.size : Int) := by omega
  by_cases hcd : c = 58 ∧ d = 58
  ·have HZ : Hid (dblN s.data.toList = some k) := by
    show _ = _
    rw [HD.out, HS.out, if_pos hcd]
    simp
   obtain ⟨rfl, rfl⟩ := hcd
   go_wp2_with fail
   go_ret
   exact ⟨by rw [HZ.out]; rfl, hbel⟩
  have HG : Hid (dblN s.data.toList = (dblN (s.data.toList.drop (k + 1))).map (· + (k + 1))) := by
   show _ = _
   rw [HD.out, HS.out, if_neg hcd]
   cases dblN (s.data.toList.drop (k + 1)) <;> simp <;> omega
  by_cases hc5 : c = 58
  ·have hd5 : ((d : Int) == 58) = false := by simp; omega
   subst hc5
   clear hcd
   go_wp2_with fail
   go_roundw
   case rel => exact ⟨k + 1, by omega, by go_num, HG.out, hbel⟩
   case measure => simp [intOf]; omega
  have hc5' : ((c : Int) == 58) = false := by simp; omega
  clear hcd hc5
  go_wp2_with fail
  go_roundw
  case rel => exact ⟨k + 1, by omega, by go_num, HG.out, hbel⟩
  case measure => simp [intOf]; omega
 have HZ : Hid (dblN s.data.toList = none) := by
  show _ = _
  rw [HD.out, dbl_end s k hlt]
  rfl
 have hki : ¬ (k : Int) + 1 < (s.size : Int) := by omega
 go_wp2_with fail
 go_ret
 exact ⟨by rw [HZ.out]; rfl, hbel⟩
end Go.Proofs.YtidecdlaeomfoaaGreat
