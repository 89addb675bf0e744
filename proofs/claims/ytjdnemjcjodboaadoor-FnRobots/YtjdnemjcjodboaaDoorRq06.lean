/- FieldsWalk, ExtPlain, JoinPlain, RowMore, DropWalk, FieldSpl, UntilWalk. -/
import Derived.Test.YtjdnemjcjodboaaDoorRq03
set_option maxHeartbeats 2000000
namespace Go.Proofs.YtjdnemjcjodboaaDoor
open Go.RowKit
def fieldsTo (s : ByteArray) (b : Int) : Nat → List ByteArray × Nat
 | 0 => ([], 0)
 | k + 1 => if ((s.data.toList.getD k 0).toNat : Int) = b then ((fieldsTo s b k).1 ++ [s.extract (fieldsTo s b k).2 k], k + 1) else fieldsTo s b k
def fieldsL (s : ByteArray) (b : Int) : List ByteArray := (fieldsTo s b s.size).1 ++ [s.extract (fieldsTo s b s.size).2 s.size]
theorem fieldsTo_le (s : ByteArray) (b : Int) (k : Nat) : (fieldsTo s b k).2 ≤ k ∧ (fieldsTo s b k).1.length ≤ k := by
 induction k with
 | zero => simp [fieldsTo]
 | succ k ih =>
  unfold fieldsTo
  split
  ·simp; omega
  omega
theorem getD_at (s : ByteArray) (k : Nat) (h : k < s.size) : s.data.toList.getD k 0 = s[k] := by
 have hk : k < s.data.toList.length := by simpa using h
 rw [List.getD_eq_getElem?_getD, List.getElem?_eq_getElem hk]
 rfl
theorem fieldsTo_hit (s : ByteArray) (b : Int) (k : Nat) (h : k < s.size) (e : (s[k].toNat : Int) = b) : fieldsTo s b (k + 1) = ((fieldsTo s b k).1 ++ [s.extract (fieldsTo s b k).2 k], k + 1) := by
 rw [fieldsTo, getD_at s k h, if_pos e]
theorem fieldsTo_miss (s : ByteArray) (b : Int) (k : Nat) (h : k < s.size) (e : ¬ (s[k].toNat : Int) = b) : fieldsTo s b (k + 1) = fieldsTo s b k := by
 rw [fieldsTo, getD_at s k h, if_neg e]
theorem Tryd.infoStr : (Tryd.prog.info? 9).map (fun i => (i.zero, i.size, i.bytes)) = some (some (.string ⟨#[]⟩), 1, 16) := by kernel_rfl
theorem str_one (s : ByteArray) : ∀ u ∈ #[Value.string s].toList, u.oneCell' = true := by
 intro u hu; simp at hu; subst hu; rfl
theorem fields_end (s : ByteArray) (b : Int) (k : Nat) (hk : k = s.size) {w1 : World} {B : Nat} {v : Value} {e : TypeId}
  (hown : w1.ownsRow B e 1 v ((fieldsTo s b k).1.length + 1) (scells (fieldsTo s b k).1 ++ [.string (s.extract (fieldsTo s b k).2 k)])) :
  w1.ownsRow B e 1 v (fieldsL s b).length (scells (fieldsL s b)) := by
 subst hk
 unfold fieldsL
 rw [scells_snoc, List.length_append]
 exact hown
theorem fields_hit (s : ByteArray) (b : Int) (k : Nat) (hk : k < s.size) (h : (s[k].toNat : Int) = b) {w1 : World} {B : Nat} {v : Value} {e : TypeId}
  (hown : w1.ownsRow B e 1 v ((fieldsTo s b k).1.length + 1) (scells (fieldsTo s b k).1 ++ [.string (s.extract (fieldsTo s b k).2 k)])) :
  w1.ownsRow B e 1 v (fieldsTo s b (k + 1)).1.length (scells (fieldsTo s b (k + 1)).1) := by
 rw [fieldsTo_hit s b k hk h]
 simp only
 rw [scells_snoc, List.length_append]
 exact hown
theorem specFieldsB (s : ByteArray) (b : Int) (w : World) (hs : s.size ≤ 16777216) :
  Calls Tryd.prog 57 #[.string s, .int .u8 b] w fun e w' => ∃ v, e = .returned v ∧ w'.ownsRow w.heap.size 9 1 v (fieldsL s b).length (scells (fieldsL s b)) ∧ Below w.heap.size w w' := by
 go_enter Tryd.func57, Tryd.ntmps57
 go_wp2
 go_loopw [5, 6, 7] (fun v f i wr => ∃ k : Nat, k ≤ s.size + 1 ∧ i = .int .i64 k ∧ (k ≤ s.size → f = .int .i64 (fieldsTo s b k).2 ∧ wr.ownsRow w.heap.size 9 1 v (fieldsTo s b k).1.length (scells (fieldsTo s b k).1)) ∧
   (k = s.size + 1 → wr.ownsRow w.heap.size 9 1 v (fieldsL s b).length (scells (fieldsL s b))) ∧ Below w.heap.size w wr)
  (fun _ _ i _ => s.size + 1 - (intOf i).toNat)
 case atStart => exact ⟨0, Nat.zero_le _, rfl, fun _ => ⟨rfl, World.ownsRow_lit w #[] 0 (Nat.le_refl _) (by decide) rfl⟩, fun h => by omega, (Below.refl _ _).alloc (Nat.le_refl _) _⟩
 obtain ⟨k, hk, rfl, hin, hend, hbel⟩ := hrel
 by_cases hle : k ≤ s.size
 ·obtain ⟨rfl, hown⟩ := hin hle
  clear hend
  have hsz := hbel.size
  obtain ⟨hf1, hf2⟩ := fieldsTo_le s b k
  by_cases heq : k = s.size
  ·have hkk : ((k : Int) == (s.size : Int)) = true := by simp [heq]
   have HE : Hid (k = s.size) := heq
   clear heq
   go_wp2_with (at_builtin; refine wpList_append_new _ rfl _ _ 30 rfl w.heap.size 9 (.string ⟨#[]⟩) 16 Tryd.underlying30 Tryd.infoStr rfl _ _ _ rfl hown #[.string (s.extract (fieldsTo s b k).2 k)] 1 rfl rfl (str_one _) (by omega) (by unfold maxLen; omega) (by omega) ?_)
   intro v' w1 hown' hb1
   have R := fields_end s b k HE.out hown'
   have B1 : Below w.heap.size w w1 := hbel.trans hb1
   clear hown' hb1 hown hbel hin
   go_wp2
   go_roundw
   case rel => exact ⟨k + 1, by omega, by go_num, fun h => by have := HE.out; omega, fun _ => R, B1⟩
   case measure => simp [intOf]; omega
  have hkk : ((k : Int) == (s.size : Int)) = false := by simp; omega
  have hlt : k < s.size := by omega
  clear heq
  by_cases hb : (s[k].toNat : Int) = b
  ·have hbb : ((s[k].toNat : Int) == b) = true := by simp [hb]
   have HB : Hid ((s[k].toNat : Int) = b) := hb
   clear hb
   go_wp2_with (at_builtin; refine wpList_append_new _ rfl _ _ 30 rfl w.heap.size 9 (.string ⟨#[]⟩) 16 Tryd.underlying30 Tryd.infoStr rfl _ _ _ rfl hown #[.string (s.extract (fieldsTo s b k).2 k)] 1 rfl rfl (str_one _) (by omega) (by unfold maxLen; omega) (by omega) ?_)
   intro v' w1 hown' hb1
   have R := fields_hit s b k hlt HB.out hown'
   have B1 : Below w.heap.size w w1 := hbel.trans hb1
   clear hown' hb1 hown hbel hin
   go_wp2
   go_roundw
   case rel => exact ⟨k + 1, by omega, by go_num, fun _ => ⟨by rw [fieldsTo_hit s b k hlt HB.out]; go_num, R⟩, fun h => by omega, B1⟩
   case measure => simp [intOf]; omega
  have hbb : ((s[k].toNat : Int) == b) = false := by simp [hb]
  have HB : Hid (¬ (s[k].toNat : Int) = b) := hb
  clear hb hin
  go_wp2
  go_roundw
  case rel => exact ⟨k + 1, by omega, by go_num, fun _ => ⟨by rw [fieldsTo_miss s b k hlt HB.out], by rw [fieldsTo_miss s b k hlt HB.out]; exact hown⟩, fun h => by omega, hbel⟩
  case measure => simp [intOf]; omega
 have hown := hend (by omega)
 clear hin hend
 go_wp2
 go_ret
 exact ⟨_, rfl, hown, hbel⟩
theorem implFieldsB (s : ByteArray) (b : Int) (w : World) (hs : s.size ≤ 16777216) :
  Calls Tryd.prog 41 #[.string s, .int .u8 b] w fun e w' => ∃ v, e = .returned v ∧ w'.ownsRow w.heap.size 9 1 v (fieldsL s b).length (scells (fieldsL s b)) ∧ Below w.heap.size w w' := by
 go_enter Tryd.func41, Tryd.ntmps41
 go_wp2
 go_loopw [5, 6, 11] (fun v f i wr => ∃ k : Nat, k ≤ s.size ∧ i = .int .i64 k ∧ f = .int .i64 (fieldsTo s b k).2 ∧ wr.ownsRow w.heap.size 9 1 v (fieldsTo s b k).1.length (scells (fieldsTo s b k).1) ∧ Below w.heap.size w wr)
  (fun _ _ i _ => s.size - (intOf i).toNat)
 case atStart => exact ⟨0, Nat.zero_le _, rfl, rfl, World.ownsRow_lit w #[] 0 (Nat.le_refl _) (by decide) rfl, (Below.refl _ _).alloc (Nat.le_refl _) _⟩
 obtain ⟨k, hk, rfl, rfl, hown, hbel⟩ := hrel
 have hsz := hbel.size
 obtain ⟨hf1, hf2⟩ := fieldsTo_le s b k
 have hes : (s.extract (fieldsTo s b k).2 k).size ≤ 281474976710656 := by rw [ByteArray.size_extract]; omega
 by_cases hlt : k < s.size
 ·by_cases hb : (s[k].toNat : Int) = b
  ·have hbb : ((s[k].toNat : Int) == b) = true := by simp [hb]
   have HB : Hid ((s[k].toNat : Int) = b) := hb
   clear hb
   go_wp2_with (first | (go_at_call 70; refine (strClone _ _ hes).mono ?_; rintro e wc ⟨rfl, hbc⟩; have hown2 := own_below hown hbc; have hsc := hbc.size) | (at_builtin; refine wpList_append_new _ rfl _ _ 30 rfl w.heap.size 9 (.string ⟨#[]⟩) 16 Tryd.underlying30 Tryd.infoStr rfl _ _ _ rfl hown2 #[.string (s.extract (fieldsTo s b k).2 k)] 1 rfl rfl (str_one _) (by omega) (by unfold maxLen; omega) (by omega) ?_))
   intro v' w1 hown' hb1
   have R := fields_hit s b k hlt HB.out hown'
   have B1 : Below w.heap.size w w1 := (hbel.trans (hbc.mono hsz)).trans hb1
   clear hown' hb1 hown hbel hown2 hbc
   go_wp2
   go_roundw
   case rel => exact ⟨k + 1, by omega, by go_num, by rw [fieldsTo_hit s b k hlt HB.out]; go_num, R, B1⟩
   case measure => simp [intOf]; omega
  have hbb : ((s[k].toNat : Int) == b) = false := by simp [hb]
  have HB : Hid (¬ (s[k].toNat : Int) = b) := hb
  clear hb
  go_wp2
  go_roundw
  case rel => exact ⟨k + 1, by omega, by go_num, by rw [fieldsTo_miss s b k hlt HB.out], by rw [fieldsTo_miss s b k hlt HB.out]; exact hown, hbel⟩
  case measure => simp [intOf]; omega
 have he : k = s.size := by omega
 have hes2 : (s.extract (fieldsTo s b k).2 s.size).size ≤ 281474976710656 := by rw [ByteArray.size_extract]; omega
 have HE : Hid (k = s.size) := he
 clear he
 go_wp2_with (first | (go_at_call 70; refine (strClone _ _ hes2).mono ?_; rintro e wc ⟨rfl, hbc⟩; have hown2 := own_below hown hbc; have hsc := hbc.size) | (at_builtin; refine wpList_append_new _ rfl _ _ 30 rfl w.heap.size 9 (.string ⟨#[]⟩) 16 Tryd.underlying30 Tryd.infoStr rfl _ _ _ rfl hown2 #[.string (s.extract (fieldsTo s b k).2 s.size)] 1 rfl rfl (str_one _) (by omega) (by unfold maxLen; omega) (by omega) ?_))
 intro v' w1 hown' hb1
 have R := fields_end s b k HE.out (by rw [HE.out] at hown' ⊢; exact hown')
 have B1 : Below w.heap.size w w1 := (hbel.trans (hbc.mono hsz)).trans hb1
 clear hown' hb1 hown hbel hown2 hbc
 go_wp2
 go_ret
 exact ⟨_, rfl, R, B1⟩
theorem specFields (s : ByteArray) (b : Int) (w : World) (hs : s.size ≤ 1048576) :
  Calls Tryd.prog 57 #[.string s, .int .u8 b] w fun e w' => ∃ v, e = .returned v ∧ w'.ownsRow w.heap.size 9 1 v (fieldsL s b).length (scells (fieldsL s b)) ∧ Below w.heap.size w w' :=
 specFieldsB s b w (by omega)
theorem implFields (s : ByteArray) (b : Int) (w : World) (hs : s.size ≤ 1048576) :
  Calls Tryd.prog 41 #[.string s, .int .u8 b] w fun e w' => ∃ v, e = .returned v ∧ w'.ownsRow w.heap.size 9 1 v (fieldsL s b).length (scells (fieldsL s b)) ∧ Below w.heap.size w w' :=
 implFieldsB s b w (by omega)
theorem extract_list (s : ByteArray) (a b : Nat) : (s.extract a b).data.toList = (s.data.toList.take b).drop a := by
 rw [ByteArray.data_extract, Array.toList_extract, List.drop_take]
theorem take_data (s : ByteArray) (k : Nat) : (s.extract 0 k).data.toList = s.data.toList.take k := by rw [extract_list]; rfl
theorem drop_data (s : ByteArray) (k : Nat) : (s.extract k s.size).data.toList = s.data.toList.drop k := by rw [extract_list, take_all s s.size (Nat.le_refl _)]
theorem mk_data (s : ByteArray) : (⟨s.data.toList.toArray⟩ : ByteArray) = s := by cases s; simp
theorem while_cut {p : UInt8 → Bool} {l : List UInt8} {k : Nat} (h : ∀ c ∈ l.take k, p c = true) : l.takeWhile p = l.take k ++ (l.drop k).takeWhile p ∧ l.dropWhile p = (l.drop k).dropWhile p := by
 induction k generalizing l with
 | zero => simp
 | succ k ih =>
  cases l with
  | nil => simp
  | cons c r =>
   rw [List.take_succ_cons] at h
   have hc := h c (by simp)
   obtain ⟨h1, h2⟩ := ih (l := r) fun x hx => h x (by simp [hx])
   rw [List.takeWhile_cons, List.dropWhile_cons, hc, if_pos rfl, if_pos rfl, h1, h2]
   simp
theorem fieldsTo_sizes (s : ByteArray) (b : Int) : ∀ k, ∀ x ∈ (fieldsTo s b k).1, x.size ≤ s.size
 | 0, x, hx => by simp [fieldsTo] at hx
 | k + 1, x, hx => by
  rw [fieldsTo] at hx
  split at hx
  ·rcases List.mem_append.1 hx with h | h
   ·exact fieldsTo_sizes s b k x h
   rw [List.mem_singleton.1 h, ByteArray.size_extract]; omega
  exact fieldsTo_sizes s b k x hx
theorem fieldsL_sizes (s : ByteArray) (b : Int) : ∀ x ∈ fieldsL s b, x.size ≤ s.size := by
 intro x hx
 unfold fieldsL at hx
 rcases List.mem_append.1 hx with h | h
 ·exact fieldsTo_sizes s b _ x h
 rw [List.mem_singleton.1 h, ByteArray.size_extract]; omega
theorem empty_yes {u : ByteArray} (h : u.size = 0) : u.toList.isEmpty = true := by
 rw [ByteArray.toList_eq, List.isEmpty_iff_length_eq_zero]
 simpa using h
theorem empty_no {u : ByteArray} (h : 0 < u.size) : u.toList.isEmpty = false := by
 cases he : u.toList.isEmpty with
 | false => rfl
 | true =>
  rw [ByteArray.toList_eq, List.isEmpty_iff_length_eq_zero] at he
  have : u.size = 0 := by simpa using he
  omega

def toL (x : ByteArray) : List UInt8 := x.data.toList
theorem fieldsTo_spl (s : ByteArray) (b : UInt8) : ∀ k, k ≤ s.size → (fieldsTo s (b.toNat : Int) k).2 ≤ k ∧ spl b (s.data.toList.take k) = (fieldsTo s (b.toNat : Int) k).1.map toL ++ [(s.data.toList.take k).drop (fieldsTo s (b.toNat : Int) k).2]
 | 0, _ => by simp [fieldsTo, spl]
 | k + 1, hk => by
  obtain ⟨h0, h1⟩ := fieldsTo_spl s b k (by omega)
  rw [take_snoc s k (by omega), spl_cut b h1 s[k]]
  by_cases e : s[k] = b
  ·rw [if_pos e, fieldsTo_hit s _ k (by omega) (by rw [e])]
   refine ⟨Nat.le_refl _, ?_⟩
   simp only [List.map_append, List.map_cons, List.map_nil, toL, extract_list]
   rw [List.drop_of_length_le (i := k + 1) (by simp; omega)]
   simp
  have e' : ¬ (s[k].toNat : Int) = (b.toNat : Int) := fun h => e (UInt8.toNat_inj.1 (by omega))
  rw [if_neg e, fieldsTo_miss s _ k (by omega) e']
  refine ⟨by omega, ?_⟩
  rw [List.drop_append_of_le_length (by simp; omega)]
theorem fieldsL_spl (s : ByteArray) (b : UInt8) : (fieldsL s (b.toNat : Int)).map toL = spl b s.data.toList := by
 obtain ⟨_, h⟩ := fieldsTo_spl s b s.size (Nat.le_refl _)
 rw [take_all s s.size (Nat.le_refl _)] at h
 rw [h]
 unfold fieldsL
 rw [List.map_append]
 simp only [List.map_cons, List.map_nil, toL, extract_list, take_all s s.size (Nat.le_refl _)]
theorem specUntil (p : UInt8 → Bool) (m s : ByteArray) (w : World) (hm : m.size ≤ 1000) (hp : ∀ c : UInt8, amongL m.data.toList (c.toNat : Int) = !p c) (hs : s.size ≤ 16777216) :
  Calls Tryd.prog 58 #[.string s, .string m] w fun e w' => e = .returned (.tuple #[.string ⟨(s.data.toList.takeWhile p).toArray⟩, .string ⟨(s.data.toList.dropWhile p).toArray⟩]) ∧ Below w.heap.size w w' := by
 go_enter Tryd.func58, Tryd.ntmps58
 go_wp2
 go_loop [6] (fun i => ∃ k : Nat, k ≤ s.size ∧ i = .int .i64 k ∧ ∀ c ∈ s.data.toList.take k, p c = true) (fun i => s.size - (intOf i).toNat)
 case atStart => exact ⟨0, Nat.zero_le _, rfl, fun c hc => by cases hc⟩
 obtain ⟨k, hk, rfl, hall⟩ := hrel
 have HA : Hid (∀ c ∈ s.data.toList.take k, p c = true) := hall
 clear hall
 by_cases hlt : k < s.size
 ·have hdr := drop_at s k hlt
  have hpc := hp s[k]
  obtain ⟨d, hd⟩ : ∃ d : Nat, s[k].toNat = d := ⟨_, rfl⟩
  rw [hd] at hpc
  have CA : Hid (∀ W, CS 69 #[.string m, .int .i64 (d : Int)] W (.bool (!p s[k]))) := fun W => by
   have h := specAmong m (d : Int) W (by omega)
   rw [hpc] at h
   exact h
  clear hpc
  have hd2 : (d : Int) < 256 := by have := s[k].toNat_lt; omega
  cases hb : p s[k] with
  | true =>
   have HN : Hid (∀ c ∈ s.data.toList.take (k + 1), p c = true) := fun c hc => by
    rw [take_snoc s k hlt] at hc
    rcases List.mem_append.1 hc with h | h
    ·exact HA.out c h
    rw [List.mem_singleton.1 h]; exact hb
   rw [hb] at CA
   clear hb hdr
   go_wp2_with fail
   refine (CA.out _).mono ?_
   rintro e w' ⟨rfl, rfl⟩
   go_wp2_with fail
   go_round
   case rel => exact ⟨k + 1, by omega, by go_num, HN.out⟩
   case measure => simp [intOf]; omega
  | false =>
   obtain ⟨h1, h2⟩ := while_cut HA.out
   rw [hdr, List.takeWhile_cons, hb, if_neg (by decide), List.append_nil] at h1
   rw [hdr, List.dropWhile_cons, hb, if_neg (by decide), ← hdr] at h2
   have H1 : Hid (s.extract 0 k = ⟨(s.data.toList.takeWhile p).toArray⟩) := by show _ = _; rw [h1, ← take_data, mk_data]
   have H2 : Hid (s.extract k s.size = ⟨(s.data.toList.dropWhile p).toArray⟩) := by show _ = _; rw [h2, ← drop_data, mk_data]
   rw [hb] at CA
   clear hb hdr h1 h2
   go_wp2_with fail
   refine (CA.out _).mono ?_
   rintro e w' ⟨rfl, rfl⟩
   go_wp2
   go_region
   all_goals (try go_wp2)
   all_goals go_ret2
   all_goals exact ⟨by rw [← H1.out, ← H2.out]; rfl, (Below.refl _ _).drew⟩
 have HN : Hid (∀ c ∈ s.data.toList, p c = true) := fun c hc => HA.out c (by rw [take_all s k (by omega)]; exact hc)
 obtain ⟨h1, h2⟩ := while_cut (p := p) (l := s.data.toList) (k := s.size) (fun c hc => HN.out c (List.mem_of_mem_take hc))
 rw [take_all s s.size (Nat.le_refl _), List.drop_of_length_le (by simp)] at h1
 rw [List.drop_of_length_le (by simp)] at h2
 have h3 : s.data.toList.takeWhile p = s.data.toList := by rw [h1]; simp
 have H1 : Hid (s = ⟨(s.data.toList.takeWhile p).toArray⟩) := by show _ = _; rw [h3]
 have H2 : Hid ((⟨#[]⟩ : ByteArray) = ⟨(s.data.toList.dropWhile p).toArray⟩) := by show _ = _; rw [h2]; rfl
 clear h1 h2 h3
 go_wp2
 go_ret2
 exact ⟨by rw [← H1.out, ← H2.out]; rfl, Below.refl _ _⟩
end Go.Proofs.YtjdnemjcjodboaaDoor
