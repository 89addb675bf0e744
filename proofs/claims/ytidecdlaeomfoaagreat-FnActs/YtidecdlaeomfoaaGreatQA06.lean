/- PunyDec, RowMore. -/
import Derived.Test.YtidecdlaeomfoaaGreatQA05
set_option maxHeartbeats 4000000
set_option maxRecDepth 20000
namespace Go.Proofs.YtidecdlaeomfoaaGreat
open Go.RowKit
theorem valB_le (c : Nat) : valB c ≤ 36 := by
 unfold valB
 split
 ·omega
 split <;> omega
theorem specValue (c : Nat) (w : World) (hc : (c : Int) ≤ 255) :
  Calls Tryz.prog 105 #[.int .u8 (c : Int)] w fun e w' => e = .returned (.int .i64 (valB c : Int)) ∧ w = w' := by
 by_cases h1 : 97 ≤ (c : Int) ∧ (c : Int) ≤ 122
 ·obtain ⟨a1, a2⟩ := h1
  have HV : Hid ((valB c : Int) = (c : Int) - 97) := by show _ = _; unfold valB; rw [if_pos (by omega)]; omega
  go_enter Tryz.func105, Tryz.ntmps105
  go_wp2_with fail
  refine (specL1In_yes _ _ _ _ a1 a2).mono ?_
  rintro e w' ⟨rfl, rfl⟩
  go_wp2
  go_ret
  exact ⟨ret_int (by rw [HV.out] <;> omega), rfl⟩
 have H1 : Hid ((c : Int) < 97 ∨ 122 < (c : Int)) := by show _ ∨ _; omega
 by_cases h2 : 48 ≤ (c : Int) ∧ (c : Int) ≤ 57
 ·obtain ⟨a1, a2⟩ := h2
  have HV : Hid ((valB c : Int) = (c : Int) - 22) := by show _ = _; unfold valB; rw [if_neg (by omega), if_pos (by omega)]; omega
  clear h1
  go_enter Tryz.func105, Tryz.ntmps105
  go_wp2_with fail
  refine (specL1In_no _ _ _ _ H1.out).mono ?_
  rintro e w' ⟨rfl, rfl⟩
  go_wp2_with fail
  refine (specL1In_yes _ _ _ _ a1 a2).mono ?_
  rintro e w' ⟨rfl, rfl⟩
  go_wp2
  go_ret
  exact ⟨ret_int (by rw [HV.out] <;> omega), rfl⟩
 have HV : Hid ((valB c : Int) = 36) := by show _ = _; unfold valB; rw [if_neg (by omega), if_neg (by omega)]; rfl
 have H2 : Hid ((c : Int) < 48 ∨ 57 < (c : Int)) := by show _ ∨ _; omega
 clear h1 h2
 go_enter Tryz.func105, Tryz.ntmps105
 go_wp2_with fail
 refine (specL1In_no _ _ _ _ H1.out).mono ?_
 rintro e w' ⟨rfl, rfl⟩
 go_wp2_with fail
 refine (specL1In_no _ _ _ _ H2.out).mono ?_
 rintro e w' ⟨rfl, rfl⟩
 go_wp2
 go_ret
 exact ⟨ret_int (by rw [HV.out]), rfl⟩
def sN (s : ByteArray) : List Nat := s.data.toList.map UInt8.toNat
theorem sN_length (s : ByteArray) : (sN s).length = s.size := by simp [sN]
theorem sN_drop (s : ByteArray) (k : Nat) (h : k < s.size) : (sN s).drop k = s[k].toNat :: (sN s).drop (k + 1) := by
 unfold sN
 rw [← List.map_drop, ← List.map_drop, drop_at s k h]
 rfl
theorem sN_end (s : ByteArray) (k : Nat) (h : s.size ≤ k) : (sN s).drop k = [] := List.drop_of_length_le (by rw [sN_length]; exact h)
theorem split_back : ∀ (a : List Nat) (s : List Nat), (∀ c ∈ s.drop (a.length + 1), c ≠ 45) → s.take a.length = a → s[a.length]? = some 45 → splitD s = some (a, s.drop (a.length + 1)) := by
 intro a s h1 h2 h3
 have hs : s = a ++ 45 :: s.drop (a.length + 1) := by
  obtain ⟨hl, he⟩ := List.getElem?_eq_some_iff.1 h3
  rw [← List.take_append_drop a.length s, h2, List.drop_eq_getElem_cons hl, he]
  simp
 rw [hs]
 rw [split_at _ h1 a]
 simp
theorem specDash (s : ByteArray) (w : World) (hs : (s.size : Int) ≤ 1048576) :
  Calls Tryz.prog 103 #[.string s] w fun e w' => ∃ r : Int, e = .returned (.int .i64 r) ∧ w = w' ∧ ((r = -1 ∧ splitD (sN s) = none) ∨ ∃ k : Nat, k < s.size ∧ r = (k : Int) ∧ splitD (sN s) = some ((sN s).take k, (sN s).drop (k + 1))) := by
 go_enter Tryz.func103, Tryz.ntmps103
 go_wp2_with fail
 go_loop [3] (fun i => ∃ k : Nat, k ≤ s.size ∧ i = .int .i64 ((k : Int) - 1) ∧ ∀ c ∈ (sN s).drop k, c ≠ 45) (fun i => (intOf i + 1).toNat)
 case atStart => exact ⟨s.size, Nat.le_refl _, rfl, fun c hc => by rw [sN_end s _ (Nat.le_refl _)] at hc; simp at hc⟩
 obtain ⟨k, hk, rfl, hno⟩ := hrel
 have HN : Hid (∀ c ∈ (sN s).drop k, c ≠ 45) := hno
 clear hno
 by_cases hp : 0 < k
 ·obtain ⟨j, rfl⟩ : ∃ j, k = j + 1 := ⟨k - 1, by omega⟩
  have hcast : (((j + 1 : Nat) : Int) - 1) = (j : Int) := by omega
  have hjs : j < s.size := by omega
  obtain ⟨d, hd⟩ : ∃ d : Nat, s[j].toNat = d := ⟨_, rfl⟩
  have hge : 0 ≤ (j : Int) := by omega
  rw [hcast]
  by_cases h45 : (d : Int) = 45
  ·have HS : Hid (splitD (sN s) = some ((sN s).take j, (sN s).drop (j + 1))) := by
    have hl : ((sN s).take j).length = j := by rw [List.length_take, sN_length]; omega
    have h := split_back ((sN s).take j) (sN s) (by rw [hl]; exact HN.out) (by rw [hl]) (by
     rw [hl, ← List.head?_drop, sN_drop s j hjs, hd]
     simp
     omega)
    rw [hl] at h
    exact h
   have hd45 : d = 45 := by omega
   subst hd45
   clear h45 hcast
   go_wp2_with fail
   go_ret
   exact ⟨_, rfl, rfl, .inr ⟨j, hjs, rfl, HS.out⟩⟩
  have HN2 : Hid (∀ c ∈ (sN s).drop j, c ≠ 45) := by
   intro c hc
   rw [sN_drop s j hjs, hd] at hc
   rcases List.mem_cons.1 hc with rfl | hc
   ·omega
   exact HN.out c hc
  clear hcast
  go_wp2_with fail
  go_round
  case rel => exact ⟨j, by omega, by go_num, HN2.out⟩
  case measure => simp [intOf]
 have hk0 : k = 0 := by omega
 subst hk0
 have HS : Hid (splitD (sN s) = none) := split_none _ (by have h := HN.out; simpa using h)
 go_wp2_with fail
 go_ret
 exact ⟨-1, rfl, rfl, .inl ⟨rfl, HS.out⟩⟩
theorem readL_no {bias k i w d : Nat} {ds : List Nat} (h : 1099511627776 < i ∨ 1099511627776 < w ∨ 36 ≤ d) : readL bias k i w (d :: ds) = none := by rw [readL, if_pos h]
theorem readL_yes {bias k i w d : Nat} {ds : List Nat} (h : ¬ (1099511627776 < i ∨ 1099511627776 < w ∨ 36 ≤ d)) (hd : d < limN k bias) : readL bias k i w (d :: ds) = some (i + d * w, ds) := by rw [readL, if_neg h, if_pos hd]
theorem readL_more {bias k i w d : Nat} {ds : List Nat} (h : ¬ (1099511627776 < i ∨ 1099511627776 < w ∨ 36 ≤ d)) (hd : ¬ d < limN k bias) : readL bias k i w (d :: ds) = readL bias (k + 36) (i + d * w) (w * (36 - limN k bias)) ds := by rw [readL, if_neg h, if_neg hd]
def readAns (s : ByteArray) (at0 bias : Nat) (e : Ending) : Prop :=
 match readL bias 36 0 1 (((sN s).drop at0).map valB) with
 | none => e = .returned (.tuple #[.int .i64 0, .int .i64 0, .bool false])
 | some (more, rest) => ∃ next : Nat, at0 < next ∧ next ≤ s.size ∧ rest = ((sN s).drop next).map valB ∧ e = .returned (.tuple #[.int .i64 (more : Int), .int .i64 (next : Int), .bool true])
theorem readAns_none {s : ByteArray} {at0 bias : Nat} {e : Ending} (h : readL bias 36 0 1 (((sN s).drop at0).map valB) = none) (he : e = .returned (.tuple #[.int .i64 0, .int .i64 0, .bool false])) : readAns s at0 bias e := by
 unfold readAns
 rw [h]
 exact he
theorem readAns_some {s : ByteArray} {at0 bias more next : Nat} {e : Ending} (h : readL bias 36 0 1 (((sN s).drop at0).map valB) = some (more, ((sN s).drop next).map valB)) (h1 : at0 < next) (h2 : next ≤ s.size) (he : e = .returned (.tuple #[.int .i64 (more : Int), .int .i64 (next : Int), .bool true])) : readAns s at0 bias e := by
 unfold readAns
 rw [h]
 exact ⟨next, h1, h2, rfl, he⟩
theorem specRead (s : ByteArray) (at0 bias : Nat) (w : World) (hs : (s.size : Int) ≤ 600) (hat : at0 ≤ s.size) (hb : (bias : Int) ≤ 2400) :
  Calls Tryz.prog 104 #[.string s, .int .i64 (at0 : Int), .int .i64 (bias : Int)] w fun e w' => readAns s at0 bias e ∧ w = w' := by
 go_enter Tryz.func104, Tryz.ntmps104
 go_wp2_with fail
 go_loop [1, 9, 10, 11] (fun p a b c => ∃ q i v k : Nat, p = .int .i64 q ∧ a = .int .i64 i ∧ b = .int .i64 v ∧ c = .int .i64 k ∧ at0 ≤ q ∧ q ≤ s.size ∧ i ≤ 39582418599936 ∧ v ≤ 38482906972160 ∧ k ≤ 36 * (q + 1) ∧ readL bias k i v (((sN s).drop q).map valB) = readL bias 36 0 1 (((sN s).drop at0).map valB)) (fun p _ _ _ => s.size - (intOf p).toNat)
 case atStart => exact ⟨at0, 0, 1, 36, rfl, rfl, rfl, rfl, Nat.le_refl _, hat, by omega, by omega, by omega, rfl⟩
 obtain ⟨q, i, v, k, rfl, rfl, rfl, rfl, hq0, hq, hi, hv, hk, he⟩ := hrel
 have HE : Hid (readL bias k i v (((sN s).drop q).map valB) = readL bias 36 0 1 (((sN s).drop at0).map valB)) := he
 clear he
 by_cases hlt : q < s.size
 ·have hlti : ¬ (s.size : Int) ≤ (q : Int) := by omega
  obtain ⟨c, hc⟩ : ∃ c : Nat, s[q].toNat = c := ⟨_, rfl⟩
  have hc255 : (c : Int) ≤ 255 := by have := s[q].toNat_lt; omega
  have HS : Hid (((sN s).drop q).map valB = valB c :: ((sN s).drop (q + 1)).map valB) := by show _ = _; rw [sN_drop s q hlt, hc]; rfl
  rw [HS.out] at HE
  have cv := fun W => specValue c W hc255
  have hv36 := valB_le c
  generalize valB c = d at cv HE hv36
  have CV : Hid (∀ W, CS 105 #[.int .u8 (c : Int)] W (.int .i64 (d : Int))) := cv
  clear cv HS
  by_cases hib : 1099511627776 < (i : Int)
  ·have HR := HE.out.symm.trans (readL_no (.inl (by omega)))
   have HRH : Hid (readL bias 36 0 1 (((sN s).drop at0).map valB) = none) := HR
   clear HR
   go_wp2_with fail
   go_ret3
   exact ⟨readAns_none HRH.out rfl, rfl⟩
  by_cases hvb : 1099511627776 < (v : Int)
  ·have HRH : Hid (readL bias 36 0 1 (((sN s).drop at0).map valB) = none) := HE.out.symm.trans (readL_no (.inr (.inl (by omega))))
   go_wp2_with fail
   go_ret3
   exact ⟨readAns_none HRH.out rfl, rfl⟩
  by_cases hd36 : (d : Int) = 36
  ·have HRH : Hid (readL bias 36 0 1 (((sN s).drop at0).map valB) = none) := HE.out.symm.trans (readL_no (.inr (.inr (by omega))))
   have hd37 : d = 36 := by omega
   subst hd37
   clear hd36
   go_wp2_with fail
   refine (CV.out _).mono ?_
   rintro e w' ⟨rfl, rfl⟩
   go_wp2_with fail
   go_ret3
   exact ⟨readAns_none HRH.out rfl, rfl⟩
  have ct := fun W => specLimit k bias W (by omega) (by omega)
  obtain ⟨l1, l2⟩ := lim_le k bias
  have hpb : d * v ≤ 35 * v := Nat.mul_le_mul_right v (by omega)
  have hM : (d : Int) * (v : Int) = ((d * v : Nat) : Int) := by norm_cast
  by_cases hdt : d < limN k bias
  ·have HRH : Hid (readL bias 36 0 1 (((sN s).drop at0).map valB) = some (i + d * v, ((sN s).drop (q + 1)).map valB)) := HE.out.symm.trans (readL_yes (by omega) hdt)
   generalize limN k bias = t at ct hdt l1 l2
   generalize d * v = p at hM HRH hpb
   have hdti : (d : Int) < (t : Int) := by omega
   have CT : Hid (∀ W, CS 101 #[.int .i64 (k : Int), .int .i64 (bias : Int)] W (.int .i64 (t : Int))) := ct
   clear ct
   go_wp2_with fail
   refine (CV.out _).mono ?_
   rintro e w' ⟨rfl, rfl⟩
   go_wp2_with fail
   refine (CT.out _).mono ?_
   rintro e w' ⟨rfl, rfl⟩
   go_wp2_with fail
   go_ret3
   exact ⟨readAns_some HRH.out (by omega) (by omega) (by simp), rfl⟩
  have HN : Hid (readL bias (k + 36) (i + d * v) (v * (36 - limN k bias)) (((sN s).drop (q + 1)).map valB) = readL bias 36 0 1 (((sN s).drop at0).map valB)) := (readL_more (by omega) hdt).symm.trans HE.out
  have hwb : v * (36 - limN k bias) ≤ v * 35 := Nat.mul_le_mul_left v (by omega)
  have hc2 : ((36 - limN k bias : Nat) : Int) = 36 - (limN k bias : Int) := by omega
  have hW : (v : Int) * (36 - (limN k bias : Int)) = ((v * (36 - limN k bias) : Nat) : Int) := by rw [← hc2]; norm_cast
  clear hc2
  generalize hlim : limN k bias = t at ct hdt l1 l2 HN hwb hW
  clear hlim
  generalize d * v = p at hM HN hpb
  generalize v * (36 - t) = v' at hW HN hwb
  have hdti : ¬ (d : Int) < (t : Int) := by omega
  have CT : Hid (∀ W, CS 101 #[.int .i64 (k : Int), .int .i64 (bias : Int)] W (.int .i64 (t : Int))) := ct
  clear ct
  go_wp2_with fail
  refine (CV.out _).mono ?_
  rintro e w' ⟨rfl, rfl⟩
  go_wp2_with fail
  refine (CT.out _).mono ?_
  rintro e w' ⟨rfl, rfl⟩
  go_wp2_with fail
  go_round
  case rel => exact ⟨q + 1, i + p, v', k + 36, by go_num, by go_num, rfl, by go_num, by omega, by omega, by omega, by omega, by omega, HN.out⟩
  case measure => simp [intOf]; omega
 have hlti : (s.size : Int) ≤ (q : Int) := by omega
 have HRH : Hid (readL bias 36 0 1 (((sN s).drop at0).map valB) = none) := by
  show _ = _
  rw [← HE.out, sN_end s q (by omega)]
  rfl
 go_wp2_with fail
 go_ret3
 exact ⟨readAns_none HRH.out rfl, rfl⟩
theorem str_ne {a b : ByteArray} (h : ¬ a = b) : (a.toList == b.toList) = false := by
 rw [beq_eq_false_iff_ne]
 intro e
 apply h
 apply ByteArray.ext
 apply Array.ext'
 rw [← ByteArray.toList_eq, ← ByteArray.toList_eq, e]
theorem str_eq {a b : ByteArray} (h : a = b) : (a.toList == b.toList) = true := by rw [h]; exact beq_self_eq_true _
theorem empty_yes {u : ByteArray} (h : u.size = 0) : u.toList.isEmpty = true := by
 rw [ByteArray.toList_eq, List.isEmpty_iff_length_eq_zero]
 simpa using h
theorem empty_no {u : ByteArray} (h : 0 < u.size) : u.toList.isEmpty = false := by
 cases he : u.toList.isEmpty with
 | false => rfl
 | true =>
  rw [ByteArray.toList_eq, List.isEmpty_iff_length_eq_zero] at he
  have : u.size = 0 := by simpa using he
  omega
theorem own_take {w : World} {B : Nat} {e : TypeId} {g n cap : Nat} {xs : List Value} (h : w.ownsRow B e 1 (.slice (some ⟨g, 0, none⟩) n cap) n xs) (m : Nat) (hm : m ≤ n) :
  w.ownsRow B e 1 (.slice (some ⟨g, 0, none⟩) m cap) m (xs.take m) := by
 have hl := h.1
 rcases h.2 with ⟨hh, _⟩ | ⟨g', cap', cur, hh, h1, h2, h3, h4, h5, h6⟩
 ·cases hh
 cases hh
 refine ⟨by rw [List.length_take]; omega, .inr ⟨g, cap, cur, rfl, h1, h2, by omega, h4, h5, ?_⟩⟩
 rw [← h6, List.take_take, Nat.mul_one, Nat.mul_one, Nat.min_eq_left hm]
theorem scells_take (fs : List ByteArray) (m : Nat) : (scells fs).take m = scells (fs.take m) := by
 unfold scells
 rw [List.map_take]
theorem own_cap {w : World} {B : Nat} {e : TypeId} {g n cap : Nat} {xs : List Value} (h : w.ownsRow B e 1 (.slice (some ⟨g, 0, none⟩) n cap) n xs) : n ≤ cap := by
 rcases h.2 with ⟨h, _⟩ | ⟨_, _, _, h, _, _, h3, _⟩
 ·cases h
 cases h; exact h3
end Go.Proofs.YtidecdlaeomfoaaGreat
