/- RobLines, RobStep, AgSpec, AgImpl. -/
import Derived.Test.YtjdnemjcjodboaaDoorRq06
import Derived.Handy
import Derived.OwnWalk
import Derived.Deep.DeepCutAuto
import Derived.Deep.RegionWith
import Derived.Test.YtjdnemjcjodboaaDoorRq05
set_option maxHeartbeats 4000000
namespace Go.Proofs.YtjdnemjcjodboaaDoor
open Go.RowKit
set_option linter.unusedVariables false
def crC (c : UInt8) : UInt8 := if c = 13 then 10 else c
theorem noCr_map (l : List UInt8) : noCr l = l.map crC := rfl
theorem noCr_len (l : List UInt8) : (noCr l).length = l.length := by rw [noCr_map, List.length_map]
def crTo (l : List UInt8) (k : Nat) : List UInt8 := noCr (l.take k) ++ l.drop k
theorem crTo_zero (l : List UInt8) : crTo l 0 = l := by simp [crTo, noCr]
theorem crTo_length (l : List UInt8) (k : Nat) : (crTo l k).length = l.length := by
 unfold crTo
 rw [List.length_append, noCr_len, List.length_take, List.length_drop]
 omega
theorem crTo_at (s : ByteArray) (k : Nat) (h : k < s.size) (h' : k < (crTo s.data.toList k).length) : (crTo s.data.toList k)[k] = s[k] := by
 have hk : k < s.data.toList.length := by simpa using h
 have e : (crTo s.data.toList k)[k]? = some s[k] := by
  unfold crTo
  have hl : (noCr (s.data.toList.take k)).length = k := by rw [noCr_len, List.length_take]; omega
  rw [List.getElem?_append_right (by omega), hl, Nat.sub_self, List.getElem?_drop, Nat.add_zero, List.getElem?_eq_getElem hk]
  rfl
 rw [List.getElem?_eq_getElem h'] at e
 exact Option.some.inj e
theorem crTo_succ (s : ByteArray) (k : Nat) (h : k < s.size) : (crTo s.data.toList k).set k (crC s[k]) = crTo s.data.toList (k + 1) := by
 have hk : k < s.data.toList.length := by simpa using h
 have hl : (noCr (s.data.toList.take k)).length = k := by rw [noCr_len, List.length_take]; omega
 unfold crTo
 rw [List.set_append_right _ _ (by omega), hl, Nat.sub_self, take_snoc s k h, List.drop_eq_getElem_cons hk, List.set_cons_zero]
 simp [noCr_map]
theorem crTo_keep (s : ByteArray) (k : Nat) (h : k < s.size) (hc : crC s[k] = s[k]) : crTo s.data.toList k = crTo s.data.toList (k + 1) := by
 rw [← crTo_succ s k h, hc]
 have h' : k < (crTo s.data.toList k).length := by rw [crTo_length]; simpa using h
 rw [← crTo_at s k h h', List.set_getElem_self]
def crS (s : ByteArray) : ByteArray := ⟨(noCr s.data.toList).toArray⟩
theorem crS_size (s : ByteArray) : (crS s).size = s.size := by
 have h1 : (crS s).size = (noCr s.data.toList).length := List.size_toArray
 rw [h1, noCr_len]
 simp
theorem specLines11 (s : ByteArray) (w : World) (hs : s.size ≤ 1048576) :
  Calls Tryd.prog 31 #[.string s] w fun e w' => ∃ v, e = .returned v ∧ w'.ownsRow w.heap.size 9 1 v (fieldsL (crS s) 10).length (scells (fieldsL (crS s) 10)) ∧ Below w.heap.size w w' := by
 have CF : Hid (∀ W, Calls Tryd.prog 57 #[.string (crS s), .int .u8 10] W fun e w' => ∃ v, e = .returned v ∧ w'.ownsRow W.heap.size 9 1 v (fieldsL (crS s) 10).length (scells (fieldsL (crS s) 10)) ∧ Below W.heap.size W w') := fun W => specFields (crS s) 10 W (by rw [crS_size]; exact hs)
 obtain ⟨cap, hcap⟩ : ∃ cap, grownCap w s.size 0 5 = cap := ⟨_, rfl⟩
 have hconv := run_bytes_of_string w 9 22 5 s Tryd.underlying9 Tryd.underlying22 Tryd.underlying5
 rw [hcap] at hconv
 have hmade := bytesAt_made w s cap 5
 generalize hC : bytesRow s cap = C at hconv hmade
 clear hC hcap
 have HS : Hid (crS s = ⟨(noCr s.data.toList).toArray⟩) := rfl
 generalize crS s = T at CF HS ⊢
 go_enter Tryd.func31, Tryd.ntmps31
 go_wp2
 go_loopw [4] (fun i wr => ∃ k : Nat, k ≤ s.size ∧ i = .int .i64 k ∧ bytesAt wr w.heap.size (crTo s.data.toList k) ∧ Below w.heap.size w wr)
  (fun i _ => s.size - (intOf i).toNat)
 case atStart => exact ⟨0, Nat.zero_le _, rfl, by rw [crTo_zero]; exact hmade, ((Below.refl _ _).alloc (Nat.le_refl _) _).drew⟩
 obtain ⟨k, hk, rfl, hat, hbel⟩ := hrel
 clear hmade hconv
 by_cases hlt : k < s.size
 ·have hl : k < (crTo s.data.toList k).length := by rw [crTo_length]; simpa using hlt
  obtain ⟨hc, hf⟩ := hat k hl
  rw [crTo_at s k hlt hl] at hc
  have hki : (k : Int) < s.size := by omega
  have HAT : Hid (bytesAt wr w.heap.size (crTo s.data.toList k)) := hat
  clear hat
  by_cases hcc : s[k] = 13
  ·have HN : Hid (bytesAt (wr.setCell ⟨w.heap.size, k, none⟩ (.int .u8 10)) w.heap.size (crTo s.data.toList (k + 1))) := by
    show bytesAt _ _ _
    rw [← crTo_succ s k hlt, show crC s[k] = 10 by unfold crC; rw [if_pos hcc]]
    exact HAT.out.set k hl 10 rfl
   rw [hcc] at hc
   have hc13 : wr.cell? ⟨w.heap.size, k, none⟩ = some (.int .u8 13) := hc
   clear hc hcc HAT
   go_wp2
   go_roundw
   case rel => exact ⟨k + 1, by omega, by go_num, HN.out, hbel.setCell (Nat.le_refl _) _⟩
   case measure => simp [intOf]; omega
  have HN : Hid (bytesAt wr w.heap.size (crTo s.data.toList (k + 1))) := by
   show bytesAt _ _ _
   rw [← crTo_keep s k hlt (by unfold crC; rw [if_neg hcc])]
   exact HAT.out
  obtain ⟨d, hd⟩ : ∃ d : Nat, s[k].toNat = d := ⟨_, rfl⟩
  have hq : ((d : Int) == 13) = false := beq_eq_false_iff_ne.2 fun e => hcc (UInt8.toNat_inj.1 (by rw [hd]; show d = 13; omega))
  rw [hd] at hc
  clear hcc HAT hd
  go_wp2
  go_roundw
  case rel => exact ⟨k + 1, by omega, by go_num, HN.out, hbel⟩
  case measure => simp [intOf]; omega
 have e : crTo s.data.toList k = noCr s.data.toList := by
  unfold crTo
  rw [take_all s k (by omega), List.drop_eq_nil_of_le (by simp; omega), List.append_nil]
 rw [e] at hat
 have HO := run_string_at (P := Tryd.prog) wr 22 9 5 Tryd.underlying22 Tryd.underlying5 Tryd.underlying9 (n := s.size) (cap := cap) (by rw [noCr_len]; simp) hat
 rw [← HS.out] at HO
 have hki : ¬ (k : Int) < s.size := by omega
 clear e hat
 go_wp2_with fail
 refine (CF.out _).mono ?_
 rintro e w1 ⟨v, rfl, o1, b1⟩
 have B1 := hbel.trans (b1.mono hbel.size)
 have O1 : Hid (w1.ownsRow w.heap.size 9 1 v (fieldsL T 10).length (scells (fieldsL T 10))) := ⟨o1.1, o1.2.imp id fun ⟨g, cap, cur, h1, h2, h3⟩ => ⟨g, cap, cur, h1, Nat.le_trans hbel.size h2, h3⟩⟩
 clear o1 b1 hbel
 go_wp2_with fail
 go_ret
 exact ⟨_, rfl, O1.out, B1⟩
def trV (x : ByteArray) : ByteArray := ⟨(Lib.trimS x.data.toList blanks4).toArray⟩
def keyV (x : ByteArray) : ByteArray := ⟨(keyL x.data.toList).toArray⟩
def valV (x : ByteArray) : ByteArray := ⟨(valL x.data.toList).toArray⟩
theorem among_one (b c : UInt8) : amongL [b] (c.toNat : Int) = !notB b c := by
 unfold amongL notB
 by_cases h : c = b
 ·subst h; simp
 have h2 : ¬ (b.toNat : Int) = (c.toNat : Int) := fun e => h (UInt8.toNat_inj.1 (by omega))
 simp [h, h2]
theorem specLine11 (s : ByteArray) (w : World) (hs : s.size ≤ 1048576) :
  Calls Tryd.prog 32 #[.string s] w fun e w' => e = .returned (.tuple #[.string (if hasK s.data.toList = true then keyV s else ⟨#[]⟩), .string (if hasK s.data.toList = true then valV s else ⟨#[]⟩), .bool (hasK s.data.toList)]) ∧ Below w.heap.size w w' := by
 obtain ⟨T, hT⟩ : ∃ T : ByteArray, T = ⟨(headC 35 s.data.toList).toArray⟩ := ⟨_, rfl⟩
 obtain ⟨H, hH⟩ : ∃ H : ByteArray, H = ⟨(headC 58 T.data.toList).toArray⟩ := ⟨_, rfl⟩
 obtain ⟨R, hR⟩ : ∃ R : ByteArray, R = ⟨(restC 58 T.data.toList).toArray⟩ := ⟨_, rfl⟩
 have hTl : T.data.toList = headC 35 s.data.toList := by rw [hT]
 have hHl : H.data.toList = headC 58 (headC 35 s.data.toList) := by rw [hH, ← hTl]
 have hRl : R.data.toList = restC 58 (headC 35 s.data.toList) := by rw [hR, ← hTl]
 have sz : ∀ x : ByteArray, x.data.toList.length = x.size := fun x => by simp
 have hTs : T.size ≤ 1048576 := by
  have h1 := (List.takeWhile_prefix (notB 35) (l := s.data.toList)).length_le
  have h2 := congrArg List.length hTl
  unfold headC at h2
  rw [sz] at h1 h2
  omega
 have hHs : H.size ≤ 1048576 := by
  have h1 := (List.takeWhile_prefix (notB 58) (l := T.data.toList)).length_le
  have h2 := congrArg List.length hHl
  rw [← hTl] at h2
  unfold headC at h2
  rw [sz] at h1 h2
  omega
 have hRs : R.size ≤ 1048576 := by
  have h1 := (List.dropWhile_suffix (notB 58) (l := T.data.toList)).length_le
  have h2 := congrArg List.length hRl
  rw [← hTl] at h2
  unfold restC at h2
  rw [sz] at h1 h2
  omega
 have CU1 : Hid (∀ W, Calls Tryd.prog 58 #[.string s, .string ⟨#[35]⟩] W fun e w' => ∃ Y, e = .returned (.tuple #[.string T, .string Y]) ∧ Below W.heap.size W w') := fun W => (specUntil (notB 35) ⟨#[35]⟩ s W (by decide) (fun c => among_one 35 c) (by omega)).mono fun e w' h => ⟨⟨(s.data.toList.dropWhile (notB 35)).toArray⟩, by rw [hT]; exact h.1, h.2⟩
 have CU2 : Hid (∀ W, CB 58 #[.string T, .string ⟨#[58]⟩] W (.tuple #[.string H, .string R])) := fun W => (specUntil (notB 58) ⟨#[58]⟩ T W (by decide) (fun c => among_one 58 c) (by omega)).mono fun e w' h => ⟨by rw [hH, hR]; exact h.1, h.2⟩
 have hk : hasK s.data.toList = !decide (R.size = 0) := by
  unfold hasK
  rw [← hRl, ← sz]
  cases R.data.toList <;> simp
 by_cases h0 : R.size = 0
 ·rw [decide_eq_true h0] at hk
  rw [show hasK s.data.toList = false from hk, if_neg (by decide), if_neg (by decide)]
  have he := empty_yes h0
  clear hT hH hR hTl hHl hRl sz
  go_enter Tryd.func32, Tryd.ntmps32
  go_wp2_with fail
  refine (CU1.out _).mono ?_
  rintro e w1 ⟨Y, rfl, b1⟩
  go_wp2_with fail
  refine (CU2.out _).mono ?_
  rintro e w2 ⟨rfl, b2⟩
  go_wp2_with fail
  go_ret3
  exact ⟨rfl, b1.trans (b2.mono b1.size)⟩
 rw [decide_eq_false h0] at hk
 have he := empty_no (show 0 < R.size by omega)
 have hR1 : ((R.extract 1 R.size)).data.toList = (restC 58 (headC 35 s.data.toList)).tail := by
  rw [drop_data, hRl, List.drop_one]
 have HKV : Hid (keyV s = ⟨(lowerL (Lib.trimS H.data.toList blanks4)).toArray⟩) := by
  show _ = _
  unfold keyV keyL
  rw [hHl]
 have HVV : Hid (valV s = ⟨(Lib.trimS (R.extract 1 R.size).data.toList blanks4).toArray⟩) := by
  show _ = _
  unfold valV valL
  rw [hR1]
 have hTr : (⟨(Lib.trimS H.data.toList blanks4).toArray⟩ : ByteArray).size ≤ 1048576 := by
  have h1 : (⟨(Lib.trimS H.data.toList blanks4).toArray⟩ : ByteArray).size = (Lib.trimS H.data.toList blanks4).length := List.size_toArray
  have h2 := trimS_le H.data.toList blanks4
  rw [sz] at h2
  omega
 have CT : Hid (∀ X W, X.size ≤ 1048576 → CB 60 #[.string X] W (.string (trV X))) := fun X W hX => (specTrim X W (by omega)).mono fun e w' h => ⟨h.1, by rw [← h.2]; exact Below.refl _ _⟩
 have CL : Hid (∀ W, CB 59 #[.string (trV H)] W (.string (keyV s))) := fun W => by rw [HKV.out]; exact specLower _ W hTr
 have hEx : (R.extract 1 R.size).size ≤ 1048576 := by rw [ByteArray.size_extract]; omega
 have HVT : Hid (trV (R.extract 1 R.size) = valV s) := HVV.out.symm
 rw [show hasK s.data.toList = true from hk, if_pos rfl, if_pos rfl]
 have h0i : 1 ≤ (R.size : Int) := by omega
 clear hT hH hR hTl hHl hRl sz hR1 HKV HVV hTr hk
 generalize keyV s = KV at *
 generalize valV s = VV at *
 go_enter Tryd.func32, Tryd.ntmps32
 go_wp2_with fail
 refine (CU1.out _).mono ?_
 rintro e w1 ⟨Y, rfl, b1⟩
 go_wp2_with fail
 refine (CU2.out _).mono ?_
 rintro e w2 ⟨rfl, b2⟩
 have B2 := b1.trans (b2.mono b1.size)
 clear b1 b2 CU1 CU2
 go_wp2_with fail
 go_region_with (first
  | (go_at_call 59; refine (CL.out _).mono ?_; rintro e w4 ⟨rfl, b4⟩; have b34 := b3.trans (b4.mono b3.size))
  | (go_at_call 60; refine (CT.out _ _ (by assumption)).mono ?_; rintro e w3 ⟨rfl, b3⟩))
 all_goals
  have B3 := B2.drew.trans ((b34.trans (b3.mono b34.size)).mono B2.size)
  have HV := HVT.out
  generalize trV (R.extract 1 R.size) = VE at *
  subst HV
  clear b3 b34 CT CL
  go_wp2_with fail
  go_ret3
  exact ⟨rfl, B3⟩
def cutS (s : ByteArray) : ByteArray := s.extract 0 20000
def robV (s : ByteArray) : List PT := (fieldsL (crS (cutS s)) 10).foldl stepV []
theorem robV_eq (s : ByteArray) : robV s = robL s.data.toList := by
 unfold robV robL
 have h := fieldsL_spl (crS (cutS s)) 10
 rw [show ((10 : UInt8).toNat : Int) = 10 from rfl] at h
 have h2 : (crS (cutS s)).data.toList = noCr (s.data.toList.take 20000) := by
  unfold crS cutS
  rw [extract_list, List.drop_zero]
 rw [h2] at h
 rw [← h, List.foldl_map]
 rfl
theorem cutS_small {s : ByteArray} (h : s.size ≤ 20000) : cutS s = s := by
 refine ba_eq.2 ?_
 unfold cutS
 rw [extract_list, List.drop_zero, take_all s 20000 h]
theorem cutS_size (s : ByteArray) : (cutS s).size ≤ 20000 := by
 unfold cutS
 rw [ByteArray.size_extract]
 omega
theorem fieldsN_pos (s : ByteArray) (b : Int) : 0 < (fieldsL s b).length := by simp [fieldsL]
theorem fieldsN_le (s : ByteArray) (b : Int) : (fieldsL s b).length ≤ s.size + 1 := by
 have := (fieldsTo_le s b s.size).2
 simp [fieldsL]
 omega
theorem field_size (s : ByteArray) (b : Int) {k : Nat} (h : k < (fieldsL s b).length) : ((fieldsL s b).getD k ByteArray.empty).size ≤ s.size := by
 refine fieldsL_sizes s b _ ?_
 rw [List.getD_eq_getElem?_getD, List.getElem?_eq_getElem h]
 exact List.getElem_mem _
theorem txt_eq {a : ByteArray} {l : List UInt8} (h : a.data.toList = l) : (a.toList == l) = true := by rw [ByteArray.toList_eq, h]; exact beq_self_eq_true _
theorem txt_ne {a : ByteArray} {l : List UInt8} (h : a.data.toList ≠ l) : (a.toList == l) = false := by rw [ByteArray.toList_eq]; exact beq_eq_false_iff_ne.2 h
theorem stepV_none {ps : List PT} {x : ByteArray} (h : hasK x.data.toList = false) : stepV ps x = ps := by unfold stepV stepP; rw [if_pos h]
theorem stepV_ag {ps : List PT} {x : ByteArray} (h : hasK x.data.toList = true) (hk : keyL x.data.toList = keyU) : stepV ps x = setAg (openP ps) ⟨(agL (valV x).data.toList).toArray⟩ := by
 unfold stepV stepP
 rw [if_neg (by rw [h]; decide), if_pos hk, addAg_eq]
 rfl
theorem stepV_ln {ps : List PT} {x : ByteArray} (h : hasK x.data.toList = true) (b : Bool) (hk : keyL x.data.toList = if b = true then keyA else keyD) :
  stepV ps x = if ps.length = 0 ∨ (valV x).size = 0 then ps else setLn ps ⟨b, ⟨(plL 2 (valV x).data.toList).toArray⟩⟩ := by
 have hu : keyL x.data.toList ≠ keyU := by rw [hk]; cases b <;> decide
 have hv : (valL x.data.toList).isEmpty = true ↔ (valV x).size = 0 := by
  have e : (valV x).size = (valL x.data.toList).length := List.size_toArray
  rw [e, List.isEmpty_iff, List.length_eq_zero_iff]
 have main : addLn ps b (valL x.data.toList) = if ps.length = 0 ∨ (valV x).size = 0 then ps else setLn ps ⟨b, ⟨(plL 2 (valV x).data.toList).toArray⟩⟩ := by
  rw [addLn_eq]
  by_cases hc : ps.length = 0 ∨ (valV x).size = 0
  ·rw [if_pos hc, if_pos (hc.imp id hv.2)]
  rw [if_neg hc, if_neg fun h => hc (h.imp id hv.1)]
  rfl
 unfold stepV stepP
 rw [if_neg (by rw [h]; decide), if_neg hu]
 cases b with
 | true => rw [if_pos (show keyL x.data.toList = keyA from hk)]; exact main
 | false => rw [if_neg (by rw [hk]; decide), if_pos (show keyL x.data.toList = keyD from hk)]; exact main
theorem stepV_other {ps : List PT} {x : ByteArray} (h1 : keyL x.data.toList ≠ keyU) (h2 : keyL x.data.toList ≠ keyA) (h3 : keyL x.data.toList ≠ keyD) : stepV ps x = ps := by
 unfold stepV stepP
 rw [if_neg h1, if_neg h2, if_neg h3, ite_self]
theorem fold_next {fs : List ByteArray} {k : Nat} (h : k < fs.length) (acc : List PT) : (fs.drop k).foldl stepV acc = (fs.drop (k + 1)).foldl stepV (stepV acc (fs.getD k ByteArray.empty)) := by
 rw [List.drop_eq_getElem_cons h, List.foldl_cons, List.getD_eq_getElem?_getD, List.getElem?_eq_getElem h]
 rfl
theorem valV_size (x : ByteArray) : (valV x).size ≤ x.size := by
 have e : (valV x).size = (valL x.data.toList).length := List.size_toArray
 have h1 := trimS_le (restC 58 (headC 35 x.data.toList)).tail blanks4
 have h2 : (restC 58 (headC 35 x.data.toList)).tail.length ≤ (restC 58 (headC 35 x.data.toList)).length := by rw [List.length_tail]; omega
 have h3 := (List.dropWhile_suffix (notB 58) (l := headC 35 x.data.toList)).length_le
 have h4 := (List.takeWhile_prefix (notB 35) (l := x.data.toList)).length_le
 have h5 : x.data.toList.length = x.size := by simp
 unfold restC headC at h2
 unfold headC at h3
 rw [e]
 unfold valL
 unfold restC headC at h1 ⊢
 omega
theorem newP_last {ps : List PT} (h : 0 < ps.length) : newP ps = !decide ((lastG ps).ln.length = 0) := by
 unfold newP
 cases hp : ps.getLast? with
 | none => rw [List.getLast?_eq_none_iff.1 hp] at h; simp at h
 | some p =>
  rw [(last_getD hp).1]
  show (!p.ln.isEmpty) = _
  cases p.ln <;> simp
theorem takeWhile_cut {f : UInt8 → Bool} : ∀ {l : List UInt8} {k : Nat}, k ≤ l.length → (∀ j (hj : j < l.length), j < k → f l[j] = true) → (∀ hk : k < l.length, f l[k] = false) → l.takeWhile f = l.take k
 | l, 0, _, _, h2 => by
  cases l with
  | nil => rfl
  | cons a l =>
   have := h2 (by simp)
   rw [List.takeWhile_cons, if_neg (by simpa using this)]
   rfl
 | [], k + 1, h, _, _ => by simp at h
 | a :: l, k + 1, h, h1, h2 => by
  have ha := h1 0 (by simp) (by omega)
  rw [List.takeWhile_cons, if_pos (by simpa using ha), List.take_succ_cons]
  congr 1
  exact takeWhile_cut (by simpa using h) (fun j hj hjk => by have := h1 (j + 1) (by simp; omega) (by omega); simpa using this) (fun hk => by have := h2 (by simp; omega); simpa using this)
theorem agL_cut {s : ByteArray} {k : Nat} (hk : k ≤ s.size) (h0 : s.data.toList.head? ≠ some 42) (h1 : ∀ j (hj : j < s.size), j < k → agB s[j] = true) (h2 : ∀ hk : k < s.size, agB s[k] = false) : agL s.data.toList = lowerL (s.data.toList.take k) := by
 unfold agL
 rw [if_neg h0, takeWhile_cut (k := k) (by simpa using hk) (fun j hj hjk => h1 j (by simpa using hj) hjk) (fun hk => h2 (by simpa using hk))]
theorem agB_of {c : UInt8} {d : Nat} (h : c.toNat = d) : agB c = (letterZ (d : Int) || decide (d = 95) || decide (d = 45)) := by
 unfold agB letterN letterZ
 rw [h]
 have e1 : decide (c = 95) = decide (d = 95) := by
  by_cases hc : c = 95
  ·rw [decide_eq_true hc, decide_eq_true (by rw [← h, hc]; rfl)]
  rw [decide_eq_false hc, decide_eq_false fun e => hc (UInt8.toNat_inj.1 (by rw [h, e]; rfl))]
 have e2 : decide (c = 45) = decide (d = 45) := by
  by_cases hc : c = 45
  ·rw [decide_eq_true hc, decide_eq_true (by rw [← h, hc]; rfl)]
  rw [decide_eq_false hc, decide_eq_false fun e => hc (UInt8.toNat_inj.1 (by rw [h, e]; rfl))]
 rw [e1, e2]
 congr 3
 ·exact decide_eq_decide.2 (by omega)
 exact decide_eq_decide.2 (by omega)
theorem specAgentOf (s : ByteArray) (w : World) (hs : s.size ≤ 1048576) :
  Calls Tryd.prog 33 #[.string s] w fun e w' => e = .returned (.string ⟨(agL s.data.toList).toArray⟩) ∧ Below w.heap.size w w' := by
 by_cases h42 : s.data.toList.head? = some 42
 ·have hp : 0 < s.size := by
   cases hl : s.data.toList with
   | nil => rw [hl] at h42; cases h42
   | cons a l =>
    have : s.data.toList.length = s.size := by simp
    rw [hl] at this
    simp at this
    omega
  have HA : Hid (agL s.data.toList = [42]) := by show _ = _; unfold agL; rw [if_pos h42]
  have hc : s[0].toNat = 42 := by
   rw [List.head?_eq_getElem?, List.getElem?_eq_getElem (by simpa using hp)] at h42
   injection h42 with h42
   have : s[0] = 42 := h42
   rw [this]
   rfl
  have he := empty_no hp
  have hpi : 0 < (s.size : Int) := by omega
  clear h42
  go_enter Tryd.func33, Tryd.ntmps33
  go_wp2_with fail
  go_ret
  exact ⟨by rw [HA.out]; rfl, Below.refl _ _⟩
 have HCUT : Hid (∀ k, k ≤ s.size → (∀ j (hj : j < s.size), j < k → agB s[j] = true) → (∀ hk : k < s.size, agB s[k] = false) → agL s.data.toList = lowerL (s.data.toList.take k)) := fun k hk h1 h2 => agL_cut hk h42 h1 h2
 have CL : Hid (∀ k W, k ≤ s.size → CB 59 #[.string (s.extract 0 k)] W (.string ⟨(lowerL (s.data.toList.take k)).toArray⟩)) := fun k W hk => by
  have := specLower (s.extract 0 k) W (by rw [ByteArray.size_extract]; omega)
  rwa [show (s.extract 0 k).data.toList = s.data.toList.take k by rw [extract_list, List.drop_zero]] at this
 have h42' : s.size = 0 ∨ ∃ h : 0 < s.size, s[0].toNat ≠ 42 := by
  by_cases h0 : s.size = 0
  ·exact .inl h0
  refine .inr ⟨by omega, fun e => h42 ?_⟩
  rw [List.head?_eq_getElem?, List.getElem?_eq_getElem (by simp; omega)]
  congr 1
  exact UInt8.toNat_inj.1 e
 clear h42
 rcases h42' with h0 | ⟨hp, hne⟩
 ·obtain rfl : s = ⟨#[]⟩ := by
   cases s with
   | mk a =>
    congr
    exact Array.eq_empty_of_size_eq_zero h0
  have CE : Hid (∀ W, CB 59 #[.string ⟨#[]⟩] W (.string ⟨#[]⟩)) := fun W => specLower ⟨#[]⟩ W (by decide)
  clear CL HCUT
  go_enter Tryd.func33, Tryd.ntmps33
  go_wp2_with fail
  refine wp_loop_rounds 1 ?_
  rw [rounds_succ]
  go_wp2_with fail
  refine (CE.out _).mono ?_
  rintro e w1 ⟨rfl, b1⟩
  go_wp2_with fail
  go_ret
  exact ⟨rfl, b1⟩
 have he := empty_no hp
 have hpi : 0 < (s.size : Int) := by omega
 obtain ⟨d0, hd0⟩ : ∃ d : Nat, s[0].toNat = d := ⟨_, rfl⟩
 rw [hd0] at hne
 have hd1 : ((d0 : Int) == 42) = false := beq_eq_false_iff_ne.2 (by omega)
 go_enter Tryd.func33, Tryd.ntmps33
 go_wp2_with fail
 go_loop [3] (fun i => ∃ k : Nat, k ≤ s.size ∧ i = .int .i64 k ∧ Hid (∀ j (hj : j < s.size), j < k → agB s[j] = true)) (fun i => s.size - (intOf i).toNat)
 case atStart => exact ⟨0, Nat.zero_le _, rfl, fun j hj h => absurd h (Nat.not_lt_zero _)⟩
 obtain ⟨k, hk, rfl, HP⟩ := hrel
 by_cases hlt : k < s.size
 ·have hki : (k : Int) < s.size := by omega
  obtain ⟨d, hd⟩ : ∃ d : Nat, s[k].toNat = d := ⟨_, rfl⟩
  have hb := agB_of hd
  have hd255 : (d : Int) ≤ 255 := by have := s[k].toNat_lt; omega
  have CT : Hid (∀ W, CS 61 #[.int .i64 (d : Int)] W (.bool (letterZ (d : Int)))) := fun W => specLetter (d : Int) W
  have HY0 : Hid (agB s[k] = true → ∀ j (hj : j < s.size), j < k + 1 → agB s[j] = true) := fun h j hj hjk => by
   by_cases hjk2 : j < k
   ·exact HP.out j hj hjk2
   have : j = k := by omega
   subst this
   exact h
  have HN0 : Hid (agB s[k] = false → agL s.data.toList = lowerL (s.data.toList.take k)) := fun h => HCUT.out k hk HP.out fun _ => h
  rw [hb] at HY0 HN0
  clear hb HP
  generalize letterZ (d : Int) = Z at *
  cases Z with
  | true =>
   have HY : Hid (∀ j (hj : j < s.size), j < k + 1 → agB s[j] = true) := HY0.out (by simp)
   clear HY0 HN0
   go_wp2_with (go_at_call 61; refine (CT.out _).mono ?_; rintro e w' ⟨rfl, rfl⟩)
   go_round
   case rel => exact ⟨k + 1, by omega, by go_num, HY⟩
   case measure => simp [intOf]; omega
  | false =>
   by_cases h95 : d = 95
   ·have HY : Hid (∀ j (hj : j < s.size), j < k + 1 → agB s[j] = true) := HY0.out (by simp [h95])
    subst h95
    clear HY0 HN0
    go_wp2_with (go_at_call 61; refine (CT.out _).mono ?_; rintro e w' ⟨rfl, rfl⟩)
    go_round
    case rel => exact ⟨k + 1, by omega, by go_num, HY⟩
    case measure => simp [intOf]; omega
   have q95 : ((d : Int) == 95) = false := beq_eq_false_iff_ne.2 (by omega)
   by_cases h45 : d = 45
   ·have HY : Hid (∀ j (hj : j < s.size), j < k + 1 → agB s[j] = true) := HY0.out (by simp [h45])
    subst h45
    clear HY0 HN0
    go_wp2_with (go_at_call 61; refine (CT.out _).mono ?_; rintro e w' ⟨rfl, rfl⟩)
    go_round
    case rel => exact ⟨k + 1, by omega, by go_num, HY⟩
    case measure => simp [intOf]; omega
   have q45 : ((d : Int) == 45) = false := beq_eq_false_iff_ne.2 (by omega)
   have HE : Hid (agL s.data.toList = lowerL (s.data.toList.take k)) := HN0.out (by simp [h95, h45])
   clear HY0 HN0
   go_wp2_with (go_at_call 61; refine (CT.out _).mono ?_; rintro e w' ⟨rfl, rfl⟩)
   refine (CL.out k _ (by omega)).mono ?_
   rintro e w1 ⟨rfl, b1⟩
   go_wp2_with fail
   go_ret
   exact ⟨by rw [HE.out]; rfl, b1⟩
 have hki : ¬ (k : Int) < s.size := by omega
 have HE : Hid (agL s.data.toList = lowerL (s.data.toList.take k)) := HCUT.out k hk HP.out fun h => absurd h hlt
 clear HP
 go_wp2_with fail
 refine (CL.out k _ (by omega)).mono ?_
 rintro e w1 ⟨rfl, b1⟩
 go_wp2_with fail
 go_ret
 exact ⟨by rw [HE.out]; rfl, b1⟩
theorem agB_nat {c : UInt8} {d : Nat} (h : c.toNat = d) : agB c = (letterN d || decide (d = 95) || decide (d = 45)) := by
 have e : letterZ (d : Int) = letterN d := by
  unfold letterN letterZ
  rw [Bool.eq_iff_iff]
  simp only [Bool.or_eq_true, decide_eq_true_eq]
  omega
 rw [agB_of h, e]
theorem implIsAgent (d : Nat) (w : World) (hd : (d : Int) ≤ 255) :
  Calls Tryd.prog 29 #[.int .u8 (d : Int)] w fun e w' => e = .returned (.bool (letterN d || decide (d = 95) || decide (d = 45))) ∧ w = w' := by
 have CT : Hid (∀ W, CS 56 #[.int .u8 (d : Int)] W (.bool (letterN d))) := fun W => implIsLetter d W hd
 generalize letterN d = Z at *
 cases Z with
 | true =>
  go_enter Tryd.func29, Tryd.ntmps29
  go_wp2_with (go_at_call 56; refine (CT.out _).mono ?_; rintro e w' ⟨rfl, rfl⟩)
  go_ret
  exact ⟨ret_bool (by simp), rfl⟩
 | false =>
  by_cases h95 : d = 95
  ·subst h95
   go_enter Tryd.func29, Tryd.ntmps29
   go_wp2_with (go_at_call 56; refine (CT.out _).mono ?_; rintro e w' ⟨rfl, rfl⟩)
   go_ret
   exact ⟨ret_bool (by simp), rfl⟩
  have q95 : ((d : Int) == 95) = false := beq_eq_false_iff_ne.2 (by omega)
  by_cases h45 : d = 45
  ·subst h45
   go_enter Tryd.func29, Tryd.ntmps29
   go_wp2_with (go_at_call 56; refine (CT.out _).mono ?_; rintro e w' ⟨rfl, rfl⟩)
   go_ret
   exact ⟨ret_bool (by simp), rfl⟩
  have q45 : ((d : Int) == 45) = false := beq_eq_false_iff_ne.2 (by omega)
  go_enter Tryd.func29, Tryd.ntmps29
  go_wp2_with (go_at_call 56; refine (CT.out _).mono ?_; rintro e w' ⟨rfl, rfl⟩)
  go_ret
  exact ⟨ret_bool (by simp [h95, h45]), rfl⟩
theorem star_head (s : ByteArray) : Lib.hasPrefix s.data.toList [42] = decide (s.data.toList.head? = some 42) := by
 unfold Lib.hasPrefix
 cases s.data.toList with
 | nil => rfl
 | cons c r =>
  by_cases h : c = 42
  ·subst h; simp [List.isPrefixOf]
  have hh : ((42 : UInt8) == c) = false := beq_eq_false_iff_ne.2 (Ne.symm h)
  simp [h, List.isPrefixOf, hh]
theorem implAgentOf (s : ByteArray) (w : World) (hs : s.size ≤ 1048576) :
  Calls Tryd.prog 11 #[.string s] w fun e w' => e = .returned (.string ⟨(agL s.data.toList).toArray⟩) ∧ Below w.heap.size w w' := by
 have CH : Hid (∀ W, CS 28 #[.string s, .string ⟨#[42]⟩] W (.bool (decide (s.data.toList.head? = some 42)))) := fun W =>
  (Tryd.strings_HasPrefix s ⟨#[42]⟩ W).mono fun e w' h => ⟨by rw [h.1, show (⟨#[42]⟩ : ByteArray).data.toList = [42] from rfl, star_head], h.2.symm⟩
 by_cases h42 : s.data.toList.head? = some 42
 ·have HA : Hid (agL s.data.toList = [42]) := by
   show _ = _
   unfold agL
   rw [if_pos h42]
  rw [decide_eq_true h42] at CH
  clear h42
  go_enter Tryd.func11, Tryd.ntmps11
  go_wp2_with fail
  refine (CH.out _).mono ?_
  rintro e wh ⟨rfl, rfl⟩
  go_wp2_with fail
  go_ret
  exact ⟨by rw [HA.out]; rfl, Below.refl _ _⟩
 have HCUT : Hid (∀ k, k ≤ s.size → (∀ j (hj : j < s.size), j < k → agB s[j] = true) → (∀ hk : k < s.size, agB s[k] = false) → agL s.data.toList = lowerL (s.data.toList.take k)) := fun k hk h1 h2 => agL_cut hk h42 h1 h2
 have CL : Hid (∀ k W, k ≤ s.size → CB 30 #[.string (s.extract 0 k)] W (.string ⟨(lowerL (s.data.toList.take k)).toArray⟩)) := fun k W hk => by
  have := implLower (s.extract 0 k) W (by rw [ByteArray.size_extract]; omega)
  rwa [show (s.extract 0 k).data.toList = s.data.toList.take k by rw [extract_list, List.drop_zero]] at this
 rw [decide_eq_false h42] at CH
 clear h42
 go_enter Tryd.func11, Tryd.ntmps11
 go_wp2_with fail
 refine (CH.out _).mono ?_
 rintro e wh ⟨rfl, rfl⟩
 go_wp2_with fail
 go_loop [3] (fun i => ∃ k : Nat, k ≤ s.size ∧ i = .int .i64 k ∧ Hid (∀ j (hj : j < s.size), j < k → agB s[j] = true)) (fun i => s.size - (intOf i).toNat)
 case atStart => exact ⟨0, Nat.zero_le _, rfl, fun j hj h => absurd h (Nat.not_lt_zero _)⟩
 obtain ⟨k, hk, rfl, HP⟩ := hrel
 by_cases hlt : k < s.size
 ·have hki : (k : Int) < s.size := by omega
  obtain ⟨d, hd⟩ : ∃ d : Nat, s[k].toNat = d := ⟨_, rfl⟩
  have hb := agB_nat hd
  have hd255 : (d : Int) ≤ 255 := by have := s[k].toNat_lt; omega
  have CT : Hid (∀ W, CS 29 #[.int .u8 (d : Int)] W (.bool (letterN d || decide (d = 95) || decide (d = 45)))) := fun W => implIsAgent d W hd255
  rw [← hb] at CT
  clear hb
  cases hz : agB s[k] with
  | true =>
   have HY : Hid (∀ j (hj : j < s.size), j < k + 1 → agB s[j] = true) := fun j hj hjk => by
    by_cases hjk2 : j < k
    ·exact HP.out j hj hjk2
    have : j = k := by omega
    subst this
    exact hz
   rw [hz] at CT
   clear HP hz
   go_wp2_with (go_at_call 29; refine (CT.out _).mono ?_; rintro e w' ⟨rfl, rfl⟩)
   go_round
   case rel => exact ⟨k + 1, by omega, by go_num, HY⟩
   case measure => simp [intOf]; omega
  | false =>
   have HE : Hid (agL s.data.toList = lowerL (s.data.toList.take k)) := HCUT.out k hk HP.out fun _ => hz
   rw [hz] at CT
   clear HP hz
   go_wp2_with (go_at_call 29; refine (CT.out _).mono ?_; rintro e w' ⟨rfl, rfl⟩)
   refine (CL.out k _ (by omega)).mono ?_
   rintro e w1 ⟨rfl, b1⟩
   go_wp2_with fail
   go_ret
   exact ⟨by rw [HE.out]; rfl, b1⟩
 have hki : ¬ (k : Int) < s.size := by omega
 have HE : Hid (agL s.data.toList = lowerL (s.data.toList.take k)) := HCUT.out k hk HP.out fun h => absurd h hlt
 clear HP
 go_wp2_with fail
 refine (CL.out k _ (by omega)).mono ?_
 rintro e w1 ⟨rfl, b1⟩
 go_wp2_with fail
 go_ret
 exact ⟨by rw [HE.out]; rfl, b1⟩
end Go.Proofs.YtjdnemjcjodboaaDoor
