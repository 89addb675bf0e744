/- The contracts of the specification's l11Lines and l11Line. -/
import Derived.Test.YtjdnemjcjodboaaDoorRows
import Derived.Test.YtjdnemjcjodboaaDoorRobPlain
import Derived.Test.YtjdnemjcjodboaaDoorFieldsWalk
import Derived.Test.YtjdnemjcjodboaaDoorFieldSpl
import Derived.Test.YtjdnemjcjodboaaDoorUntilWalk
import Derived.Test.YtjdnemjcjodboaaDoorRowMore
import Derived.Handy
import Derived.OwnWalk
import Derived.Deep.DeepCutAuto
import Derived.Deep.RegionWith
namespace Go.Proofs.YtjdnemjcjodboaaDoor
open Go.RowKit
set_option linter.unusedVariables false

def crC (c : UInt8) : UInt8 := if c = 13 then 10 else c
theorem noCr_map (l : List UInt8) : noCr l = l.map crC := rfl
theorem noCr_len (l : List UInt8) : (noCr l).length = l.length := by rw [noCr_map, List.length_map]
def crTo (l : List UInt8) (k : Nat) : List UInt8 := noCr (l.take k) ++ l.drop k
theorem crTo_zero (l : List UInt8) : crTo l 0 = l := by simp [crTo, noCr]
theorem crTo_length (l : List UInt8) (k : Nat) : (crTo l k).length = l.length := by
  unfold crTo
  rw [List.length_append, noCr_len, List.length_take, List.length_drop]
  omega
theorem crTo_at (s : ByteArray) (k : Nat) (h : k < s.size) (h' : k < (crTo s.data.toList k).length) : (crTo s.data.toList k)[k] = s[k] := by
  have hk : k < s.data.toList.length := by simpa using h
  have e : (crTo s.data.toList k)[k]? = some s[k] := by
    unfold crTo
    have hl : (noCr (s.data.toList.take k)).length = k := by rw [noCr_len, List.length_take]; omega
    rw [List.getElem?_append_right (by omega), hl, Nat.sub_self, List.getElem?_drop, Nat.add_zero, List.getElem?_eq_getElem hk]
    rfl
  rw [List.getElem?_eq_getElem h'] at e
  exact Option.some.inj e
theorem crTo_succ (s : ByteArray) (k : Nat) (h : k < s.size) : (crTo s.data.toList k).set k (crC s[k]) = crTo s.data.toList (k + 1) := by
  have hk : k < s.data.toList.length := by simpa using h
  have hl : (noCr (s.data.toList.take k)).length = k := by rw [noCr_len, List.length_take]; omega
  unfold crTo
  rw [List.set_append_right _ _ (by omega), hl, Nat.sub_self, take_snoc s k h, List.drop_eq_getElem_cons hk, List.set_cons_zero]
  simp [noCr_map]
theorem crTo_keep (s : ByteArray) (k : Nat) (h : k < s.size) (hc : crC s[k] = s[k]) : crTo s.data.toList k = crTo s.data.toList (k + 1) := by
  rw [← crTo_succ s k h, hc]
  have h' : k < (crTo s.data.toList k).length := by rw [crTo_length]; simpa using h
  rw [← crTo_at s k h h', List.set_getElem_self]
def crS (s : ByteArray) : ByteArray := ⟨(noCr s.data.toList).toArray⟩
theorem crS_size (s : ByteArray) : (crS s).size = s.size := by
  have h1 : (crS s).size = (noCr s.data.toList).length := List.size_toArray
  rw [h1, noCr_len]
  simp
theorem bytesAt_below {w w' : World} {B : Nat} {l : List UInt8} (h : bytesAt w B l) (hl : 0 < l.length → B < w.heap.size) (hb : Below w.heap.size w w') : bytesAt w' B l := fun j hj => by
  have hB := hb.block B (hl (by omega))
  exact ⟨(World.cell?_of_block (w := w) (a := ⟨B, j, none⟩) hB).trans (h j hj).1, (World.frozen?_of_block (w := w) (a := ⟨B, j, none⟩) hB).trans (h j hj).2⟩
set_option maxHeartbeats 2000000 in
theorem specLines11 (s : ByteArray) (w : World) (hs : s.size ≤ 1048576) :
    Calls Tryd.prog 31 #[.string s] w fun e w' => ∃ v, e = .returned v ∧ w'.ownsRow w.heap.size 9 1 v (fieldsL (crS s) 10).length (scells (fieldsL (crS s) 10)) ∧ Below w.heap.size w w' := by
  have CF : Hid (∀ W, Calls Tryd.prog 57 #[.string (crS s), .int .u8 10] W fun e w' => ∃ v, e = .returned v ∧ w'.ownsRow W.heap.size 9 1 v (fieldsL (crS s) 10).length (scells (fieldsL (crS s) 10)) ∧ Below W.heap.size W w') := fun W => specFields (crS s) 10 W (by rw [crS_size]; exact hs)
  obtain ⟨cap, hcap⟩ : ∃ cap, grownCap w s.size 0 5 = cap := ⟨_, rfl⟩
  have hconv := run_bytes_of_string w 9 22 5 s Tryd.underlying9 Tryd.underlying22 Tryd.underlying5
  rw [hcap] at hconv
  have hmade := bytesAt_made w s cap 5
  generalize hC : bytesRow s cap = C at hconv hmade
  clear hC hcap
  have HS : Hid (crS s = ⟨(noCr s.data.toList).toArray⟩) := rfl
  generalize crS s = T at CF HS ⊢
  go_enter Tryd.func31, Tryd.ntmps31
  go_wp2
  go_loopw [4] (fun i wr => ∃ k : Nat, k ≤ s.size ∧ i = .int .i64 k ∧ bytesAt wr w.heap.size (crTo s.data.toList k) ∧ Below w.heap.size w wr)
    (fun i _ => s.size - (intOf i).toNat)
  case atStart => exact ⟨0, Nat.zero_le _, rfl, by rw [crTo_zero]; exact hmade, ((Below.refl _ _).alloc (Nat.le_refl _) _).drew⟩
  case round =>
    obtain ⟨k, hk, rfl, hat, hbel⟩ := hrel
    clear hmade hconv
    by_cases hlt : k < s.size
    · have hl : k < (crTo s.data.toList k).length := by rw [crTo_length]; simpa using hlt
      obtain ⟨hc, hf⟩ := hat k hl
      rw [crTo_at s k hlt hl] at hc
      have hki : (k : Int) < s.size := by omega
      have HAT : Hid (bytesAt wr w.heap.size (crTo s.data.toList k)) := hat
      clear hat
      by_cases hcc : s[k] = 13
      · have HN : Hid (bytesAt (wr.setCell ⟨w.heap.size, k, none⟩ (.int .u8 10)) w.heap.size (crTo s.data.toList (k + 1))) := by
          show bytesAt _ _ _
          rw [← crTo_succ s k hlt, show crC s[k] = 10 by unfold crC; rw [if_pos hcc]]
          exact HAT.out.set k hl 10 rfl
        rw [hcc] at hc
        have hc13 : wr.cell? ⟨w.heap.size, k, none⟩ = some (.int .u8 13) := hc
        clear hc hcc HAT
        go_wp2
        go_roundw
        case rel => exact ⟨k + 1, by omega, by go_num, HN.out, hbel.setCell (Nat.le_refl _) _⟩
        case measure => simp [intOf]; omega
      · have HN : Hid (bytesAt wr w.heap.size (crTo s.data.toList (k + 1))) := by
          show bytesAt _ _ _
          rw [← crTo_keep s k hlt (by unfold crC; rw [if_neg hcc])]
          exact HAT.out
        obtain ⟨d, hd⟩ : ∃ d : Nat, s[k].toNat = d := ⟨_, rfl⟩
        have hq : ((d : Int) == 13) = false := beq_eq_false_iff_ne.2 fun e => hcc (UInt8.toNat_inj.1 (by rw [hd]; show d = 13; omega))
        rw [hd] at hc
        clear hcc HAT hd
        go_wp2
        go_roundw
        case rel => exact ⟨k + 1, by omega, by go_num, HN.out, hbel⟩
        case measure => simp [intOf]; omega
    · have e : crTo s.data.toList k = noCr s.data.toList := by
        unfold crTo
        rw [take_all s k (by omega), List.drop_eq_nil_of_le (by simp; omega), List.append_nil]
      rw [e] at hat
      have HO := run_string_at (P := Tryd.prog) wr 22 9 5 Tryd.underlying22 Tryd.underlying5 Tryd.underlying9 (n := s.size) (cap := cap) (by rw [noCr_len]; simp) hat
      rw [← HS.out] at HO
      have hki : ¬ (k : Int) < s.size := by omega
      clear e hat
      go_wp2_with fail
      refine (CF.out _).mono ?_
      rintro e w1 ⟨v, rfl, o1, b1⟩
      have B1 := hbel.trans (b1.mono hbel.size)
      have O1 : Hid (w1.ownsRow w.heap.size 9 1 v (fieldsL T 10).length (scells (fieldsL T 10))) := ⟨o1.1, o1.2.imp id fun ⟨g, cap, cur, h1, h2, h3⟩ => ⟨g, cap, cur, h1, Nat.le_trans hbel.size h2, h3⟩⟩
      clear o1 b1 hbel
      go_wp2_with fail
      go_ret
      exact ⟨_, rfl, O1.out, B1⟩
def trV (x : ByteArray) : ByteArray := ⟨(Lib.trimS x.data.toList blanks4).toArray⟩
def keyV (x : ByteArray) : ByteArray := ⟨(keyL x.data.toList).toArray⟩
def valV (x : ByteArray) : ByteArray := ⟨(valL x.data.toList).toArray⟩
theorem among_one (b c : UInt8) : amongL [b] (c.toNat : Int) = !notB b c := by
  unfold amongL notB
  by_cases h : c = b
  · subst h; simp
  · have h2 : ¬ (b.toNat : Int) = (c.toNat : Int) := fun e => h (UInt8.toNat_inj.1 (by omega))
    simp [h, h2]
set_option maxHeartbeats 4000000 in
theorem specLine11 (s : ByteArray) (w : World) (hs : s.size ≤ 1048576) :
    Calls Tryd.prog 32 #[.string s] w fun e w' => e = .returned (.tuple #[.string (if hasK s.data.toList = true then keyV s else ⟨#[]⟩), .string (if hasK s.data.toList = true then valV s else ⟨#[]⟩), .bool (hasK s.data.toList)]) ∧ Below w.heap.size w w' := by
  obtain ⟨T, hT⟩ : ∃ T : ByteArray, T = ⟨(headC 35 s.data.toList).toArray⟩ := ⟨_, rfl⟩
  obtain ⟨H, hH⟩ : ∃ H : ByteArray, H = ⟨(headC 58 T.data.toList).toArray⟩ := ⟨_, rfl⟩
  obtain ⟨R, hR⟩ : ∃ R : ByteArray, R = ⟨(restC 58 T.data.toList).toArray⟩ := ⟨_, rfl⟩
  have hTl : T.data.toList = headC 35 s.data.toList := by rw [hT]
  have hHl : H.data.toList = headC 58 (headC 35 s.data.toList) := by rw [hH, ← hTl]
  have hRl : R.data.toList = restC 58 (headC 35 s.data.toList) := by rw [hR, ← hTl]
  have sz : ∀ x : ByteArray, x.data.toList.length = x.size := fun x => by simp
  have hTs : T.size ≤ 1048576 := by
    have h1 := (List.takeWhile_prefix (notB 35) (l := s.data.toList)).length_le
    have h2 := congrArg List.length hTl
    unfold headC at h2
    rw [sz] at h1 h2
    omega
  have hHs : H.size ≤ 1048576 := by
    have h1 := (List.takeWhile_prefix (notB 58) (l := T.data.toList)).length_le
    have h2 := congrArg List.length hHl
    rw [← hTl] at h2
    unfold headC at h2
    rw [sz] at h1 h2
    omega
  have hRs : R.size ≤ 1048576 := by
    have h1 := (List.dropWhile_suffix (notB 58) (l := T.data.toList)).length_le
    have h2 := congrArg List.length hRl
    rw [← hTl] at h2
    unfold restC at h2
    rw [sz] at h1 h2
    omega
  have CU1 : Hid (∀ W, Calls Tryd.prog 58 #[.string s, .string ⟨#[35]⟩] W fun e w' => ∃ Y, e = .returned (.tuple #[.string T, .string Y]) ∧ Below W.heap.size W w') := fun W => (specUntil (notB 35) ⟨#[35]⟩ s W (by decide) (fun c => among_one 35 c) (by omega)).mono fun e w' h => ⟨⟨(s.data.toList.dropWhile (notB 35)).toArray⟩, by rw [hT]; exact h.1, h.2⟩
  have CU2 : Hid (∀ W, Calls Tryd.prog 58 #[.string T, .string ⟨#[58]⟩] W fun e w' => e = .returned (.tuple #[.string H, .string R]) ∧ Below W.heap.size W w') := fun W => (specUntil (notB 58) ⟨#[58]⟩ T W (by decide) (fun c => among_one 58 c) (by omega)).mono fun e w' h => ⟨by rw [hH, hR]; exact h.1, h.2⟩
  have hk : hasK s.data.toList = !decide (R.size = 0) := by
    unfold hasK
    rw [← hRl, ← sz]
    cases R.data.toList <;> simp
  by_cases h0 : R.size = 0
  · rw [decide_eq_true h0] at hk
    rw [show hasK s.data.toList = false from hk, if_neg (by decide), if_neg (by decide)]
    have he := empty_yes h0
    clear hT hH hR hTl hHl hRl sz
    go_enter Tryd.func32, Tryd.ntmps32
    go_wp2_with fail
    refine (CU1.out _).mono ?_
    rintro e w1 ⟨Y, rfl, b1⟩
    go_wp2_with fail
    refine (CU2.out _).mono ?_
    rintro e w2 ⟨rfl, b2⟩
    go_wp2_with fail
    go_ret3
    exact ⟨rfl, b1.trans (b2.mono b1.size)⟩
  · rw [decide_eq_false h0] at hk
    have he := empty_no (show 0 < R.size by omega)
    have hR1 : ((R.extract 1 R.size)).data.toList = (restC 58 (headC 35 s.data.toList)).tail := by
      rw [drop_data, hRl, List.drop_one]
    have HKV : Hid (keyV s = ⟨(lowerL (Lib.trimS H.data.toList blanks4)).toArray⟩) := by
      show _ = _
      unfold keyV keyL
      rw [hHl]
    have HVV : Hid (valV s = ⟨(Lib.trimS (R.extract 1 R.size).data.toList blanks4).toArray⟩) := by
      show _ = _
      unfold valV valL
      rw [hR1]
    have hTr : (⟨(Lib.trimS H.data.toList blanks4).toArray⟩ : ByteArray).size ≤ 1048576 := by
      have h1 : (⟨(Lib.trimS H.data.toList blanks4).toArray⟩ : ByteArray).size = (Lib.trimS H.data.toList blanks4).length := List.size_toArray
      have h2 := trimS_le H.data.toList blanks4
      rw [sz] at h2
      omega
    have CT : Hid (∀ X W, X.size ≤ 1048576 → Calls Tryd.prog 60 #[.string X] W fun e w' => e = .returned (.string (trV X)) ∧ Below W.heap.size W w') := fun X W hX => (specTrim X W (by omega)).mono fun e w' h => ⟨h.1, by rw [← h.2]; exact Below.refl _ _⟩
    have CL : Hid (∀ W, Calls Tryd.prog 59 #[.string (trV H)] W fun e w' => e = .returned (.string (keyV s)) ∧ Below W.heap.size W w') := fun W => by rw [HKV.out]; exact specLower _ W hTr
    have hEx : (R.extract 1 R.size).size ≤ 1048576 := by rw [ByteArray.size_extract]; omega
    have HVT : Hid (trV (R.extract 1 R.size) = valV s) := HVV.out.symm
    rw [show hasK s.data.toList = true from hk, if_pos rfl, if_pos rfl]
    have h0i : 1 ≤ (R.size : Int) := by omega
    clear hT hH hR hTl hHl hRl sz hR1 HKV HVV hTr hk
    generalize keyV s = KV at *
    generalize valV s = VV at *
    go_enter Tryd.func32, Tryd.ntmps32
    go_wp2_with fail
    refine (CU1.out _).mono ?_
    rintro e w1 ⟨Y, rfl, b1⟩
    go_wp2_with fail
    refine (CU2.out _).mono ?_
    rintro e w2 ⟨rfl, b2⟩
    have B2 := b1.trans (b2.mono b1.size)
    clear b1 b2 CU1 CU2
    go_wp2_with fail
    go_region_with (first
      | (go_at_call 59; refine (CL.out _).mono ?_; rintro e w4 ⟨rfl, b4⟩; have b34 := b3.trans (b4.mono b3.size))
      | (go_at_call 60; refine (CT.out _ _ (by assumption)).mono ?_; rintro e w3 ⟨rfl, b3⟩))
    all_goals
      have B3 := B2.drew.trans ((b34.trans (b3.mono b34.size)).mono B2.size)
      have HV := HVT.out
      generalize trV (R.extract 1 R.size) = VE at *
      subst HV
      clear b3 b34 CT CL
      go_wp2_with fail
      go_ret3
      exact ⟨rfl, B3⟩
end Go.Proofs.YtjdnemjcjodboaaDoor
