/- EndWalk. -/
import Derived.Test.YtidecdlaeomfoaaGreatQA09
set_option maxHeartbeats 2000000
namespace Go.Proofs.YtidecdlaeomfoaaGreat
open Go.RowKit
def endT (s : ByteArray) : Bool := if hxA s = true then alD 16 (s.extract 2 s.size).data.toList else if s.size = 0 then false else alD 10 s.data.toList
def lastF (s : ByteArray) : ByteArray := s.extract (fieldsTo s 46 s.size).2 s.size
def endL (s : ByteArray) : Bool := endT (lastF s)
theorem lastF_size (s : ByteArray) : (lastF s).size ≤ s.size := by
 unfold lastF
 rw [ByteArray.size_extract]
 omega
theorem lastF_at (s : ByteArray) : (fieldsL s 46).getD ((fieldsL s 46).length - 1) ByteArray.empty = lastF s := by
 unfold fieldsL
 rw [List.length_append, List.length_singleton, Nat.add_sub_cancel, List.getD_eq_getElem?_getD, List.getElem?_append_right (Nat.le_refl _)]
 simp [lastF]
theorem alD16_drop (s : ByteArray) (k : Nat) (h : k < s.size) : alD 16 (s.data.toList.drop k) = (decide (0 ≤ hexN s[k].toNat) && alD 16 (s.data.toList.drop (k + 1))) := by
 rw [alD_drop s k h]
 congr 1
 have := (hexN_le s[k].toNat).2
 refine decide_eq_decide.2 ⟨fun h => h.1, fun h => ⟨h, ?_⟩⟩
 omega
theorem specAll6 (s : ByteArray) (w : World) (hs : s.size ≤ 1048576) :
  Calls Tryz.prog 77 #[.string s] w fun e w' => e = .returned (.bool (alD 16 s.data.toList)) ∧ w = w' := by
 go_enter Tryz.func77, Tryz.ntmps77
 go_wp2
 go_loop [3] (fun i => ∃ k : Nat, k ≤ s.size ∧ i = .int .i64 k ∧ alD 16 (s.data.toList.drop k) = alD 16 s.data.toList) (fun i => s.size - (intOf i).toNat)
 case atStart => exact ⟨0, Nat.zero_le _, rfl, rfl⟩
 obtain ⟨k, hk, rfl, hf⟩ := hrel
 have HR : Hid (alD 16 (s.data.toList.drop k) = alD 16 s.data.toList) := hf
 clear hf
 by_cases hlt : k < s.size
 ·obtain ⟨d, hd⟩ : ∃ d : Nat, s[k].toNat = d := ⟨_, rfl⟩
  have hd1 : (d : Int) ≤ 255 := by have := s[k].toNat_lt; omega
  have HD : Hid (alD 16 (s.data.toList.drop k) = (decide (0 ≤ hexN d) && alD 16 (s.data.toList.drop (k + 1)))) := by
   show _ = _
   rw [alD16_drop s k hlt, hd]
  obtain ⟨hx1, hx2⟩ := hexN_le d
  have CH : Hid (∀ W, CS 57 #[.int .u8 (d : Int)] W (.int .i64 (hexN d))) := fun W => specHex d W hd1
  generalize hexN d = x at HD CH hx1 hx2
  have hki : (k : Int) < (s.size : Int) := by omega
  by_cases hx0 : x < 0
  ·have HZ : Hid (alD 16 s.data.toList = false) := by
    show _ = _
    rw [← HR.out, HD.out, decide_eq_false (by omega)]
    rfl
   go_wp2_with fail
   refine (CH.out _).mono ?_
   rintro e w' ⟨rfl, rfl⟩
   go_wp2_with fail
   go_ret
   exact ⟨by rw [HZ.out]; rfl, rfl⟩
  have HZ : Hid (alD 16 (s.data.toList.drop (k + 1)) = alD 16 s.data.toList) := by
   show _ = _
   rw [← HR.out, HD.out, decide_eq_true (by omega)]
   rfl
  go_wp2_with fail
  refine (CH.out _).mono ?_
  rintro e w' ⟨rfl, rfl⟩
  go_wp2_with fail
  go_round
  case rel => exact ⟨k + 1, by omega, by go_num, HZ.out⟩
  case measure => simp [intOf]; omega
 have HZ : Hid (alD 16 s.data.toList = true) := by
  show _ = _
  rw [← HR.out, List.drop_of_length_le (by simp; omega)]
  rfl
 have hki : ¬ (k : Int) < (s.size : Int) := by omega
 go_wp2_with fail
 go_ret
 exact ⟨by rw [HZ.out]; rfl, rfl⟩
theorem alD10_drop (s : ByteArray) (k : Nat) (h : k < s.size) : alD 10 (s.data.toList.drop k) = (decide (48 ≤ s[k].toNat ∧ s[k].toNat ≤ 57) && alD 10 (s.data.toList.drop (k + 1))) := by
 rw [alD_drop s k h]
 congr 1
 have := s[k].toNat_lt
 generalize s[k].toNat = c at this
 refine decide_eq_decide.2 ?_
 unfold hexN
 split
 ·omega
 split
 ·omega
 split <;> omega
theorem specEndsInNumber (s : ByteArray) (w : World) (hs : s.size ≤ 1048576) :
  Calls Tryz.prog 61 #[.string s] w fun e w' => e = .returned (.bool (endL s)) ∧ Below w.heap.size w w' := by
 have CF : Hid (Calls Tryz.prog 74 #[.string s, .int .u8 46] w fun e w' => ∃ v, e = .returned v ∧ w'.ownsRow w.heap.size 9 1 v (fieldsL s 46).length (scells (fieldsL s 46)) ∧ Below w.heap.size w w') := specFields s 46 w hs
 have hpos : 0 < (fieldsL s 46).length := by simp [fieldsL]
 have hlen : (fieldsL s 46).length ≤ 1048577 := by
  have := (fieldsTo_le s 46 s.size).2
  simp [fieldsL]; omega
 have hL : (fieldsL s 46).getD ((fieldsL s 46).length - 1) ByteArray.empty = lastF s := lastF_at s
 have hts : (lastF s).size ≤ 1048576 := Nat.le_trans (lastF_size s) hs
 have HT : Hid (endL s = endT (lastF s)) := rfl
 generalize lastF s = t at hL hts HT
 generalize fieldsL s 46 = fs at CF hpos hlen hL
 go_enter Tryz.func61, Tryz.ntmps61
 go_wp2_with fail
 refine CF.out.mono ?_
 rintro e wa ⟨va, rfl, oa, ba⟩
 rcases own_shape oa with ⟨h, _⟩ | ⟨_, g, cap, rfl⟩
 ·omega
 have hc := scell_at oa (fs.length - 1) (by omega)
 rw [hL] at hc
 have hi : ((fs.length : Int) - 1) = ((fs.length - 1 : Nat) : Int) := by omega
 clear oa hL
 cases hx : hxA t with
 | true =>
  obtain ⟨h2, h48, hxx⟩ := of_decide_eq_true hx
  have HZ : Hid (endT t = alD 16 (t.extract 2 t.size).data.toList) := by
   show _ = _
   unfold endT
   rw [if_pos hx]
  have CD : Hid (∀ W, CS 77 #[.string (t.extract 2 t.size)] W (.bool (alD 16 (t.extract 2 t.size).data.toList))) := fun W => specAll6 _ W (by rw [ByteArray.size_extract]; omega)
  generalize alD 16 (t.extract 2 t.size).data.toList = R at HZ CD
  have h1' : 1 < (t.size : Int) := by omega
  obtain ⟨c, hcc⟩ : ∃ c : Nat, t[1].toNat = c := ⟨_, rfl⟩
  rw [hcc] at hxx
  clear hx
  rcases hxx with rfl | rfl
  ·go_wp2_with fail
   refine (CD.out _).mono ?_
   rintro e w' ⟨rfl, rfl⟩
   go_wp2_with fail
   go_ret
   exact ⟨by rw [HT.out, HZ.out]; rfl, ba⟩
  go_wp2_with fail
  refine (CD.out _).mono ?_
  rintro e w' ⟨rfl, rfl⟩
  go_wp2_with fail
  go_ret
  exact ⟨by rw [HT.out, HZ.out]; rfl, ba⟩
 | false =>
  have HZ : Hid (endT t = if t.size = 0 then false else alD 10 t.data.toList) := by
   show _ = _
   unfold endT
   rw [hx, if_neg (by decide)]
  have hno := of_decide_eq_false hx
  clear hx
  by_cases h2 : 1 < t.size
  ·have h1' : 1 < (t.size : Int) := by omega
   obtain ⟨d, hd⟩ : ∃ d : Nat, t[0].toNat = d := ⟨_, rfl⟩
   by_cases hd0 : d = 48
   ·obtain ⟨c, hcc⟩ : ∃ c : Nat, t[1].toNat = c := ⟨_, rfl⟩
    have q1 : ((c : Int) == 120) = false := beq_eq_false_iff_ne.2 (fun e => hno ⟨h2, by omega, .inl (by omega)⟩)
    have q2 : ((c : Int) == 88) = false := beq_eq_false_iff_ne.2 (fun e => hno ⟨h2, by omega, .inr (by omega)⟩)
    subst hd0
    clear hno
    go_wp2_with fail
    clear q1 q2 hd hcc hc hi
    go_loop [5] (fun i => ∃ k : Nat, k ≤ t.size ∧ i = .int .i64 k ∧ alD 10 (t.data.toList.drop k) = alD 10 t.data.toList) (fun i => t.size - (intOf i).toNat)
    case atStart => exact ⟨0, Nat.zero_le _, rfl, rfl⟩
    obtain ⟨k, hk, rfl, hf⟩ := hrel
    have HR : Hid (alD 10 (t.data.toList.drop k) = alD 10 t.data.toList) := hf
    clear hf
    by_cases hlt : k < t.size
    ·obtain ⟨y, hy⟩ : ∃ y : Nat, t[k].toNat = y := ⟨_, rfl⟩
     have hy1 : (y : Int) ≤ 255 := by have := t[k].toNat_lt; omega
     have HD : Hid (alD 10 (t.data.toList.drop k) = (decide (48 ≤ y ∧ y ≤ 57) && alD 10 (t.data.toList.drop (k + 1)))) := by
      show _ = _
      rw [alD10_drop t k hlt, hy]
     have hki : (k : Int) < (t.size : Int) := by omega
     by_cases hin : 48 ≤ y ∧ y ≤ 57
     ·have CI : Hid (∀ W, CS 18 #[.int .i64 (y : Int), .int .i64 48, .int .i64 57] W (.bool true)) := fun W => labIn_yes _ _ _ W (by omega) (by omega)
      have HZ2 : Hid (alD 10 (t.data.toList.drop (k + 1)) = alD 10 t.data.toList) := by
       show _ = _
       rw [← HR.out, HD.out, decide_eq_true hin]
       rfl
      clear hin
      go_wp2_with fail
      refine (CI.out _).mono ?_
      rintro e w' ⟨rfl, rfl⟩
      go_wp2_with fail
      go_round
      case rel => exact ⟨k + 1, by omega, by go_num, HZ2.out⟩
      case measure => simp [intOf]; omega
     have CI : Hid (∀ W, CS 18 #[.int .i64 (y : Int), .int .i64 48, .int .i64 57] W (.bool false)) := fun W => labIn_no _ _ _ W (by omega)
     have HZ2 : Hid (alD 10 t.data.toList = false) := by
      show _ = _
      rw [← HR.out, HD.out, decide_eq_false hin]
      rfl
     have hne : ¬ t.size = 0 := by omega
     clear hin
     go_wp2_with fail
     refine (CI.out _).mono ?_
     rintro e w' ⟨rfl, rfl⟩
     go_wp2_with fail
     go_ret
     exact ⟨by rw [HT.out, HZ.out, if_neg hne, HZ2.out]; rfl, ba⟩
    have HZ2 : Hid (alD 10 t.data.toList = true) := by
     show _ = _
     rw [← HR.out, List.drop_of_length_le (by simp; omega)]
     rfl
    have hki : ¬ (k : Int) < (t.size : Int) := by omega
    by_cases h00 : t.size = 0
    ·have HE : Hid (t.size = 0) := h00
     have hem := empty_yes h00
     clear h00
     go_wp2_with fail
     go_ret
     exact ⟨by rw [HT.out, HZ.out, if_pos HE.out]; rfl, ba⟩
    have HE : Hid (¬ t.size = 0) := h00
    have hem := empty_no (by omega : 0 < t.size)
    clear h00
    go_wp2_with fail
    go_ret
    exact ⟨by rw [HT.out, HZ.out, if_neg HE.out, HZ2.out]; rfl, ba⟩
   have q0 : ((d : Int) == 48) = false := beq_eq_false_iff_ne.2 (by omega)
   clear hno hd0
   go_wp2_with fail
   clear q0 hd hc hi
   go_loop [5] (fun i => ∃ k : Nat, k ≤ t.size ∧ i = .int .i64 k ∧ alD 10 (t.data.toList.drop k) = alD 10 t.data.toList) (fun i => t.size - (intOf i).toNat)
   case atStart => exact ⟨0, Nat.zero_le _, rfl, rfl⟩
   obtain ⟨k, hk, rfl, hf⟩ := hrel
   have HR : Hid (alD 10 (t.data.toList.drop k) = alD 10 t.data.toList) := hf
   clear hf
   by_cases hlt : k < t.size
   ·obtain ⟨y, hy⟩ : ∃ y : Nat, t[k].toNat = y := ⟨_, rfl⟩
    have hy1 : (y : Int) ≤ 255 := by have := t[k].toNat_lt; omega
    have HD : Hid (alD 10 (t.data.toList.drop k) = (decide (48 ≤ y ∧ y ≤ 57) && alD 10 (t.data.toList.drop (k + 1)))) := by
     show _ = _
     rw [alD10_drop t k hlt, hy]
    have hki : (k : Int) < (t.size : Int) := by omega
    by_cases hin : 48 ≤ y ∧ y ≤ 57
    ·have CI : Hid (∀ W, CS 18 #[.int .i64 (y : Int), .int .i64 48, .int .i64 57] W (.bool true)) := fun W => labIn_yes _ _ _ W (by omega) (by omega)
     have HZ2 : Hid (alD 10 (t.data.toList.drop (k + 1)) = alD 10 t.data.toList) := by
      show _ = _
      rw [← HR.out, HD.out, decide_eq_true hin]
      rfl
     clear hin
     go_wp2_with fail
     refine (CI.out _).mono ?_
     rintro e w' ⟨rfl, rfl⟩
     go_wp2_with fail
     go_round
     case rel => exact ⟨k + 1, by omega, by go_num, HZ2.out⟩
     case measure => simp [intOf]; omega
    have CI : Hid (∀ W, CS 18 #[.int .i64 (y : Int), .int .i64 48, .int .i64 57] W (.bool false)) := fun W => labIn_no _ _ _ W (by omega)
    have HZ2 : Hid (alD 10 t.data.toList = false) := by
     show _ = _
     rw [← HR.out, HD.out, decide_eq_false hin]
     rfl
    have hne : ¬ t.size = 0 := by omega
    clear hin
    go_wp2_with fail
    refine (CI.out _).mono ?_
    rintro e w' ⟨rfl, rfl⟩
    go_wp2_with fail
    go_ret
    exact ⟨by rw [HT.out, HZ.out, if_neg hne, HZ2.out]; rfl, ba⟩
   have HZ2 : Hid (alD 10 t.data.toList = true) := by
    show _ = _
    rw [← HR.out, List.drop_of_length_le (by simp; omega)]
    rfl
   have hki : ¬ (k : Int) < (t.size : Int) := by omega
   by_cases h00 : t.size = 0
   ·have HE : Hid (t.size = 0) := h00
    have hem := empty_yes h00
    clear h00
    go_wp2_with fail
    go_ret
    exact ⟨by rw [HT.out, HZ.out, if_pos HE.out]; rfl, ba⟩
   have HE : Hid (¬ t.size = 0) := h00
   have hem := empty_no (by omega : 0 < t.size)
   clear h00
   go_wp2_with fail
   go_ret
   exact ⟨by rw [HT.out, HZ.out, if_neg HE.out, HZ2.out]; rfl, ba⟩
  have h1' : ¬ 1 < (t.size : Int) := by omega
  clear hno
  go_wp2_with fail
  clear hc hi
  go_loop [5] (fun i => ∃ k : Nat, k ≤ t.size ∧ i = .int .i64 k ∧ alD 10 (t.data.toList.drop k) = alD 10 t.data.toList) (fun i => t.size - (intOf i).toNat)
  case atStart => exact ⟨0, Nat.zero_le _, rfl, rfl⟩
  obtain ⟨k, hk, rfl, hf⟩ := hrel
  have HR : Hid (alD 10 (t.data.toList.drop k) = alD 10 t.data.toList) := hf
  clear hf
  by_cases hlt : k < t.size
  ·obtain ⟨y, hy⟩ : ∃ y : Nat, t[k].toNat = y := ⟨_, rfl⟩
   have hy1 : (y : Int) ≤ 255 := by have := t[k].toNat_lt; omega
   have HD : Hid (alD 10 (t.data.toList.drop k) = (decide (48 ≤ y ∧ y ≤ 57) && alD 10 (t.data.toList.drop (k + 1)))) := by
    show _ = _
    rw [alD10_drop t k hlt, hy]
   have hki : (k : Int) < (t.size : Int) := by omega
   by_cases hin : 48 ≤ y ∧ y ≤ 57
   ·have CI : Hid (∀ W, CS 18 #[.int .i64 (y : Int), .int .i64 48, .int .i64 57] W (.bool true)) := fun W => labIn_yes _ _ _ W (by omega) (by omega)
    have HZ2 : Hid (alD 10 (t.data.toList.drop (k + 1)) = alD 10 t.data.toList) := by
     show _ = _
     rw [← HR.out, HD.out, decide_eq_true hin]
     rfl
    clear hin
    go_wp2_with fail
    refine (CI.out _).mono ?_
    rintro e w' ⟨rfl, rfl⟩
    go_wp2_with fail
    go_round
    case rel => exact ⟨k + 1, by omega, by go_num, HZ2.out⟩
    case measure => simp [intOf]; omega
   have CI : Hid (∀ W, CS 18 #[.int .i64 (y : Int), .int .i64 48, .int .i64 57] W (.bool false)) := fun W => labIn_no _ _ _ W (by omega)
   have HZ2 : Hid (alD 10 t.data.toList = false) := by
    show _ = _
    rw [← HR.out, HD.out, decide_eq_false hin]
    rfl
   have hne : ¬ t.size = 0 := by omega
   clear hin
   go_wp2_with fail
   refine (CI.out _).mono ?_
   rintro e w' ⟨rfl, rfl⟩
   go_wp2_with fail
   go_ret
   exact ⟨by rw [HT.out, HZ.out, if_neg hne, HZ2.out]; rfl, ba⟩
  have HZ2 : Hid (alD 10 t.data.toList = true) := by
   show _ = _
   rw [← HR.out, List.drop_of_length_le (by simp; omega)]
   rfl
  have hki : ¬ (k : Int) < (t.size : Int) := by omega
  by_cases h00 : t.size = 0
  ·have HE : Hid (t.size = 0) := h00
   have hem := empty_yes h00
   clear h00
   go_wp2_with fail
   go_ret
   exact ⟨by rw [HT.out, HZ.out, if_pos HE.out]; rfl, ba⟩
  have HE : Hid (¬ t.size = 0) := h00
  have hem := empty_no (by omega : 0 < t.size)
  clear h00
  go_wp2_with fail
  go_ret
  exact ⟨by rw [HT.out, HZ.out, if_neg HE.out, HZ2.out]; rfl, ba⟩
end Go.Proofs.YtidecdlaeomfoaaGreat
