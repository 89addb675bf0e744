/- Contracts of what is kept, as the specification tells it. -/
import Derived.Test.YtokkcbjhkepjnaaDoorRows
import Derived.Test.YtokkcbjhkepjnaaDoorKeepWalk
namespace Go.Proofs.YtokkcbjhkepjnaaDoor
open Go.RowKit

def amongL (l : List UInt8) (c : Int) : Bool := l.any fun b => decide ((b.toNat : Int) = c)

set_option maxHeartbeats 1000000 in
theorem specAmong (s : ByteArray) (c : Int) (w : World) (hs : s.size ≤ 1000) :
    Calls Tryd.prog 69 #[.string s, .int .i64 c] w fun e w' => e = .returned (.bool (amongL s.data.toList c)) ∧ w = w' := by
  go_enter Tryd.func69, Tryd.ntmps69
  go_wp2
  go_loop [5] (fun i => ∃ k : Nat, k ≤ s.size ∧ i = .int .i64 k ∧ amongL (s.data.toList.take k) c = false) (fun i => s.size - (intOf i).toNat)
  case atStart => exact ⟨0, Nat.zero_le _, rfl, rfl⟩
  case round =>
    obtain ⟨k, hk, rfl, hno⟩ := hrel
    have HN : Hid (amongL (s.data.toList.take k) c = false) := hno
    clear hno
    by_cases hlt : k < s.size
    · obtain ⟨d, hd⟩ : ∃ d : Nat, s[k].toNat = d := ⟨_, rfl⟩
      have hd1 : (d : Int) ≤ 255 := by have := s[k].toNat_lt; omega
      by_cases he : (d : Int) = c
      · have HV : Hid (amongL s.data.toList c = true) := by
          show _ = _
          unfold amongL
          refine List.any_eq_true.2 ⟨s[k], ?_, by rw [hd]; exact decide_eq_true he⟩
          have : s[k] ∈ s.data := Array.getElem_mem _
          simpa using this
        go_wp2
        go_ret
        exact ⟨ret_bool (by rw [HV.out]), rfl⟩
      · have HN2 : Hid (amongL (s.data.toList.take (k + 1)) c = false) := by
          show _ = _
          have h := HN.out
          unfold amongL at h ⊢
          rw [take_snoc s k hlt, List.any_append, h]
          simp [hd, he]
        go_wp2
        go_round
        case rel => exact ⟨k + 1, by omega, by go_num, HN2.out⟩
        case measure => simp [intOf]; omega
    · have HV : Hid (amongL s.data.toList c = false) := by
        show _ = _
        have h := HN.out
        rw [take_all s k (by omega)] at h
        exact h
      go_wp2
      go_ret
      exact ⟨ret_bool (by rw [HV.out]), rfl⟩

def freeZ (c : Int) : Bool := decide (0 ≤ c) && freeN c.toNat
def letterZ (c : Int) : Bool := decide (97 ≤ c ∧ c ≤ 122) || decide (65 ≤ c ∧ c ≤ 90)

theorem plain_eq (c : Int) : amongL [45, 46, 95, 126] c = (decide (0 ≤ c) && plainT c.toNat) := by
  rw [Bool.eq_iff_iff]
  simp [amongL, plainT]
  omega
theorem mark_eq (c : Int) : amongL [33, 36, 38, 39, 40, 41, 42, 43, 44, 59, 61, 58, 64] c = (decide (0 ≤ c) && markN c.toNat) := by
  rw [Bool.eq_iff_iff]
  simp [amongL, markN]
  omega
theorem free_eq (c : Int) : freeZ c = (letterZ c || decide (48 ≤ c ∧ c ≤ 57) || amongL [45, 46, 95, 126] c) := by
  rw [plain_eq, Bool.eq_iff_iff]
  simp [freeZ, letterZ, freeN, letterN, digitN, plainT]
  omega

theorem specLetter (c : Int) (w : World) : Calls Tryd.prog 85 #[.int .i64 c] w fun e w' => e = .returned (.bool (letterZ c)) ∧ w = w' := by
  by_cases h1 : 97 ≤ c ∧ c ≤ 122
  · have HV : Hid (letterZ c = true) := by show _ = _; unfold letterZ; rw [decide_eq_true h1]; rfl
    have H1 : Hid (97 ≤ c ∧ c ≤ 122) := h1
    clear h1
    go_enter Tryd.func85, Tryd.ntmps85
    go_wp2_with fail
    refine (specL1In_yes _ _ _ _ H1.out.1 H1.out.2).mono ?_
    rintro e w' ⟨rfl, rfl⟩
    go_wp2
    go_ret
    exact ⟨ret_bool (by rw [HV.out]), rfl⟩
  · have HV : Hid (letterZ c = decide (65 ≤ c ∧ c ≤ 90)) := by show _ = _; unfold letterZ; rw [decide_eq_false h1]; rfl
    have H1 : Hid (c < 97 ∨ 122 < c) := by show _ ∨ _; omega
    clear h1
    go_enter Tryd.func85, Tryd.ntmps85
    go_wp2_with fail
    refine (specL1In_no _ _ _ _ H1.out).mono ?_
    rintro e w' ⟨rfl, rfl⟩
    go_wp2_with fail
    refine (specL1In _ _ _ _).mono ?_
    rintro e w' ⟨rfl, rfl⟩
    generalize decide (65 ≤ c ∧ c ≤ 90) = b at HV
    go_wp2
    go_ret
    exact ⟨ret_bool (by rw [HV.out]), rfl⟩

set_option maxHeartbeats 1000000 in
theorem specFree (c : Int) (w : World) : Calls Tryd.prog 64 #[.int .i64 c] w fun e w' => e = .returned (.bool (freeZ c)) ∧ w = w' := by
  have HV : Hid (freeZ c = (letterZ c || decide (48 ≤ c ∧ c ≤ 57) || amongL [45, 46, 95, 126] c)) := free_eq c
  have cl := fun W => specLetter c W
  have ca := fun W => specAmong ⟨#[45, 46, 95, 126]⟩ c W (by decide)
  have CL : Hid (∀ W, Calls Tryd.prog 85 #[.int .i64 c] W fun e w' => e = .returned (.bool (letterZ c)) ∧ W = w') := cl
  have CA : Hid (∀ W, Calls Tryd.prog 69 #[.string ⟨#[45, 46, 95, 126]⟩, .int .i64 c] W fun e w' => e = .returned (.bool (amongL [45, 46, 95, 126] c)) ∧ W = w') := ca
  clear cl ca
  generalize letterZ c = b1 at HV CL
  generalize amongL [45, 46, 95, 126] c = b3 at HV CA
  cases b1 with
  | true =>
    go_enter Tryd.func64, Tryd.ntmps64
    go_wp2_with fail
    refine (CL.out _).mono ?_
    rintro e w' ⟨rfl, rfl⟩
    go_wp2
    go_ret
    exact ⟨ret_bool (by rw [HV.out]; rfl), rfl⟩
  | false =>
    by_cases h2 : 48 ≤ c ∧ c ≤ 57
    · rw [decide_eq_true h2] at HV
      have H2 : Hid (48 ≤ c ∧ c ≤ 57) := h2
      clear h2
      go_enter Tryd.func64, Tryd.ntmps64
      go_wp2_with fail
      refine (CL.out _).mono ?_
      rintro e w' ⟨rfl, rfl⟩
      go_wp2_with fail
      refine (specL1In_yes _ _ _ _ H2.out.1 H2.out.2).mono ?_
      rintro e w' ⟨rfl, rfl⟩
      go_wp2
      go_ret
      exact ⟨ret_bool (by rw [HV.out]; rfl), rfl⟩
    · rw [decide_eq_false h2] at HV
      have H2 : Hid (c < 48 ∨ 57 < c) := by show _ ∨ _; omega
      clear h2
      go_enter Tryd.func64, Tryd.ntmps64
      go_wp2_with fail
      refine (CL.out _).mono ?_
      rintro e w' ⟨rfl, rfl⟩
      go_wp2_with fail
      refine (specL1In_no _ _ _ _ H2.out).mono ?_
      rintro e w' ⟨rfl, rfl⟩
      go_wp2_with fail
      refine (CA.out _).mono ?_
      rintro e w' ⟨rfl, rfl⟩
      go_wp2
      go_ret
      exact ⟨ret_bool (by rw [HV.out]; rfl), rfl⟩

theorem keepZ_eq {set : Int} (h : 1 ≤ set ∧ set ≤ 3) (c : Int) : keepZ set c = (freeZ c || amongL [33, 36, 38, 39, 40, 41, 42, 43, 44, 59, 61, 58, 64] c || (decide (c = 47) && decide (set ≠ 3)) || (decide (c = 63) && decide (set = 2))) := by
  rw [mark_eq]
  unfold keepZ keepN freeZ
  rw [decide_eq_true h]
  by_cases h0 : 0 ≤ c
  · have e1 : decide (c.toNat = 47) = decide (c = 47) := decide_eq_decide.2 (by omega)
    have e2 : decide (c.toNat = 63) = decide (c = 63) := decide_eq_decide.2 (by omega)
    rw [e1, e2, decide_eq_true h0]
    rfl
  · have e1 : decide (c = 47) = false := decide_eq_false (by omega)
    have e2 : decide (c = 63) = false := decide_eq_false (by omega)
    rw [e1, e2, decide_eq_false h0]
    rfl

set_option maxHeartbeats 2000000 in
theorem specKeeps (set c : Int) (w : World) :
    Calls Tryd.prog 38 #[.int .i64 set, .int .i64 c] w fun e w' => e = .returned (.bool (keepZ set c)) ∧ w = w' := by
  by_cases h : 1 ≤ set ∧ set ≤ 3
  · have HV : Hid (keepZ set c = _) := keepZ_eq h c
    have H1 : Hid (1 ≤ set ∧ set ≤ 3) := h
    clear h
    have cl := fun W => specFree c W
    have ca := fun W => specAmong ⟨#[33, 36, 38, 39, 40, 41, 42, 43, 44, 59, 61, 58, 64]⟩ c W (by decide)
    have CL : Hid (∀ W, Calls Tryd.prog 64 #[.int .i64 c] W fun e w' => e = .returned (.bool (freeZ c)) ∧ W = w') := cl
    have CA : Hid (∀ W, Calls Tryd.prog 69 #[.string ⟨#[33, 36, 38, 39, 40, 41, 42, 43, 44, 59, 61, 58, 64]⟩, .int .i64 c] W fun e w' => e = .returned (.bool (amongL [33, 36, 38, 39, 40, 41, 42, 43, 44, 59, 61, 58, 64] c)) ∧ W = w') := ca
    clear cl ca
    generalize freeZ c = b1 at HV CL
    generalize amongL [33, 36, 38, 39, 40, 41, 42, 43, 44, 59, 61, 58, 64] c = b2 at HV CA
    cases b1 with
    | true =>
      go_enter Tryd.func38, Tryd.ntmps38
      go_wp2_with fail
      refine (specL1In_yes _ _ _ _ H1.out.1 H1.out.2).mono ?_
      rintro e w' ⟨rfl, rfl⟩
      go_wp2_with fail
      refine (CL.out _).mono ?_
      rintro e w' ⟨rfl, rfl⟩
      go_wp2
      go_ret
      exact ⟨ret_bool (by rw [HV.out]; rfl), rfl⟩
    | false =>
      cases b2 with
      | true =>
        go_enter Tryd.func38, Tryd.ntmps38
        go_wp2_with fail
        refine (specL1In_yes _ _ _ _ H1.out.1 H1.out.2).mono ?_
        rintro e w' ⟨rfl, rfl⟩
        go_wp2_with fail
        refine (CL.out _).mono ?_
        rintro e w' ⟨rfl, rfl⟩
        go_wp2_with fail
        refine (CA.out _).mono ?_
        rintro e w' ⟨rfl, rfl⟩
        go_wp2
        go_ret
        exact ⟨ret_bool (by rw [HV.out]; rfl), rfl⟩
      | false =>
        by_cases hs : c = 47
        · subst hs
          by_cases he : set = 3
          · subst he
            go_enter Tryd.func38, Tryd.ntmps38
            go_wp2_with fail
            refine (specL1In_yes _ _ _ _ H1.out.1 H1.out.2).mono ?_
            rintro e w' ⟨rfl, rfl⟩
            go_wp2_with fail
            refine (CL.out _).mono ?_
            rintro e w' ⟨rfl, rfl⟩
            go_wp2_with fail
            refine (CA.out _).mono ?_
            rintro e w' ⟨rfl, rfl⟩
            go_wp2
            go_ret
            exact ⟨ret_bool (by first | (rw [HV.out]; simp) | (rw [HV.out]; decide) | decide), rfl⟩
          · go_enter Tryd.func38, Tryd.ntmps38
            go_wp2_with fail
            refine (specL1In_yes _ _ _ _ H1.out.1 H1.out.2).mono ?_
            rintro e w' ⟨rfl, rfl⟩
            go_wp2_with fail
            refine (CL.out _).mono ?_
            rintro e w' ⟨rfl, rfl⟩
            go_wp2_with fail
            refine (CA.out _).mono ?_
            rintro e w' ⟨rfl, rfl⟩
            go_wp2
            go_ret
            exact ⟨ret_bool (by first | (rw [HV.out]; simp [he]) | (rw [HV.out]; decide) | decide), rfl⟩
        · by_cases hq : c = 63
          · subst hq
            by_cases he : set = 2
            · subst he
              go_enter Tryd.func38, Tryd.ntmps38
              go_wp2_with fail
              refine (specL1In_yes _ _ _ _ H1.out.1 H1.out.2).mono ?_
              rintro e w' ⟨rfl, rfl⟩
              go_wp2_with fail
              refine (CL.out _).mono ?_
              rintro e w' ⟨rfl, rfl⟩
              go_wp2_with fail
              refine (CA.out _).mono ?_
              rintro e w' ⟨rfl, rfl⟩
              go_wp2
              go_ret
              exact ⟨ret_bool (by first | (rw [HV.out]; simp) | (rw [HV.out]; decide) | decide), rfl⟩
            · go_enter Tryd.func38, Tryd.ntmps38
              go_wp2_with fail
              refine (specL1In_yes _ _ _ _ H1.out.1 H1.out.2).mono ?_
              rintro e w' ⟨rfl, rfl⟩
              go_wp2_with fail
              refine (CL.out _).mono ?_
              rintro e w' ⟨rfl, rfl⟩
              go_wp2_with fail
              refine (CA.out _).mono ?_
              rintro e w' ⟨rfl, rfl⟩
              go_wp2
              go_ret
              exact ⟨ret_bool (by first | (rw [HV.out]; simp [he]) | (rw [HV.out]; decide) | decide), rfl⟩
          · go_enter Tryd.func38, Tryd.ntmps38
            go_wp2_with fail
            refine (specL1In_yes _ _ _ _ H1.out.1 H1.out.2).mono ?_
            rintro e w' ⟨rfl, rfl⟩
            go_wp2_with fail
            refine (CL.out _).mono ?_
            rintro e w' ⟨rfl, rfl⟩
            go_wp2_with fail
            refine (CA.out _).mono ?_
            rintro e w' ⟨rfl, rfl⟩
            go_wp2
            go_ret
            exact ⟨ret_bool (by first | (rw [HV.out]; simp [hs, hq]) | (rw [HV.out]; decide) | decide), rfl⟩
  · have HV : Hid (keepZ set c = false) := keepZ_out c h
    have H1 : Hid (set < 1 ∨ 3 < set) := by show _ ∨ _; omega
    clear h
    go_enter Tryd.func38, Tryd.ntmps38
    go_wp2_with fail
    refine (specL1In_no _ _ _ _ H1.out).mono ?_
    rintro e w' ⟨rfl, rfl⟩
    go_wp2
    go_ret
    exact ⟨ret_bool (by rw [HV.out]), rfl⟩
end Go.Proofs.YtokkcbjhkepjnaaDoor
