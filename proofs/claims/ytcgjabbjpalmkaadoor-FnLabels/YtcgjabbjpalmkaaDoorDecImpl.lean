/- Contract of impl.PunyDecode. -/
import Derived.Test.YtcgjabbjpalmkaaDoorRows
import Derived.Test.YtcgjabbjpalmkaaDoorReadImpl
import Derived.Test.YtcgjabbjpalmkaaDoorEncImpl
namespace Go.Proofs.YtcgjabbjpalmkaaDoor
open Go.RowKit Go.Shelf

/-- PunyEncode at whatever row of numbers the caller owns. -/
theorem implEncAll (l : List Nat) (v : Value) (B : Nat) (w : World) (hl : l.length ≤ 1048576) (hown : w.ownsRow B 3 1 v l.length (icN l)) :
    Calls Tryd.prog 48 #[v] w fun e w' => e = .returned (.tuple #[.string ⟨(b8 (if encOk l = true then encC l else [])).toArray⟩, .bool (encOk l)]) ∧ Below w.heap.size w w' := by
  rcases own_shape hown with ⟨h0, _, ao, cap, rfl⟩ | ⟨_, g, cap, rfl⟩
  · have hl0 : l = [] := List.eq_nil_of_length_eq_zero h0
    subst hl0
    refine (implPunyEncode_nil ao cap w).mono ?_
    rintro e w' ⟨rfl, hb⟩
    exact ⟨rfl, hb⟩
  · by_cases hok : encOk l = true
    · rw [if_pos hok, hok]
      exact implPunyEncode_yes l l.length g cap B w hok rfl hown
    · rw [if_neg hok]
      have hf : encOk l = false := by simpa using hok
      rw [hf]
      exact implPunyEncode_no (l.map fun (c : Nat) => (c : Int)) l.length g cap B w (fun h => hok (encOk_Z.2 h)) (by simp) hl hown

theorem dec_raw {s l : List Nat} (h : decC s = some l) : rawC s = some l := by
  unfold decC at h
  split at h
  · next l' hr =>
    split at h
    · cases h; exact hr
    · cases h
  · cases h

theorem split_nil : splitD [] = none := rfl

/-- A code does not begin with its only hyphen. -/
theorem dec_dash {s l : List Nat} (h : splitD s = some ([], s.drop 1)) (hd : decC s = some l) : False := by
  obtain ⟨_, he⟩ := (dec_iff s l).1 hd
  obtain ⟨p1, p2⟩ := enc_parts l
  rw [he] at p1 p2
  have h1 : headD s = [] := by unfold headD; rw [h]
  have h2 : tailD s = s.drop 1 := by unfold tailD; rw [h]
  rw [h1] at p1
  have h3 : s = (encV l).map digB := by
    rw [← he]
    unfold encC
    rw [← p1]
    rfl
  rw [← h3, h2] at p2
  have h4 := congrArg List.length p2
  rw [List.length_drop] at h4
  have h5 : s = [] := List.eq_nil_of_length_eq_zero (by omega)
  rw [h5, split_nil] at h
  cases h

theorem str_eq {a b : ByteArray} (h : a = b) : (a.toList == b.toList) = true := by rw [h]; exact beq_self_eq_true _

set_option maxRecDepth 20000 in
set_option maxHeartbeats 4000000 in
theorem implPunyDecode (s : ByteArray) (w : World) (hs600 : (s.size : Int) ≤ 600) :
    Calls Tryd.prog 32 #[.string s] w fun e w' => decAns w w' (decC (sN s)) e ∧ Below w.heap.size w w' := by
  have hng : ¬ 600 < (s.size : Int) := by omega
  go_enter Tryd.func32, Tryd.ntmps32
  go_wp2_with fail
  refine (implRead s w hs600).mono ?_
  rintro e w2 ⟨hans, hb⟩
  obtain ⟨R, hR, HD⟩ : ∃ R : Option (List Nat), readIAns w w2 R e ∧ ∀ l, decC (sN s) = some l → R = some l := by
    rcases hans with ⟨k, hk, hks, hsp, hr⟩ | ⟨hsp | hsp, hr⟩
    · refine ⟨_, hr, fun l hl => ?_⟩
      have h1 := dec_raw hl
      unfold rawC headD tailD at h1
      rw [hsp, sN_length] at h1
      simp only at h1
      rw [List.length_take, sN_length, Nat.min_eq_left (by omega)] at h1
      exact rawI_of k _ _ _ _ _ _ l (by decide) h1
    · refine ⟨_, hr, fun l hl => ?_⟩
      have h1 := dec_raw hl
      unfold rawC headD tailD at h1
      rw [hsp, sN_length] at h1
      exact rawI_of 0 _ _ _ _ _ _ l (by decide) h1
    · exact ⟨_, hr, fun l hl => (dec_dash hsp hl).elim⟩
  have HDD : Hid (∀ l, decC (sN s) = some l → R = some l) := HD
  have HB : Hid (Below w.heap.size w w2) := hb
  have hsz := hb.size
  clear hans HD hb
  rcases hR with ⟨hno, rfl⟩ | ⟨l, v, hyes, hl6, rfl, hown⟩
  · have HN : Hid (decC (sN s) = none) := by
      show _ = _
      cases hd : decC (sN s) with
      | none => rfl
      | some l => have := HDD.out l hd; rw [hno] at this; cases this
    have HZ : Hid ((w2.alloc (.cells #[] 3)).ownsRow w.heap.size 3 1 (.slice (some ⟨w2.heap.size, 0, none⟩) 0 0) 0 []) := World.ownsRow_lit w2 #[] 0 hsz (by decide) rfl
    clear hno
    go_wp2_with fail
    go_ret2
    exact ⟨decAns_none HN.out HZ.out rfl, HB.out.alloc hsz _⟩
  · have CE : Hid (Calls Tryd.prog 48 #[v] w2 fun e w' => e = .returned (.tuple #[.string ⟨(b8 (if encOk l = true then encC l else [])).toArray⟩, .bool (encOk l)]) ∧ Below w2.heap.size w2 w') := implEncAll l v w.heap.size w2 (by omega) hown
    have HOW : Hid (w2.ownsRow w.heap.size 3 1 v l.length (icN l)) := hown
    have HAL : Hid (∀ l', decC (sN s) = some l' → l' = l) := fun l' h => by
      have := HDD.out l' h
      rw [hyes] at this
      injection this with this
      exact this.symm
    clear hyes HDD
    obtain ⟨ao, cp, hu⟩ := own_slice hown
    subst hu
    clear hown
    by_cases hok : encOk l = true
    · rw [if_pos hok, hok] at CE
      by_cases heq : encC l = sN s
      · have HY : Hid (decC (sN s) = some l) := (dec_iff _ _).2 ⟨hok, heq⟩
        have hst := str_eq ((sN_eq s (encC l) (fun c hc => by have := enc_ascii c hc; omega)).2 heq)
        generalize (⟨(b8 (encC l)).toArray⟩ : ByteArray) = t at CE hst
        clear hok heq
        go_wp2_with fail
        refine CE.out.mono ?_
        rintro e w3 ⟨rfl, hb3⟩
        have HO3 : Hid (w3.ownsRow w.heap.size 3 1 (.slice ao l.length cp) l.length (icN l)) := own_below HOW.out hb3
        have HB3 : Hid (Below w.heap.size w w3) := HB.out.trans (hb3.mono hsz)
        clear hb3
        go_wp2_with fail
        go_ret2
        exact ⟨decAns_some HY.out HO3.out rfl, HB3.out⟩
      · have HN : Hid (decC (sN s) = none) := by
          show _ = _
          cases hd : decC (sN s) with
          | none => rfl
          | some l' =>
            have h1 := HAL.out l' hd
            rw [h1] at hd
            exact absurd ((dec_iff _ _).1 hd).2 heq
        have hst := str_ne (fun h => heq ((sN_eq s (encC l) (fun c hc => by have := enc_ascii c hc; omega)).1 h))
        generalize (⟨(b8 (encC l)).toArray⟩ : ByteArray) = t at CE hst
        clear hok heq
        go_wp2_with fail
        refine CE.out.mono ?_
        rintro e w3 ⟨rfl, hb3⟩
        have hsz3 : w.heap.size ≤ w3.heap.size := Nat.le_trans hsz hb3.size
        have HB3 : Hid (Below w.heap.size w w3) := HB.out.trans (hb3.mono hsz)
        have HZ : Hid ((w3.alloc (.cells #[] 3)).ownsRow w.heap.size 3 1 (.slice (some ⟨w3.heap.size, 0, none⟩) 0 0) 0 []) := World.ownsRow_lit w3 #[] 0 hsz3 (by decide) rfl
        clear hb3
        go_wp2_with fail
        go_ret2
        exact ⟨decAns_none HN.out HZ.out rfl, HB3.out.alloc hsz3 _⟩
    · have HN : Hid (decC (sN s) = none) := by
        show _ = _
        cases hd : decC (sN s) with
        | none => rfl
        | some l' =>
          have h1 := HAL.out l' hd
          rw [h1] at hd
          exact absurd ((dec_iff _ _).1 hd).1 hok
      rw [if_neg hok, show encOk l = false by simpa using hok] at CE
      generalize (⟨(b8 []).toArray⟩ : ByteArray) = t at CE
      clear hok
      go_wp2_with fail
      refine CE.out.mono ?_
      rintro e w3 ⟨rfl, hb3⟩
      have hsz3 : w.heap.size ≤ w3.heap.size := Nat.le_trans hsz hb3.size
      have HB3 : Hid (Below w.heap.size w w3) := HB.out.trans (hb3.mono hsz)
      have HZ : Hid ((w3.alloc (.cells #[] 3)).ownsRow w.heap.size 3 1 (.slice (some ⟨w3.heap.size, 0, none⟩) 0 0) 0 []) := World.ownsRow_lit w3 #[] 0 hsz3 (by decide) rfl
      clear hb3
      go_wp2_with fail
      go_ret2
      exact ⟨decAns_none HN.out HZ.out rfl, HB3.out.alloc hsz3 _⟩

theorem implPunyDecode_big (s : ByteArray) (w : World) (hs : 600 < (s.size : Int)) :
    Calls Tryd.prog 32 #[.string s] w fun e w' => decAns w w' none e ∧ Below w.heap.size w w' := by
  go_enter Tryd.func32, Tryd.ntmps32
  go_wp2
  go_ret2
  exact ⟨decAns_none rfl (World.ownsRow_lit w #[] 0 (Nat.le_refl _) (by decide) rfl) rfl, (Below.refl _ _).alloc (Nat.le_refl _) _⟩
end Go.Proofs.YtcgjabbjpalmkaaDoor
