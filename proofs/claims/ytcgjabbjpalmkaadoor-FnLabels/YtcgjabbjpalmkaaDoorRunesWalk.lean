/- Contracts of spec.Runes and impl.Runes: the runes of a text, or nothing. -/
import Derived.Test.YtcgjabbjpalmkaaDoorRows
import Derived.Test.YtcgjabbjpalmkaaDoorRuneAtWalk
import Derived.Test.YtcgjabbjpalmkaaDoorIntMarks
import Derived.Lib.OthersKept
namespace Go.Proofs.YtcgjabbjpalmkaaDoor
open Go.RowKit

theorem int_one (x : Int) : ∀ u ∈ #[Value.int .i64 x].toList, u.oneCell' = true := by
  intro u hu; simp at hu; subst hu; rfl

/-- A new row with the runes of s, and true; or an empty one, and false. -/
def RunesPost (s : ByteArray) (w : World) (e : Ending) (w' : World) : Prop :=
  ((finR s).1 = s.size ∧ ∃ v, e = .returned (.tuple #[v, .bool true]) ∧ w'.ownsRow w.heap.size 3 1 v (finR s).2.length (icells (finR s).2) ∧ Below w.heap.size w w') ∨
  ((finR s).1 ≠ s.size ∧ ∃ v, e = .returned (.tuple #[v, .bool false]) ∧ w'.ownsRow w.heap.size 3 1 v 0 (icells []) ∧ Below w.heap.size w w')

theorem runes_step (s : ByteArray) (k : Nat) (h1 : (stR s k).1 < s.size) (h2 : okAt s (stR s k).1) {w1 : World} {B : Nat} {v : Value} {e : TypeId} {x : Int} (hx : x = ((Utf8.decode s (stR s k).1).1 : Int))
    (hown : w1.ownsRow B e 1 v ((stR s k).2.length + 1) (icells (stR s k).2 ++ [.int .i64 x])) :
    w1.ownsRow B e 1 v (stR s (k + 1)).2.length (icells (stR s (k + 1)).2) := by
  subst hx
  rw [stR_step s k h1 h2]
  simp only
  rw [icells_snoc, List.length_append]
  exact hown

theorem own_not_iter {w : World} {B : Nat} {e : TypeId} {size : Nat} {v : Value} {n : Nat} {xs : List Value} {K : Nat} {s : ByteArray} {p : Nat} (h : w.ownsRow B e size v n xs) (hk : w.heap[K]? = some (.stringIter s p)) : some K ≠ v.ownBlock := by
  intro hx
  rcases h.2 with ⟨rfl, _⟩ | ⟨g, cap, cur, rfl, _, hg, _⟩
  · simp [Value.ownBlock] at hx
  · simp [Value.ownBlock] at hx
    subst hx
    rw [hk] at hg
    simp at hg

theorem own_iterAt {w : World} {B : Nat} {e : TypeId} {size : Nat} {v : Value} {n : Nat} {xs : List Value} {K : Nat} {s : ByteArray} {p : Nat} (h : w.ownsRow B e size v n xs) (hk : w.heap[K]? = some (.stringIter s p)) (p' : Nat) : (w.iterAt K s p').ownsRow B e size v n xs := by
  have hne := own_not_iter h hk
  refine ⟨h.1, ?_⟩
  rcases h.2 with hn | ⟨g, cap, cur, rfl, hb, hg, rest⟩
  · exact .inl hn
  · refine .inr ⟨g, cap, cur, rfl, hb, ?_, rest⟩
    have hgk : g ≠ K := by
      intro e
      subst e
      simp [Value.ownBlock] at hne
    rw [Lib.iterAt_other w K g s p' hgk]
    exact hg

set_option maxHeartbeats 2000000 in
theorem specRunes (s : ByteArray) (w : World) (hs : s.size ≤ 1048576) :
    Calls Tryd.prog 27 #[.string s] w fun e w' => RunesPost s w e w' := by
  go_enter Tryd.func27, Tryd.ntmps27
  go_wp2
  go_loopw [4, 5] (fun v i wr => ∃ k : Nat, i = .int .i64 ((stR s k).1 : Int) ∧ wr.ownsRow w.heap.size 3 1 v (stR s k).2.length (icells (stR s k).2) ∧ Below w.heap.size w wr)
    (fun _ i _ => s.size - (intOf i).toNat)
  case atStart => exact ⟨0, rfl, World.ownsRow_lit w #[] 0 (Nat.le_refl _) (by decide) rfl, (Below.refl _ _).alloc (Nat.le_refl _) _⟩
  case round =>
    obtain ⟨k, rfl, hown, hbel⟩ := hrel
    have hsz := hbel.size
    have hl := stR_len' s k
    have hle := stR_le s k
    have HS1 : Hid (∀ (h1 : (stR s k).1 < s.size) (h2 : okAt s (stR s k).1), (stR s (k + 1)).1 = (stR s k).1 + (Utf8.decode s (stR s k).1).2) := fun h1 h2 => by rw [stR_step s k h1 h2]
    have HST : Hid (¬ ((stR s k).1 < s.size ∧ okAt s (stR s k).1) → stR s k = finR s) := fun h => stR_fin s k h
    have HSP : Hid (∀ (h1 : (stR s k).1 < s.size) (h2 : okAt s (stR s k).1) (w1 : World) (v : Value) (x : Int) (hx : x = ((Utf8.decode s (stR s k).1).1 : Int)),
      w1.ownsRow w.heap.size 3 1 v ((stR s k).2.length + 1) (icells (stR s k).2 ++ [.int .i64 x]) → w1.ownsRow w.heap.size 3 1 v (stR s (k + 1)).2.length (icells (stR s (k + 1)).2)) :=
      fun h1 h2 w1 v x hx h => runes_step s k h1 h2 hx h
    have HP : Hid ((stR s k).1 = (stR s k).1) := rfl
    by_cases hlt : (stR s k).1 < s.size
    · have hw := Lib.decode_width_pos s (stR s k).1 hlt
      by_cases hok : okAt s (stR s k).1
      · have hr : runeAt s (stR s k).1 = (((Utf8.decode s (stR s k).1).1 : Int), ((Utf8.decode s (stR s k).1).2 : Int)) := by unfold runeAt; rw [if_pos hok]
        have hw4 : (stR s k).1 + (Utf8.decode s (stR s k).1).2 ≤ s.size := by rw [← HS1.out hlt hok]; exact stR_le s (k + 1)
        have HOK : Hid (okAt s (stR s k).1) := hok
        have cr := specL1Rune s (stR s k).1
        rw [hr] at cr
        have CR : Hid (∀ (W : World) (_ : (stR s k).1 < s.size) (_ : s.size ≤ 1099511627776), Calls Tryd.prog 50 #[.string s, .int .i64 ((stR s k).1 : Int)] W fun e w' => e = .returned (.tuple #[.int .i64 ((Utf8.decode s (stR s k).1).1 : Int), .int .i64 ((Utf8.decode s (stR s k).1).2 : Int)]) ∧ Below W.heap.size W w') := cr
        clear hok hr cr HST
        have H1 : Hid ((stR s (k + 1)).1 = (stR s k).1 + (Utf8.decode s (stR s k).1).2) := HS1.out hlt HOK.out
        have H2 : Hid (∀ (w1 : World) (v : Value), w1.ownsRow w.heap.size 3 1 v ((stR s k).2.length + 1) (icells (stR s k).2 ++ [.int .i64 ((Utf8.decode s (stR s k).1).1 : Int)]) → w1.ownsRow w.heap.size 3 1 v (stR s (k + 1)).2.length (icells (stR s (k + 1)).2)) :=
          fun w1 v h => HSP.out hlt HOK.out w1 v _ rfl h
        clear HS1 HSP HP
        generalize (Utf8.decode s (stR s k).1).1 = R at *
        generalize (Utf8.decode s (stR s k).1).2 = W at *
        generalize hp : (stR s k).1 = p at *
        generalize (stR s k).2 = l at *
        have HPP : Hid ((stR s k).1 = p) := hp
        clear hp
        have hne : ((W : Int) == 0) = false := by simp; omega
        go_wp2_with fail
        refine (CR.out _ hlt (by omega)).mono ?_
        rintro e wc ⟨rfl, hbc⟩
        have hown2 := own_below hown hbc
        have hsc := hbc.size
        go_wp2_with (at_builtin; refine wpList_append_new _ rfl _ _ 34 rfl w.heap.size 3 (.int .i64 0) 8 Tryd.underlying34 Tryd.infoInt rfl _ _ _ rfl hown2 #[.int .i64 (R : Int)] 1 rfl rfl (int_one _) (by omega) (by unfold maxLen; omega) (by omega) ?_)
        intro v' w1 hown' hb1
        have R1 := H2.out w1 v' hown'
        have B1 : Below w.heap.size w w1 := (hbel.trans (hbc.mono hsz)).trans hb1
        clear hown' hb1 hown hbel hown2 hbc
        go_wp2
        go_roundw
        case rel => exact ⟨k + 1, by rw [H1.out]; go_num, R1, B1⟩
        case measure => simp [intOf]; omega
      · have hr : runeAt s (stR s k).1 = (0, 0) := by unfold runeAt; rw [if_neg hok]
        have HF : Hid (stR s k = finR s) := HST.out (fun h => hok h.2)
        have cr := specL1Rune s (stR s k).1
        rw [hr] at cr
        have CR : Hid (∀ (W : World) (_ : (stR s k).1 < s.size) (_ : s.size ≤ 1099511627776), Calls Tryd.prog 50 #[.string s, .int .i64 ((stR s k).1 : Int)] W fun e w' => e = .returned (.tuple #[.int .i64 0, .int .i64 0]) ∧ Below W.heap.size W w') := cr
        clear hok hr cr HST HS1 HSP HP hw
        have HN : Hid ((finR s).1 ≠ s.size) := by show _ ≠ _; rw [← HF.out]; omega
        generalize (stR s k).1 = p at *
        clear HF
        go_wp2_with fail
        refine (CR.out _ hlt (by omega)).mono ?_
        rintro e wc ⟨rfl, hbc⟩
        have hsc := hbc.size
        have B1 : Below w.heap.size w (wc.alloc (.cells #[] 3)) := (hbel.trans (hbc.mono hsz)).alloc (by omega) _
        have O1 : (wc.alloc (.cells #[] 3)).ownsRow w.heap.size 3 1 (.slice (some ⟨wc.heap.size, 0, none⟩) 0 0) 0 (icells []) := World.ownsRow_lit wc #[] 0 (by omega) (by decide) rfl
        go_wp2
        go_ret2
        exact .inr ⟨HN.out, _, rfl, O1, B1⟩
    · have HF : Hid (stR s k = finR s) := HST.out (fun h => hlt h.1)
      have HN : Hid ((finR s).1 = s.size) := by show _ = _; rw [← HF.out]; omega
      have O1 : wr.ownsRow w.heap.size 3 1 u4 (finR s).2.length (icells (finR s).2) := by rw [← HF.out]; exact hown
      clear HF HST HS1 HSP HP hown
      generalize (stR s k).1 = p at *
      go_wp2
      go_ret2
      exact .inl ⟨HN.out, _, rfl, O1, hbel⟩

set_option maxHeartbeats 2000000 in
theorem implRunes (s : ByteArray) (w : World) (hs : s.size ≤ 1048576) (hT : Lib.Utf8Tabs 0 1 w) :
    Calls Tryd.prog 47 #[.string s] w fun e w' => RunesPost s w e w' := by
  obtain ⟨i0, hi, hz0, hz1, hz2⟩ := info_parts Tryd.infoInt
  have cv := Any.utf8_ValidString Tryd.lays196 s w (by omega) hT
  have CV : Hid (Calls Tryd.prog 70 #[.string s] w fun e w' => e = .returned (.bool (Lib.validD s.data.toList)) ∧ Below w.heap.size w w') := cv
  clear cv hT
  by_cases hv : Lib.validD s.data.toList = true
  · have HV : Hid (Lib.validD s.data.toList = true) := hv
    have HN : Hid ((finR s).1 = s.size) := (valid_iff s).1 hv
    have CV2 : Hid (Calls Tryd.prog 70 #[.string s] w fun e w' => e = .returned (.bool true) ∧ Below w.heap.size w w') := by have h := CV.out; rw [hv] at h; exact h
    have hrc := Lib.runeCount_le s
    clear hv CV
    go_enter Tryd.func47, Tryd.ntmps47
    go_wp2_with fail
    refine CV2.out.mono ?_
    rintro e wa ⟨rfl, ba⟩
    go_wp2_with fail
    refine (Tryd.utf8_RuneCountInString s _ (by omega)).mono ?_
    rintro e wb ⟨rfl, pos, hwb⟩
    have bb : Below wa.heap.size wa wb := by rw [hwb]; exact (Below.refl _ _).alloc (Nat.le_refl _) _
    have za := ba.size
    have Bb : Below w.heap.size w wb := ba.trans (bb.mono za)
    clear hwb bb ba pos
    have zb := Bb.size
    generalize Lib.runeCount s = rc at *
    go_wp2_with (at_make; refine wpList_make_own _ rfl _ _ 34 rfl w.heap.size 3 i0 (.int .i64 0) 1 Tryd.underlying34 hi hz0 hz1 _ _ _ rc rfl rfl (by omega) (by rw [hz2]; omega) (by unfold maxLen; omega) zb ?_)
    intro wm hmo hgm
    have Bm : Below w.heap.size w wm := Bb.grown hgm zb (fun k hk => by cases hk)
    have zm := Bm.size
    have hit : (wm.iter s 0).heap[wm.heap.size]? = some (.stringIter s 0) := World.iter_heap wm s 0
    have Bi : Below w.heap.size w (wm.iter s 0) := Bm.alloc zm _
    have oi : (wm.iter s 0).ownsRow w.heap.size 3 1 (.slice (some ⟨wb.heap.size, 0, none⟩) 0 rc) 0 [] := hmo.alloc _
    clear hgm hmo Bb Bm
    have HK : Hid (w.heap.size ≤ wm.heap.size) := zm
    go_wp2_with fail
    generalize wm.heap.size = K at hit HK ⊢
    go_loopw [4] (fun v wr => ∃ k : Nat, wr.heap[K]? = some (.stringIter s (stR s k).1) ∧ wr.ownsRow w.heap.size 3 1 v (stR s k).2.length (icells (stR s k).2) ∧ Below w.heap.size w wr)
      (fun _ wr => s.size - wr.iterPos K)
    case atStart => exact ⟨0, hit, oi, Bi⟩
    case round =>
      obtain ⟨k, hk, hown, hbel⟩ := hrel
      clear hit oi Bi
      have hsz := hbel.size
      have hl := stR_len' s k
      have hle := stR_le s k
      by_cases hlt : (stR s k).1 < s.size
      · have hok := valid_ok s HV.out k hlt
        have H1 : Hid ((stR s (k + 1)).1 = (stR s k).1 + (Utf8.decode s (stR s k).1).2) := by show _ = _; rw [stR_step s k hlt hok]
        have H2 : Hid (∀ (w1 : World) (v : Value), w1.ownsRow w.heap.size 3 1 v ((stR s k).2.length + 1) (icells (stR s k).2 ++ [.int .i64 ((Utf8.decode s (stR s k).1).1 : Int)]) → w1.ownsRow w.heap.size 3 1 v (stR s (k + 1)).2.length (icells (stR s (k + 1)).2)) :=
          fun w1 v h => runes_step s k hlt hok rfl h
        have hw := Lib.decode_width_pos s (stR s k).1 hlt
        have hr31 := decode_le s (stR s k).1
        have hnx := fun ty => Lib.run_next_any_at (P := Tryd.prog) wr K s (stR s k).1 ty hk hlt
        have hk2 := Lib.iterAt_heap wr K s (stR s k).1 ((stR s k).1 + (Utf8.decode s (stR s k).1).2) hk
        have hown2 := own_iterAt hown hk ((stR s k).1 + (Utf8.decode s (stR s k).1).2)
        have hneK : some K ≠ u4.ownBlock := own_not_iter hown hk
        have hbel2 := Lib.below_iterAt hbel HK.out s ((stR s k).1 + (Utf8.decode s (stR s k).1).2)
        have hKlt : K < wr.heap.size := (Array.getElem?_eq_some_iff.1 hk).1
        have HI : Hid (wr.iterPos K = (stR s k).1) := by show _ = _; unfold World.iterPos; rw [hk]
        generalize (Utf8.decode s (stR s k).1).1 = R at *
        generalize (Utf8.decode s (stR s k).1).2 = W at *
        have HNK : Hid (some K ≠ u4.ownBlock) := hneK
        clear hok hneK hown hbel
        generalize hp : (stR s k).1 = p at *
        generalize (stR s k).2 = l at *
        have HPP : Hid ((stR s k).1 = p) := hp
        clear hp
        have zi : (wr.iterAt K s (p + W)).heap.size = wr.heap.size := Lib.iterAt_size wr K s (p + W)
        have HZI : Hid ((wr.iterAt K s (p + W)).heap.size = wr.heap.size) := zi
        have hz3 : w.heap.size ≤ (wr.iterAt K s (p + W)).heap.size := by omega
        have hK3 : K < (wr.iterAt K s (p + W)).heap.size := by omega
        clear zi hk
        generalize wr.iterAt K s (p + W) = wi at *
        go_wp2_with (at_builtin; refine wpList_append_newG _ rfl _ _ 34 rfl w.heap.size 3 (.int .i64 0) 8 Tryd.underlying34 Tryd.infoInt rfl _ _ _ rfl hown2 #[.int .i64 (R : Int)] 1 rfl rfl (int_one _) (by omega) (by unfold maxLen; omega) hz3 ?_)
        intro v' w1 hown' hb1 hkeep
        have R1 := H2.out w1 v' hown'
        have B1 : Below w.heap.size w w1 := hbel2.trans hb1
        have K1 : w1.heap[K]? = some (.stringIter s (p + W)) := (hkeep K hK3 HNK.out).trans hk2
        have HI1 : Hid (w1.iterPos K = p + W) := by show _ = _; unfold World.iterPos; rw [K1]
        clear hown' hb1 hown2 hbel2 hkeep hk2
        go_wp2
        go_roundw
        case rel => exact ⟨k + 1, by rw [H1.out]; exact K1, R1, B1⟩
        case measure =>
          have a := HI.out
          have b := HI1.out
          simp only [a, b]
          omega
      · have HF : Hid (stR s k = finR s) := stR_fin s k (fun h => hlt h.1)
        have hnx := fun ty => Lib.run_next_end_at (P := Tryd.prog) wr K s (stR s k).1 ty hk hlt
        have O1 : wr.ownsRow w.heap.size 3 1 u4 (finR s).2.length (icells (finR s).2) := by rw [← HF.out]; exact hown
        clear HF hown
        go_wp2
        go_ret2
        exact .inl ⟨HN.out, _, rfl, O1, hbel⟩
  · have HN : Hid ((finR s).1 ≠ s.size) := fun h => hv ((valid_iff s).2 h)
    have CV2 : Hid (Calls Tryd.prog 70 #[.string s] w fun e w' => e = .returned (.bool false) ∧ Below w.heap.size w w') := by
      have h := CV.out
      rw [Bool.not_eq_true] at hv
      rw [hv] at h
      exact h
    clear hv CV
    go_enter Tryd.func47, Tryd.ntmps47
    go_wp2_with fail
    refine CV2.out.mono ?_
    rintro e wa ⟨rfl, ba⟩
    have za := ba.size
    have B1 : Below w.heap.size w (wa.alloc (.cells #[] 3)) := ba.alloc za _
    have O1 : (wa.alloc (.cells #[] 3)).ownsRow w.heap.size 3 1 (.slice (some ⟨wa.heap.size, 0, none⟩) 0 0) 0 (icells []) := World.ownsRow_lit wa #[] 0 za (by decide) rfl
    go_wp2
    go_ret2
    exact .inr ⟨HN.out, _, rfl, O1, B1⟩
end Go.Proofs.YtcgjabbjpalmkaaDoor
