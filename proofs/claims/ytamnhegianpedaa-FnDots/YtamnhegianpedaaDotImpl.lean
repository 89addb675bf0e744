/- Contracts of the code's IsDot, UpTo, Depth, and of the two closures that keep parts. -/
import Derived.Test.YtamnhegianpedaaRows
import Derived.Test.YtamnhegianpedaaUnWalk
import Derived.Test.YtamnhegianpedaaDotSpec
import Derived.Test.YtamnhegianpedaaKeepBox
import Derived.Test.YtamnhegianpedaaAppAt
namespace Go.Proofs.Ytamnhegianpedaa
open Go.RowKit

theorem un_size (l : List UInt8) : (unL l).length ≤ l.length := by
  refine tok_ind (fun l => (unL l).length ≤ l.length) (Nat.le_refl _) ?_ ?_ l
  · intro a b c r h ih
    unfold unL at ih ⊢
    rw [tok_pct _ _ _ _ _ _ h]
    simp only [List.length_append, List.length_cons, List.length_nil] at ih ⊢
    omega
  · intro a r h ih
    unfold unL at ih ⊢
    rw [tok_byte _ _ _ _ h]
    simp only [List.length_append, List.length_cons, List.length_nil] at ih ⊢
    omega
theorem isd_one {l : List UInt8} (h : unL l = [46]) : isd l = 1 := by unfold isd; rw [if_pos h]
theorem isd_two {l : List UInt8} (h : unL l = [46, 46]) : isd l = 2 := by unfold isd; rw [h]; decide
theorem isd_zero {l : List UInt8} (h1 : ¬ unL l = [46]) (h2 : ¬ unL l = [46, 46]) : isd l = 0 := by unfold isd; rw [if_neg h1, if_neg h2]
theorem lit_eq {u : ByteArray} {l : List UInt8} (h : u.data.toList = l) : (u.toList == l) = true := by rw [ByteArray.toList_eq, h]; exact beq_self_eq_true _
theorem lit_ne {u : ByteArray} {l : List UInt8} (h : ¬ u.data.toList = l) : (u.toList == l) = false := by
  rw [ByteArray.toList_eq]
  exact beq_eq_false_iff_ne.2 h

theorem jn_joinB (b : UInt8) (ls : List ByteArray) : Lib.join (ls.map (·.data.toList)) [b] = jn b ls := by
  cases ls with
  | nil => rfl
  | cons x xs =>
    unfold jn
    induction xs generalizing x with
    | nil => simp [Lib.join, List.intercalate]
    | cons y ys ih =>
      have h := ih y
      simp only [Lib.join, List.intercalate, List.map_cons] at h ⊢
      rw [List.intersperse_cons_cons, List.flatten_cons, List.flatten_cons, h, List.flatMap_cons]
      simp

set_option maxHeartbeats 1000000 in
theorem implIsDot (s : ByteArray) (w : World) (hs : s.size ≤ 1048576) :
    Calls Try.prog 12 #[.string s] w fun e w' => e = .returned (.int .i64 (isd s.data.toList : Int)) ∧ Below w.heap.size w w' := by
  go_enter Try.func12, Try.ntmps12
  go_wp2_with fail
  refine (implUnpercent s _ (by omega)).mono ?_
  rintro e wa ⟨rfl, ba⟩
  obtain ⟨u, hu⟩ : ∃ u : ByteArray, u = ⟨(unL s.data.toList).toArray⟩ := ⟨_, rfl⟩
  have hd : u.data.toList = unL s.data.toList := by rw [hu]
  rw [← hu]
  clear hu
  have HD : Hid (u.data.toList = unL s.data.toList) := hd
  by_cases h1 : unL s.data.toList = [46]
  · have h := lit_eq (hd.trans h1)
    have HI : Hid (isd s.data.toList = 1) := isd_one h1
    clear hd h1
    go_wp2
    go_ret
    exact ⟨ret_int (by rw [HI.out]; rfl), ba⟩
  · have hx1 := lit_ne (u := u) (l := [46]) (by rw [hd]; exact h1)
    by_cases h2 : unL s.data.toList = [46, 46]
    · have h := lit_eq (hd.trans h2)
      have HI : Hid (isd s.data.toList = 2) := isd_two h2
      clear hd h1 h2
      go_wp2
      go_ret
      exact ⟨ret_int (by rw [HI.out]; rfl), ba⟩
    · have hx2 := lit_ne (u := u) (l := [46, 46]) (by rw [hd]; exact h2)
      have HI : Hid (isd s.data.toList = 0) := isd_zero h1 h2
      clear hd h1 h2
      go_wp2
      go_ret
      exact ⟨ret_int (by rw [HI.out]; rfl), ba⟩

theorem last_up (p : ByteArray) : ∀ k, k ≤ p.size → Lib.lastIdx p 47 k + 1 = (upN p k : Int)
  | 0, _ => rfl
  | k + 1, hk => by
    have ih := last_up p k (by omega)
    have e : p.data[k]! = p[k] := getElem!_pos p.data k (by have h : p.data.size = p.size := rfl; omega)
    unfold Lib.lastIdx
    rw [e]
    by_cases h : p[k].toNat = 47
    · rw [if_pos (by omega), upN_hit (by omega) h]; omega
    · rw [if_neg (by omega), upN_miss (by omega) h, ih]

set_option maxHeartbeats 1000000 in
theorem implUpTo (p : ByteArray) (w : World) (hs : p.size ≤ 1048576) :
    Calls Try.prog 13 #[.string p] w fun e w' => e = .returned (.string (upT p)) ∧ Below w.heap.size w w' := by
  have hl := last_up p p.size (Nat.le_refl _)
  have hle := upN_le p p.size
  obtain ⟨b, hb⟩ : ∃ b, upN p p.size = b := ⟨_, rfl⟩
  have HU : Hid (p.extract 0 b = upT p) := up_here hb
  rw [hb] at hl hle
  have hl0 : Lib.lastIndexByte p 47 = (b : Int) - 1 := by show Lib.lastIdx p 47 p.size = _; omega
  have CL : Hid (∀ W, Calls Try.prog 26 #[.string p, .int .u8 47] W fun e w' => e = .returned (.int .i64 (Lib.lastIndexByte p 47)) ∧ W = w') := fun W => (Try.strings_LastIndexByte p 47 (by omega) W).mono fun e w' h => ⟨h.1, h.2.symm⟩
  rw [hl0] at CL
  have hbi : (b : Int) ≤ (p.size : Int) := by omega
  have hes : (p.extract 0 b).size ≤ 281474976710656 := by rw [ByteArray.size_extract]; omega
  clear hl hl0 hb
  go_enter Try.func13, Try.ntmps13
  go_wp2_with fail
  refine (CL.out _).mono ?_
  rintro e w' ⟨rfl, rfl⟩
  go_wp2_with fail
  refine (strClone _ _ hes).mono ?_
  rintro e wa ⟨rfl, ba⟩
  go_wp2
  go_ret
  exact ⟨ret_bytes HU.out, ba⟩

set_option maxHeartbeats 1000000 in
theorem implDepth (p : ByteArray) (w : World) :
    Calls Try.prog 14 #[.string p] w fun e w' => e = .returned (.int .i64 (depL p : Int)) ∧ w = w' := by
  have CC : Hid (∀ W, Calls Try.prog 27 #[.string p, .string ⟨#[47]⟩] W fun e w' => e = .returned (.int .i64 (depL p : Int)) ∧ W = w') := fun W => (Try.strings_Count_one p 47 W).mono fun e w' h => ⟨h.1, h.2.symm⟩
  go_enter Try.func14, Try.ntmps14
  go_wp2_with fail
  refine (CC.out _).mono ?_
  rintro e w' ⟨rfl, rfl⟩
  go_wp2
  go_ret
  exact ⟨rfl, rfl⟩

set_option maxHeartbeats 2000000 in
/-- One part more comes into the box. -/
theorem implTake (n0 B g : Nat) (out : List ByteArray) (x : ByteArray) (w : World) (hx : x.size ≤ 1048576) (hlen : out.length ≤ 1048577) (hgB : g ≠ B) (hB : n0 ≤ B) (h : KeepI 26 9 n0 B g out w) :
    Calls Try.prog 35 #[.string x, .pointer (some ⟨B, 0, none⟩)] w fun e w' => e = .returned (.tuple #[]) ∧ KeepI 26 9 n0 B g (stepD out x) w' ∧ w'.heap[g]? = w.heap[g]? ∧ Below n0 w w' := by
  have hBs : B < w.heap.size := by obtain ⟨v, h1, _⟩ := h; exact h1.lt
  go_enter Try.func35, Try.ntmps35
  go_wp2_with fail
  refine (implIsDot x _ hx).mono ?_
  rintro e wa ⟨rfl, ba⟩
  have za := ba.size
  have ha := keepI_below h ba
  have hg0 : wa.heap[g]? = w.heap[g]? := by obtain ⟨v, _, _, _, h4⟩ := h; exact ba.block g h4
  have hbel : Below n0 w wa := ba.mono (by omega)
  clear h ba
  have hn := isd_le x.data.toList
  obtain ⟨v, h1, h2, h3, h4⟩ := ha
  have hc := h1.cell
  have hf := h1.frozen
  have HG : Hid (wa.heap[g]? = w.heap[g]?) := hg0
  clear hg0
  by_cases d0 : isd x.data.toList = 0
  · have HS : Hid (stepD out x = out ++ [x]) := step_zero d0
    have e0 : ((isd x.data.toList : Int) == 0) = true := by rw [d0]; rfl
    clear d0 hn
    go_wp2_with (at_builtin; refine wpList_append_newAt _ rfl _ _ 26 rfl n0 9 (.string ⟨#[]⟩) 16 Try.underlying26 Try.infoStr rfl _ _ _ rfl h2 #[.string x] 1 rfl rfl (str_one _) (by omega) (by unfold maxLen; omega) (by omega) ?_)
    intro v' w1 o hgr hat
    obtain ⟨k1, k2, k3, k4⟩ := keepI_put (by decide) hgB hB (by omega) h1 h2 h3 h4 o hgr hat
    obtain ⟨b', cp', rfl⟩ := ownsRow_succ o
    have hf1 := k1.frozen
    have hc1 := k1.cell
    clear h1 h2 h3 h4 hc hf o hgr hat
    go_wp2
    go_end0
    exact ⟨rfl, by rw [HS.out]; exact k2, k3.trans HG.out, hbel.trans k4⟩
  · have e0 : ((isd x.data.toList : Int) == 0) = false := by rw [beq_eq_false_iff_ne]; omega
    by_cases d2 : isd x.data.toList = 2
    · have HS : Hid (stepD out x = out.take (out.length - 1)) := step_two d2
      have e2 : ((isd x.data.toList : Int) == 2) = true := by rw [d2]; rfl
      clear d0 d2 hn
      rcases own_shape h2 with ⟨hl, hnil, ao, cap, rfl⟩ | ⟨hl, b, cap, rfl⟩
      · go_wp2
        go_end0
        refine ⟨rfl, ?_, HG.out, hbel⟩
        rw [HS.out, hl, List.take_of_length_le (by omega)]
        exact ⟨_, h1, h2, h3, h4⟩
      · obtain ⟨k2, k3, k4⟩ := keepI_cut (by decide) (out.length - 1) (by omega) hgB hB h1 h2 h3 h4
        have hcap := own_cap h2
        clear h1 h2 h3 h4
        go_wp2
        go_end0
        exact ⟨rfl, by rw [HS.out]; exact k2, k3.trans HG.out, hbel.trans k4⟩
    · have HS : Hid (stepD out x = out) := step_one (by show isd x.data.toList = 1; omega)
      have e2 : ((isd x.data.toList : Int) == 2) = false := by rw [beq_eq_false_iff_ne]; omega
      clear d0 d2 hn
      go_wp2
      go_end0
      exact ⟨rfl, by rw [HS.out]; exact ⟨v, h1, h2, h3, h4⟩, HG.out, hbel⟩

set_option maxHeartbeats 1000000 in
theorem implKeptText (n0 B g : Nat) (out : List ByteArray) (w : World) (hne : out ≠ []) (hlen : (out.length : Int) ≤ 1048577) (hsz : ((slL out).length : Int) ≤ 1048577) (h : KeepI 26 9 n0 B g out w) :
    Calls Try.prog 36 #[.pointer (some ⟨B, 0, none⟩)] w fun e w' => e = .returned (.string ⟨(slL out).toArray⟩) ∧ Below w.heap.size w w' := by
  obtain ⟨v, h1, h2, h3, h4⟩ := h
  have hc := h1.cell
  have hs := sl_jn out hne
  have hjl : (slL out).length = (jn 47 out).length + 1 := by rw [hs]; rfl
  have HS : Hid (slL out = 47 :: jn 47 out) := hs
  clear hs
  rcases own_shape h2 with ⟨hl, _⟩ | ⟨hl, b, cap, rfl⟩
  · exact absurd (List.eq_nil_of_length_eq_zero hl) hne
  · have CJ := Try.strings_Join b 0 cap out ⟨#[47]⟩ w (fun j x hj => by
          have hjl : j < out.length := (List.getElem?_eq_some_iff.1 hj).1
          rw [Nat.zero_add, scell_at h2 j hjl, List.getD_eq_getElem?_getD, hj]
          rfl) (h2.lt b rfl).2 (by omega) (own_cap h2) (by
          rw [show (⟨#[47]⟩ : ByteArray).data.toList = [47] from rfl, jn_joinB]; omega)
    rw [show (⟨#[47]⟩ : ByteArray).data.toList = [47] from rfl, jn_joinB] at CJ
    have CJ : Hid (Calls Try.prog 37 #[.slice (some ⟨b, 0, none⟩) out.length cap, .string ⟨#[47]⟩] w fun e w' => e = .returned (.string ⟨(jn 47 out).toArray⟩) ∧ Below w.heap.size w w') := CJ
    have hT : (⟨(jn 47 out).toArray⟩ : ByteArray).size = (jn 47 out).length := List.size_toArray
    have HF : Hid ((⟨#[47]⟩ : ByteArray) ++ (⟨(jn 47 out).toArray⟩ : ByteArray) = ⟨(slL out).toArray⟩) := by show _ = _; rw [bytes_cons, ← HS.out]
    clear h1 h2 h3 h4
    generalize (⟨(jn 47 out).toArray⟩ : ByteArray) = T at CJ hT HF
    have hTs : T.size ≤ 1048577 := by omega
    clear hT hjl
    go_enter Try.func36, Try.ntmps36
    go_wp2_with fail
    refine CJ.out.mono ?_
    rintro e wa ⟨rfl, ba⟩
    go_wp2
    go_ret
    exact ⟨ret_bytes HF.out, ba⟩
end Go.Proofs.Ytamnhegianpedaa
