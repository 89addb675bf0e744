/- ActBack, FrmLaw. -/
import Derived.Test.YtidecdlaeomfoaaGreatQA19
set_option maxHeartbeats 1000000
namespace Go.Proofs.YtidecdlaeomfoaaGreat
open Go.RowKit
set_option linter.unusedVariables false
theorem frame_cat (body : List UInt8) : frameL body = gnL body.length ++ (body ++ fourL (crcL body)) := by unfold frameL; rw [List.append_assoc]
theorem frame_longer (body : List UInt8) : body.length + 5 ≤ (frameL body).length := by
 have := numL_len body.length
 rw [frame_cat]
 simp only [List.length_append, fourL_len]
 omega
theorem getL_frame (pre body r : List UInt8) (h : body.length ≤ 1000000000) : getL (pre ++ (frameL body ++ r)) pre.length = some (body.length, pre.length + (gnL body.length).length) := by
 have := getL_numL pre (body ++ fourL (crcL body) ++ r) body.length
 rw [numC_nat h] at this
 rw [frame_cat]
 simpa [List.append_assoc] using this
theorem unf_frame (pre body r : List UInt8) (h : body.length ≤ 1000000000) : unfL (pre ++ (frameL body ++ r)) pre.length = some (pre.length + (gnL body.length).length, body.length) := by
 have h1 : pieceL (pre ++ (frameL body ++ r)) pre.length = some (pre.length + (gnL body.length).length, body.length) := by
  have := pieceL_back pre body (fourL (crcL body) ++ r) h
  rw [frame_cat]
  simpa [List.append_assoc] using this
 have h2 : partL (pre ++ (frameL body ++ r)) (pre.length + (gnL body.length).length) body.length = body := by
  have := partL_mid (pre ++ gnL body.length) body (fourL (crcL body) ++ r)
  rw [frame_cat]
  rw [List.length_append] at this
  simpa [List.append_assoc] using this
 have h3 : partL (pre ++ (frameL body ++ r)) (pre.length + (gnL body.length).length + body.length) 4 = fourL (crcL body) := by
  have := partL_mid (pre ++ (gnL body.length ++ body)) (fourL (crcL body)) r
  rw [frame_cat]
  rw [fourL_len, List.length_append, List.length_append, ← Nat.add_assoc] at this
  simpa [List.append_assoc] using this
 unfold unfL
 rw [h1]
 dsimp only
 rw [h2, h3, if_pos rfl]
theorem part_frame (pre body r : List UInt8) : partL (pre ++ (frameL body ++ r)) (pre.length + (gnL body.length).length) body.length = body := by
 have := partL_mid (pre ++ gnL body.length) body (fourL (crcL body) ++ r)
 rw [frame_cat]
 rw [List.length_append] at this
 simpa [List.append_assoc] using this
theorem raw_small {a : AV} (h : actB a = true) : (rwA a).length ≤ 1000000000 := by
 have := actB_le h
 have := (rawL_len a).1
 omega
theorem step_frame (pre r : List UInt8) {a : AV} (h : actB a = true) : stepA (pre ++ (frameL (rwA a) ++ r)) pre.length = some (a, (pre ++ frameL (rwA a)).length) := by
 unfold stepA
 rw [unf_frame _ _ _ (raw_small h)]
 dsimp only
 rw [part_frame, get_put a h]
 dsimp only
 congr 2
 rw [List.length_append, frame_cat]
 simp only [List.length_append, fourL_len]
 omega
theorem acts_cons {a : AV} (l : List AV) (h : actB a = true) : actsL (a :: l) = frameL (rwA a) ++ actsL l := by
 unfold actsL
 rw [List.flatMap_cons, if_pos h]
theorem read_pre : ∀ (l : List AV) (pre r : List UInt8) (acc : List AV) (L : List UInt8), (∀ x ∈ l, actB x = true) → L = pre ++ (actsL l ++ r) →
  readF (L.length + 1) L pre.length acc = readF (L.length + 1) L (pre ++ actsL l).length (acc ++ l)
 | [], pre, r, acc, L, _, _ => by
  rw [List.append_nil]
  show _ = readF _ _ (pre ++ []).length acc
  rw [List.append_nil]
 | a :: l, pre, r, acc, L, hx, hL => by
  have ha := hx a List.mem_cons_self
  rw [acts_cons l ha] at hL ⊢
  have hs : stepA L pre.length = some (a, (pre ++ frameL (rwA a)).length) := by
   rw [hL, List.append_assoc]
   exact step_frame pre _ ha
  rw [readF_next hs]
  have ih := read_pre l (pre ++ frameL (rwA a)) r (acc ++ [a]) L (fun x h => hx x (List.mem_cons_of_mem _ h)) (by rw [hL]; simp [List.append_assoc])
  rw [ih]
  simp [List.append_assoc]
theorem unf_end (L : List UInt8) : unfL L L.length = none := by
 cases h : unfL L L.length with
 | none => rfl
 | some r =>
  obtain ⟨q, n⟩ := r
  have := unfL_le h
  omega
theorem step_end (L : List UInt8) : stepA L L.length = none := by
 unfold stepA
 rw [unf_end]
theorem read_acts (l : List AV) (hx : ∀ x ∈ l, actB x = true) : rdA (actsL l) = (l, (actsL l).length) := by
 have h := read_pre l [] [] [] (actsL l) hx (by simp)
 unfold rdA
 rw [show (0 : Nat) = ([] : List UInt8).length from rfl, h, List.nil_append, List.nil_append]
 exact readF_stop (step_end _)
theorem unf_torn (pre body r : List UInt8) (h : body.length ≤ 1000000000) (c : Nat) (hc : c < pre.length + (frameL body).length) (hp : pre.length ≤ c) : unfL ((pre ++ (frameL body ++ r)).take c) pre.length = none := by
 cases hu : unfL ((pre ++ (frameL body ++ r)).take c) pre.length with
 | none => rfl
 | some x =>
  exfalso
  obtain ⟨q, n⟩ := x
  have hle := unfL_le hu
  have hg : getL ((pre ++ (frameL body ++ r)).take c) pre.length = some (n, q) := by
   unfold unfL at hu
   cases hpc : pieceL ((pre ++ (frameL body ++ r)).take c) (pre.length : Int) with
   | none => rw [hpc] at hu; cases hu
   | some y =>
    obtain ⟨q', n'⟩ := y
    rw [hpc] at hu
    dsimp only at hu
    split at hu
    ·obtain ⟨rfl, rfl⟩ : q' = q ∧ n' = n := by simpa using hu
     unfold pieceL at hpc
     cases hgg : getL ((pre ++ (frameL body ++ r)).take c) (pre.length : Int) with
     | none => rw [hgg] at hpc; cases hpc
     | some z =>
      obtain ⟨n2, q2⟩ := z
      rw [hgg] at hpc
      dsimp only at hpc
      split at hpc
      ·cases hpc
      obtain ⟨rfl, rfl⟩ : q2 = q' ∧ n2 = n' := by simpa using hpc
      rfl
    cases hu
  have hn := (getL_le hg).1
  obtain ⟨e1, e2⟩ := getL_canon hg
  have hlen : ((pre ++ (frameL body ++ r)).take c).length ≤ c := by rw [List.length_take]; omega
  have e3 : (pre ++ (frameL body ++ r)).drop pre.length = gnL n ++ (((pre ++ (frameL body ++ r)).take c).drop q ++ (pre ++ (frameL body ++ r)).drop c) := by
   have h1 : (pre ++ (frameL body ++ r)) = (pre ++ (frameL body ++ r)).take c ++ (pre ++ (frameL body ++ r)).drop c := (List.take_append_drop c _).symm
   have h2 : (pre ++ (frameL body ++ r)).drop pre.length = ((pre ++ (frameL body ++ r)).take c).drop pre.length ++ (pre ++ (frameL body ++ r)).drop c := by
    conv => lhs; rw [h1]
    rw [List.drop_append_of_le_length (by omega)]
   rw [h2, e1, List.append_assoc]
  rw [List.drop_left] at e3
  have g2 := getL_numL pre (((pre ++ (frameL body ++ r)).take c).drop q ++ (pre ++ (frameL body ++ r)).drop c) n
  rw [← e3, numC_nat hn, getL_frame _ _ _ h] at g2
  obtain ⟨h1, h2⟩ : body.length = n ∧ pre.length + (gnL body.length).length = pre.length + (gnL n).length := by simpa using g2
  have e4 := congrArg List.length e1
  rw [List.length_append, List.length_drop, List.length_drop] at e4
  rw [frame_cat] at hc
  simp only [List.length_append, fourL_len] at hc
  omega
theorem acts_at : ∀ (l : List AV) (c : Nat), (∀ x ∈ l, actB x = true) → c < (actsL l).length → ∃ (j : Nat) (a : AV) (l2 : List AV), j < l.length ∧ actB a = true ∧ l = l.take j ++ a :: l2 ∧ (actsL (l.take j)).length ≤ c ∧ c < (actsL (l.take j)).length + (frameL (rwA a)).length
 | [], c, _, h => by cases h
 | a :: l, c, hx, h => by
  have ha := hx a List.mem_cons_self
  by_cases hc : c < (frameL (rwA a)).length
  ·exact ⟨0, a, l, by simp, ha, rfl, Nat.zero_le _, by simpa [actsL] using hc⟩
  rw [acts_cons l ha, List.length_append] at h
  obtain ⟨j, b, l2, h1, h2, h3, h4, h5⟩ := acts_at l (c - (frameL (rwA a)).length) (fun x h => hx x (List.mem_cons_of_mem _ h)) (by omega)
  refine ⟨j + 1, b, l2, by simpa using h1, h2, ?_, ?_, ?_⟩
  ·rw [List.take_succ_cons, List.cons_append, ← h3]
  ·rw [List.take_succ_cons, acts_cons _ ha, List.length_append]; omega
  rw [List.take_succ_cons, acts_cons _ ha, List.length_append]; omega
theorem acts_app (l m : List AV) : actsL (l ++ m) = actsL l ++ actsL m := by unfold actsL; rw [List.flatMap_append]
theorem read_cut (l : List AV) (hx : ∀ x ∈ l, actB x = true) (c : Nat) (hc : c < (actsL l).length) : ∃ j p, rdA ((actsL l).take c) = (l.take j, p) ∧ p ≤ c ∧ j < l.length := by
 obtain ⟨j, a, l2, h1, h2, h3, h4, h5⟩ := acts_at l c hx hc
 have hxj : ∀ x ∈ l.take j, actB x = true := fun x h => hx x (List.mem_of_mem_take h)
 have e0 : actsL l = actsL (l.take j) ++ (frameL (rwA a) ++ actsL l2) := by
  conv => lhs; rw [h3]
  rw [acts_app, acts_cons l2 h2]
 have eL : (actsL l).take c = [] ++ (actsL (l.take j) ++ (frameL (rwA a) ++ actsL l2).take (c - (actsL (l.take j)).length)) := by
  rw [e0, List.take_append, List.take_of_length_le h4, List.nil_append]
 have h := read_pre (l.take j) [] ((frameL (rwA a) ++ actsL l2).take (c - (actsL (l.take j)).length)) [] ((actsL l).take c) hxj eL
 have hst : stepA ((actsL l).take c) (actsL (l.take j)).length = none := by
  unfold stepA
  rw [e0, unf_torn _ _ _ (raw_small h2) c h5 h4]
 refine ⟨j, (actsL (l.take j)).length, ?_, h4, h1⟩
 unfold rdA
 rw [show (0 : Nat) = ([] : List UInt8).length from rfl, h, List.nil_append, List.nil_append]
 exact readF_stop hst
theorem acts_none {l : List AV} (hx : ∀ x ∈ l, actB x = true) (h : (actsL l).length = 0) : l = [] := by
 cases l with
 | nil => rfl
 | cons a l =>
  have ha := hx a List.mem_cons_self
  have := frame_longer (rwA a)
  rw [acts_cons l ha, List.length_append] at h
  omega
theorem lawsAt (i : Nat) (ao : Option Addr) (len cap : Nat) (D : Nat) (w : World) (hi : i ≤ 100) (hl : len ≤ 1048576) (hcode : CodeRow D w ao len) :
  Calls Tryz.prog 13 #[.slice ao len cap, .int .i64 (i : Int)] w fun e w' => ∃ y : Nat, y ≤ 255 ∧ e = .returned (.int .i64 (y : Int)) ∧ w = w' := by
 by_cases hlt : i < len
 ·rcases hcode with h | ⟨b, off, rfl, hb, hc⟩
  ·omega
  obtain ⟨x, hx, h0, h1⟩ := hc i hlt
  obtain ⟨y, rfl⟩ := Int.eq_ofNat_of_zero_le h0
  clear hc
  go_enter Tryz.func13, Tryz.ntmps13
  go_wp2
  go_ret
  exact ⟨y, by omega, rfl, rfl⟩
 have hy : (((i * 31 + len * 7) % 256 : Nat) : Int) = ((i : Int) * 31 + (len : Int) * 7) % 256 := by omega
 go_enter Tryz.func13, Tryz.ntmps13
 go_wp2
 go_ret
 exact ⟨(i * 31 + len * 7) % 256, by omega, ret_int (by omega), rfl⟩
end Go.Proofs.YtidecdlaeomfoaaGreat
