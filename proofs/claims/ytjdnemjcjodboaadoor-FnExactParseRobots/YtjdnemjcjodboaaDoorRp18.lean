/- RobMost, RobSum, StrEq, RobEq. -/
import Derived.Test.YtjdnemjcjodboaaDoorRp17
set_option maxHeartbeats 4000000
namespace Go.Proofs.YtjdnemjcjodboaaDoor
open Go.RowKit
theorem kP_le (k0 : Nat) (l : List PT) : ∀ k, k ≤ l.length → kP k0 l k ≤ k0 + 2 * psum (fun i => sumT (l.getD i pt0)) k
 | 0, _ => by simp [kP, psum]
 | k + 1, hk => by
  have h1 := kP_le k0 l k (by omega)
  have e2 : sumT (l.getD k pt0) = sumS (l.getD k pt0).ag + sumL (l.getD k pt0).ln := rfl
  have e3 : (l.getD k pt0).ln.length ≤ sumL (l.getD k pt0).ln := Nat.le_add_right _ _
  have e4 : (l.getD k pt0).ag.length ≤ sumS (l.getD k pt0).ag := Nat.le_add_right _ _
  show kP k0 l k + (l.getD k pt0).ag.length + 2 * (l.getD k pt0).ln.length ≤ k0 + 2 * (psum _ k + sumT (l.getD k pt0))
  omega
theorem kP_most {l : List PT} (hN : sumP l ≤ 1048576) : kP 1 l l.length ≤ 1000000000 := by
 have h := kP_le 1 l l.length (Nat.le_refl _)
 unfold sumP at hN
 omega
end Go.Proofs.YtjdnemjcjodboaaDoor
namespace Go.Proofs.YtjdnemjcjodboaaDoor
open Go.RowKit
set_option linter.unusedVariables false
theorem psum_take {α : Type} (f : α → Nat) (d : α) (l : List α) : ∀ k, k ≤ l.length → psum (fun i => f (l.getD i d)) k = ((l.take k).map f).sum
 | 0, _ => by simp [psum]
 | k + 1, hk => by
  show psum _ k + f (l.getD k d) = _
  rw [psum_take f d l k (by omega), List.take_succ_eq_append_getElem (by omega), List.map_append, List.sum_append, List.getD_eq_getElem?_getD, List.getElem?_eq_getElem (by omega)]
  simp
theorem psum_map {α : Type} (f : α → Nat) (d : α) (l : List α) : psum (fun i => f (l.getD i d)) l.length = (l.map f).sum := by
 rw [psum_take f d l l.length (Nat.le_refl _), List.take_length]
theorem sumS_eq (l : List ByteArray) : sumS l = l.length + (l.map ByteArray.size).sum := by
 unfold sumS
 rw [psum_map ByteArray.size ByteArray.empty]
theorem sumL_eq (l : List LV) : sumL l = l.length + (l.map fun x => x.pa.size).sum := by
 unfold sumL
 rw [psum_map (fun x : LV => x.pa.size) lv0]
theorem sumP_eq (l : List PT) : sumP l = l.length + (l.map sumT).sum := by
 unfold sumP
 rw [psum_map sumT pt0]
theorem sumS_snoc (l : List ByteArray) (a : ByteArray) : sumS (l ++ [a]) = sumS l + 1 + a.size := by
 rw [sumS_eq, sumS_eq, List.length_append, List.map_append, List.sum_append]
 simp
 omega
theorem sumL_snoc (l : List LV) (a : LV) : sumL (l ++ [a]) = sumL l + 1 + a.pa.size := by
 rw [sumL_eq, sumL_eq, List.length_append, List.map_append, List.sum_append]
 simp
 omega
theorem sumP_snoc (l : List PT) (a : PT) : sumP (l ++ [a]) = sumP l + 1 + sumT a := by
 rw [sumP_eq, sumP_eq, List.length_append, List.map_append, List.sum_append]
 simp
 omega
theorem pl_most (l : List UInt8) : (plL 2 l).length ≤ 3 * l.length := by
 refine tok_ind (fun l => (plL 2 l).length ≤ 3 * l.length) (Nat.zero_le _) ?_ ?_ l
 ·intro a b c r h ih
  rw [pl_pct _ _ _ _ _ h, List.length_append]
  have := free_len (UInt8.ofNat (pctV a.toNat b.toNat c.toNat).toNat)
  simp only [List.length_cons]
  omega
 intro a r h ih
 rw [pl_byte _ _ _ h, List.length_append]
 have := kept_len 2 a
 simp only [List.length_cons]
 omega
theorem agL_most (l : List UInt8) : (agL l).length ≤ l.length + 1 := by
 unfold agL
 split
 ·simp
 unfold lowerL
 rw [List.length_map]
 have h1 := (List.takeWhile_prefix agB (l := l)).length_le
 omega
theorem mkb_size (l : List UInt8) : (⟨l.toArray⟩ : ByteArray).size = l.length := List.size_toArray
theorem sum_addAg (ps : List PT) (a : List UInt8) : sumP (addAg ps a) ≤ sumP ps + 2 + a.length := by
 have one : sumT ⟨[⟨a.toArray⟩], []⟩ = 1 + a.length := by
  show sumS [⟨a.toArray⟩] + sumL [] = _
  rw [sumS_eq, sumL_eq]
  simp [mkb_size]
 unfold addAg
 cases hp : ps.getLast? with
 | none =>
  have := List.getLast?_eq_none_iff.1 hp
  subst this
  show sumP ([] ++ [⟨[⟨a.toArray⟩], []⟩]) ≤ _
  rw [sumP_snoc, one]
  omega
 | some p =>
  show sumP (if p.ln.isEmpty = true then _ else _) ≤ _
  split
  ·have e := ps_last hp
   have h1 : sumP ps = sumP ps.dropLast + 1 + sumT p := by conv => lhs; rw [e, sumP_snoc]
   have h2 : sumT ⟨p.ag ++ [⟨a.toArray⟩], p.ln⟩ = sumT p + 1 + a.length := by
    show sumS (p.ag ++ [⟨a.toArray⟩]) + sumL p.ln = sumS p.ag + sumL p.ln + 1 + a.length
    rw [sumS_snoc, mkb_size]
    omega
   rw [sumP_snoc, h2]
   omega
  rw [sumP_snoc, one]
  omega
theorem sum_addLn (ps : List PT) (b : Bool) (v : List UInt8) : sumP (addLn ps b v) ≤ sumP ps + 1 + 3 * v.length := by
 unfold addLn
 cases hp : ps.getLast? with
 | none => show sumP ps ≤ _; omega
 | some p =>
  show sumP (if v.isEmpty = true then _ else _) ≤ _
  split
  ·omega
  have e := ps_last hp
  have h1 : sumP ps = sumP ps.dropLast + 1 + sumT p := by conv => lhs; rw [e, sumP_snoc]
  have h2 : sumT ⟨p.ag, p.ln ++ [⟨b, ⟨(patL v).toArray⟩⟩]⟩ = sumT p + 1 + (patL v).length := by
   show sumS p.ag + sumL (p.ln ++ [⟨b, ⟨(patL v).toArray⟩⟩]) = sumS p.ag + sumL p.ln + 1 + (patL v).length
   rw [sumL_snoc]
   show _ + (_ + 1 + (⟨(patL v).toArray⟩ : ByteArray).size) = _
   rw [mkb_size]
   omega
  rw [sumP_snoc, h2]
  have := pl_most v
  have e2 : patL v = plL 2 v := rfl
  rw [e2]
  omega
theorem valL_most (x : ByteArray) : (valL x.data.toList).length ≤ x.size := by
 have := valV_size x
 unfold valV at this
 rwa [mkb_size] at this
theorem sum_step (ps : List PT) (x : ByteArray) : sumP (stepV ps x) ≤ sumP ps + 3 + 3 * x.size := by
 have hv := valL_most x
 unfold stepV stepP
 split
 ·omega
 split
 ·have h1 := sum_addAg ps (agL (valL x.data.toList))
  have h2 := agL_most (valL x.data.toList)
  omega
 split
 ·have := sum_addLn ps true (valL x.data.toList); omega
 split
 ·have := sum_addLn ps false (valL x.data.toList); omega
 omega
theorem sum_fold : ∀ (fs : List ByteArray) (ps : List PT), sumP (fs.foldl stepV ps) ≤ sumP ps + 3 * fs.length + 3 * (fs.map ByteArray.size).sum
 | [], ps => by simp
 | x :: fs, ps => by
  have h1 := sum_fold fs (stepV ps x)
  have h2 := sum_step ps x
  simp only [List.foldl_cons, List.length_cons, List.map_cons, List.sum_cons]
  omega
theorem spl_total (b : UInt8) : ∀ l, ((spl b l).map List.length).sum + (spl b l).length = l.length + 1
 | [] => rfl
 | c :: l => by
  have ih := spl_total b l
  unfold spl
  by_cases h : c = b
  ·rw [if_pos h]
   simp only [List.map_cons, List.sum_cons, List.length_cons, List.length_nil]
   omega
  rw [if_neg h]
  cases hs : spl b l with
  | nil =>
   rw [hs] at ih
   simp at ih
  | cons x xs =>
   rw [hs] at ih
   simp only [List.map_cons, List.sum_cons, List.length_cons] at ih ⊢
   omega
theorem rob_sum (s : ByteArray) : sumP (robV s) ≤ 200000 := by
 have h := sum_fold (fieldsL (crS (cutS s)) 10) []
 have h1 := fieldsL_spl (crS (cutS s)) 10
 rw [show ((10 : UInt8).toNat : Int) = 10 from rfl] at h1
 have h2 := spl_total 10 (crS (cutS s)).data.toList
 rw [← h1] at h2
 have h3 : (((fieldsL (crS (cutS s)) 10).map toL).map List.length).sum = ((fieldsL (crS (cutS s)) 10).map ByteArray.size).sum := by
  rw [List.map_map]
  congr 1
 rw [h3, List.length_map] at h2
 have h4 : (crS (cutS s)).data.toList.length = (crS (cutS s)).size := by simp
 rw [h4, crS_size] at h2
 have h5 := cutS_size s
 have h6 : sumP [] = 0 := rfl
 unfold robV
 omega
theorem eqStrs (l : List ByteArray) (va vb : Value) (w : World) (hl : l.length ≤ 1099511627776) (ha : StrRow w va l) (hb : StrRow w vb l) :
  Calls Tryd.prog 80 #[va, vb] w fun e w' => e = .returned (.bool true) ∧ ∃ m, w' = w.drewN m := by
 rcases ha with ⟨rfl, ao, cap, rfl⟩ | ⟨h0, g, off, cap, rfl, hg, hc⟩
 ·obtain ⟨bo, cap', rfl⟩ := hb.slice
  clear hb hl
  go_enter Tryd.func80, Tryd.ntmps80
  go_wp2
  refine wp_loop_rounds 1 ?_
  rw [rounds_succ]
  go_wp2
  go_ret
  exact ⟨rfl, 0, rfl⟩
 rcases hb with ⟨rfl, _⟩ | ⟨_, g', off', cap', rfl, hg', hc'⟩
 ·exact absurd h0 (by simp)
 have HC : Hid (∀ i, i < l.length → w.cell? ⟨g, off + i, none⟩ = some (.string (l.getD i ByteArray.empty))) := hc
 have HC' : Hid (∀ i, i < l.length → w.cell? ⟨g', off' + i, none⟩ = some (.string (l.getD i ByteArray.empty))) := hc'
 clear hc hc'
 go_enter Tryd.func80, Tryd.ntmps80
 go_wp2
 go_loopw [5] (fun i wr => ∃ k : Nat, k ≤ l.length ∧ i = .int .i64 k ∧ ∃ m, wr = w.drewN m) (fun i _ => l.length - (intOf i).toNat)
 case atStart => exact ⟨0, Nat.zero_le _, rfl, 0, rfl⟩
 obtain ⟨k, hk, rfl, m, rfl⟩ := hrel
 by_cases hlt : k < l.length
 ·have ca := HC.out k hlt
  have cb := HC'.out k hlt
  have hki : (k : Int) < l.length := by omega
  generalize l.getD k ByteArray.empty = x at ca cb
  go_wp2
  go_quiet (fail)
  go_wp2
  go_roundw
  case rel => exact ⟨k + 1, by omega, by go_num, m + nq, by first | rfl | rw [World.drewN_drewN]⟩
  case measure => simp [intOf]; omega
 have hki : ¬ (k : Int) < l.length := by omega
 go_wp2
 go_ret
 exact ⟨rfl, m, rfl⟩
theorem eqLine (a : Bool) (s : ByteArray) (w : World) :
  Calls Tryd.prog 96 #[.agg #[.bool a, .string s], .agg #[.bool a, .string s]] w fun e w' => e = .returned (.bool true) ∧ Below w.heap.size w w' := by
 have hbO : Below w.heap.size w ((w.alloc (.cells #[.bool a, .string s] 35)).alloc (.cells #[.bool a, .string s] 35)) := ((Below.refl _ _).alloc (Nat.le_refl _) _).alloc (by simp) _
 go_enter Tryd.func96, Tryd.ntmps96
 go_wp2_with fail
 go_ret
 exact ⟨rfl, by first | exact hbO | exact below_drewN hbO _ | exact hbO.drew | exact hbO.drew.drew⟩
theorem eqLines (l : List LV) (va vb : Value) (w : World) (hl : l.length ≤ 1099511627776) (ha : LineRow w va l) (hb : LineRow w vb l) :
  Calls Tryd.prog 81 #[va, vb] w fun e w' => e = .returned (.bool true) ∧ Below w.heap.size w w' := by
 rcases ha with ⟨rfl, ao, cap, rfl⟩ | ⟨h0, g, off, cap, rfl, hg, hc⟩
 ·obtain ⟨bo, cap', rfl⟩ := hb.slice
  clear hb hl
  go_enter Tryd.func81, Tryd.ntmps81
  go_wp2
  refine wp_loop_rounds 1 ?_
  rw [rounds_succ]
  go_wp2
  go_ret
  exact ⟨rfl, Below.refl _ _⟩
 rcases hb with ⟨rfl, _⟩ | ⟨_, g', off', cap', rfl, hg', hc'⟩
 ·exact absurd h0 (by simp)
 have HC : Hid (∀ i, i < l.length → w.cell? ⟨g, off + i * 2, none⟩ = some (.bool (l.getD i lv0).al) ∧ w.cell? ⟨g, off + i * 2 + 1, none⟩ = some (.string (l.getD i lv0).pa)) := hc
 have HC' : Hid (∀ i, i < l.length → w.cell? ⟨g', off' + i * 2, none⟩ = some (.bool (l.getD i lv0).al) ∧ w.cell? ⟨g', off' + i * 2 + 1, none⟩ = some (.string (l.getD i lv0).pa)) := hc'
 clear hc hc'
 go_enter Tryd.func81, Tryd.ntmps81
 go_wp2
 go_loopw [5] (fun i wr => ∃ k : Nat, k ≤ l.length ∧ i = .int .i64 k ∧ Below w.heap.size w wr) (fun i _ => l.length - (intOf i).toNat)
 case atStart => exact ⟨0, Nat.zero_le _, rfl, Below.refl _ _⟩
 obtain ⟨k, hk, rfl, hbel⟩ := hrel
 by_cases hlt : k < l.length
 ·have hki : (k : Int) < l.length := by omega
  obtain ⟨c1, c3⟩ := HC.out k hlt
  obtain ⟨d1, d3⟩ := HC'.out k hlt
  have c1w := (hbel.cell (p := ⟨g, off + k * 2, none⟩) hg).trans c1
  have c3w := (hbel.cell (p := ⟨g, off + k * 2 + 1, none⟩) hg).trans c3
  have d1w := (hbel.cell (p := ⟨g', off' + k * 2, none⟩) hg').trans d1
  have d3w := (hbel.cell (p := ⟨g', off' + k * 2 + 1, none⟩) hg').trans d3
  have CE : Hid (∀ W, CB 96 #[.agg #[.bool (l.getD k lv0).al, .string (l.getD k lv0).pa], .agg #[.bool (l.getD k lv0).al, .string (l.getD k lv0).pa]] W (.bool true)) := fun W => eqLine _ _ W
  clear c1 c3 d1 d3
  generalize (l.getD k lv0).al = al at *
  generalize (l.getD k lv0).pa = pa at *
  go_wp2_with fail
  go_region_with (go_at_call 96; refine (CE.out _).mono ?_; rintro e wc ⟨rfl, hbc⟩)
  all_goals
   have B1 := hbel.drew.trans (hbc.mono hbel.size)
   clear hbc CE
   go_wp2_with fail
   refine ⟨⟨k + 1, by omega, by go_num, B1⟩, ?_⟩
   simp [intOf]
   omega
 have hki : ¬ (k : Int) < l.length := by omega
 go_wp2_with fail
 go_ret
 exact ⟨rfl, hbel⟩
theorem eqPart (x : PT) (p q p' q' : Value) (w : World) (h1 : x.ag.length ≤ 1099511627776) (h2 : x.ln.length ≤ 1099511627776) (hp : StrRow w p x.ag) (hq : LineRow w q x.ln) (hp' : StrRow w p' x.ag) (hq' : LineRow w q' x.ln) :
  Calls Tryd.prog 62 #[.agg #[p, q], .agg #[p', q']] w fun e w' => e = .returned (.bool true) ∧ Below w.heap.size w w' := by
 obtain ⟨O, hO⟩ : ∃ O, O = (w.alloc (.cells #[p, q] 33)).alloc (.cells #[p', q'] 33) := ⟨_, rfl⟩
 have hbO : Below w.heap.size w O := by rw [hO]; exact ((Below.refl _ _).alloc (Nat.le_refl _) _).alloc (by simp) _
 have CE : Hid (∀ W, Below w.heap.size w W → Calls Tryd.prog 80 #[p, p'] W fun e w' => e = .returned (.bool true) ∧ ∃ m, w' = W.drewN m) := fun W hW => eqStrs x.ag p p' W h1 (hp.below hW) (hp'.below hW)
 have CL : Hid (∀ W, Below w.heap.size w W → CB 81 #[q, q'] W (.bool true)) := fun W hW => eqLines x.ln q q' W h2 (hq.below hW) (hq'.below hW)
 rw [hO] at hbO
 clear hp hq hp' hq' hO
 go_enter Tryd.func62, Tryd.ntmps62
 go_wp2_with fail
 refine (CE.out _ hbO).mono ?_
 rintro e w1 ⟨rfl, m, rfl⟩
 go_wp2_with fail
 refine (CL.out _ (below_drewN hbO m)).mono ?_
 rintro e w2 ⟨rfl, b2⟩
 go_wp2_with fail
 go_ret
 exact ⟨rfl, (below_drewN hbO m).trans (b2.mono (below_drewN hbO m).size)⟩
def PSz (l : List PT) : Prop := ∀ i, i < l.length → (l.getD i pt0).ag.length ≤ 1099511627776 ∧ (l.getD i pt0).ln.length ≤ 1099511627776
theorem eqParts (l : List PT) (va vb : Value) (w : World) (hl : l.length ≤ 1099511627776) (hz : PSz l) (ha : PartRow w va l) (hb : PartRow w vb l) :
  Calls Tryd.prog 34 #[va, vb] w fun e w' => e = .returned (.bool true) ∧ Below w.heap.size w w' := by
 have HZ : Hid (PSz l) := hz
 clear hz
 rcases ha with ⟨rfl, ao, cap, rfl⟩ | ⟨h0, g, off, cap, rfl, hg, hc⟩
 ·obtain ⟨bo, cap', rfl⟩ := hb.slice
  clear hb hl HZ
  go_enter Tryd.func34, Tryd.ntmps34
  go_wp2
  refine wp_loop_rounds 1 ?_
  rw [rounds_succ]
  go_wp2
  go_ret
  exact ⟨rfl, Below.refl _ _⟩
 rcases hb with ⟨rfl, _⟩ | ⟨_, g', off', cap', rfl, hg', hc'⟩
 ·exact absurd h0 (by simp)
 have HC : Hid (∀ i, i < l.length → ∃ p q, w.cell? ⟨g, off + i * 2, none⟩ = some p ∧ StrRow w p (l.getD i pt0).ag ∧ w.cell? ⟨g, off + i * 2 + 1, none⟩ = some q ∧ LineRow w q (l.getD i pt0).ln) := hc
 have HC' : Hid (∀ i, i < l.length → ∃ p q, w.cell? ⟨g', off' + i * 2, none⟩ = some p ∧ StrRow w p (l.getD i pt0).ag ∧ w.cell? ⟨g', off' + i * 2 + 1, none⟩ = some q ∧ LineRow w q (l.getD i pt0).ln) := hc'
 clear hc hc'
 go_enter Tryd.func34, Tryd.ntmps34
 go_wp2
 go_loopw [5] (fun i wr => ∃ k : Nat, k ≤ l.length ∧ i = .int .i64 k ∧ Below w.heap.size w wr) (fun i _ => l.length - (intOf i).toNat)
 case atStart => exact ⟨0, Nat.zero_le _, rfl, Below.refl _ _⟩
 obtain ⟨k, hk, rfl, hbel⟩ := hrel
 by_cases hlt : k < l.length
 ·have hki : (k : Int) < l.length := by omega
  obtain ⟨p, q, c1, c2, c3, c4⟩ := HC.out k hlt
  obtain ⟨p', q', d1, d2, d3, d4⟩ := HC'.out k hlt
  have c1w := (hbel.cell (p := ⟨g, off + k * 2, none⟩) hg).trans c1
  have c3w := (hbel.cell (p := ⟨g, off + k * 2 + 1, none⟩) hg).trans c3
  have d1w := (hbel.cell (p := ⟨g', off' + k * 2, none⟩) hg').trans d1
  have d3w := (hbel.cell (p := ⟨g', off' + k * 2 + 1, none⟩) hg').trans d3
  obtain ⟨z1, z2⟩ := HZ.out k hlt
  have CE : Hid (∀ W, Below w.heap.size w W → CB 62 #[.agg #[p, q], .agg #[p', q']] W (.bool true)) := fun W hW => eqPart _ p q p' q' W z1 z2 (c2.below hW) (c4.below hW) (d2.below hW) (d4.below hW)
  clear c1 c2 c3 c4 d1 d2 d3 d4 z1 z2
  go_wp2_with fail
  go_region_with (go_at_call 62; refine (CE.out _ hbel.drew).mono ?_; rintro e wc ⟨rfl, hbc⟩)
  all_goals
   have B1 := hbel.drew.trans (hbc.mono hbel.size)
   clear hbc CE
   go_wp2_with fail
   refine ⟨⟨k + 1, by omega, by go_num, B1⟩, ?_⟩
   simp [intOf]
   omega
 have hki : ¬ (k : Int) < l.length := by omega
 go_wp2_with fail
 go_ret
 exact ⟨rfl, hbel⟩
theorem eqRobots (l : List PT) (va vb : Value) (w : World) (hl : l.length ≤ 1099511627776) (hz : PSz l) (ha : PartRow w va l) (hb : PartRow w vb l) :
  Calls Tryd.prog 13 #[.agg #[va], .agg #[vb]] w fun e w' => e = .returned (.bool true) ∧ Below w.heap.size w w' := by
 obtain ⟨O, hO⟩ : ∃ O, O = (w.alloc (.cells #[va] 26)).alloc (.cells #[vb] 26) := ⟨_, rfl⟩
 have hbO : Below w.heap.size w O := by rw [hO]; exact ((Below.refl _ _).alloc (Nat.le_refl _) _).alloc (by simp) _
 have CE : Hid (∀ W, Below w.heap.size w W → CB 34 #[va, vb] W (.bool true)) := fun W hW => eqParts l va vb W hl hz (ha.below hW) (hb.below hW)
 rw [hO] at hbO
 clear ha hb hO hz
 go_enter Tryd.func13, Tryd.ntmps13
 go_wp2_with fail
 refine (CE.out _ hbO).mono ?_
 rintro e w1 ⟨rfl, b1⟩
 go_wp2_with fail
 go_ret
 exact ⟨rfl, hbO.trans (b1.mono hbO.size)⟩
end Go.Proofs.YtjdnemjcjodboaaDoor
