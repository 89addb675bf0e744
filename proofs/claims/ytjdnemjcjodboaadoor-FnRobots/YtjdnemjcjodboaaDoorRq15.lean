/- RobTextI, RobSum, Bits, DrawWalk. -/
import Derived.Test.YtjdnemjcjodboaaDoorRq14
import Derived.Lib.OthersKept
import Derived.Laws.BitsAllLaws
import Derived.Deep.QuietTactic
set_option maxHeartbeats 8000000
namespace Go.Proofs.YtjdnemjcjodboaaDoor
open Go.RowKit
set_option linter.unusedVariables false
theorem implKeyOf (x : LV) (w : World) :
  Calls Tryd.prog 25 #[.agg #[.bool x.al, .string x.pa]] w fun e w' => e = .returned (.string ⟨(if x.al = true then keyA else keyD).toArray⟩) ∧ Below w.heap.size w w' := by
 have hbO : Below w.heap.size w (w.alloc (.cells #[.bool x.al, .string x.pa] 35)) := (Below.refl _ _).alloc (Nat.le_refl _) _
 generalize x.al = al at *
 generalize x.pa = pa at *
 cases al with
 | true =>
  go_enter Tryd.func25, Tryd.ntmps25
  go_wp2_with fail
  go_ret
  exact ⟨rfl, hbO⟩
 | false =>
  go_enter Tryd.func25, Tryd.ntmps25
  go_wp2_with fail
  go_ret
  exact ⟨rfl, hbO⟩
theorem implRobLine (a b : ByteArray) (w : World) (ha : a.size ≤ 100) (hb : b.size ≤ 1048576) :
  Calls Tryd.prog 24 #[.string a, .string b] w fun e w' => e = .returned (.string ⟨(a.data.toList ++ [58, 32] ++ b.data.toList ++ [10]).toArray⟩) ∧ w = w' := by
 have h2 : (⟨#[58, 32]⟩ : ByteArray).size = 2 := rfl
 have h1 : (⟨#[10]⟩ : ByteArray).size = 1 := rfl
 have HE : Hid ((a ++ ⟨#[58, 32]⟩ ++ b ++ ⟨#[10]⟩ : ByteArray) = ⟨(a.data.toList ++ [58, 32] ++ b.data.toList ++ [10]).toArray⟩) := by
  refine ba_eq.2 ?_
  rw [text_app, text_app, text_app]
 have z1 : (a ++ ⟨#[58, 32]⟩ : ByteArray).size ≤ 102 := by rw [ByteArray.size_append, h2]; omega
 have z2 : (a ++ ⟨#[58, 32]⟩ ++ b : ByteArray).size ≤ 1048678 := by rw [ByteArray.size_append, ByteArray.size_append, h2]; omega
 go_enter Tryd.func24, Tryd.ntmps24
 go_wp2_with fail
 go_ret
 exact ⟨by rw [← HE.out]; rfl, rfl⟩
theorem implRobotsText (l : List PT) (v : Value) (w : World) (hN : sumP l ≤ 1048576) (h : PartRow w v l) :
  Calls Tryd.prog 9 #[.agg #[v]] w fun e w' => e = .returned (.string ⟨(robT l).toArray⟩) ∧ Below w.heap.size w w' := by
 rw [robT_parts]
 have HN : Hid (sumP l ≤ 1048576) := hN
 clear hN
 obtain ⟨B, hB⟩ : ∃ B, B = w.heap.size + 1 := ⟨_, rfl⟩
 obtain ⟨O, hO⟩ : ∃ O, O = (w.alloc (.cells #[v] 26)).alloc (.cells #[.pointer none, .slice none 0 0] 50) := ⟨_, rfl⟩
 have hbO : Below w.heap.size w O := by rw [hO]; exact ((Below.refl _ _).alloc (Nat.le_refl _) _).alloc (by simp) _
 have AO : BAt O w.heap.size [v] := by rw [hO]; exact (BAt.new w #[v] _).alloc _
 have HB0 : Hid (Bld B [] O) := by
  have := Bld.new (w.alloc (.cells #[v] 26))
  rw [World.size_alloc, ← hB, ← hO] at this
  exact this
 obtain ⟨ao, cap, hv⟩ := h.slice
 subst hv
 have HROW : Hid (PartRow w (.slice ao l.length cap) l) := h
 clear h
 have hll : l.length ≤ 1048576 := by have := HN.out; unfold sumP at this; omega
 go_enter Tryd.func9, Tryd.ntmps9
 go_upto_region 2 with fail
 rw [← hO, ← hB]
 have hwB : w.heap.size ≤ B := by omega
 clear hO hB
 have c0 := AO.1 0 _ rfl
 go_wp2_with fail
 clear c0 AO
 go_loopw [13] (fun i wr => ∃ k : Nat, k ≤ l.length ∧ i = .int .i64 k ∧ Hid (Bld B ((l.take k).flatMap partT) wr) ∧ Below w.heap.size w wr) (fun i _ => l.length - (intOf i).toNat)
 case atStart => exact ⟨0, Nat.zero_le _, rfl, HB0, hbO⟩
 obtain ⟨k, hk, rfl, HB, hbel⟩ := hrel
 clear HB0 hbO
 by_cases hlt : k < l.length
 ·have hki : (k : Int) < l.length := by omega
  obtain ⟨g, off, p, q, cc, hv, hg, c1, c2, c3, c4⟩ : ∃ g off p q cc, Value.slice ao l.length cap = .slice (some ⟨g, off, none⟩) l.length cc ∧ g < w.heap.size ∧ w.cell? ⟨g, off + k * 2, none⟩ = some p ∧ StrRow w p (l.getD k pt0).ag ∧ w.cell? ⟨g, off + k * 2 + 1, none⟩ = some q ∧ LineRow w q (l.getD k pt0).ln := by
   rcases HROW.out with ⟨h, _⟩ | ⟨_, g, off, cc, h1, h2, h3⟩
   ·rw [h] at hlt; simp at hlt
   obtain ⟨p, q, q1, q2, q3, q4⟩ := h3 k hlt
   exact ⟨g, off, p, q, _, h1, h2, q1, q2, q3, q4⟩
  cases hv
  have c1w := (hbel.cell (p := ⟨g, off + k * 2, none⟩) hg).trans c1
  have c3w := (hbel.cell (p := ⟨g, off + k * 2 + 1, none⟩) hg).trans c3
  have HPA : Hid (∀ j, j ≤ (l.getD k pt0).ag.length → ((l.take k).flatMap partT ++ ((l.getD k pt0).ag.take j).flatMap agLn).length ≤ 13631488) := pre_ag hlt HN.out
  have HPB : Hid (∀ j, j ≤ (l.getD k pt0).ln.length → ((l.take k).flatMap partT ++ (l.getD k pt0).ag.flatMap agLn ++ ((l.getD k pt0).ln.take j).flatMap lnLn).length ≤ 13631488) := pre_ln hlt HN.out
  have HAZ : Hid (∀ j, j < (l.getD k pt0).ag.length → ((l.getD k pt0).ag.getD j ByteArray.empty).size ≤ 1048576) := fun j => ag_size HN.out hlt
  have HLZ : Hid (∀ j, j < (l.getD k pt0).ln.length → ((l.getD k pt0).ln.getD j lv0).pa.size ≤ 1048576) := fun j => ln_size HN.out hlt
  have HT1 : Hid ((l.take (k + 1)).flatMap partT = (l.take k).flatMap partT ++ partT (l.getD k pt0)) := flat_next partT pt0 l hlt
  obtain ⟨_, ha1, hl1⟩ := part_lens HN.out hlt
  clear c1 c3
  generalize l.getD k pt0 = x at *
  obtain ⟨T0, hT0⟩ : ∃ T0, List.flatMap partT (l.take k) = T0 := ⟨_, rfl⟩
  rw [hT0] at HPA HPB HT1 HB
  clear hT0
  obtain ⟨pa, pc, hpp⟩ := c2.slice
  obtain ⟨qa, qc, hqq⟩ := c4.slice
  subst hpp hqq
  have HSR : Hid (StrRow w (.slice pa x.ag.length pc) x.ag) := c2
  have HLR : Hid (LineRow w (.slice qa x.ln.length qc) x.ln) := c4
  clear c2 c4
  go_upto_region 5 with fail
  obtain ⟨U, hU⟩ : ∃ U, U = wr.alloc (.cells #[.slice pa x.ag.length pc, .slice qa x.ln.length qc] 33) := ⟨_, rfl⟩
  have bU : Below wr.heap.size wr U := by rw [hU]; exact (Below.refl _ _).alloc (Nat.le_refl _) _
  have AU : BAt U wr.heap.size [.slice pa x.ag.length pc, .slice qa x.ln.length qc] := by rw [hU]; exact BAt.new wr #[.slice pa x.ag.length pc, .slice qa x.ln.length qc] _
  have hUD : U.heap[wr.heap.size]? = some (.cells #[.slice pa x.ag.length pc, .slice qa x.ln.length qc] 33) := by rw [hU]; exact heap_alloc_new wr _
  rw [← hU]
  clear hU
  have BU : Below w.heap.size w U := hbel.trans (bU.mono hbel.size)
  have HBU : Hid (Bld B T0 U) := HB.out.below bU
  have hBD : B < wr.heap.size := HB.out.lt
  have d0 := AU.1 0 _ rfl
  clear c1w c3w hbel bU HB AU
  have HUD : Hid (U.heap[wr.heap.size]? = some (.cells #[.slice pa x.ag.length pc, .slice qa x.ln.length qc] 33)) := hUD
  clear hUD
  generalize wr.heap.size = D at *
  go_wp2_with fail
  clear d0
  go_loopw [20] (fun i wr => ∃ j : Nat, j ≤ x.ag.length ∧ i = .int .i64 j ∧ Hid (Bld B (T0 ++ (x.ag.take j).flatMap agLn) wr) ∧ Hid (wr.heap[D]? = some (.cells #[.slice pa x.ag.length pc, .slice qa x.ln.length qc] 33)) ∧ Below w.heap.size w wr) (fun i _ => x.ag.length - (intOf i).toNat)
  case atStart => exact ⟨0, Nat.zero_le _, rfl, (by rw [List.take_zero, List.flatMap_nil, List.append_nil]; exact HBU), HUD, BU⟩
  obtain ⟨j, hj, rfl, HB, HD, hbel⟩ := hrel
  clear HBU HUD BU
  by_cases hjl : j < x.ag.length
  ·have hji : (j : Int) < x.ag.length := by omega
   have hs2 := HPA.out j hj
   have hx := HAZ.out j hjl
   have HNX : Hid (T0 ++ (x.ag.take (j + 1)).flatMap agLn = T0 ++ (x.ag.take j).flatMap agLn ++ agLn (x.ag.getD j ByteArray.empty)) := by
    show _ = _
    rw [flat_next agLn ByteArray.empty x.ag hjl, List.append_assoc]
   obtain ⟨g', off', c2, hv, hg', ca⟩ : ∃ g' off' cc, Value.slice pa x.ag.length pc = .slice (some ⟨g', off', none⟩) x.ag.length cc ∧ g' < w.heap.size ∧ w.cell? ⟨g', off' + j, none⟩ = some (.string (x.ag.getD j ByteArray.empty)) := by
    rcases HSR.out with ⟨h, _⟩ | ⟨_, g', off', cc, h1, h2, h3⟩
    ·rw [h] at hjl; simp at hjl
    exact ⟨g', off', _, h1, h2, h3 j hjl⟩
   cases hv
   have caw := (hbel.cell (p := ⟨g', off' + j, none⟩) hg').trans ca
   clear ca
   generalize x.ag.getD j ByteArray.empty = y at *
   have CR : Hid (∀ W, CS 24 #[.string ⟨#[117, 115, 101, 114, 45, 97, 103, 101, 110, 116]⟩, .string y] W (.string ⟨(agLn y).toArray⟩)) := fun W => implRobLine ⟨#[117, 115, 101, 114, 45, 97, 103, 101, 110, 116]⟩ y W (by decide) hx
   have hys : (⟨(agLn y).toArray⟩ : ByteArray).size = 13 + y.size := (List.size_toArray).trans (agLn_len y)
   have CW : Hid (∀ (L : List UInt8) W, L.length ≤ 13631488 → Bld B L W → Calls Tryd.prog 23 #[.pointer (some ⟨B, 0, none⟩), .string ⟨(agLn y).toArray⟩] W fun e w' => e = .returned (.tuple #[.int .i64 (⟨(agLn y).toArray⟩ : ByteArray).size, .nilIface]) ∧ Bld B (L ++ agLn y) w' ∧ Below B W w' ∧ Lib.OthersKept 5 (some B) W w') := fun L W hL hW => bldWrite B L ⟨(agLn y).toArray⟩ W (by rw [hys]; omega) hW
   generalize agLn y = Y at *
   go_wp2_with fail
   refine (CR.out _).mono ?_
   rintro e w' ⟨rfl, rfl⟩
   go_wp2_with fail
   refine (CW.out _ _ hs2 HB.out).mono ?_
   rintro e w1 ⟨rfl, ha, b1, kwa⟩
   have HBA : Hid (Bld B (T0 ++ (x.ag.take (j + 1)).flatMap agLn) w1) := by show Bld _ _ _; rw [HNX.out]; exact ha
   have HD1 : Hid (w1.heap[D]? = some (.cells #[.slice (some ⟨g', off', none⟩) x.ag.length pc, .slice qa x.ln.length qc] 33)) := kwa D _ HD.out (fun h => by cases h; omega) (fun c fz h => by injection h with _ h2; exact absurd h2 (by decide))
   have B1 := hbel.trans (b1.mono hwB)
   clear ha b1 kwa HB HD CR CW hbel caw
   go_wp2_with fail
   go_roundw
   case rel => exact ⟨j + 1, by omega, by go_num, HBA, HD1, B1⟩
   case measure => simp [intOf] <;> omega
  have hji : ¬ (j : Int) < x.ag.length := by omega
  have HBA : Hid (Bld B (T0 ++ x.ag.flatMap agLn) wr) := by
   have := HB.out
   rwa [show j = x.ag.length by omega, List.take_length] at this
  have d1 : wr.cell? ⟨D, 1, none⟩ = some (.slice qa x.ln.length qc) := by rw [cell_of_row _ D 1 _ _ _ HD.out]; rfl
  clear HB HD
  go_wp2_with fail
  clear d1
  go_loopw [31] (fun i wr => ∃ j : Nat, j ≤ x.ln.length ∧ i = .int .i64 j ∧ Hid (Bld B (T0 ++ x.ag.flatMap agLn ++ (x.ln.take j).flatMap lnLn) wr) ∧ Below w.heap.size w wr) (fun i _ => x.ln.length - (intOf i).toNat)
  case atStart => exact ⟨0, Nat.zero_le _, rfl, (by rw [List.take_zero, List.flatMap_nil, List.append_nil]; exact HBA), hbel⟩
  obtain ⟨m, hm, rfl, HB, hbel⟩ := hrel
  clear HBA
  by_cases hml : m < x.ln.length
  ·have hmi : (m : Int) < x.ln.length := by omega
   have hs2 := HPB.out m hm
   have hx := HLZ.out m hml
   have HNX : Hid (T0 ++ x.ag.flatMap agLn ++ (x.ln.take (m + 1)).flatMap lnLn = T0 ++ x.ag.flatMap agLn ++ (x.ln.take m).flatMap lnLn ++ lnLn (x.ln.getD m lv0)) := by
    show _ = _
    rw [flat_next lnLn lv0 x.ln hml]
    simp only [List.append_assoc]
   obtain ⟨g', off', c2, hv, hg', ca, cb⟩ : ∃ g' off' cc, Value.slice qa x.ln.length qc = .slice (some ⟨g', off', none⟩) x.ln.length cc ∧ g' < w.heap.size ∧ w.cell? ⟨g', off' + m * 2, none⟩ = some (.bool (x.ln.getD m lv0).al) ∧ w.cell? ⟨g', off' + m * 2 + 1, none⟩ = some (.string (x.ln.getD m lv0).pa) := by
    rcases HLR.out with ⟨h, _⟩ | ⟨_, g', off', cc, h1, h2, h3⟩
    ·rw [h] at hml; simp at hml
    exact ⟨g', off', _, h1, h2, (h3 m hml).1, (h3 m hml).2⟩
   cases hv
   have caw := (hbel.cell (p := ⟨g', off' + m * 2, none⟩) hg').trans ca
   have cbw := (hbel.cell (p := ⟨g', off' + m * 2 + 1, none⟩) hg').trans cb
   clear ca cb
   generalize x.ln.getD m lv0 = y at *
   have hks : (⟨(if y.al = true then keyA else keyD).toArray⟩ : ByteArray).size ≤ 100 := by cases y.al <;> decide
   have CK : Hid (∀ W, CB 25 #[.agg #[.bool y.al, .string y.pa]] W (.string ⟨(if y.al = true then keyA else keyD).toArray⟩)) := fun W => implKeyOf y W
   have CR : Hid (∀ W, CS 24 #[.string ⟨(if y.al = true then keyA else keyD).toArray⟩, .string y.pa] W (.string ⟨(lnLn y).toArray⟩)) := fun W => implRobLine _ y.pa W hks hx
   have hys : (⟨(lnLn y).toArray⟩ : ByteArray).size ≤ 13 + y.pa.size := Nat.le_trans (Nat.le_of_eq List.size_toArray) (lnLn_len y)
   have CW : Hid (∀ (L : List UInt8) W, L.length ≤ 13631488 → Bld B L W → Calls Tryd.prog 23 #[.pointer (some ⟨B, 0, none⟩), .string ⟨(lnLn y).toArray⟩] W fun e w' => e = .returned (.tuple #[.int .i64 (⟨(lnLn y).toArray⟩ : ByteArray).size, .nilIface]) ∧ Bld B (L ++ lnLn y) w' ∧ Below B W w' ∧ Lib.OthersKept 5 (some B) W w') := fun L W hL hW => bldWrite B L ⟨(lnLn y).toArray⟩ W (by omega) hW
   generalize lnLn y = Y at *
   generalize (⟨(if y.al = true then keyA else keyD).toArray⟩ : ByteArray) = KK at *
   go_upto_region 13 with fail
   obtain ⟨V, hV⟩ : ∃ V, V = wr.alloc (.cells #[.bool y.al, .string y.pa] 35) := ⟨_, rfl⟩
   have bV : Below wr.heap.size wr V := by rw [hV]; exact (Below.refl _ _).alloc (Nat.le_refl _) _
   have AV : BAt V wr.heap.size [.bool y.al, .string y.pa] := by rw [hV]; exact BAt.new wr #[.bool y.al, .string y.pa] _
   rw [← hV]
   clear hV
   have BV : Below w.heap.size w V := hbel.trans (bV.mono hbel.size)
   have HBV : Hid (Bld B (T0 ++ x.ag.flatMap agLn ++ (x.ln.take m).flatMap lnLn) V) := HB.out.below bV
   have d0 := AV.1 0 _ rfl
   have d1 := AV.1 1 _ rfl
   have hEV := AV.2.2
   clear caw cbw hbel bV HB AV
   generalize wr.heap.size = E at *
   generalize hLL : T0 ++ x.ag.flatMap agLn ++ (x.ln.take m).flatMap lnLn = LL at *
   clear hLL
   go_region_with (first
    | (go_at_call 25; refine (CK.out _).mono ?_; rintro e wk ⟨rfl, bk⟩; have dk := (bk.cell (p := ⟨E, 1, none⟩) hEV).trans d1; have HBK : Hid (Bld B LL wk) := Bld.below (w := V.drew) HBV.out bk)
    | (go_at_call 24; refine (CR.out _).mono ?_; rintro e wl ⟨rfl, rfl⟩)
    | (go_at_call 23; refine (CW.out _ _ hs2 HBK.out).mono ?_; rintro e w1 ⟨rfl, ha, b1, _⟩))
   all_goals
    have HBA : Hid (Bld B (T0 ++ x.ag.flatMap agLn ++ (x.ln.take (m + 1)).flatMap lnLn) w1) := by show Bld _ _ _; rw [HNX.out]; exact ha
    have B1 := (BV.drew.trans (bk.mono BV.size)).trans (b1.mono hwB)
    clear ha b1 bk HBK HBV BV CK CR CW dk d0 d1
    go_wp2_with fail
    refine ⟨⟨m + 1, by omega, by go_num, HBA, B1⟩, ?_⟩
    simp [intOf]
    omega
  have hmi : ¬ (m : Int) < x.ln.length := by omega
  have HBE : Hid (Bld B ((l.take (k + 1)).flatMap partT) wr) := by
   have := HB.out
   rw [show m = x.ln.length by omega, List.take_length] at this
   show Bld _ _ _
   rw [HT1.out]
   unfold partT
   rw [← List.append_assoc]
   exact this
  clear HB
  go_wp2_with fail
  go_roundw
  case rel => exact ⟨k + 1, by omega, by go_num, HBE, hbel⟩
  case measure => simp [intOf] <;> omega
 have hki : ¬ (k : Int) < l.length := by omega
 have HF : Hid (Bld B (l.flatMap partT) wr) := by
  have := HB.out
  rwa [show k = l.length by omega, List.take_length] at this
 clear HB HROW
 go_wp2_with fail
 refine (bldString _ _ _ HF.out).mono ?_
 rintro e w2 ⟨rfl, b2⟩
 go_wp2_with fail
 go_ret
 exact ⟨rfl, hbel.trans (b2.mono hwB)⟩
theorem psum_take {α : Type} (f : α → Nat) (d : α) (l : List α) : ∀ k, k ≤ l.length → psum (fun i => f (l.getD i d)) k = ((l.take k).map f).sum
 | 0, _ => by simp [psum]
 | k + 1, hk => by
  show psum _ k + f (l.getD k d) = _
  rw [psum_take f d l k (by omega), List.take_succ_eq_append_getElem (by omega), List.map_append, List.sum_append, List.getD_eq_getElem?_getD, List.getElem?_eq_getElem (by omega)]
  simp
theorem psum_map {α : Type} (f : α → Nat) (d : α) (l : List α) : psum (fun i => f (l.getD i d)) l.length = (l.map f).sum := by
 rw [psum_take f d l l.length (Nat.le_refl _), List.take_length]
theorem sumS_eq (l : List ByteArray) : sumS l = l.length + (l.map ByteArray.size).sum := by
 unfold sumS
 rw [psum_map ByteArray.size ByteArray.empty]
theorem sumL_eq (l : List LV) : sumL l = l.length + (l.map fun x => x.pa.size).sum := by
 unfold sumL
 rw [psum_map (fun x : LV => x.pa.size) lv0]
theorem sumP_eq (l : List PT) : sumP l = l.length + (l.map sumT).sum := by
 unfold sumP
 rw [psum_map sumT pt0]
theorem sumS_snoc (l : List ByteArray) (a : ByteArray) : sumS (l ++ [a]) = sumS l + 1 + a.size := by
 rw [sumS_eq, sumS_eq, List.length_append, List.map_append, List.sum_append]
 simp
 omega
theorem sumL_snoc (l : List LV) (a : LV) : sumL (l ++ [a]) = sumL l + 1 + a.pa.size := by
 rw [sumL_eq, sumL_eq, List.length_append, List.map_append, List.sum_append]
 simp
 omega
theorem sumP_snoc (l : List PT) (a : PT) : sumP (l ++ [a]) = sumP l + 1 + sumT a := by
 rw [sumP_eq, sumP_eq, List.length_append, List.map_append, List.sum_append]
 simp
 omega
theorem pl_most (l : List UInt8) : (plL 2 l).length ≤ 3 * l.length := by
 refine tok_ind (fun l => (plL 2 l).length ≤ 3 * l.length) (Nat.zero_le _) ?_ ?_ l
 ·intro a b c r h ih
  rw [pl_pct _ _ _ _ _ h, List.length_append]
  have := free_len (UInt8.ofNat (pctV a.toNat b.toNat c.toNat).toNat)
  simp only [List.length_cons]
  omega
 intro a r h ih
 rw [pl_byte _ _ _ h, List.length_append]
 have := kept_len 2 a
 simp only [List.length_cons]
 omega
theorem agL_most (l : List UInt8) : (agL l).length ≤ l.length + 1 := by
 unfold agL
 split
 ·simp
 unfold lowerL
 rw [List.length_map]
 have h1 := (List.takeWhile_prefix agB (l := l)).length_le
 omega
theorem mkb_size (l : List UInt8) : (⟨l.toArray⟩ : ByteArray).size = l.length := List.size_toArray
theorem sum_addAg (ps : List PT) (a : List UInt8) : sumP (addAg ps a) ≤ sumP ps + 2 + a.length := by
 have one : sumT ⟨[⟨a.toArray⟩], []⟩ = 1 + a.length := by
  show sumS [⟨a.toArray⟩] + sumL [] = _
  rw [sumS_eq, sumL_eq]
  simp [mkb_size]
 unfold addAg
 cases hp : ps.getLast? with
 | none =>
  have := List.getLast?_eq_none_iff.1 hp
  subst this
  show sumP ([] ++ [⟨[⟨a.toArray⟩], []⟩]) ≤ _
  rw [sumP_snoc, one]
  omega
 | some p =>
  show sumP (if p.ln.isEmpty = true then _ else _) ≤ _
  split
  ·have e := ps_last hp
   have h1 : sumP ps = sumP ps.dropLast + 1 + sumT p := by conv => lhs; rw [e, sumP_snoc]
   have h2 : sumT ⟨p.ag ++ [⟨a.toArray⟩], p.ln⟩ = sumT p + 1 + a.length := by
    show sumS (p.ag ++ [⟨a.toArray⟩]) + sumL p.ln = sumS p.ag + sumL p.ln + 1 + a.length
    rw [sumS_snoc, mkb_size]
    omega
   rw [sumP_snoc, h2]
   omega
  rw [sumP_snoc, one]
  omega
theorem sum_addLn (ps : List PT) (b : Bool) (v : List UInt8) : sumP (addLn ps b v) ≤ sumP ps + 1 + 3 * v.length := by
 unfold addLn
 cases hp : ps.getLast? with
 | none => show sumP ps ≤ _; omega
 | some p =>
  show sumP (if v.isEmpty = true then _ else _) ≤ _
  split
  ·omega
  have e := ps_last hp
  have h1 : sumP ps = sumP ps.dropLast + 1 + sumT p := by conv => lhs; rw [e, sumP_snoc]
  have h2 : sumT ⟨p.ag, p.ln ++ [⟨b, ⟨(patL v).toArray⟩⟩]⟩ = sumT p + 1 + (patL v).length := by
   show sumS p.ag + sumL (p.ln ++ [⟨b, ⟨(patL v).toArray⟩⟩]) = sumS p.ag + sumL p.ln + 1 + (patL v).length
   rw [sumL_snoc]
   show _ + (_ + 1 + (⟨(patL v).toArray⟩ : ByteArray).size) = _
   rw [mkb_size]
   omega
  rw [sumP_snoc, h2]
  have := pl_most v
  have e2 : patL v = plL 2 v := rfl
  rw [e2]
  omega
theorem valL_most (x : ByteArray) : (valL x.data.toList).length ≤ x.size := by
 have := valV_size x
 unfold valV at this
 rwa [mkb_size] at this
theorem sum_step (ps : List PT) (x : ByteArray) : sumP (stepV ps x) ≤ sumP ps + 3 + 3 * x.size := by
 have hv := valL_most x
 unfold stepV stepP
 split
 ·omega
 split
 ·have h1 := sum_addAg ps (agL (valL x.data.toList))
  have h2 := agL_most (valL x.data.toList)
  omega
 split
 ·have := sum_addLn ps true (valL x.data.toList); omega
 split
 ·have := sum_addLn ps false (valL x.data.toList); omega
 omega
theorem sum_fold : ∀ (fs : List ByteArray) (ps : List PT), sumP (fs.foldl stepV ps) ≤ sumP ps + 3 * fs.length + 3 * (fs.map ByteArray.size).sum
 | [], ps => by simp
 | x :: fs, ps => by
  have h1 := sum_fold fs (stepV ps x)
  have h2 := sum_step ps x
  simp only [List.foldl_cons, List.length_cons, List.map_cons, List.sum_cons]
  omega
theorem spl_total (b : UInt8) : ∀ l, ((spl b l).map List.length).sum + (spl b l).length = l.length + 1
 | [] => rfl
 | c :: l => by
  have ih := spl_total b l
  unfold spl
  by_cases h : c = b
  ·rw [if_pos h]
   simp only [List.map_cons, List.sum_cons, List.length_cons, List.length_nil]
   omega
  rw [if_neg h]
  cases hs : spl b l with
  | nil =>
   rw [hs] at ih
   simp at ih
  | cons x xs =>
   rw [hs] at ih
   simp only [List.map_cons, List.sum_cons, List.length_cons] at ih ⊢
   omega
theorem rob_sum (s : ByteArray) : sumP (robV s) ≤ 200000 := by
 have h := sum_fold (fieldsL (crS (cutS s)) 10) []
 have h1 := fieldsL_spl (crS (cutS s)) 10
 rw [show ((10 : UInt8).toNat : Int) = 10 from rfl] at h1
 have h2 := spl_total 10 (crS (cutS s)).data.toList
 rw [← h1] at h2
 have h3 : (((fieldsL (crS (cutS s)) 10).map toL).map List.length).sum = ((fieldsL (crS (cutS s)) 10).map ByteArray.size).sum := by
  rw [List.map_map]
  congr 1
 rw [h3, List.length_map] at h2
 have h4 : (crS (cutS s)).data.toList.length = (crS (cutS s)).size := by simp
 rw [h4, crS_size] at h2
 have h5 := cutS_size s
 have h6 : sumP [] = 0 := rfl
 unfold robV
 omega
end Go.Proofs.YtjdnemjcjodboaaDoor
namespace Go.Proofs.YtjdnemjcjodboaaDoor
end Go.Proofs.YtjdnemjcjodboaaDoor
namespace Go.Proofs.YtjdnemjcjodboaaDoor
open Go.RowKit
def CodeRow (D : Nat) (w : World) (ao : Option Addr) (len : Nat) : Prop :=
 len = 0 ∨ ∃ b off, ao = some ⟨b, off, none⟩ ∧ b < D ∧ ∀ j, j < len → ∃ x : Int, w.cell? ⟨b, off + j, none⟩ = some (.int .u8 x) ∧ 0 ≤ x ∧ x ≤ 255
def Cur (D B : Nat) (ao : Option Addr) (len cap : Nat) (w : World) : Prop :=
 ∃ i h : Int, w.heap[B]? = some (.cells #[.slice ao len cap, .int .i64 i, .int .i64 h] 73 (0, 0)) ∧ 0 ≤ i ∧ i ≤ len ∧ len ≤ 1048576 ∧ D ≤ B ∧ CodeRow D w ao len
theorem i64_and255 (n : Int) : bits .and .i64 n 255 = n % 256 := by
 have h255 : (BitVec.ofInt 64 255).toNat = 2 ^ 8 - 1 := by decide
 have key : (BitVec.ofInt 64 n &&& BitVec.ofInt 64 255).toNat = (n % ((2 ^ 64 : Nat) : Int)).toNat % 2 ^ 8 := by
  rw [BitVec.toNat_and, BitVec.toNat_ofInt, h255, Nat.and_two_pow_sub_one_eq_mod]
 show IntKind.i64.wrap ((BitVec.ofInt 64 n &&& BitVec.ofInt 64 255).toNat : Nat) = n % 256
 rw [key, IntKind.wrap_i64]
 omega
theorem CodeRow.grown {D : Nat} {w w' : World} {ao : Option Addr} {len : Nat} (h : CodeRow D w ao len) (hb : ∀ k, k < D → w'.heap[k]? = w.heap[k]?) : CodeRow D w' ao len := by
 rcases h with h | ⟨b, off, h1, h2, h3⟩
 ·exact .inl h
 refine .inr ⟨b, off, h1, h2, fun j hj => ?_⟩
 obtain ⟨x, h4, h5⟩ := h3 j hj
 exact ⟨x, (World.cell?_of_block (w := w) (a := ⟨b, off + j, none⟩) (hb b h2)).trans h4, h5⟩
theorem heap_set3 {w : World} {B k : Nat} {cs : Array Value} {t : TypeId} (v : Value) (h : w.heap[B]? = some (.cells cs t (0, 0))) : (w.setCell ⟨B, k, none⟩ v).heap[B]? = some (.cells (cs.setIfInBounds k v) t (0, 0)) :=
 heap_setCell_same w B k cs t v h
theorem Cur.seth {D B : Nat} {ao : Option Addr} {len cap : Nat} {w : World} {i h : Int} (hc : w.heap[B]? = some (.cells #[.slice ao len cap, .int .i64 i, .int .i64 h] 73 (0, 0))) (h0 : 0 ≤ i) (h1 : i ≤ len) (hl : len ≤ 1048576) (hDB : D ≤ B) (hcode : CodeRow D w ao len) (h' : Int) :
  Cur D B ao len cap (w.setCell ⟨B, 2, none⟩ (.int .i64 h')) ∧ w.grownBy (w.setCell ⟨B, 2, none⟩ (.int .i64 h')) (some B) := by
 refine ⟨⟨i, h', ?_, h0, h1, hl, hDB, hcode.grown fun k hk => Below.heap_setCell _ _ _ _ (by simp; omega)⟩, ⟨rfl, rfl, rfl, by simp [World.setCell], fun k _ hk => Below.heap_setCell _ _ _ _ (fun e => hk (by simp [e]))⟩⟩
 rw [heap_set3 _ hc]
 rfl
theorem Cur.seti {D B : Nat} {ao : Option Addr} {len cap : Nat} {w : World} {i h : Int} (hc : w.heap[B]? = some (.cells #[.slice ao len cap, .int .i64 i, .int .i64 h] 73 (0, 0))) (hl : len ≤ 1048576) (hDB : D ≤ B) (hcode : CodeRow D w ao len) (i' : Int) (h0 : 0 ≤ i') (h1 : i' ≤ len) :
  Cur D B ao len cap (w.setCell ⟨B, 1, none⟩ (.int .i64 i')) ∧ w.grownBy (w.setCell ⟨B, 1, none⟩ (.int .i64 i')) (some B) := by
 refine ⟨⟨i', h, ?_, h0, h1, hl, hDB, hcode.grown fun k hk => Below.heap_setCell _ _ _ _ (by simp; omega)⟩, ⟨rfl, rfl, rfl, by simp [World.setCell], fun k _ hk => Below.heap_setCell _ _ _ _ (fun e => hk (by simp [e]))⟩⟩
 rw [heap_set3 _ hc]
 rfl
theorem cur_cells {w : World} {B : Nat} {a b c : Value} {t : TypeId} (h : w.heap[B]? = some (.cells #[a, b, c] t (0, 0))) :
  w.cell? ⟨B, 0, none⟩ = some a ∧ w.cell? ⟨B, 1, none⟩ = some b ∧ w.cell? ⟨B, 2, none⟩ = some c ∧ ∀ j, w.frozen? ⟨B, j, none⟩ = false := by
 refine ⟨?_, ?_, ?_, fun j => frozen_of_row w B j _ t h⟩ <;> (rw [cell_of_row w B _ _ t (0, 0) h]; rfl)
theorem Cur.drewN {D B : Nat} {ao : Option Addr} {len cap : Nat} {w : World} (h : Cur D B ao len cap w) (n : Nat) : Cur D B ao len cap (w.drewN n) := h
theorem grow_drewN {w w' : World} {row : Option Nat} (h : w.grownBy w' row) (n : Nat) : w.grownBy (w'.drewN n) row := ⟨h.os, h.tape, h.output, h.size, h.block⟩
theorem Cur.lt {D B : Nat} {ao : Option Addr} {len cap : Nat} {w : World} (h : Cur D B ao len cap w) : B < w.heap.size := by
 obtain ⟨i, h', hc, _⟩ := h
 exact (Array.getElem?_eq_some_iff.1 hc).1
theorem Cur.keep {D B : Nat} {ao : Option Addr} {len cap : Nat} {w w' : World} (h : Cur D B ao len cap w) (hB : w'.heap[B]? = w.heap[B]?) (hD : ∀ k, k < D → w'.heap[k]? = w.heap[k]?) : Cur D B ao len cap w' := by
 obtain ⟨i, h', hc, h0, h1, hl, hDB, hcode⟩ := h
 exact ⟨i, h', hB.trans hc, h0, h1, hl, hDB, hcode.grown hD⟩
theorem Cur.le {D B : Nat} {ao : Option Addr} {len cap : Nat} {w : World} (h : Cur D B ao len cap w) : D ≤ B := by
 obtain ⟨i, h', hc, h0, h1, hl, hDB, hcode⟩ := h
 exact hDB
theorem Cur.below {D B : Nat} {ao : Option Addr} {len cap : Nat} {w w' : World} (h : Cur D B ao len cap w) (hb : ∀ k, k < w.heap.size → w'.heap[k]? = w.heap[k]?) : Cur D B ao len cap w' := by
 have hlt := h.lt
 have hle := h.le
 exact h.keep (hb B hlt) fun k hk => hb k (by omega)
theorem Cur.alloc {D B : Nat} {ao : Option Addr} {len cap : Nat} {w : World} (h : Cur D B ao len cap w) (o : Obj) : Cur D B ao len cap (w.alloc o) := h.below fun k hk => Below.heap_alloc w o k hk
theorem grow_alloc {w w1 : World} {row : Option Nat} (h : w.grownBy w1 row) (o : Obj) : w.grownBy (w1.alloc o) row := grow_trans h (World.grownBy_alloc w1 o row)
theorem big_no (ao : Option Addr) (len cap : Nat) (w : World) (h : (len : Int) ≤ 1048576) : Calls Tryd.prog 6 #[.slice ao len cap] w fun e w' => e = .returned (.bool false) ∧ w = w' := by
 go_enter Tryd.func6, Tryd.ntmps6
 go_wp2
 go_ret
 exact ⟨ret_bool (by simp <;> omega), rfl⟩
theorem big_yes (ao : Option Addr) (len cap : Nat) (w : World) (h : 1048576 < (len : Int)) : Calls Tryd.prog 6 #[.slice ao len cap] w fun e w' => e = .returned (.bool true) ∧ w = w' := by
 go_enter Tryd.func6, Tryd.ntmps6
 go_wp2
 go_ret
 exact ⟨ret_bool (by simp <;> omega), rfl⟩
theorem CodeRow.le {D D' : Nat} {w : World} {ao : Option Addr} {len : Nat} (h : CodeRow D w ao len) (hD : D ≤ D') : CodeRow D' w ao len := by
 rcases h with h | ⟨b, off, h1, h2, h3⟩
 ·exact .inl h
 exact .inr ⟨b, off, h1, by omega, h3⟩
theorem CodeRow.later {w w' : World} {ao : Option Addr} {len : Nat} (h : CodeRow w.heap.size w ao len) (hb : Below w.heap.size w w') : CodeRow w'.heap.size w' ao len :=
 (h.grown hb.block).le hb.size
end Go.Proofs.YtjdnemjcjodboaaDoor
