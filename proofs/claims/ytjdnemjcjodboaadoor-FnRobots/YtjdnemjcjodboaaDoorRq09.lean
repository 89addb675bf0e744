/- PlainlyWalk, PatImpl, RobWithI, StrTo, RobWithI2. -/
import Derived.Test.YtjdnemjcjodboaaDoorRq08
import Derived.Test.YtjdnemjcjodboaaDoorRq07
import Derived.Deep.RegionHeld3
set_option maxHeartbeats 8000000
namespace Go.Proofs.YtjdnemjcjodboaaDoor
open Go.RowKit
theorem pl_hit (set : Int) (s : ByteArray) (k n : Nat) (h : pctAt s k = (n : Int)) (o : List UInt8) (he : o ++ plL set (s.data.toList.drop k) = plL set s.data.toList) :
  (o ++ freeB (UInt8.ofNat n)) ++ plL set (s.data.toList.drop (k + 3)) = plL set s.data.toList := by
 rw [← he]
 unfold plL
 rw [tok_hit _ _ s k (by omega), h, List.append_assoc]
 rfl
theorem pl_miss (set : Int) (s : ByteArray) (k : Nat) (hk : k < s.size) (o : List UInt8) (h : pctAt s k < 0) (he : o ++ plL set (s.data.toList.drop k) = plL set s.data.toList) :
  (o ++ keptB set s[k]) ++ plL set (s.data.toList.drop (k + 1)) = plL set s.data.toList := by
 rw [← he]
 unfold plL
 rw [tok_miss _ _ s k hk h, List.append_assoc]
theorem pl_end (set : Int) (s : ByteArray) (k : Nat) (hk : s.size ≤ k) (o : List UInt8) (he : o ++ plL set (s.data.toList.drop k) = plL set s.data.toList) : o = plL set s.data.toList := by
 rw [← he]
 unfold plL
 rw [tok_end _ _ s k hk]
 simp
theorem freeZ_nat (n : Nat) : freeZ (n : Int) = freeN n := by simp [freeZ]
theorem implPlainly (s : ByteArray) (set : Int) (w : World) (hM : Marks w) (hs : s.size ≤ 4294967296) :
  Calls Tryd.prog 27 #[.string s, .int .i64 set] w fun e w' => e = .returned (.string ⟨(plL set s.data.toList).toArray⟩) ∧ Below w.heap.size w w' := by
 have HM : Hid (Marks w) := hM
 clear hM
 obtain ⟨i0, hi, hz0, hz1, hz2⟩ := info_parts Tryd.info5
 go_enter Tryd.func27, Tryd.ntmps27
 go_wp2_with (at_make; refine wpList_make_own _ rfl _ _ 22 rfl w.heap.size 5 i0 (.int .u8 0) 1 Tryd.underlying22 hi hz0 hz1 _ _ _ s.size rfl rfl (by omega) (by rw [hz2]; omega) (by unfold maxLen; omega) (Nat.le_refl _) ?_)
 intro wm hmo hgm
 have Bm : Below w.heap.size w wm := (Below.refl _ _).grown hgm (Nat.le_refl _) (fun k hk => by cases hk)
 clear hgm
 go_wp2
 go_loopw [5, 6] (fun v i wr => ∃ (k : Nat) (o : List UInt8), k ≤ s.size ∧ i = .int .i64 k ∧ o.length ≤ 3 * k ∧ wr.ownsRow w.heap.size 5 1 v o.length (bcells o) ∧ o ++ plL set (s.data.toList.drop k) = plL set s.data.toList ∧ Below w.heap.size w wr)
  (fun _ i _ => s.size - (intOf i).toNat)
 case atStart => exact ⟨0, [], Nat.zero_le _, rfl, Nat.zero_le _, hmo, rfl, Bm⟩
 clear hmo Bm hi hz0 hz1 hz2
 obtain ⟨k, o, hk, rfl, hol, hown, he, hbel⟩ := hrel
 have HE : Hid (o ++ plL set (s.data.toList.drop k) = plL set s.data.toList) := he
 clear he
 have hsz := hbel.size
 by_cases hlt : k < s.size
 ·have hct := fun W => implPctAt s k W hlt (by omega)
  have hcl := pctAt_le s k
  by_cases hc : 0 ≤ pctAt s k
  ·obtain ⟨n, hn⟩ := Int.eq_ofNat_of_zero_le hc
   have hk3 := pctAt_lt hc
   have HN : Hid ((o ++ freeB (UInt8.ofNat n)) ++ plL set (s.data.toList.drop (k + 3)) = plL set s.data.toList) := pl_hit set s k n hn o HE.out
   have HT : Hid ((UInt8.ofNat n).toNat = n) := by show _ = _; simp; omega
   have HF : Hid (freeB (UInt8.ofNat n) = if freeN n then [UInt8.ofNat n] else putB (UInt8.ofNat n)) := by show _ = _; unfold freeB; rw [HT.out]
   rw [hn] at hct hcl
   have hn1 : (n : Int) ≤ 255 := hcl.2
   have hn0 : 0 ≤ (n : Int) := by omega
   have HC : Hid (∀ W, CB 51 #[.string s, .int .i64 (k : Int)] W (.int .i64 (n : Int))) := hct
   clear hct hcl hc hn
   cases hf : freeN n with
   | true =>
    rw [hf, if_pos rfl] at HF
    rw [HF.out] at HN
    have ckk := fun (W : World) (hb : Below w.heap.size w W) => implIsPlain n W (HM.out.later hb) hn1
    rw [hf] at ckk
    have CK : Hid (∀ W, Below w.heap.size w W → CS 53 #[.int .u8 (n : Int)] W (.bool true)) := ckk
    have HX : Hid ((n : Int) = ((UInt8.ofNat n).toNat : Int)) := by show _ = _; rw [HT.out]
    clear ckk hf HF
    generalize UInt8.ofNat n = u at HN HT HX
    go_wp2_with fail
    refine (HC.out _).mono ?_
    rintro e wb ⟨rfl, bb⟩
    have ob := own_below hown bb
    have hsb := bb.size
    have Bb : Below w.heap.size w wb := hbel.trans (bb.mono hsz)
    clear bb hbel hown
    go_wp2_with fail
    refine (CK.out _ Bb).mono ?_
    rintro e w' ⟨rfl, rfl⟩
    go_wp2_with (at_builtin; refine wpList_append_new _ rfl _ _ 22 rfl w.heap.size 5 (.int .u8 0) 1 Tryd.underlying22 Tryd.info5 rfl _ _ _ rfl ob #[.int .u8 (n : Int)] 1 rfl rfl (byte_one _) (by omega) (by unfold maxLen; omega) (by omega) ?_)
    intro v' w1 hown' hb1
    have R := own_byte u HX.out hown'
    have B1 : Below w.heap.size w w1 := Bb.trans hb1
    clear hown' hb1 ob Bb
    go_wp2
    go_roundw
    case rel => exact ⟨k + 3, _, by omega, by go_num, by simp; omega, R, HN.out, B1⟩
    case measure => simp [intOf]; omega
   | false =>
    rw [hf, if_neg (by decide)] at HF
    rw [HF.out] at HN
    have ckk := fun (W : World) (hb : Below w.heap.size w W) => implIsPlain n W (HM.out.later hb) hn1
    rw [hf] at ckk
    have CK : Hid (∀ W, Below w.heap.size w W → CS 53 #[.int .u8 (n : Int)] W (.bool false)) := ckk
    clear ckk hf HF
    generalize UInt8.ofNat n = u at HN HT
    go_wp2_with fail
    refine (HC.out _).mono ?_
    rintro e wb ⟨rfl, bb⟩
    have ob := own_below hown bb
    have hsb := bb.size
    have Bb : Below w.heap.size w wb := hbel.trans (bb.mono hsz)
    clear bb hbel hown
    go_wp2_with fail
    refine (CK.out _ Bb).mono ?_
    rintro e w' ⟨rfl, rfl⟩
    go_wp2_with fail
    refine (implAppendPct u n HT.out _ o w.heap.size _ ob (by omega) (by omega)).mono ?_
    rintro e w1 ⟨v', rfl, hown', hb1⟩
    have B1 : Below w.heap.size w w1 := Bb.trans hb1
    clear hb1 ob Bb
    go_wp2
    go_roundw
    case rel => exact ⟨k + 3, _, by omega, by go_num, by simp [putB]; omega, hown', HN.out, B1⟩
    case measure => simp [intOf]; omega
  have HN : Hid ((o ++ keptB set s[k]) ++ plL set (s.data.toList.drop (k + 1)) = plL set s.data.toList) := pl_miss set s k hlt o (by omega) HE.out
  obtain ⟨d, hd⟩ : ∃ d : Nat, s[k].toNat = d := ⟨_, rfl⟩
  have hd1 : (d : Int) ≤ 255 := by have := s[k].toNat_lt; omega
  have hd0 : 0 ≤ (d : Int) := by omega
  have HD : Hid (s[k].toNat = d) := hd
  have hkl := kept_len set s[k]
  generalize pctAt s k = c at hct hcl hc
  obtain ⟨hc0, hc1⟩ := hcl
  have HC : Hid (∀ W, CB 51 #[.string s, .int .i64 (k : Int)] W (.int .i64 c)) := hct
  clear hct
  go_wp2_with fail
  refine (HC.out _).mono ?_
  rintro e wb ⟨rfl, bb⟩
  have ob := own_below hown bb
  have hsb := bb.size
  have Bb : Below w.heap.size w wb := hbel.trans (bb.mono hsz)
  clear bb hbel hown
  go_wp2_with fail
  refine (implAppendKept s[k] d HD.out set _ o w.heap.size _ (HM.out.later Bb) ob (by omega) (by omega)).mono ?_
  rintro e w1 ⟨v', rfl, hown', hb1⟩
  have B1 : Below w.heap.size w w1 := Bb.trans hb1
  clear hb1 ob Bb
  go_wp2
  go_roundw
  case rel => exact ⟨k + 1, _, by omega, by go_num, by rw [List.length_append]; omega, hown', HN.out, B1⟩
  case measure => simp [intOf]; omega
 have HO := run_string_own (P := Tryd.prog) wr 22 9 5 Tryd.underlying22 Tryd.underlying5 Tryd.underlying9 hown
 go_wp2
 go_ret
 exact ⟨ret_str (pl_end set s k (by omega) o HE.out), hbel⟩
theorem implPatternOf (s : ByteArray) (w : World) (hM : Marks w) (hs : s.size ≤ 4294967296) :
  Calls Tryd.prog 10 #[.string s] w fun e w' => e = .returned (.string ⟨(plL 2 s.data.toList).toArray⟩) ∧ Below w.heap.size w w' := by
 have CP : Hid (CB 27 #[.string s, .int .i64 2] w (.string ⟨(plL 2 s.data.toList).toArray⟩)) := implPlainly s 2 w hM hs
 clear hM
 generalize plL 2 s.data.toList = R at *
 go_enter Tryd.func10, Tryd.ntmps10
 go_wp2_with fail
 refine CP.out.mono ?_
 rintro e w1 ⟨rfl, b1⟩
 go_wp2_with fail
 go_ret
 exact ⟨rfl, b1⟩
end Go.Proofs.YtjdnemjcjodboaaDoor
namespace Go.Proofs.YtjdnemjcjodboaaDoor
open Go.RowKit
set_option linter.unusedVariables false
theorem Tryd.infoL3 : (Tryd.prog.info? 35).map (fun i => (i.zero, i.size, i.bytes)) = some (some (.agg #[.bool false, .string ⟨#[]⟩]), 2, 24) := by kernel_rfl
theorem implTakes (l : List PT) (v : Value) (base top : Nat) (w : World) (hl : l.length ≤ 1048576) (h : RobOwn w base top v l) :
  Calls Tryd.prog 45 #[v] w fun e w' => e = .returned (.bool (!newP l)) ∧ w = w' := by
 by_cases h0 : l.length = 0
 ·obtain rfl : l = [] := List.eq_nil_of_length_eq_zero h0
  obtain ⟨ao, cap, rfl⟩ := h.row.slice
  clear h
  go_enter Tryd.func45, Tryd.ntmps45
  go_wp2_with fail
  go_ret
  exact ⟨rfl, rfl⟩
 obtain ⟨m, hm⟩ : ∃ m, l.length = m + 1 := ⟨l.length - 1, by omega⟩
 obtain ⟨g, cap, vs, p, q, rfl, h1, h2, hp, hq, cp, cq, op, oq⟩ := h.last hm
 have HNP : Hid (newP l = !decide ((lastG l).ln.length = 0)) := newP_last (by omega)
 obtain ⟨qa, qk, hqq⟩ := (LineRow.of_own' oq).slice
 rw [hqq] at cq
 have hmi : (m : Int) ≤ 1048576 := by omega
 have hwm : IntKind.i64.wrap (m : Int) = (m : Int) := by rw [IntKind.wrap_i64]; omega
 have hm0 : 0 < (m : Int) + 1 := by omega
 clear h h0 hm h1 h2 hp hq cp op oq hqq
 generalize (lastG l).ln.length = ln at *
 by_cases hl0 : ln = 0
 ·subst hl0
  have HE : Hid ((!newP l) = true) := by show _ = _; rw [HNP.out]; rfl
  clear HNP
  go_enter Tryd.func45, Tryd.ntmps45
  go_wp2_with fail
  go_ret
  exact ⟨by rw [HE.out]; rfl, rfl⟩
 have HE : Hid ((!newP l) = false) := by show _ = _; rw [HNP.out, decide_eq_false hl0]; rfl
 have hln : ((ln : Int) == 0) = false := beq_eq_false_iff_ne.2 (by omega)
 clear HNP hl0
 go_enter Tryd.func45, Tryd.ntmps45
 go_wp2_with fail
 go_ret
 exact ⟨by rw [HE.out]; rfl, rfl⟩
theorem StrRow.grown {w w' : World} {v : Value} {l : List ByteArray} {B : Nat} (h : StrRow w v l) (hg : w.grownBy w' (some B)) (hne : v.ownBlock ≠ some B) : StrRow w' v l := by
 rcases h with h | ⟨h0, g, off, cap, rfl, h2, h3⟩
 ·exact .inl h
 have hgB : some g ≠ some B := fun e => hne e
 refine .inr ⟨h0, g, off, cap, rfl, Nat.lt_of_lt_of_le h2 hg.size, fun i hi => hg.cell (a := ⟨g, off + i, none⟩) (h3 i hi) hgB⟩
theorem part_res1 {fn : Func} {q : Tmp} (h : fn.results = #[.cell q 33]) (tmps : Array Value) (W : World) (B : Nat) (a b : Value)
  (hp : tmps[q]?.getD undef = .pointer (some ⟨B, 0, none⟩)) (ha : BAt W B [a, b]) : (results fn tmps).run Tryd.prog W = .ok (.agg #[a, b]) W := by
 have c0 := ha.1 0 _ rfl
 have c1 := ha.1 1 _ rfl
 simp [results, h, hp, asAddr, go_sem, c0, c1, Addr.add_lit]
theorem implWithAgent (ag : List ByteArray) (p : Value) (qx : Option Addr) (qn qk : Nat) (KV VV AV : ByteArray) (base : Nat) (w : World) (hk : (KV.toList == [117, 115, 101, 114, 45, 97, 103, 101, 110, 116]) = true) (hn : ag.length ≤ 1048576) (hb : base ≤ w.heap.size)
  (CA : Hid (∀ W, Calls Tryd.prog 11 #[.string VV] W fun e w' => e = .returned (.string AV) ∧ Below W.heap.size W w')) (op : w.ownsRow base 9 1 p ag.length (scells ag)) :
  Calls Tryd.prog 46 #[.agg #[p, .slice qx qn qk], .string KV, .string VV] w fun e w' => ∃ p', e = .returned (.agg #[p', .slice qx qn qk]) ∧ w'.ownsRow base 9 1 p' (ag.length + 1) (scells (ag ++ [AV])) ∧ w.grownBy w' p.ownBlock ∧ (p'.ownBlock = p.ownBlock ∨ ∀ b, p'.ownBlock = some b → w.heap.size ≤ b) := by
 obtain ⟨O, hO⟩ : ∃ O, O = (w.alloc (.cells #[p, .slice qx qn qk] 33)).alloc (.cells #[.slice none 0 0, .slice none 0 0] 33) := ⟨_, rfl⟩
 have bO : Below w.heap.size w O := by rw [hO]; exact ((Below.refl _ _).alloc (Nat.le_refl _) _).alloc (by simp) _
 have hzO : O.heap.size = w.heap.size + 2 := by rw [hO]; simp
 have A1 : Hid (BAt O w.heap.size [p, .slice qx qn qk]) := by rw [hO]; exact (BAt.new w #[p, .slice qx qn qk] _).alloc _
 have A2 : Hid (BAt O (w.heap.size + 1) [.slice none 0 0, .slice none 0 0]) := by
  rw [hO]
  have := BAt.new (w.alloc (.cells #[p, .slice qx qn qk] 33)) #[.slice none 0 0, .slice none 0 0] 33
  rw [World.size_alloc] at this
  exact this
 have OP : Hid (O.ownsRow base 9 1 p ag.length (scells ag)) := own_below op bO
 have HPL : Hid (∀ b, p.ownBlock = some b → b < w.heap.size) := fun b e => (op.lt b e).2
 have HBO : Hid (base ≤ O.heap.size) := by show _ ≤ _; omega
 have hX : w.heap.size < O.heap.size := by omega
 clear op
 go_enter Tryd.func46, Tryd.ntmps46
 go_upto_region 2 with fail
 rw [← hO]
 clear hO
 have cp0 := A1.out.1 0 _ rfl
 refine wp_region_held_drew (S := fun _ => True) (by kernel_rfl) trivial (fun h0 => ?_)
 refine wpAnyH_take (i := 0) (v := ?_) rfl (by kernel_rfl) (by kernel_rfl) (by kernel_rfl) (fun _ _ _ h => h) (Or.inl ⟨by rfl, fun W hW => ?_⟩) trivial ?_
 rotate_left
 ·clear hW
  go_simp
  try with_reducible rfl
 simp only [Act.put, List.getElem_toArray, List.getElem_cons_zero, List.setIfInBounds_toArray, List.set_cons_zero, List.set_cons_succ]
 refine wpAnyH_take (i := 2) (v := ?_) rfl (by kernel_rfl) (by kernel_rfl) (by kernel_rfl) (fun _ _ _ h => h) (Or.inl ⟨by rfl, fun W hW => ?_⟩) trivial ?_
 rotate_left
 ·clear hW
  go_simp
  try with_reducible rfl
 simp only [Act.put, List.getElem_toArray, List.getElem_cons_zero, List.getElem_cons_succ, List.setIfInBounds_toArray, List.set_cons_zero, List.set_cons_succ]
 refine wpAnyH_ready (rs := [1, 3]) (by kernel_rfl) (by simp) (AllReadyH.cons rfl (fun K hK => ?_) (AllReadyH.cons rfl (fun K hK => ?_) AllReadyH.nil))
 ·go_simp
  refine hK.out _ _ trivial (fun h0' => ?_)
  clear hK K h0'
  refine wpAnyH_ready (rs := [3]) (by kernel_rfl) (by simp) (AllReadyH.cons rfl (fun K hK => ?_) AllReadyH.nil)
  go_simp
  go_wp2_with (go_at_call 11; refine (CA.out _).mono ?_; rintro e wq ⟨rfl, hbq⟩)
  have bq3 : Below O.heap.size O wq := (Below.refl O.heap.size O).drew.trans hbq
  have cpq := (bq3.cell (p := ⟨w.heap.size, 0, none⟩) hX).trans cp0
  refine hK.out _ _ trivial (fun h1 => ?_)
  clear hK K h1 hbq
  refine wpAnyH_ready (rs := [4]) (by kernel_rfl) (by simp) (AllReadyH.cons rfl (fun K hK => ?_) AllReadyH.nil)
  go_simp
  have bWA : Below O.heap.size O (wq.alloc (.cells #[.string AV] 9)) := bq3.alloc bq3.size _
  have cpa := (bWA.cell (p := ⟨w.heap.size, 0, none⟩) hX).trans cp0
  refine hK.out _ _ trivial (fun h1 => ?_)
  clear hK K h1
  refine wpAnyH_ready (rs := [5]) (by kernel_rfl) (by simp) (AllReadyH.cons rfl (fun K hK => ?_) AllReadyH.nil)
  rw [if_pos (by rfl)]
  refine wp_append_at (wq.alloc (.cells #[.string AV] 9)) (.tmp 11) (.tmp 14) 30 rfl base 9 (.string ⟨#[]⟩) 1 16 Tryd.underlying30 Tryd.infoStr rfl (by decide) p ag.length (scells ag) rfl (own_below OP.out bWA) ⟨wq.heap.size, 0, none⟩ 1 1 [.string AV] rfl rfl (cell_one_new wq (.string AV) 9) (str_one AV) (by unfold maxLen; omega) (by omega) (Nat.le_trans HBO.out bWA.size) ?_
  intro p' w9 o9 g9 hat9
  rw [← scells_snoc] at o9
  obtain ⟨po, pn, pk, hpo⟩ : ∃ po pn pk, p' = Value.slice po pn pk := by
   obtain ⟨po, pk, h⟩ := (StrRow.of_own o9).slice
   exact ⟨po, _, pk, h⟩
  subst hpo
  have D1 : BAt w9 w.heap.size [p, .slice qx qn qk] := (A1.out.below bWA).same g9.size (g9.block _ (A1.out.below bWA).2.2 fun e => by have := HPL.out _ e.symm; omega)
  have D2 : BAt w9 (w.heap.size + 1) [.slice none 0 0, .slice none 0 0] := (A2.out.below bWA).same g9.size (g9.block _ (A2.out.below bWA).2.2 fun e => by have := HPL.out _ e.symm; omega)
  have e0 := D1.1 0 _ rfl
  have f0 := D1.2.1
  refine hK.out _ _ trivial (fun h5 => ?_)
  clear hK K h5
  refine wpAnyH_take (i := 6) (v := ?_) rfl (by kernel_rfl) (by kernel_rfl) (by kernel_rfl) (fun _ _ _ h => h) (Or.inl ⟨by rfl, fun W hW => ?_⟩) trivial ?_
  rotate_left
  ·clear hW
   go_simp
   try with_reducible rfl
  simp only [Act.put, List.getElem_toArray, List.getElem_cons_zero, List.getElem_cons_succ, List.setIfInBounds_toArray, List.set_cons_zero, List.set_cons_succ]
  refine wpAnyH_ready (rs := [7]) (by kernel_rfl) (by simp) (AllReadyH.cons rfl (fun K hK => ?_) AllReadyH.nil)
  go_simp
  refine hK.out _ _ trivial (fun h6 => ?_)
  clear hK K h6
  refine wpAnyH_done (by kernel_rfl) ?_ _
  have E1 := D1.set 0 (by simp) (.slice po pn pk)
  have E2 := D2.other (C := w.heap.size) (by omega) 0 (.slice po pn pk)
  have HO9 : Hid (w9.ownsRow base 9 1 (.slice po pn pk) (ag.length + 1) (scells (ag ++ [AV]))) := o9
  have HG9 : Hid (w.grownBy w9 p.ownBlock) := ⟨(g9.os.trans bWA.os).trans bO.os, (g9.tape.trans bWA.tape).trans bO.tape, (g9.output.trans bWA.output).trans bO.output, Nat.le_trans bO.size (Nat.le_trans bWA.size g9.size), fun b hb hne => (g9.block b (Nat.lt_of_lt_of_le hb (Nat.le_trans bO.size bWA.size)) hne).trans ((bWA.block b (Nat.lt_of_lt_of_le hb bO.size)).trans (bO.block b hb))⟩
  have HAT : Hid ((Value.slice po pn pk).ownBlock = p.ownBlock ∨ ∀ b, (Value.slice po pn pk).ownBlock = some b → w.heap.size + 2 ≤ b) := hat9.imp id fun h b e => by rw [h] at e; injection e with e; have := bWA.size; omega
  clear o9 g9 hat9 D1 D2 e0 f0
  have x0 := E1.1 0 _ rfl
  have x1 := E1.1 1 _ rfl
  have y0 := E2.1 0 _ rfl
  have y1 := E2.1 1 _ rfl
  have yf := E2.2.1
  go_wp2_with fail
  refine bodyPost_ret (part_res1 rfl _ _ (w.heap.size + 1) (.slice po pn pk) (.slice qx qn qk) rfl ((E2.set 0 (by simp) _).set 1 (by simp) _)) rfl ⟨_, rfl, ?_, ?_, ?_⟩
  ·refine own_at HO9.out fun b e => ?_
   have hlt : b ≠ w.heap.size ∧ b ≠ w.heap.size + 1 := by
    rcases HAT.out with h | h
    ·rw [h] at e; have := HPL.out b e; omega
    have := h b e; omega
   rw [Below.heap_setCell _ _ _ _ hlt.2, Below.heap_setCell _ _ _ _ hlt.2, Below.heap_setCell _ _ _ _ hlt.1]
  ·refine ⟨HG9.out.os, HG9.out.tape, HG9.out.output, ?_, fun b hb hne => ?_⟩
   ·have := HG9.out.size; simpa using this
   rw [Below.heap_setCell _ _ _ _ (show b ≠ w.heap.size + 1 by omega), Below.heap_setCell _ _ _ _ (show b ≠ w.heap.size + 1 by omega), Below.heap_setCell _ _ _ _ (show b ≠ w.heap.size by omega)]
   exact HG9.out.block b hb hne
  exact HAT.out.imp id fun h b e => by have := h b e; omega
 go_simp
 go_wp2_with (go_at_call 11; refine (CA.out _).mono ?_; rintro e wq ⟨rfl, hbq⟩)
 have bq3 : Below O.heap.size O wq := (Below.refl O.heap.size O).drew.trans hbq
 have cpq := (bq3.cell (p := ⟨w.heap.size, 0, none⟩) hX).trans cp0
 refine hK.out _ _ trivial (fun h1 => ?_)
 clear hK K h1 hbq
 refine wpAnyH_ready (rs := [1, 4]) (by kernel_rfl) (by simp) (AllReadyH.cons rfl (fun K hK => ?_) (AllReadyH.cons rfl (fun K hK => ?_) AllReadyH.nil))
 ·go_simp
  refine hK.out _ _ trivial (fun h2 => ?_)
  clear hK K h2
  refine wpAnyH_ready (rs := [4]) (by kernel_rfl) (by simp) (AllReadyH.cons rfl (fun K hK => ?_) AllReadyH.nil)
  go_simp
  have bWA : Below O.heap.size O (wq.alloc (.cells #[.string AV] 9)) := bq3.alloc bq3.size _
  have cpa := (bWA.cell (p := ⟨w.heap.size, 0, none⟩) hX).trans cp0
  refine hK.out _ _ trivial (fun h1 => ?_)
  clear hK K h1
  refine wpAnyH_ready (rs := [5]) (by kernel_rfl) (by simp) (AllReadyH.cons rfl (fun K hK => ?_) AllReadyH.nil)
  rw [if_pos (by rfl)]
  refine wp_append_at (wq.alloc (.cells #[.string AV] 9)) (.tmp 11) (.tmp 14) 30 rfl base 9 (.string ⟨#[]⟩) 1 16 Tryd.underlying30 Tryd.infoStr rfl (by decide) p ag.length (scells ag) rfl (own_below OP.out bWA) ⟨wq.heap.size, 0, none⟩ 1 1 [.string AV] rfl rfl (cell_one_new wq (.string AV) 9) (str_one AV) (by unfold maxLen; omega) (by omega) (Nat.le_trans HBO.out bWA.size) ?_
  intro p' w9 o9 g9 hat9
  rw [← scells_snoc] at o9
  obtain ⟨po, pn, pk, hpo⟩ : ∃ po pn pk, p' = Value.slice po pn pk := by
   obtain ⟨po, pk, h⟩ := (StrRow.of_own o9).slice
   exact ⟨po, _, pk, h⟩
  subst hpo
  have D1 : BAt w9 w.heap.size [p, .slice qx qn qk] := (A1.out.below bWA).same g9.size (g9.block _ (A1.out.below bWA).2.2 fun e => by have := HPL.out _ e.symm; omega)
  have D2 : BAt w9 (w.heap.size + 1) [.slice none 0 0, .slice none 0 0] := (A2.out.below bWA).same g9.size (g9.block _ (A2.out.below bWA).2.2 fun e => by have := HPL.out _ e.symm; omega)
  have e0 := D1.1 0 _ rfl
  have f0 := D1.2.1
  refine hK.out _ _ trivial (fun h5 => ?_)
  clear hK K h5
  refine wpAnyH_take (i := 6) (v := ?_) rfl (by kernel_rfl) (by kernel_rfl) (by kernel_rfl) (fun _ _ _ h => h) (Or.inl ⟨by rfl, fun W hW => ?_⟩) trivial ?_
  rotate_left
  ·clear hW
   go_simp
   try with_reducible rfl
  simp only [Act.put, List.getElem_toArray, List.getElem_cons_zero, List.getElem_cons_succ, List.setIfInBounds_toArray, List.set_cons_zero, List.set_cons_succ]
  refine wpAnyH_ready (rs := [7]) (by kernel_rfl) (by simp) (AllReadyH.cons rfl (fun K hK => ?_) AllReadyH.nil)
  go_simp
  refine hK.out _ _ trivial (fun h6 => ?_)
  clear hK K h6
  refine wpAnyH_done (by kernel_rfl) ?_ _
  have E1 := D1.set 0 (by simp) (.slice po pn pk)
  have E2 := D2.other (C := w.heap.size) (by omega) 0 (.slice po pn pk)
  have HO9 : Hid (w9.ownsRow base 9 1 (.slice po pn pk) (ag.length + 1) (scells (ag ++ [AV]))) := o9
  have HG9 : Hid (w.grownBy w9 p.ownBlock) := ⟨(g9.os.trans bWA.os).trans bO.os, (g9.tape.trans bWA.tape).trans bO.tape, (g9.output.trans bWA.output).trans bO.output, Nat.le_trans bO.size (Nat.le_trans bWA.size g9.size), fun b hb hne => (g9.block b (Nat.lt_of_lt_of_le hb (Nat.le_trans bO.size bWA.size)) hne).trans ((bWA.block b (Nat.lt_of_lt_of_le hb bO.size)).trans (bO.block b hb))⟩
  have HAT : Hid ((Value.slice po pn pk).ownBlock = p.ownBlock ∨ ∀ b, (Value.slice po pn pk).ownBlock = some b → w.heap.size + 2 ≤ b) := hat9.imp id fun h b e => by rw [h] at e; injection e with e; have := bWA.size; omega
  clear o9 g9 hat9 D1 D2 e0 f0
  have x0 := E1.1 0 _ rfl
  have x1 := E1.1 1 _ rfl
  have y0 := E2.1 0 _ rfl
  have y1 := E2.1 1 _ rfl
  have yf := E2.2.1
  go_wp2_with fail
  refine bodyPost_ret (part_res1 rfl _ _ (w.heap.size + 1) (.slice po pn pk) (.slice qx qn qk) rfl ((E2.set 0 (by simp) _).set 1 (by simp) _)) rfl ⟨_, rfl, ?_, ?_, ?_⟩
  ·refine own_at HO9.out fun b e => ?_
   have hlt : b ≠ w.heap.size ∧ b ≠ w.heap.size + 1 := by
    rcases HAT.out with h | h
    ·rw [h] at e; have := HPL.out b e; omega
    have := h b e; omega
   rw [Below.heap_setCell _ _ _ _ hlt.2, Below.heap_setCell _ _ _ _ hlt.2, Below.heap_setCell _ _ _ _ hlt.1]
  ·refine ⟨HG9.out.os, HG9.out.tape, HG9.out.output, ?_, fun b hb hne => ?_⟩
   ·have := HG9.out.size; simpa using this
   rw [Below.heap_setCell _ _ _ _ (show b ≠ w.heap.size + 1 by omega), Below.heap_setCell _ _ _ _ (show b ≠ w.heap.size + 1 by omega), Below.heap_setCell _ _ _ _ (show b ≠ w.heap.size by omega)]
   exact HG9.out.block b hb hne
  exact HAT.out.imp id fun h b e => by have := h b e; omega
 go_simp
 have bWA : Below O.heap.size O (wq.alloc (.cells #[.string AV] 9)) := bq3.alloc bq3.size _
 have cpa := (bWA.cell (p := ⟨w.heap.size, 0, none⟩) hX).trans cp0
 refine hK.out _ _ trivial (fun h1 => ?_)
 clear hK K h1
 refine wpAnyH_ready (rs := [1]) (by kernel_rfl) (by simp) (AllReadyH.cons rfl (fun K hK => ?_) AllReadyH.nil)
 go_simp
 refine hK.out _ _ trivial (fun h2 => ?_)
 clear hK K h2
 refine wpAnyH_ready (rs := [5]) (by kernel_rfl) (by simp) (AllReadyH.cons rfl (fun K hK => ?_) AllReadyH.nil)
 rw [if_pos (by rfl)]
 refine wp_append_at (wq.alloc (.cells #[.string AV] 9)) (.tmp 11) (.tmp 14) 30 rfl base 9 (.string ⟨#[]⟩) 1 16 Tryd.underlying30 Tryd.infoStr rfl (by decide) p ag.length (scells ag) rfl (own_below OP.out bWA) ⟨wq.heap.size, 0, none⟩ 1 1 [.string AV] rfl rfl (cell_one_new wq (.string AV) 9) (str_one AV) (by unfold maxLen; omega) (by omega) (Nat.le_trans HBO.out bWA.size) ?_
 intro p' w9 o9 g9 hat9
 rw [← scells_snoc] at o9
 obtain ⟨po, pn, pk, hpo⟩ : ∃ po pn pk, p' = Value.slice po pn pk := by
  obtain ⟨po, pk, h⟩ := (StrRow.of_own o9).slice
  exact ⟨po, _, pk, h⟩
 subst hpo
 have D1 : BAt w9 w.heap.size [p, .slice qx qn qk] := (A1.out.below bWA).same g9.size (g9.block _ (A1.out.below bWA).2.2 fun e => by have := HPL.out _ e.symm; omega)
 have D2 : BAt w9 (w.heap.size + 1) [.slice none 0 0, .slice none 0 0] := (A2.out.below bWA).same g9.size (g9.block _ (A2.out.below bWA).2.2 fun e => by have := HPL.out _ e.symm; omega)
 have e0 := D1.1 0 _ rfl
 have f0 := D1.2.1
 refine hK.out _ _ trivial (fun h5 => ?_)
 clear hK K h5
 refine wpAnyH_take (i := 6) (v := ?_) rfl (by kernel_rfl) (by kernel_rfl) (by kernel_rfl) (fun _ _ _ h => h) (Or.inl ⟨by rfl, fun W hW => ?_⟩) trivial ?_
 rotate_left
 ·clear hW
  go_simp
  try with_reducible rfl
 simp only [Act.put, List.getElem_toArray, List.getElem_cons_zero, List.getElem_cons_succ, List.setIfInBounds_toArray, List.set_cons_zero, List.set_cons_succ]
 refine wpAnyH_ready (rs := [7]) (by kernel_rfl) (by simp) (AllReadyH.cons rfl (fun K hK => ?_) AllReadyH.nil)
 go_simp
 refine hK.out _ _ trivial (fun h6 => ?_)
 clear hK K h6
 refine wpAnyH_done (by kernel_rfl) ?_ _
 have E1 := D1.set 0 (by simp) (.slice po pn pk)
 have E2 := D2.other (C := w.heap.size) (by omega) 0 (.slice po pn pk)
 have HO9 : Hid (w9.ownsRow base 9 1 (.slice po pn pk) (ag.length + 1) (scells (ag ++ [AV]))) := o9
 have HG9 : Hid (w.grownBy w9 p.ownBlock) := ⟨(g9.os.trans bWA.os).trans bO.os, (g9.tape.trans bWA.tape).trans bO.tape, (g9.output.trans bWA.output).trans bO.output, Nat.le_trans bO.size (Nat.le_trans bWA.size g9.size), fun b hb hne => (g9.block b (Nat.lt_of_lt_of_le hb (Nat.le_trans bO.size bWA.size)) hne).trans ((bWA.block b (Nat.lt_of_lt_of_le hb bO.size)).trans (bO.block b hb))⟩
 have HAT : Hid ((Value.slice po pn pk).ownBlock = p.ownBlock ∨ ∀ b, (Value.slice po pn pk).ownBlock = some b → w.heap.size + 2 ≤ b) := hat9.imp id fun h b e => by rw [h] at e; injection e with e; have := bWA.size; omega
 clear o9 g9 hat9 D1 D2 e0 f0
 have x0 := E1.1 0 _ rfl
 have x1 := E1.1 1 _ rfl
 have y0 := E2.1 0 _ rfl
 have y1 := E2.1 1 _ rfl
 have yf := E2.2.1
 go_wp2_with fail
 refine bodyPost_ret (part_res1 rfl _ _ (w.heap.size + 1) (.slice po pn pk) (.slice qx qn qk) rfl ((E2.set 0 (by simp) _).set 1 (by simp) _)) rfl ⟨_, rfl, ?_, ?_, ?_⟩
 ·refine own_at HO9.out fun b e => ?_
  have hlt : b ≠ w.heap.size ∧ b ≠ w.heap.size + 1 := by
   rcases HAT.out with h | h
   ·rw [h] at e; have := HPL.out b e; omega
   have := h b e; omega
  rw [Below.heap_setCell _ _ _ _ hlt.2, Below.heap_setCell _ _ _ _ hlt.2, Below.heap_setCell _ _ _ _ hlt.1]
 ·refine ⟨HG9.out.os, HG9.out.tape, HG9.out.output, ?_, fun b hb hne => ?_⟩
  ·have := HG9.out.size; simpa using this
  rw [Below.heap_setCell _ _ _ _ (show b ≠ w.heap.size + 1 by omega), Below.heap_setCell _ _ _ _ (show b ≠ w.heap.size + 1 by omega), Below.heap_setCell _ _ _ _ (show b ≠ w.heap.size by omega)]
  exact HG9.out.block b hb hne
 exact HAT.out.imp id fun h b e => by have := h b e; omega
end Go.Proofs.YtjdnemjcjodboaaDoor
