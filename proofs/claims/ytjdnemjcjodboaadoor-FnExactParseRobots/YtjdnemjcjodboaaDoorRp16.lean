/- RobParseI, RobFrame, StrMarks. -/
import Derived.Test.YtjdnemjcjodboaaDoorRp15
import Derived.Deep.QuietTactic
set_option maxHeartbeats 4000000
namespace Go.Proofs.YtjdnemjcjodboaaDoor
open Go.RowKit
set_option linter.unusedVariables false
theorem implWithLine (acc : List PT) (v : Value) (x : ByteArray) (base g k : Nat) (w : World) (hgw : g < w.heap.size) (hoff : OffG w v acc.length g) (hh : hasK x.data.toList = true) (hxs : x.size ≤ 20000) (hW : Few k acc) (hk : k ≤ 20001) (hb : base ≤ w.heap.size) (hM : Marks w) (h : RobOwn w base w.heap.size v acc) :
  Calls Tryd.prog 19 #[v, .string (keyV x), .string (valV x)] w fun e w' => ∃ v', e = .returned v' ∧ RobOwn w' base w'.heap.size v' (stepV acc x) ∧ Below base w w' ∧ OffG w' v' (stepV acc x).length g ∧ w'.heap[g]? = w.heap[g]? := by
 have hvs := valV_size x
 have hn : acc.length ≤ 1048576 := by have := hW.1; omega
 by_cases hU : keyL x.data.toList = keyU
 ·rw [stepV_ag hh hU]
  exact implWithLineA acc v (keyV x) (valV x) _ base g w hgw hoff (txt_eq (a := keyV x) hU) hn (by have := openP_last hW; omega) hb (fun W => implAgentOf (valV x) W (by omega)) h
 have hkey : ((keyV x).toList == [117, 115, 101, 114, 45, 97, 103, 101, 110, 116]) = false := txt_ne (a := keyV x) hU
 by_cases hAD : ∃ b : Bool, keyL x.data.toList = if b = true then keyA else keyD
 ·obtain ⟨b, hb2⟩ := hAD
  rw [stepV_ln hh b hb2]
  have hkb : ((keyV x).toList == [97, 108, 108, 111, 119]) = b := by
   cases b with
   | true => exact txt_eq (a := keyV x) hb2
   | false => exact txt_ne (a := keyV x) (by show keyL x.data.toList ≠ _; rw [hb2]; decide)
  have hkd : b = false → ((keyV x).toList == [100, 105, 115, 97, 108, 108, 111, 119]) = true := fun e => txt_eq (a := keyV x) (by show keyL x.data.toList = _; rw [hb2, e]; rfl)
  exact implWithLineL acc v (keyV x) (valV x) _ b base g w hgw hoff hkey hkb hkd hn (by have := (lastG_few hW).2; omega) hb (fun W hbW => implPatternOf (valV x) W (hM.later hbW) (by omega)) h
 have hA : keyL x.data.toList ≠ keyA := fun e => hAD ⟨true, e⟩
 have hD : keyL x.data.toList ≠ keyD := fun e => hAD ⟨false, e⟩
 rw [stepV_other hU hA hD]
 refine (implWithLineO v (keyV x) (valV x) w hkey (txt_ne (a := keyV x) hA) (txt_ne (a := keyV x) hD)).mono ?_
 rintro e w' ⟨rfl, rfl⟩
 exact ⟨v, rfl, h, Below.refl _ _, hoff, rfl⟩
theorem implParseRobots (s : ByteArray) (w : World) (hs : s.size ≤ 1048576) (hK : Marks w) (hM : MaxI w) :
  Calls Tryd.prog 7 #[.string s] w fun e w' => ∃ v, e = .returned (.agg #[v]) ∧ RobOwn w' w.heap.size w'.heap.size v (robV s) ∧ Below w.heap.size w w' := by
 have hcs := cutS_size s
 have HK : Hid (Marks w) := hK
 obtain ⟨O, hO⟩ : ∃ O, O = (w.alloc (.cells #[.slice none 0 0] 26)).alloc (.cells #[] 33) := ⟨_, rfl⟩
 have bO : Below w.heap.size w O := by rw [hO]; exact ((Below.refl _ _).alloc (Nat.le_refl _) _).alloc (by simp) _
 have hzO : O.heap.size = w.heap.size + 2 := by rw [hO]; simp
 have CF : Hid (Calls Tryd.prog 17 #[.string s] O fun e w' => ∃ v, e = .returned v ∧ w'.ownsRow O.heap.size 9 1 v (fieldsL (crS (cutS s)) 10).length (scells (fieldsL (crS (cutS s)) 10)) ∧ Below O.heap.size O w') := implRobLines s O hs (max_below hM bO)
 have HR : Hid ((fieldsL (crS (cutS s)) 10).foldl stepV [] = robV s) := rfl
 have HSZ : Hid (∀ k, k < (fieldsL (crS (cutS s)) 10).length → ((fieldsL (crS (cutS s)) 10).getD k ByteArray.empty).size ≤ 20000) := fun k hk => Nat.le_trans (field_size _ 10 hk) (by rw [crS_size]; exact hcs)
 have hfl := fieldsN_le (crS (cutS s)) 10
 rw [crS_size] at hfl
 have hfp := fieldsN_pos (crS (cutS s)) 10
 generalize fieldsL (crS (cutS s)) 10 = fs at *
 generalize robV s = R at *
 clear hK hM
 have A2 : BAt O w.heap.size [.slice none 0 0] := by rw [hO]; exact (BAt.new w #[.slice none 0 0] _).alloc _
 have P0 : O.ownsRow (w.heap.size + 1) 33 2 (.slice (some ⟨w.heap.size + 1, 0, none⟩) 0 0) 0 [] := by
  have := World.ownsRow_made (e := 33) (size := 2) (base := w.heap.size + 1) (w.alloc (.cells #[.slice none 0 0] 26)) #[] 0 (by simp) (by decide) rfl
  rw [World.size_alloc, ← hO] at this
  exact this
 go_enter Tryd.func7, Tryd.ntmps7
 go_upto_region 2 with fail
 rw [← hO]
 clear hO
 go_wp2_with fail
 refine CF.out.mono ?_
 rintro e w1 ⟨vf, rfl, of, b1⟩
 have B2 := A2.below b1
 have P1 := own_below P0 b1
 have bw1 := bO.trans (b1.mono bO.size)
 clear A2 P0 bO CF
 rcases own_shape of with ⟨h, _⟩ | ⟨_, g, cap, rfl⟩
 ·omega
 have hg := (of.lt g rfl).1
 have hg2 := (of.lt g rfl).2
 have HC0 : Hid (∀ j, j < fs.length → w1.cell? ⟨g, j, none⟩ = some (.string (fs.getD j ByteArray.empty))) := fun j hj => scell_at of j hj
 have HB2 : Hid (BAt w1 w.heap.size [.slice none 0 0]) := B2
 have HP1 : Hid (RobOwn w1 (w.heap.size + 1) w1.heap.size (.slice (some ⟨w.heap.size + 1, 0, none⟩) 0 0) []) := ⟨[], P1, fun i hi => absurd hi (Nat.not_lt_zero _), fun a x ha => absurd ha (by simp), fun b hb => (P1.lt b hb).2⟩
 have HO1 : Hid (OffG w1 (.slice (some ⟨w.heap.size + 1, 0, none⟩) 0 0) 0 g) := OffG.of P1 (fun e => by injection e with e; have e2 : w.heap.size + 1 = g := e; omega) (fun x hx => by cases hx)
 have hz1 := b1.size
 clear of b1 B2 P1
 go_wp2_with fail
 go_loopw [3, 13] (fun v i wr => ∃ (k : Nat) (acc : List PT) (ao : Option Addr) (c : Nat), k ≤ fs.length ∧ i = .int .i64 k ∧ v = .slice ao acc.length c ∧ Hid (RobOwn wr (w.heap.size + 1) wr.heap.size (.slice ao acc.length c) acc) ∧ Hid (OffG wr (.slice ao acc.length c) acc.length g) ∧ Hid (wr.heap[g]? = w1.heap[g]?) ∧ Hid ((fs.drop k).foldl stepV acc = R) ∧ Hid (Few k acc) ∧ Below (w.heap.size + 1) w1 wr) (fun _ i _ => fs.length - (intOf i).toNat)
 case atStart => exact ⟨0, [], _, _, Nat.zero_le _, rfl, rfl, HP1, HO1, rfl, HR.out, ⟨Nat.zero_le _, fun i hi => absurd hi (Nat.not_lt_zero _)⟩, Below.refl _ _⟩
 obtain ⟨k, acc, ao, c, hk, rfl, rfl, HRO, HOF, HHG, HF, HW, hbr⟩ := hrel
 clear HP1 HO1 HR
 by_cases hlt : k < fs.length
 ·have hki : (k : Int) < fs.length := by omega
  have ca : wr.cell? ⟨g, k, none⟩ = some (.string (fs.getD k ByteArray.empty)) := (World.cell?_of_block (w := w1) (a := ⟨g, k, none⟩) HHG.out).trans (HC0.out k hlt)
  have hxs := HSZ.out k hlt
  have HF1 : Hid ((fs.drop (k + 1)).foldl stepV (stepV acc (fs.getD k ByteArray.empty)) = R) := (fold_next hlt acc).symm.trans HF.out
  have HW1 : Hid (Few (k + 1) (stepV acc (fs.getD k ByteArray.empty))) := HW.out.step _
  clear HF
  generalize fs.getD k ByteArray.empty = x at *
  have CL : Hid (∀ W, CB 18 #[.string x] W (.tuple #[.string (keyV x), .string (valV x), .bool (hasK x.data.toList)])) := fun W => implKeyValue x W (by omega)
  have hgr : g < wr.heap.size := Nat.lt_of_lt_of_le hg2 hbr.size
  cases hh : hasK x.data.toList with
  | false =>
   rw [stepV_none hh] at HF1 HW1
   rw [hh] at CL
   clear hh
   generalize keyV x = KV at *
   generalize valV x = VV at *
   go_wp2_with fail
   refine (CL.out _).mono ?_
   rintro e w2 ⟨rfl, b2⟩
   have HRO2 : Hid (RobOwn w2 (w.heap.size + 1) w2.heap.size (.slice ao acc.length c) acc) := (HRO.out.below (Nat.le_refl _) b2).wide b2.size
   have HOF2 : Hid (OffG w2 (.slice ao acc.length c) acc.length g) := HOF.out.below HRO.out b2
   have HHG2 : Hid (w2.heap[g]? = w1.heap[g]?) := (b2.block g hgr).trans HHG.out
   have G2 := hbr.trans (b2.mono (by have := hbr.size; omega))
   clear b2 hbr HRO HOF HHG CL
   go_wp2_with fail
   go_roundw
   case rel => exact ⟨k + 1, acc, ao, c, by omega, by go_num, rfl, HRO2, HOF2, HHG2, HF1, HW1, G2⟩
   case measure => simp [intOf] <;> omega
  | true =>
   rw [hh] at CL
   have HHH : Hid (hasK x.data.toList = true) := hh
   clear hh
   have CW : Hid (∀ w2, Below wr.heap.size wr w2 → Calls Tryd.prog 19 #[.slice ao acc.length c, .string (keyV x), .string (valV x)] w2 fun e w' => ∃ v', e = .returned v' ∧ RobOwn w' (w.heap.size + 1) w'.heap.size v' (stepV acc x) ∧ Below (w.heap.size + 1) w2 w' ∧ OffG w' v' (stepV acc x).length g ∧ w'.heap[g]? = w2.heap[g]?) := fun w2 b2 => implWithLine acc _ x (w.heap.size + 1) g k w2 (Nat.lt_of_lt_of_le hgr b2.size) (HOF.out.below HRO.out b2) HHH.out hxs HW.out (by omega) (by have := hbr.size; have := b2.size; omega) (HK.out.later (bw1.trans ((hbr.mono (by omega)).trans (b2.mono (by have := hbr.size; omega))))) ((HRO.out.below (Nat.le_refl _) b2).wide b2.size)
   generalize stepV acc x = acc2 at *
   generalize keyV x = KV at *
   generalize valV x = VV at *
   clear HRO HOF HHH
   generalize acc.length = n at *
   go_wp2_with fail
   refine (CL.out _).mono ?_
   rintro e w2 ⟨rfl, b2⟩
   have CW2 : Hid (Calls Tryd.prog 19 #[.slice ao n c, .string KV, .string VV] w2 fun e w' => ∃ v', e = .returned v' ∧ RobOwn w' (w.heap.size + 1) w'.heap.size v' acc2 ∧ Below (w.heap.size + 1) w2 w' ∧ OffG w' v' acc2.length g ∧ w'.heap[g]? = w2.heap[g]?) := CW.out w2 b2
   have HHG2 : Hid (w2.heap[g]? = w1.heap[g]?) := (b2.block g hgr).trans HHG.out
   have G2 := hbr.trans (b2.mono (by have := hbr.size; omega))
   clear b2 hbr HHG CL CW
   go_wp2_with fail
   refine CW2.out.mono ?_
   rintro e w3 ⟨v3, rfl, r3, b3, o3, g3⟩
   obtain ⟨a3, c3, rfl⟩ := r3.row.slice
   have HRO3 : Hid (RobOwn w3 (w.heap.size + 1) w3.heap.size (.slice a3 acc2.length c3) acc2) := r3
   have HOF3 : Hid (OffG w3 (.slice a3 acc2.length c3) acc2.length g) := o3
   have HHG3 : Hid (w3.heap[g]? = w1.heap[g]?) := g3.trans HHG2.out
   have G3 := G2.trans b3
   clear r3 b3 o3 g3 G2 CW2 HHG2
   go_wp2_with fail
   go_roundw
   case rel => exact ⟨k + 1, acc2, a3, c3, by omega, by go_num, rfl, HRO3, HOF3, HHG3, HF1, HW1, G3⟩
   case measure => simp [intOf] <;> omega
 have hki : ¬ (k : Int) < fs.length := by omega
 have HE : Hid (acc = R) := by
  have := HF.out
  rwa [List.drop_of_length_le (by omega)] at this
 have HRR : Hid (RobOwn wr (w.heap.size + 1) wr.heap.size (.slice ao acc.length c) R) := by
  have h9 : ∀ X, acc = X → RobOwn wr (w.heap.size + 1) wr.heap.size (.slice ao acc.length c) X := fun X e => by subst e; exact HRO.out
  exact h9 R HE.out
 have A2 : BAt wr w.heap.size [.slice none 0 0] := HB2.out.same hbr.size (hbr.block _ (by omega))
 have q0 := A2.1 0 _ rfl
 have f0 := A2.2.1
 clear HF HW HRO HE
 generalize acc.length = n at *
 go_wp2_with fail
 refine bodyPost_ret (rob_res1 rfl _ _ w.heap.size (.slice ao n c) rfl (A2.set 0 (by simp) _)) rfl ⟨_, rfl, ?_, ?_⟩
 ·have h9 := HRR.out.same (w' := wr.setCell ⟨w.heap.size, 0, none⟩ (.slice ao n c)) fun b hb1 hb2 => Below.heap_setCell _ _ _ _ (show b ≠ w.heap.size by omega)
  exact (h9.wide (by simp)).down (by omega)
 exact (bw1.trans (hbr.mono (by omega))).setCell (Nat.le_refl _) _
end Go.Proofs.YtjdnemjcjodboaaDoor
namespace Go.Proofs.YtjdnemjcjodboaaDoor
open Go.RowKit
structure RobSt (w W : World) (p1 B2 p2 : Nat) (v1 v2 : Value) (R X : List PT) : Prop where
 a1 : BAt W p1 [v1]
 a2 : BAt W p2 [v2]
 r1 : RobOwn W w.heap.size p1 v1 R
 r2 : RobOwn W B2 p2 v2 X
 b : Below w.heap.size w W
 l1 : p1 < B2
 l2 : B2 ≤ p2
 l3 : p2 < W.heap.size
theorem RobSt.only {w W W' : World} {p1 B2 p2 : Nat} {v1 v2 : Value} {R X X' : List PT} (h : RobSt w W p1 B2 p2 v1 v2 R X) (ho : Only B2 p2 W W') (hr : RobOwn W' B2 p2 v2 X') (hw : w.heap.size ≤ B2) : RobSt w W' p1 B2 p2 v1 v2 R X' := by
 have l1 := h.l1
 have l2 := h.l2
 have l3 := h.l3
 exact ⟨h.a1.same ho.size (ho.block _ (by omega) (.inl (by omega))), h.a2.same ho.size (ho.block _ (by omega) (.inr (by omega))), h.r1.same fun b _ hb => ho.block b (by omega) (.inl (by omega)), hr, h.b.trans ((ho.below (by omega)).mono hw), h.l1, h.l2, Nat.lt_of_lt_of_le h.l3 ho.size⟩
theorem RobSt.below {w W W' : World} {p1 B2 p2 : Nat} {v1 v2 : Value} {R X : List PT} (h : RobSt w W p1 B2 p2 v1 v2 R X) (hb : Below W.heap.size W W') : RobSt w W' p1 B2 p2 v1 v2 R X := by
 have l1 := h.l1
 have l2 := h.l2
 have l3 := h.l3
 exact ⟨h.a1.below hb, h.a2.below hb, h.r1.below (by omega) hb, h.r2.below (by omega) hb, h.b.trans (hb.mono h.b.size), h.l1, h.l2, Nat.lt_of_lt_of_le h.l3 hb.size⟩
theorem RobSt.new {w w1 U1 w2 U2 : World} {v1 v2 : Value} {R : List PT} (hU1 : U1 = w1.alloc (.cells #[v1] 26)) (hU2 : U2 = w2.alloc (.cells #[v2] 26)) (r1 : RobOwn w1 w.heap.size w1.heap.size v1 R) (b1 : Below w.heap.size w w1)
  (r2 : RobOwn w2 U1.heap.size w2.heap.size v2 R) (b2 : Below U1.heap.size U1 w2) : RobSt w U2 w1.heap.size U1.heap.size w2.heap.size v1 v2 R R := by
 have bU1 : Below w1.heap.size w1 U1 := by rw [hU1]; exact (Below.refl _ _).alloc (Nat.le_refl _) _
 have bU2 : Below w2.heap.size w2 U2 := by rw [hU2]; exact (Below.refl _ _).alloc (Nat.le_refl _) _
 have z1 : U1.heap.size = w1.heap.size + 1 := by rw [hU1]; simp
 have z2 : U2.heap.size = w2.heap.size + 1 := by rw [hU2]; simp
 have A1 : BAt U1 w1.heap.size [v1] := by rw [hU1]; exact BAt.new w1 #[v1] _
 have A2 : BAt U2 w2.heap.size [v2] := by rw [hU2]; exact BAt.new w2 #[v2] _
 have s1 := b1.size
 have s2 := b2.size
 have bt := (bU1.trans (b2.mono bU1.size)).trans (bU2.mono (by omega))
 exact ⟨(A1.below b2).below bU2, A2, r1.below (Nat.le_refl _) bt, r2.below (Nat.le_refl _) bU2, b1.trans (bt.mono s1), by omega, by omega, by omega⟩
def mtF : Nat → Nat → List UInt8 → List UInt8
 | 0, _, l => l
 | f + 1, k, l => if k = 0 then l else mtF f (k / 10) (UInt8.ofNat (48 + k % 10) :: l)
theorem mtF_fuel : ∀ (f g k : Nat) (l : List UInt8), k ≤ f → k ≤ g → mtF f k l = mtF g k l
 | 0, g, k, l, hf, _ => by
  have : k = 0 := by omega
  subst this
  cases g <;> simp [mtF]
 | f + 1, 0, k, l, _, hg => by
  have : k = 0 := by omega
  subst this
  simp [mtF]
 | f + 1, g + 1, k, l, hf, hg => by
  simp only [mtF]
  by_cases h : k = 0
  ·rw [if_pos h, if_pos h]
  rw [if_neg h, if_neg h]
  exact mtF_fuel f g (k / 10) _ (by omega) (by omega)
def mt (k : Nat) (l : List UInt8) : List UInt8 := mtF k k l
theorem mt_zero (l : List UInt8) : mt 0 l = l := rfl
theorem mt_step (k : Nat) (l : List UInt8) (h : ¬ k = 0) : mt k l = mt (k / 10) (UInt8.ofNat (48 + k % 10) :: l) := by
 unfold mt
 cases k with
 | zero => exact absurd rfl h
 | succ f =>
  rw [mtF, if_neg h]
  exact mtF_fuel f _ _ _ (by omega) (Nat.le_refl _)
def markS (k : Nat) : ByteArray := ⟨(if k = 0 then [109, 48] else 109 :: mt k []).toArray⟩
theorem markText (k0 : Nat) (w : World) (hk0 : 0 < k0) (hk : k0 ≤ 1099511627776) :
  Calls Tryd.prog 82 #[.int .i64 (k0 : Int)] w fun e w' => e = .returned (.string (markS k0)) ∧ Below w.heap.size w w' := by
 go_enter Tryd.func82, Tryd.ntmps82
 go_wp2
 go_loopw [0, 3] (fun a o wr => ∃ (k : Nat) (l : List UInt8), a = .int .i64 k ∧ o = .string ⟨l.toArray⟩ ∧ mt k l = mt k0 [] ∧ l.length + k ≤ k0 ∧ Below w.heap.size w wr)
  (fun a _ _ => (intOf a).toNat)
 case atStart => exact ⟨k0, [], rfl, rfl, rfl, by simp, Below.refl _ _⟩
 obtain ⟨k, l, rfl, rfl, hm, hle, hbel⟩ := hrel
 have HM : Hid (mt k l = mt k0 []) := hm
 clear hm
 have hsz := hbel.size
 by_cases hp : 0 < k
 ·have hdig := run_digit (P := Tryd.prog) wr 22 9 5 Tryd.underlying22 Tryd.underlying5 Tryd.underlying9 (48 + k % 10) (by omega) (48 + (k : Int) % 10) (by omega)
  obtain ⟨d, hd⟩ : ∃ d, d = UInt8.ofNat (48 + k % 10) := ⟨_, rfl⟩
  rw [← hd] at hdig
  have HD : Hid (d = UInt8.ofNat (48 + k % 10)) := hd
  clear hd
  go_wp2
  go_roundw
  case rel => exact ⟨k / 10, d :: l, by go_num, by rw [bytes_cons], by rw [← HM.out, mt_step k l (by omega), HD.out], by simp; omega, hbel.alloc hsz _⟩
  case measure => simp [intOf]; omega
 have hz : k = 0 := by omega
 have hl : l = mt k0 [] := by rw [← HM.out, hz, mt_zero]
 have HL : Hid (l = mt k0 []) := hl
 clear hl hz
 go_wp2
 go_ret
 refine ⟨?_, hbel⟩
 unfold markS
 rw [if_neg (by omega), ← HL.out, ← bytes_cons]
 rfl
theorem markTextI (x : Int) (w : World) (h0 : 0 < x) (h1 : x ≤ 1099511627776) :
  Calls Tryd.prog 82 #[.int .i64 x] w fun e w' => e = .returned (.string (markS x.toNat)) ∧ Below w.heap.size w w' := by
 obtain ⟨k, rfl⟩ := Int.eq_ofNat_of_zero_le (Int.le_of_lt h0)
 exact markText k w (by omega) (by omega)
def marks (k0 n : Nat) : List ByteArray := (List.range n).map fun i => markS (k0 + i)
theorem marks_succ (k0 n : Nat) : marks k0 (n + 1) = marks k0 n ++ [markS (k0 + n)] := by simp [marks, List.range_succ]
theorem marks_length (k0 n : Nat) : (marks k0 n).length = n := by simp [marks]
theorem marks_at (k0 n k : Nat) (h : k < n) : (marks k0 n).getD k ByteArray.empty = markS (k0 + k) := by simp [marks, List.getD, h]
theorem marks_set (k0 : Nat) (xs : List Value) (k : Nat) (h : k < xs.length) :
  (scells (marks k0 k) ++ xs.drop k).set k (.string (markS (k0 + k))) = scells (marks k0 (k + 1)) ++ xs.drop (k + 1) := by
 rw [List.set_append_right _ _ (by simp [scells_length, marks_length])]
 rw [marks_succ, scells_snoc]
 simp only [scells_length, marks_length, Nat.sub_self, List.append_assoc, List.append_cancel_left_eq]
 rw [List.drop_eq_getElem_cons h]
 rfl
theorem markStringS (k0 n : Nat) (v : Value) (B : Nat) (xs : List Value) (w : World) (hk0 : 0 < k0) (hn : k0 + n ≤ 1099511627776) (hown0 : w.ownsRow B 9 1 v n xs) :
  Calls Tryd.prog 63 #[v, .int .i64 (k0 : Int)] w fun e w' => e = .returned (.int .i64 ((k0 + n : Nat) : Int)) ∧ w'.ownsRow B 9 1 v n (scells (marks k0 n)) ∧ w.grownBy w' v.ownBlock := by
 rcases own_shape hown0 with ⟨hz, hxs, ao, cap, rfl⟩ | ⟨hp, g, cap, rfl⟩
 ·subst hz
  subst hxs
  go_enter Tryd.func63, Tryd.ntmps63
  go_wp2
  refine wp_loop_rounds 1 ?_
  rw [rounds_succ]
  go_wp2
  go_ret
  exact ⟨rfl, hown0, World.grownBy.refl _ _⟩
 have hxl : xs.length = n := by simpa using hown0.1
 have HX : Hid (xs.length = n) := hxl
 clear hxl
 go_enter Tryd.func63, Tryd.ntmps63
 go_wp2
 go_loopw [1, 5] (fun a i wr => ∃ k : Nat, k ≤ n ∧ i = .int .i64 k ∧ a = .int .i64 ((k0 : Int) + k) ∧ wr.ownsRow B 9 1 (.slice (some ⟨g, 0, none⟩) n cap) n (scells (marks k0 k) ++ xs.drop k) ∧ w.grownBy wr (some g)) (fun _ i _ => n - (intOf i).toNat)
 case atStart => exact ⟨0, Nat.zero_le _, rfl, by simp, by simpa [marks, scells] using hown0, World.grownBy.refl _ _⟩
 obtain ⟨k, hk, rfl, rfl, hown, hgr⟩ := hrel
 by_cases hlt : k < n
 ·go_wp2_with (go_at_call 82; refine (markTextI _ _ (by omega) (by omega)).mono ?_; rintro e wc ⟨rfl, hbc⟩; have hown2 := own_below hown hbc; have hfz := hown2.frozenAt k; obtain ⟨u, hcl⟩ := own_some hown2 k hlt)
  have R := hown2.stored k (.string (markS (k0 + k)))
  rw [marks_set k0 xs k (by have := HX.out; omega)] at R
  have G := grow_trans (grow_below hgr hbc) R.2
  have R1 := R.1
  clear R hown hown2 hbc hgr hown0
  go_roundw
  case rel => exact ⟨k + 1, by omega, by go_num, by go_num, R1, G⟩
  case measure => simp [intOf]; omega
 have hkn : k = n := by omega
 have HK : Hid (k = n) := hkn
 clear hkn
 go_wp2
 go_ret
 refine ⟨ret_int (by have := HK.out; omega), ?_, hgr⟩
 have := HX.out
 rw [List.drop_eq_nil_of_le (by have := HK.out; omega), List.append_nil] at hown
 rw [HK.out] at hown
 exact hown
theorem heldStringS (k0 n : Nat) (v : Value) (B : Nat) (w : World) (hk0 : 0 < k0) (hn : k0 + n ≤ 1099511627776) (hown0 : w.ownsRow B 9 1 v n (scells (marks k0 n))) :
  Calls Tryd.prog 65 #[v, .int .i64 (k0 : Int)] w fun e w' => e = .returned (.int .i64 ((k0 + n : Nat) : Int)) ∧ Below w.heap.size w w' := by
 rcases own_shape hown0 with ⟨hz, _, ao, cap, rfl⟩ | ⟨hp, g, cap, rfl⟩
 ·subst hz
  clear hown0
  go_enter Tryd.func65, Tryd.ntmps65
  go_wp2
  refine wp_loop_rounds 1 ?_
  rw [rounds_succ]
  go_wp2
  go_ret
  exact ⟨rfl, Below.refl _ _⟩
 go_enter Tryd.func65, Tryd.ntmps65
 go_wp2
 go_loopw [1, 5] (fun a i wr => ∃ k : Nat, k ≤ n ∧ i = .int .i64 k ∧ a = .int .i64 ((k0 : Int) + k) ∧ Below w.heap.size w wr) (fun _ i _ => n - (intOf i).toNat)
 case atStart => exact ⟨0, Nat.zero_le _, rfl, by simp, Below.refl _ _⟩
 obtain ⟨k, hk, rfl, rfl, hbel⟩ := hrel
 by_cases hlt : k < n
 ·have ca := scell_at (own_below hown0 hbel) k hlt
  rw [marks_at k0 n k hlt] at ca
  have hg : g < wr.heap.size := World.block_lt_of_cell? wr ⟨g, k, none⟩ ca
  have hsz := hbel.size
  have hkk : ((k0 : Int) + (k : Int)).toNat = k0 + k := by omega
  go_wp2_with fail
  go_region_with (go_at_call 82; refine (markTextI _ _ (by omega) (by omega)).mono ?_; rintro e wc ⟨rfl, hbc⟩; have cc := cell_later hbc ca)
  all_goals
   go_wp2
   go_roundw
   case rel => exact ⟨k + 1, by omega, by go_num, by go_num, hbel.trans ((Below.drew (Below.refl _ wr)).trans (hbc.mono (by simp; omega)))⟩
   case measure => simp [intOf]; omega
 go_wp2
 go_ret
 exact ⟨ret_int (by omega), hbel⟩
end Go.Proofs.YtjdnemjcjodboaaDoor
