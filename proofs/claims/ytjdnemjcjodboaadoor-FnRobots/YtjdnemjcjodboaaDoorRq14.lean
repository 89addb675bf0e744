/- RobParseI, RobSz, RobLen, BldWalk. -/
import Derived.Test.YtjdnemjcjodboaaDoorRq11
import Derived.Test.YtjdnemjcjodboaaDoorRq13
set_option maxHeartbeats 4000000
set_option maxRecDepth 100000
namespace Go.Proofs.YtjdnemjcjodboaaDoor
open Go.RowKit
set_option linter.unusedVariables false
theorem implWithLine (acc : List PT) (v : Value) (x : ByteArray) (base g k : Nat) (w : World) (hgw : g < w.heap.size) (hoff : OffG w v acc.length g) (hh : hasK x.data.toList = true) (hxs : x.size ≤ 20000) (hW : Few k acc) (hk : k ≤ 20001) (hb : base ≤ w.heap.size) (hM : Marks w) (h : RobOwn w base w.heap.size v acc) :
  Calls Tryd.prog 19 #[v, .string (keyV x), .string (valV x)] w fun e w' => ∃ v', e = .returned v' ∧ RobOwn w' base w'.heap.size v' (stepV acc x) ∧ Below base w w' ∧ OffG w' v' (stepV acc x).length g ∧ w'.heap[g]? = w.heap[g]? := by
 have hvs := valV_size x
 have hn : acc.length ≤ 1048576 := by have := hW.1; omega
 by_cases hU : keyL x.data.toList = keyU
 ·rw [stepV_ag hh hU]
  exact implWithLineA acc v (keyV x) (valV x) _ base g w hgw hoff (txt_eq (a := keyV x) hU) hn (by have := openP_last hW; omega) hb (fun W => implAgentOf (valV x) W (by omega)) h
 have hkey : ((keyV x).toList == [117, 115, 101, 114, 45, 97, 103, 101, 110, 116]) = false := txt_ne (a := keyV x) hU
 by_cases hAD : ∃ b : Bool, keyL x.data.toList = if b = true then keyA else keyD
 ·obtain ⟨b, hb2⟩ := hAD
  rw [stepV_ln hh b hb2]
  have hkb : ((keyV x).toList == [97, 108, 108, 111, 119]) = b := by
   cases b with
   | true => exact txt_eq (a := keyV x) hb2
   | false => exact txt_ne (a := keyV x) (by show keyL x.data.toList ≠ _; rw [hb2]; decide)
  have hkd : b = false → ((keyV x).toList == [100, 105, 115, 97, 108, 108, 111, 119]) = true := fun e => txt_eq (a := keyV x) (by show keyL x.data.toList = _; rw [hb2, e]; rfl)
  exact implWithLineL acc v (keyV x) (valV x) _ b base g w hgw hoff hkey hkb hkd hn (by have := (lastG_few hW).2; omega) hb (fun W hbW => implPatternOf (valV x) W (hM.later hbW) (by omega)) h
 have hA : keyL x.data.toList ≠ keyA := fun e => hAD ⟨true, e⟩
 have hD : keyL x.data.toList ≠ keyD := fun e => hAD ⟨false, e⟩
 rw [stepV_other hU hA hD]
 refine (implWithLineO v (keyV x) (valV x) w hkey (txt_ne (a := keyV x) hA) (txt_ne (a := keyV x) hD)).mono ?_
 rintro e w' ⟨rfl, rfl⟩
 exact ⟨v, rfl, h, Below.refl _ _, hoff, rfl⟩
theorem implParseRobots (s : ByteArray) (w : World) (hs : s.size ≤ 1099511627776) (hK : Marks w) (hM : MaxI w) :
  Calls Tryd.prog 7 #[.string s] w fun e w' => ∃ v, e = .returned (.agg #[v]) ∧ RobOwn w' w.heap.size w'.heap.size v (robV s) ∧ Below w.heap.size w w' := by
 have hcs := cutS_size s
 have HK : Hid (Marks w) := hK
 obtain ⟨O, hO⟩ : ∃ O, O = (w.alloc (.cells #[.slice none 0 0] 26)).alloc (.cells #[] 33) := ⟨_, rfl⟩
 have bO : Below w.heap.size w O := by rw [hO]; exact ((Below.refl _ _).alloc (Nat.le_refl _) _).alloc (by simp) _
 have hzO : O.heap.size = w.heap.size + 2 := by rw [hO]; simp
 have CF : Hid (Calls Tryd.prog 17 #[.string s] O fun e w' => ∃ v, e = .returned v ∧ w'.ownsRow O.heap.size 9 1 v (fieldsL (crS (cutS s)) 10).length (scells (fieldsL (crS (cutS s)) 10)) ∧ Below O.heap.size O w') := implRobLines s O hs (max_below hM bO)
 have HR : Hid ((fieldsL (crS (cutS s)) 10).foldl stepV [] = robV s) := rfl
 have HSZ : Hid (∀ k, k < (fieldsL (crS (cutS s)) 10).length → ((fieldsL (crS (cutS s)) 10).getD k ByteArray.empty).size ≤ 20000) := fun k hk => Nat.le_trans (field_size _ 10 hk) (by rw [crS_size]; exact hcs)
 have hfl := fieldsN_le (crS (cutS s)) 10
 rw [crS_size] at hfl
 have hfp := fieldsN_pos (crS (cutS s)) 10
 generalize fieldsL (crS (cutS s)) 10 = fs at *
 generalize robV s = R at *
 clear hK hM
 have A2 : BAt O w.heap.size [.slice none 0 0] := by rw [hO]; exact (BAt.new w #[.slice none 0 0] _).alloc _
 have P0 : O.ownsRow (w.heap.size + 1) 33 2 (.slice (some ⟨w.heap.size + 1, 0, none⟩) 0 0) 0 [] := by
  have := World.ownsRow_made (e := 33) (size := 2) (base := w.heap.size + 1) (w.alloc (.cells #[.slice none 0 0] 26)) #[] 0 (by simp) (by decide) rfl
  rw [World.size_alloc, ← hO] at this
  exact this
 go_enter Tryd.func7, Tryd.ntmps7
 go_upto_region 2 with fail
 rw [← hO]
 clear hO
 go_wp2_with fail
 refine CF.out.mono ?_
 rintro e w1 ⟨vf, rfl, of, b1⟩
 have B2 := A2.below b1
 have P1 := own_below P0 b1
 have bw1 := bO.trans (b1.mono bO.size)
 clear A2 P0 bO CF
 rcases own_shape of with ⟨h, _⟩ | ⟨_, g, cap, rfl⟩
 ·omega
 have hg := (of.lt g rfl).1
 have hg2 := (of.lt g rfl).2
 have HC0 : Hid (∀ j, j < fs.length → w1.cell? ⟨g, j, none⟩ = some (.string (fs.getD j ByteArray.empty))) := fun j hj => scell_at of j hj
 have HB2 : Hid (BAt w1 w.heap.size [.slice none 0 0]) := B2
 have HP1 : Hid (RobOwn w1 (w.heap.size + 1) w1.heap.size (.slice (some ⟨w.heap.size + 1, 0, none⟩) 0 0) []) := ⟨[], P1, fun i hi => absurd hi (Nat.not_lt_zero _), fun a x ha => absurd ha (by simp), fun b hb => (P1.lt b hb).2⟩
 have HO1 : Hid (OffG w1 (.slice (some ⟨w.heap.size + 1, 0, none⟩) 0 0) 0 g) := OffG.of P1 (fun e => by injection e with e; have e2 : w.heap.size + 1 = g := e; omega) (fun x hx => by cases hx)
 have hz1 := b1.size
 clear of b1 B2 P1
 go_wp2_with fail
 go_loopw [3, 13] (fun v i wr => ∃ (k : Nat) (acc : List PT) (ao : Option Addr) (c : Nat), k ≤ fs.length ∧ i = .int .i64 k ∧ v = .slice ao acc.length c ∧ Hid (RobOwn wr (w.heap.size + 1) wr.heap.size (.slice ao acc.length c) acc) ∧ Hid (OffG wr (.slice ao acc.length c) acc.length g) ∧ Hid (wr.heap[g]? = w1.heap[g]?) ∧ Hid ((fs.drop k).foldl stepV acc = R) ∧ Hid (Few k acc) ∧ Below (w.heap.size + 1) w1 wr) (fun _ i _ => fs.length - (intOf i).toNat)
 case atStart => exact ⟨0, [], _, _, Nat.zero_le _, rfl, rfl, HP1, HO1, rfl, HR.out, ⟨Nat.zero_le _, fun i hi => absurd hi (Nat.not_lt_zero _)⟩, Below.refl _ _⟩
 obtain ⟨k, acc, ao, c, hk, rfl, rfl, HRO, HOF, HHG, HF, HW, hbr⟩ := hrel
 clear HP1 HO1 HR
 by_cases hlt : k < fs.length
 ·have hki : (k : Int) < fs.length := by omega
  have ca : wr.cell? ⟨g, k, none⟩ = some (.string (fs.getD k ByteArray.empty)) := (World.cell?_of_block (w := w1) (a := ⟨g, k, none⟩) HHG.out).trans (HC0.out k hlt)
  have hxs := HSZ.out k hlt
  have HF1 : Hid ((fs.drop (k + 1)).foldl stepV (stepV acc (fs.getD k ByteArray.empty)) = R) := (fold_next hlt acc).symm.trans HF.out
  have HW1 : Hid (Few (k + 1) (stepV acc (fs.getD k ByteArray.empty))) := HW.out.step _
  clear HF
  generalize fs.getD k ByteArray.empty = x at *
  have CL : Hid (∀ W, CB 18 #[.string x] W (.tuple #[.string (keyV x), .string (valV x), .bool (hasK x.data.toList)])) := fun W => implKeyValue x W (by omega)
  have hgr : g < wr.heap.size := Nat.lt_of_lt_of_le hg2 hbr.size
  cases hh : hasK x.data.toList with
  | false =>
   rw [stepV_none hh] at HF1 HW1
   rw [hh] at CL
   clear hh
   generalize keyV x = KV at *
   generalize valV x = VV at *
   go_wp2_with fail
   refine (CL.out _).mono ?_
   rintro e w2 ⟨rfl, b2⟩
   have HRO2 : Hid (RobOwn w2 (w.heap.size + 1) w2.heap.size (.slice ao acc.length c) acc) := (HRO.out.below (Nat.le_refl _) b2).wide b2.size
   have HOF2 : Hid (OffG w2 (.slice ao acc.length c) acc.length g) := HOF.out.below HRO.out b2
   have HHG2 : Hid (w2.heap[g]? = w1.heap[g]?) := (b2.block g hgr).trans HHG.out
   have G2 := hbr.trans (b2.mono (by have := hbr.size; omega))
   clear b2 hbr HRO HOF HHG CL
   go_wp2_with fail
   go_roundw
   case rel => exact ⟨k + 1, acc, ao, c, by omega, by go_num, rfl, HRO2, HOF2, HHG2, HF1, HW1, G2⟩
   case measure => simp [intOf] <;> omega
  | true =>
   rw [hh] at CL
   have HHH : Hid (hasK x.data.toList = true) := hh
   clear hh
   have CW : Hid (∀ w2, Below wr.heap.size wr w2 → Calls Tryd.prog 19 #[.slice ao acc.length c, .string (keyV x), .string (valV x)] w2 fun e w' => ∃ v', e = .returned v' ∧ RobOwn w' (w.heap.size + 1) w'.heap.size v' (stepV acc x) ∧ Below (w.heap.size + 1) w2 w' ∧ OffG w' v' (stepV acc x).length g ∧ w'.heap[g]? = w2.heap[g]?) := fun w2 b2 => implWithLine acc _ x (w.heap.size + 1) g k w2 (Nat.lt_of_lt_of_le hgr b2.size) (HOF.out.below HRO.out b2) HHH.out hxs HW.out (by omega) (by have := hbr.size; have := b2.size; omega) (HK.out.later (bw1.trans ((hbr.mono (by omega)).trans (b2.mono (by have := hbr.size; omega))))) ((HRO.out.below (Nat.le_refl _) b2).wide b2.size)
   generalize stepV acc x = acc2 at *
   generalize keyV x = KV at *
   generalize valV x = VV at *
   clear HRO HOF HHH
   generalize acc.length = n at *
   go_wp2_with fail
   refine (CL.out _).mono ?_
   rintro e w2 ⟨rfl, b2⟩
   have CW2 : Hid (Calls Tryd.prog 19 #[.slice ao n c, .string KV, .string VV] w2 fun e w' => ∃ v', e = .returned v' ∧ RobOwn w' (w.heap.size + 1) w'.heap.size v' acc2 ∧ Below (w.heap.size + 1) w2 w' ∧ OffG w' v' acc2.length g ∧ w'.heap[g]? = w2.heap[g]?) := CW.out w2 b2
   have HHG2 : Hid (w2.heap[g]? = w1.heap[g]?) := (b2.block g hgr).trans HHG.out
   have G2 := hbr.trans (b2.mono (by have := hbr.size; omega))
   clear b2 hbr HHG CL CW
   go_wp2_with fail
   refine CW2.out.mono ?_
   rintro e w3 ⟨v3, rfl, r3, b3, o3, g3⟩
   obtain ⟨a3, c3, rfl⟩ := r3.row.slice
   have HRO3 : Hid (RobOwn w3 (w.heap.size + 1) w3.heap.size (.slice a3 acc2.length c3) acc2) := r3
   have HOF3 : Hid (OffG w3 (.slice a3 acc2.length c3) acc2.length g) := o3
   have HHG3 : Hid (w3.heap[g]? = w1.heap[g]?) := g3.trans HHG2.out
   have G3 := G2.trans b3
   clear r3 b3 o3 g3 G2 CW2 HHG2
   go_wp2_with fail
   go_roundw
   case rel => exact ⟨k + 1, acc2, a3, c3, by omega, by go_num, rfl, HRO3, HOF3, HHG3, HF1, HW1, G3⟩
   case measure => simp [intOf] <;> omega
 have hki : ¬ (k : Int) < fs.length := by omega
 have HE : Hid (acc = R) := by
  have := HF.out
  rwa [List.drop_of_length_le (by omega)] at this
 have HRR : Hid (RobOwn wr (w.heap.size + 1) wr.heap.size (.slice ao acc.length c) R) := by
  have h9 : ∀ X, acc = X → RobOwn wr (w.heap.size + 1) wr.heap.size (.slice ao acc.length c) X := fun X e => by subst e; exact HRO.out
  exact h9 R HE.out
 have A2 : BAt wr w.heap.size [.slice none 0 0] := HB2.out.same hbr.size (hbr.block _ (by omega))
 have q0 := A2.1 0 _ rfl
 have f0 := A2.2.1
 clear HF HW HRO HE
 generalize acc.length = n at *
 go_wp2_with fail
 refine bodyPost_ret (rob_res1 rfl _ _ w.heap.size (.slice ao n c) rfl (A2.set 0 (by simp) _)) rfl ⟨_, rfl, ?_, ?_⟩
 ·have h9 := HRR.out.same (w' := wr.setCell ⟨w.heap.size, 0, none⟩ (.slice ao n c)) fun b hb1 hb2 => Below.heap_setCell _ _ _ _ (show b ≠ w.heap.size by omega)
  exact (h9.wide (by simp)).down (by omega)
 exact (bw1.trans (hbr.mono (by omega))).setCell (Nat.le_refl _) _
def psum (f : Nat → Nat) : Nat → Nat
 | 0 => 0
 | k + 1 => psum f k + f k
theorem psum_le (f : Nat → Nat) {k : Nat} : ∀ {n}, k ≤ n → psum f k ≤ psum f n
 | 0, h => by rw [show k = 0 by omega]; exact Nat.le_refl _
 | n + 1, h => by
  by_cases hk : k = n + 1
  ·rw [hk]; exact Nat.le_refl _
  have := psum_le f (show k ≤ n by omega)
  show _ ≤ psum f n + f n
  omega
theorem psum_at (f : Nat → Nat) {k n : Nat} (h : k < n) : f k ≤ psum f n := by
 have := psum_le f (show k + 1 ≤ n from h)
 have e : psum f (k + 1) = psum f k + f k := rfl
 omega
def sumS (l : List ByteArray) : Nat := l.length + psum (fun i => (l.getD i ByteArray.empty).size) l.length
def sumL (l : List LV) : Nat := l.length + psum (fun i => (l.getD i lv0).pa.size) l.length
def sumT (p : PT) : Nat := sumS p.ag + sumL p.ln
def sumP (l : List PT) : Nat := l.length + psum (fun i => sumT (l.getD i pt0)) l.length
def agLn (a : ByteArray) : List UInt8 := agT a ++ [10]
def lnLn (x : LV) : List UInt8 := lnT x ++ [10]
def partT (p : PT) : List UInt8 := p.ag.flatMap agLn ++ p.ln.flatMap lnLn
theorem robT_parts (ps : List PT) : robT ps = ps.flatMap partT := by
 unfold robT
 rw [List.flatMap_assoc]
 congr 1
 funext p
 unfold linesP partT
 rw [List.flatMap_append, List.flatMap_map, List.flatMap_map]
 rfl
theorem flat_next {α : Type} (f : α → List UInt8) (d : α) (l : List α) {k : Nat} (h : k < l.length) : (l.take (k + 1)).flatMap f = (l.take k).flatMap f ++ f (l.getD k d) := by
 rw [List.take_succ_eq_append_getElem h, List.flatMap_append, List.getD_eq_getElem?_getD, List.getElem?_eq_getElem h]
 simp
theorem flat_len {α : Type} {f : α → List UInt8} {F : Nat → Nat} (d : α) {l : List α} (h : ∀ i, i < l.length → (f (l.getD i d)).length ≤ F i) : ∀ k, k ≤ l.length → ((l.take k).flatMap f).length ≤ psum F k
 | 0, _ => by simp [psum]
 | k + 1, hk => by
  have h1 := flat_len d h k (by omega)
  have h2 := h k (by omega)
  rw [flat_next f d l (by omega), List.length_append]
  show _ ≤ psum F k + F k
  omega
theorem psum_lin (F : Nat → Nat) (c : Nat) : ∀ n, psum (fun i => c + F i) n = c * n + psum F n
 | 0 => by simp [psum]
 | n + 1 => by
  show psum (fun i => c + F i) n + (c + F n) = _ + (psum F n + F n)
  rw [psum_lin F c n, Nat.mul_add]
  omega
theorem psum_mul (F : Nat → Nat) (c : Nat) : ∀ n, psum (fun i => c * F i) n = c * psum F n
 | 0 => by simp [psum]
 | n + 1 => by
  show psum (fun i => c * F i) n + c * F n = c * (psum F n + F n)
  rw [psum_mul F c n, Nat.mul_add]
theorem agLn_len (a : ByteArray) : (agLn a).length = 13 + a.size := by
 unfold agLn agT keyU
 have : a.data.toList.length = a.size := by simp
 simp only [List.length_append, List.length_cons, List.length_nil, this]
 omega
theorem lnLn_len (x : LV) : (lnLn x).length ≤ 13 + x.pa.size := by
 unfold lnLn lnT keyA keyD
 have : x.pa.data.toList.length = x.pa.size := by simp
 split <;> simp only [List.length_append, List.length_cons, List.length_nil, this] <;> omega
theorem ags_len (l : List ByteArray) (k : Nat) (hk : k ≤ l.length) : ((l.take k).flatMap agLn).length ≤ 13 * sumS l := by
 have h := flat_len (f := agLn) (F := fun i => 13 + (l.getD i ByteArray.empty).size) ByteArray.empty (l := l) (fun i _ => Nat.le_of_eq (agLn_len _)) k hk
 rw [psum_lin (fun i => (l.getD i ByteArray.empty).size)] at h
 have h2 := psum_le (fun i => (l.getD i ByteArray.empty).size) hk
 unfold sumS
 omega
theorem lns_len (l : List LV) (k : Nat) (hk : k ≤ l.length) : ((l.take k).flatMap lnLn).length ≤ 13 * sumL l := by
 have h := flat_len (f := lnLn) (F := fun i => 13 + (l.getD i lv0).pa.size) lv0 (l := l) (fun i _ => lnLn_len _) k hk
 rw [psum_lin (fun i => (l.getD i lv0).pa.size)] at h
 have h2 := psum_le (fun i => (l.getD i lv0).pa.size) hk
 unfold sumL
 omega
theorem partT_len (p : PT) : (partT p).length ≤ 13 * sumT p := by
 have h1 := ags_len p.ag p.ag.length (Nat.le_refl _)
 have h2 := lns_len p.ln p.ln.length (Nat.le_refl _)
 rw [List.take_length] at h1 h2
 unfold partT sumT
 rw [List.length_append]
 omega
theorem parts_len (ps : List PT) (k : Nat) (hk : k ≤ ps.length) : ((ps.take k).flatMap partT).length ≤ 13 * psum (fun i => sumT (ps.getD i pt0)) k := by
 have h := flat_len (f := partT) (F := fun i => 13 * sumT (ps.getD i pt0)) pt0 (l := ps) (fun i _ => partT_len _) k hk
 rwa [psum_mul (fun i => sumT (ps.getD i pt0))] at h
theorem pre_ag {ps : List PT} {k : Nat} (hk : k < ps.length) (hN : sumP ps ≤ 1048576) (j : Nat) (hj : j ≤ (ps.getD k pt0).ag.length) : ((ps.take k).flatMap partT ++ ((ps.getD k pt0).ag.take j).flatMap agLn).length ≤ 13631488 := by
 have h1 := parts_len ps k (by omega)
 have h2 := ags_len (ps.getD k pt0).ag j hj
 have h3 := psum_le (fun i => sumT (ps.getD i pt0)) (show k + 1 ≤ ps.length from hk)
 have e : psum (fun i => sumT (ps.getD i pt0)) (k + 1) = psum (fun i => sumT (ps.getD i pt0)) k + sumT (ps.getD k pt0) := rfl
 unfold sumP at hN
 rw [List.length_append]
 have e2 : sumT (ps.getD k pt0) = sumS (ps.getD k pt0).ag + sumL (ps.getD k pt0).ln := rfl
 omega
theorem pre_ln {ps : List PT} {k : Nat} (hk : k < ps.length) (hN : sumP ps ≤ 1048576) (j : Nat) (hj : j ≤ (ps.getD k pt0).ln.length) : ((ps.take k).flatMap partT ++ (ps.getD k pt0).ag.flatMap agLn ++ ((ps.getD k pt0).ln.take j).flatMap lnLn).length ≤ 13631488 := by
 have h1 := parts_len ps k (by omega)
 have h2 := ags_len (ps.getD k pt0).ag _ (Nat.le_refl _)
 rw [List.take_length] at h2
 have h4 := lns_len (ps.getD k pt0).ln j hj
 have h3 := psum_le (fun i => sumT (ps.getD i pt0)) (show k + 1 ≤ ps.length from hk)
 have e : psum (fun i => sumT (ps.getD i pt0)) (k + 1) = psum (fun i => sumT (ps.getD i pt0)) k + sumT (ps.getD k pt0) := rfl
 unfold sumP at hN
 rw [List.length_append, List.length_append]
 have e2 : sumT (ps.getD k pt0) = sumS (ps.getD k pt0).ag + sumL (ps.getD k pt0).ln := rfl
 omega
theorem ag_size {ps : List PT} {k j : Nat} (hN : sumP ps ≤ 1048576) (hk : k < ps.length) (hj : j < (ps.getD k pt0).ag.length) : ((ps.getD k pt0).ag.getD j ByteArray.empty).size ≤ 1048576 := by
 have h1 : sumT (ps.getD k pt0) ≤ psum (fun i => sumT (ps.getD i pt0)) ps.length := psum_at (fun i => sumT (ps.getD i pt0)) hk
 have h2 : ((ps.getD k pt0).ag.getD j ByteArray.empty).size ≤ psum (fun i => ((ps.getD k pt0).ag.getD i ByteArray.empty).size) (ps.getD k pt0).ag.length := psum_at (fun i => ((ps.getD k pt0).ag.getD i ByteArray.empty).size) hj
 have e2 : sumT (ps.getD k pt0) = sumS (ps.getD k pt0).ag + sumL (ps.getD k pt0).ln := rfl
 have e3 : sumS (ps.getD k pt0).ag = (ps.getD k pt0).ag.length + psum (fun i => ((ps.getD k pt0).ag.getD i ByteArray.empty).size) (ps.getD k pt0).ag.length := rfl
 unfold sumP at hN
 omega
theorem ln_size {ps : List PT} {k j : Nat} (hN : sumP ps ≤ 1048576) (hk : k < ps.length) (hj : j < (ps.getD k pt0).ln.length) : ((ps.getD k pt0).ln.getD j lv0).pa.size ≤ 1048576 := by
 have h1 : sumT (ps.getD k pt0) ≤ psum (fun i => sumT (ps.getD i pt0)) ps.length := psum_at (fun i => sumT (ps.getD i pt0)) hk
 have h2 : ((ps.getD k pt0).ln.getD j lv0).pa.size ≤ psum (fun i => ((ps.getD k pt0).ln.getD i lv0).pa.size) (ps.getD k pt0).ln.length := psum_at (fun i => ((ps.getD k pt0).ln.getD i lv0).pa.size) hj
 have e2 : sumT (ps.getD k pt0) = sumS (ps.getD k pt0).ag + sumL (ps.getD k pt0).ln := rfl
 have e3 : sumL (ps.getD k pt0).ln = (ps.getD k pt0).ln.length + psum (fun i => ((ps.getD k pt0).ln.getD i lv0).pa.size) (ps.getD k pt0).ln.length := rfl
 unfold sumP at hN
 omega
theorem part_lens {ps : List PT} {k : Nat} (hN : sumP ps ≤ 1048576) (hk : k < ps.length) : ps.length ≤ 1048576 ∧ (ps.getD k pt0).ag.length ≤ 1048576 ∧ (ps.getD k pt0).ln.length ≤ 1048576 := by
 have h1 : sumT (ps.getD k pt0) ≤ psum (fun i => sumT (ps.getD i pt0)) ps.length := psum_at (fun i => sumT (ps.getD i pt0)) hk
 have e2 : sumT (ps.getD k pt0) = sumS (ps.getD k pt0).ag + sumL (ps.getD k pt0).ln := rfl
 have e3 : sumL (ps.getD k pt0).ln = (ps.getD k pt0).ln.length + psum (fun i => ((ps.getD k pt0).ln.getD i lv0).pa.size) (ps.getD k pt0).ln.length := rfl
 have e4 : sumS (ps.getD k pt0).ag = (ps.getD k pt0).ag.length + psum (fun i => ((ps.getD k pt0).ag.getD i ByteArray.empty).size) (ps.getD k pt0).ag.length := rfl
 unfold sumP at hN
 omega
theorem text_app (a b : ByteArray) : (a ++ b).data.toList = a.data.toList ++ b.data.toList := by rw [ByteArray.data_append, Array.toList_append]
def Tryd.renW : Go.Shelf.Ren := ⟨fun | 166 => 23 | 240 => 50 | 276 => 75 | n => n, fun | 3 => 3 | 4 => 4 | 9 => 9 | 20 => 20 | 37 => 22 | 70 => 48 | 72 => 50 | 75 => 52 | 164 => 89 | 5 => 5 | 76 => 53 | 80 => 57 | n => n, fun n => n⟩
theorem Tryd.laysW : Lays.n166 Tryd.prog Tryd.renW := by constructor <;> first | kernel_rfl | (intro _; kernel_rfl)
theorem Tryd.extraW : Builder.Extra Tryd.prog Tryd.renW := {
 sizeBuilder := by kernel_rfl
 liesBuilder := by kernel_rfl
 t5 := Tryd.underlying5
 a5 := Tryd.isAgg5
 z5 := Tryd.sizeOf5
 v5 := Tryd.zeroValue5
 infoByte := by kernel_rfl
 cellsByte := by kernel_rfl
 sizeByte := by kernel_rfl
 neB5 := by decide }
abbrev Bld (B : Nat) (l : List UInt8) (w : World) : Prop := Lib.IsBuilderF 50 5 B B (Lib.byteCells l) w
theorem Bld.new (w : World) : Bld w.heap.size [] (w.alloc (.cells #[.pointer none, .slice none 0 0] 50)) := Lib.IsBuilderF.of (Lib.fresh_isBuilder _ _ w)
theorem bldAt_below {T e : TypeId} {B b : Nat} {p : Value} {bs : List Value} {w w' : World} (h : Lib.BuilderAtF T e B b p bs w) (hb : Below w.heap.size w w') : Lib.BuilderAtF T e B b p bs w' := by
 have hl := h.lt
 obtain ⟨h1, v, h2, h3, h4⟩ := h
 exact ⟨h1, v, (hb.block b hl).trans h2, h3.kept (row := none) ⟨hb.os, hb.tape, hb.output, hb.size, fun k hk _ => hb.block k hk⟩ (by cases hv : v.ownBlock <;> simp), h4⟩
theorem Bld.below {B : Nat} {l : List UInt8} {w w' : World} (h : Bld B l w) (hb : Below w.heap.size w w') : Bld B l w' := by
 rcases h with h | h
 ·exact .inl (bldAt_below h hb)
 exact .inr (bldAt_below h hb)
theorem Bld.lt {B : Nat} {l : List UInt8} {w : World} (h : Bld B l w) : B < w.heap.size := by
 rcases h with h | h
 ·exact h.lt
 exact h.lt
theorem bldWrite (B : Nat) (l : List UInt8) (s : ByteArray) (w : World) (hl : l.length + s.size ≤ 140737488355328) (h : Bld B l w) :
  Calls Tryd.prog 23 #[.pointer (some ⟨B, 0, none⟩), .string s] w fun e w' => e = .returned (.tuple #[.int .i64 s.size, .nilIface]) ∧ Bld B (l ++ s.data.toList) w' ∧ Below B w w' ∧ Lib.OthersKept 5 (some B) w w' := by
 refine (Any.Builder_WriteString_k Tryd.laysW Tryd.extraW B B (Lib.byteCells l) s w h (by rw [Lib.byteCells_length]; exact hl) (Nat.le_of_lt h.lt)).mono ?_
 rintro e w' ⟨he, hb, h1, h2⟩
 refine ⟨he, .inr ?_, h1, h2⟩
 have e2 : Lib.byteCells (l ++ s.data.toList) = Lib.byteCells l ++ Lib.strCells s := by unfold Lib.byteCells Lib.strCells; rw [List.map_append]
 rw [e2]
 exact hb
theorem bldString (B : Nat) (l : List UInt8) (w : World) (h : Bld B l w) :
  Calls Tryd.prog 26 #[.pointer (some ⟨B, 0, none⟩)] w fun e w' => e = .returned (.string ⟨l.toArray⟩) ∧ Below B w w' :=
 (Tryd.Builder_String_any_f B B l w h (Nat.le_of_lt h.lt)).mono fun e w' x => ⟨x.1, x.2.2⟩
end Go.Proofs.YtjdnemjcjodboaaDoor
