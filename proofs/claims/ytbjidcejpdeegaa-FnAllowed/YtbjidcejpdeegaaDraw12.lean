/- Contracts of what is drawn for chapter 12: paths, lines. -/
import Derived.Test.YtbjidcejpdeegaaRows
import Derived.Test.YtbjidcejpdeegaaDraw11Walk
import Derived.Test.YtbjidcejpdeegaaPatSpec
import Derived.Test.YtbjidcejpdeegaaParseAdd
import Derived.Test.YtbjidcejpdeegaaRobTo
import Derived.Test.YtbjidcejpdeegaaBestSpec
namespace Go.Proofs.Ytbjidcejpdeegaa
open Go.RowKit
set_option linter.unusedVariables false

set_option maxRecDepth 100000 in
set_option maxHeartbeats 2000000 in
theorem l12Path (D B : Nat) (ao : Option Addr) (len cap : Nat) (w : World) (hcur : Cur D B ao len cap w) :
    Calls Try.prog 25 #[.pointer (some ⟨B, 0, none⟩)] w fun e w' => ∃ z : ByteArray, z.size ≤ 81 ∧ e = .returned (.string z) ∧ Cur D B ao len cap w' ∧ w.grownBy w' (some B) := by
  have HC : Hid (Cur D B ao len cap w) := hcur
  clear hcur
  go_enter Try.func25, Try.ntmps25
  go_wp2_with fail
  refine (l1Below 5 _ _ _ _ _ _ (by omega) (by omega) HC.out).mono ?_
  rintro e wa ⟨x, hx0, hx1, rfl, ca, ga⟩
  have CA : Hid (Cur D B ao len cap wa) := ca
  clear ca
  obtain ⟨n, rfl⟩ := Int.eq_ofNat_of_zero_le hx0
  go_wp2_with fail
  go_loopw [3, 4] (fun a i wr => ∃ (k : Nat) (z : ByteArray), k ≤ n ∧ i = .int .i64 k ∧ a = .string z ∧ z.size + 20 * k ≤ 20 * n + 1 ∧ Cur D B ao len cap wr ∧ w.grownBy wr (some B)) (fun _ i _ => (intOf i).toNat)
  case atStart => exact ⟨n, ⟨#[47]⟩, Nat.le_refl _, rfl, rfl, by simp [ByteArray.size]; omega, CA.out, ga⟩
  case round =>
    obtain ⟨k, z, hk, rfl, rfl, hz, hcu, hgr⟩ := hrel
    have HU : Hid (Cur D B ao len cap wr) := hcu
    have hB := hcu.lt
    clear hcu
    by_cases hp : 0 < k
    · go_wp2_with fail
      refine (l1StrX 20 7 _ 7 0 _ _ _ _ _ _ _ (by omega) (by omega) (HU.out.alloc _) (World.ownsRow_lit wr _ 7 (Nat.zero_le _) (by decide) rfl) (by omega) (by decide)).mono ?_
      rintro e wc ⟨y, hy, rfl, cc, gc⟩
      have CC : Hid (Cur D B ao len cap wc) := cc
      have G := grow_trans (grow_alloc hgr _) gc
      clear cc gc hgr
      go_wp2_with fail
      go_roundw
      case rel => exact ⟨k - 1, z ++ y, by omega, by go_num, rfl, by rw [ByteArray.size_append]; omega, CC.out, G⟩
      case measure => simp [intOf]; omega
    · go_wp2_with fail
      refine (l1Once 12 _ _ _ _ _ _ (by omega) (by omega) HU.out).mono ?_
      rintro e wc ⟨b, rfl, cc, gc⟩
      have G := grow_trans hgr gc
      have CC : Hid (Cur D B ao len cap wc) := cc
      clear cc gc hgr HU
      cases b with
      | true =>
        go_wp2_with fail
        go_ret
        exact ⟨_, by decide, rfl, CC.out, G⟩
      | false =>
        go_wp2_with fail
        go_ret
        exact ⟨z, by omega, rfl, CC.out, G⟩
set_option maxRecDepth 100000 in
set_option maxHeartbeats 2000000 in
theorem drawMatches (ao : Option Addr) (len cap : Nat) (w : World) (hl : len ≤ 1048576) (hcode : CodeRow w.heap.size w ao len) :
    Calls Try.prog 10 #[.slice ao len cap] w fun e w' => ∃ p s : ByteArray, p.size ≤ 100 ∧ s.size ≤ 100 ∧ e = .returned (.tuple #[.string p, .string s]) ∧ Below w.heap.size w w' := by
  have HCO : Hid (CodeRow w.heap.size w ao len) := hcode
  clear hcode
  go_enter Try.func10, Try.ntmps10
  go_wp2_with fail
  refine (l1New _ _ _ _ hl HCO.out).mono ?_
  rintro e wa ⟨B, rfl, hB, ca, ba⟩
  have CA : Hid (Cur w.heap.size B ao len cap wa) := ca
  clear ca HCO
  go_wp2_with fail
  refine (l11Pattern _ _ _ _ _ _ CA.out).mono ?_
  rintro e wb ⟨p, hp, rfl, cb, gb⟩
  have CB : Hid (Cur w.heap.size B ao len cap wb) := cb
  have Bb : Below w.heap.size w wb := ba.grown gb ba.size (fun k hk => by cases hk; exact CA.out.le)
  clear cb gb CA ba
  go_wp2_with fail
  refine (l12Path _ _ _ _ _ _ CB.out).mono ?_
  rintro e wc ⟨s, hs, rfl, cc, gc⟩
  have CC : Hid (Cur w.heap.size B ao len cap wc) := cc
  have Bc : Below w.heap.size w wc := Bb.grown gc Bb.size (fun k hk => by cases hk; exact CB.out.le)
  clear cc gc CB Bb
  go_wp2_with fail
  refine (l1Once 2 _ _ _ _ _ _ (by omega) (by omega) CC.out).mono ?_
  rintro e wd ⟨b, rfl, cd, gd⟩
  have CD : Hid (Cur w.heap.size B ao len cap wd) := cd
  have Bd : Below w.heap.size w wd := Bc.grown gd Bc.size (fun k hk => by cases hk; exact CC.out.le)
  clear cd gd CC Bc
  cases b with
  | false =>
    go_wp2_with fail
    go_ret2
    exact ⟨p, s, by omega, by omega, rfl, Bd⟩
  | true =>
    have hBd := CD.out.lt
    have hso : strsOk 100 [.string s, .string (s ++ ⟨#[36]⟩), .string ⟨#[47, 42]⟩, .string ⟨#[42, 36]⟩, .string ⟨#[47, 42, 98, 46, 104, 116, 109, 108, 36]⟩, .string ⟨#[]⟩, .string ⟨#[36]⟩, .string ⟨#[47, 97, 42]⟩, .string ⟨#[42, 120]⟩, .string ⟨#[42, 42]⟩, .string ⟨#[47, 36]⟩] = true := by
      have h1 : decide (s.size ≤ 100) = true := decide_eq_true (by omega)
      have h2 : decide ((s ++ (⟨#[36]⟩ : ByteArray)).size ≤ 100) = true := decide_eq_true (by rw [ByteArray.size_append]; show s.size + 1 ≤ 100; omega)
      unfold strsOk
      rw [List.all_cons, List.all_cons]
      show (decide (s.size ≤ 100) && (decide ((s ++ (⟨#[36]⟩ : ByteArray)).size ≤ 100) && _)) = true
      rw [h1, h2]
      decide
    go_wp2_with fail
    refine (l1StrX 100 11 _ 11 0 _ _ _ _ _ _ _ (by omega) (by omega) (CD.out.alloc _) (World.ownsRow_lit wd _ 11 (Nat.zero_le _) (by decide) rfl) (by omega) hso).mono ?_
    rintro e we ⟨y, hy, rfl, ce, ge⟩
    have G := grow_trans (World.grownBy_alloc wd _ (some B)) ge
    have Be : Below w.heap.size w we := Bd.grown G Bd.size (fun k hk => by cases hk; exact CD.out.le)
    clear ce ge G
    go_wp2_with fail
    go_ret2
    exact ⟨y, s, by omega, by omega, rfl, Be⟩
theorem ln_bound {l : List LV} (hl : l.length ≤ 8) (h : ∀ x ∈ l, x.pa.size ≤ 240) : LSz l := by
  refine ⟨by omega, fun i hi => ?_⟩
  rw [List.getD_eq_getElem?_getD, List.getElem?_eq_getElem hi]
  exact Nat.le_trans (h _ (List.getElem_mem hi)) (by decide)
set_option maxRecDepth 100000 in
set_option maxHeartbeats 2000000 in
theorem l12Lines (D B : Nat) (ao : Option Addr) (len cap : Nat) (w : World) (hcur : Cur D B ao len cap w) :
    Calls Try.prog 44 #[.pointer (some ⟨B, 0, none⟩)] w fun e w' => ∃ (l : List LV) (v : Value), LSz l ∧ e = .returned v ∧ w'.ownsRow w.heap.size 34 2 v l.length (lcells l) ∧ Cur D B ao len cap w' ∧ w.grownBy w' (some B) := by
  have HC : Hid (Cur D B ao len cap w) := hcur
  have hBw := hcur.lt
  clear hcur
  go_enter Try.func44, Try.ntmps44
  go_wp2_with fail
  refine (l1Below 5 _ _ _ _ _ _ (by omega) (by omega) (HC.out.alloc _)).mono ?_
  rintro e wa ⟨x, hx0, hx1, rfl, ca, ga⟩
  have CA : Hid (Cur D B ao len cap wa) := ca
  have OA : Hid (wa.ownsRow w.heap.size 34 2 (.slice (some ⟨w.heap.size, 0, none⟩) 0 0) 0 (lcells [])) := (World.ownsRow_lit w #[] 0 (Nat.le_refl _) (by decide) rfl).kept ga (by simp [Value.ownBlock]; omega)
  have GA := grow_trans (World.grownBy_alloc w (.cells #[] 34) (some B)) ga
  clear ca ga
  obtain ⟨n, rfl⟩ := Int.eq_ofNat_of_zero_le hx0
  go_wp2_with fail
  go_loopw [3, 4] (fun v i wr => ∃ (k : Nat) (l : List LV), i = .int .i64 k ∧ l.length + k ≤ n ∧ Hid (∀ x ∈ l, x.pa.size ≤ 240) ∧ Hid (wr.ownsRow w.heap.size 34 2 v l.length (lcells l)) ∧ Cur D B ao len cap wr ∧ w.grownBy wr (some B)) (fun _ i _ => (intOf i).toNat)
  case atStart => exact ⟨n, [], rfl, by simp, (fun x hx => by cases hx), OA, CA.out, GA⟩
  case round =>
    obtain ⟨k, l, rfl, hk, HB, HO, hcu, hgr⟩ := hrel
    have HU : Hid (Cur D B ao len cap wr) := hcu
    clear hcu CA OA GA
    by_cases hp : 0 < k
    · go_wp2_with fail
      refine (l1Once 2 _ _ _ _ _ _ (by omega) (by omega) HU.out).mono ?_
      rintro e wb ⟨b, rfl, cb, gb⟩
      have CB : Hid (Cur D B ao len cap wb) := cb
      have OB : Hid (wb.ownsRow w.heap.size 34 2 u3 l.length (lcells l)) := HO.out.kept gb (.inr fun e => by have := (HO.out.lt B e).1; omega)
      have GB := grow_trans hgr gb
      clear cb gb hgr HU HO
      go_wp2_with fail
      refine (l11Pattern _ _ _ _ _ _ CB.out).mono ?_
      rintro e wc ⟨z, hz, rfl, cc, gc⟩
      have CC : Hid (Cur D B ao len cap wc) := cc
      have OC : Hid (wc.ownsRow w.heap.size 34 2 u3 l.length (lcells l)) := OB.out.kept gc (.inr fun e => by have := (OB.out.lt B e).1; omega)
      have GC := grow_trans GB gc
      clear cc gc GB CB OB
      go_wp2_with fail
      refine (specPatternOf z _ (by omega)).mono ?_
      rintro e wd ⟨rfl, bd⟩
      obtain ⟨y, hy⟩ : ∃ y : ByteArray, (⟨(plL 2 z.data.toList).toArray⟩ : ByteArray) = y := ⟨_, rfl⟩
      have hys : y.size ≤ 240 := by
        have h1 := pl_len 2 z.data.toList
        have h2 : z.data.toList.length = z.size := by simp
        have h3 : y.size = (plL 2 z.data.toList).length := by rw [← hy]; rfl
        omega
      rw [hy]
      have CD : Hid (Cur D B ao len cap wd) := CC.out.below fun k hk => bd.block k hk
      have OD : Hid (wd.ownsRow w.heap.size 34 2 u3 l.length (lcells l)) := own_below OC.out bd
      have GD := grow_below GC bd
      clear bd GC CC OC hy
      have od := OD.out
      go_wp2_with (at_builtin; refine wpList_append_rule _ rfl _ _ 27 rfl w.heap.size 34 (.agg #[.bool false, .string ⟨#[]⟩]) 24 Try.underlying27 Try.infoLine rfl _ _ _ rfl od (.bool b) (.string y) rfl rfl rfl (by omega) (by unfold maxLen; omega) GD.size ?_)
      intro v' w1 o1 g1 _
      have hBd := CD.out.lt
      have OE : Hid (w1.ownsRow w.heap.size 34 2 v' (l ++ [(⟨b, y⟩ : LV)]).length (lcells (l ++ [(⟨b, y⟩ : LV)]))) := by
        show World.ownsRow _ _ _ _ _ _ _
        rw [List.length_append, lcells_append]
        exact o1
      have HBE : Hid (∀ x ∈ l ++ [(⟨b, y⟩ : LV)], x.pa.size ≤ 240) := fun x hx => by
        rcases List.mem_append.1 hx with h | h
        · exact HB.out x h
        · rw [List.mem_singleton.1 h]; exact hys
      have hnB : ∀ c, some c = u3.ownBlock → w.heap.size ≤ c := fun c e => (od.lt c e.symm).1
      have CE : Hid (Cur D B ao len cap w1) := by
        show Cur _ _ _ _ _ _
        have hDB := CD.out.le
        refine CD.out.keep (g1.block B hBd fun e => by have := hnB B e; omega) fun k hk => g1.block k (by omega) fun e => by have := hnB k e; omega
      have GE : w.grownBy w1 (some B) := ⟨g1.os.trans GD.os, g1.tape.trans GD.tape, g1.output.trans GD.output, Nat.le_trans GD.size g1.size, fun k hk hne => (g1.block k (Nat.lt_of_lt_of_le hk GD.size) fun e => by have := hnB k e; omega).trans (GD.block k hk hne)⟩
      have hlen : (l ++ [(⟨b, y⟩ : LV)]).length + (k - 1) ≤ n := by simp; omega
      clear o1 g1 od OD CD GD hnB
      go_wp2_with fail
      go_roundw
      case rel => exact ⟨k - 1, _, by go_num, hlen, HBE, OE, CE.out, GE⟩
      case measure => simp [intOf]; omega
    · have hls : LSz l := ln_bound (by omega) HB.out
      have HLS : Hid (LSz l) := hls
      clear hls
      go_wp2_with fail
      go_ret
      exact ⟨l, _, HLS.out, rfl, HO.out, HU.out, hgr⟩
set_option maxHeartbeats 2000000 in
theorem drawBest (ao : Option Addr) (len cap : Nat) (w : World) (hl : len ≤ 1048576) (hcode : CodeRow w.heap.size w ao len) :
    Calls Try.prog 33 #[.slice ao len cap] w fun e w' => ∃ (l : List LV) (vo : Option Addr) (vc : Nat) (s : ByteArray), LSz l ∧ s.size ≤ 100 ∧ e = .returned (.tuple #[.slice vo l.length vc, .string s]) ∧ LineRow w' (.slice vo l.length vc) l ∧ Below w.heap.size w w' := by
  have HCO : Hid (CodeRow w.heap.size w ao len) := hcode
  clear hcode
  go_enter Try.func33, Try.ntmps33
  go_wp2_with fail
  refine (l1New _ _ _ _ hl HCO.out).mono ?_
  rintro e wa ⟨B, rfl, hB, ca, ba⟩
  have CA : Hid (Cur w.heap.size B ao len cap wa) := ca
  have hBa := ca.lt
  clear ca HCO
  go_wp2_with fail
  refine (l12Lines _ _ _ _ _ _ CA.out).mono ?_
  rintro e wb ⟨l, v, hls, rfl, ob, cb, gb⟩
  have CB : Hid (Cur w.heap.size B ao len cap wb) := cb
  have OB : Hid (wb.ownsRow wa.heap.size 34 2 v l.length (lcells l)) := ob
  have HLS : Hid (LSz l) := hls
  have Bb : Below w.heap.size w wb := ba.grown gb ba.size (fun k hk => by cases hk; exact CA.out.le)
  have hDB := CA.out.le
  clear cb gb CA ba ob hls
  go_wp2_with fail
  refine (l12Path _ _ _ _ _ _ CB.out).mono ?_
  rintro e wc ⟨s, hs, rfl, cc, gc⟩
  have Bc : Below w.heap.size w wc := Bb.grown gc Bb.size (fun k hk => by cases hk; exact hDB)
  have OC : wc.ownsRow wa.heap.size 34 2 v l.length (lcells l) := OB.out.kept gc (.inr fun e => by have := (OB.out.lt B e).1; omega)
  have RC := LineRow.of_own' OC
  obtain ⟨vo, vc, rfl⟩ := RC.slice
  have HRC : Hid (LineRow wc (.slice vo l.length vc) l) := RC
  clear cc gc CB Bb OB OC RC
  go_wp2_with fail
  go_ret2
  exact ⟨l, vo, vc, s, HLS.out, by omega, rfl, HRC.out, Bc⟩
set_option maxHeartbeats 1000000 in
theorem drawAllowed (ao : Option Addr) (len cap : Nat) (w : World) (hl : len ≤ 1048576) (hcode : CodeRow w.heap.size w ao len) :
    Calls Try.prog 13 #[.slice ao len cap] w fun e w' => ∃ (l : List LV) (vo : Option Addr) (vc : Nat) (s : ByteArray), LSz l ∧ s.size ≤ 100 ∧ e = .returned (.tuple #[.slice vo l.length vc, .string s]) ∧ LineRow w' (.slice vo l.length vc) l ∧ Below w.heap.size w w' := by
  have HCO : Hid (CodeRow w.heap.size w ao len) := hcode
  clear hcode
  go_enter Try.func13, Try.ntmps13
  go_wp2_with fail
  refine (drawBest _ _ _ _ hl HCO.out).mono ?_
  rintro e wa ⟨l, vo, vc, s, hls, hs, rfl, hr, ba⟩
  have HR : Hid (LineRow wa (.slice vo l.length vc) l) := hr
  have HLS : Hid (LSz l) := hls
  clear hr hls HCO
  go_wp2_with fail
  go_ret2
  exact ⟨l, vo, vc, s, HLS.out, hs, rfl, HR.out, ba⟩
end Go.Proofs.Ytbjidcejpdeegaa
