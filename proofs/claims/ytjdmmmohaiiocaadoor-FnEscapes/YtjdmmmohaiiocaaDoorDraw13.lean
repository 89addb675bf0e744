/- Contracts of what is drawn for chapter 13: texts with marks. -/
import Derived.Test.YtjdmmmohaiiocaaDoorRows
import Derived.Test.YtjdmmmohaiiocaaDoorDrawWalk
import Derived.Test.YtjdmmmohaiiocaaDoorTokCode
import Derived.Deep.CutBlock
namespace Go.Proofs.YtjdmmmohaiiocaaDoor
open Go.RowKit
set_option linter.unusedVariables false

/-- Each is a text of at most M bytes for which this is true. -/
def strsP (p : List UInt8 → Bool) (M : Nat) (xs : List Value) : Bool := xs.all fun | .string z => decide (z.size ≤ M) && p z.data.toList | _ => false
theorem strsP_scells {p : List UInt8 → Bool} {M : Nat} : ∀ {xs : List Value}, strsP p M xs = true → ∃ fs : List ByteArray, xs = scells fs ∧ ∀ z ∈ fs, z.size ≤ M ∧ p z.data.toList = true
  | [], _ => ⟨[], rfl, fun z h => by simp at h⟩
  | u :: xs, h => by
    simp only [strsP, List.all_cons, Bool.and_eq_true] at h
    obtain ⟨h1, h2⟩ := h
    obtain ⟨fs, rfl, hf⟩ := strsP_scells (xs := xs) h2
    cases u with
    | string z => exact ⟨z :: fs, rfl, fun y hy => by
        rcases List.mem_cons.1 hy with rfl | hy
        · have h3 := Bool.and_eq_true_iff.1 h1
          exact ⟨of_decide_eq_true h3.1, h3.2⟩
        · exact hf y hy⟩
    | _ => simp at h1
theorem l1StrP (p : List UInt8 → Bool) (M m g cp G : Nat) (xs : List Value) (D B : Nat) (ao : Option Addr) (len cap : Nat) (w : World) (hm : 0 < m) (hm1 : m ≤ 1099511627776) (hcur : Cur D B ao len cap w)
    (hown : w.ownsRow G 9 1 (.slice (some ⟨g, 0, none⟩) m cp) m xs) (hgB : g ≠ B) (hx : strsP p M xs = true) :
    Calls Tryd.prog 36 #[.pointer (some ⟨B, 0, none⟩), .slice (some ⟨g, 0, none⟩) m cp] w fun e w' => ∃ z : ByteArray, (z.size ≤ M ∧ p z.data.toList = true) ∧ e = .returned (.string z) ∧ Cur D B ao len cap w' ∧ w.grownBy w' (some B) := by
  obtain ⟨fs, rfl, hf⟩ := strsP_scells hx
  refine (l1Str m g cp G fs D B ao len cap w hm hm1 hcur hown hgB).mono ?_
  rintro e w' ⟨z, hz, he, hc, hg⟩
  exact ⟨z, hf z hz, he, hc, hg⟩
theorem app_data (a b : ByteArray) : (a ++ b).data.toList = a.data.toList ++ b.data.toList := by simp
set_option maxRecDepth 100000 in
set_option maxHeartbeats 2000000 in
theorem l13Text (D B : Nat) (ao : Option Addr) (len cap : Nat) (w : World) (hcur : Cur D B ao len cap w) :
    Calls Tryd.prog 22 #[.pointer (some ⟨B, 0, none⟩)] w fun e w' => ∃ z : ByteArray, (z.size ≤ 140 ∧ Hid (closedB z.data.toList = true)) ∧ e = .returned (.string z) ∧ Cur D B ao len cap w' ∧ w.grownBy w' (some B) := by
  have HC : Hid (Cur D B ao len cap w) := hcur
  clear hcur
  go_enter Tryd.func22, Tryd.ntmps22
  go_wp2_with fail
  refine (l1Below 7 _ _ _ _ _ _ (by omega) (by omega) HC.out).mono ?_
  rintro e wa ⟨x, hx0, hx1, rfl, ca, ga⟩
  have CA : Hid (Cur D B ao len cap wa) := ca
  clear ca
  obtain ⟨n, rfl⟩ := Int.eq_ofNat_of_zero_le hx0
  go_wp2_with fail
  go_loopw [3, 4] (fun a i wr => ∃ (k : Nat) (z : ByteArray), k ≤ n ∧ i = .int .i64 k ∧ a = .string z ∧ (z.size + 20 * k ≤ 20 * n ∧ Hid (closedB z.data.toList = true)) ∧ Cur D B ao len cap wr ∧ w.grownBy wr (some B)) (fun _ i _ => (intOf i).toNat)
  case atStart => exact ⟨n, ⟨#[]⟩, Nat.le_refl _, rfl, rfl, ⟨by simp [ByteArray.size], show closedB [] = true from rfl⟩, CA.out, ga⟩
  case round =>
    obtain ⟨k, z, hk, rfl, rfl, ⟨hz, HZ⟩, hcu, hgr⟩ := hrel
    have HU : Hid (Cur D B ao len cap wr) := hcu
    have hB := hcu.lt
    clear hcu
    by_cases hp : 0 < k
    · go_wp2_with fail
      refine (l1StrP closedB 20 14 _ 14 0 _ _ _ _ _ _ _ (by omega) (by omega) (HU.out.alloc _) (World.ownsRow_lit wr _ 14 (Nat.zero_le _) (by decide) rfl) (by omega) (by kernel_rfl)).mono ?_
      rintro e wc ⟨y, ⟨hy, hyc⟩, rfl, cc, gc⟩
      have HY : Hid (closedB (z ++ y).data.toList = true) := by show _ = _; rw [app_data]; exact closed_app HZ.out hyc
      clear hyc
      have CC : Hid (Cur D B ao len cap wc) := cc
      have G := grow_trans (grow_alloc hgr _) gc
      clear cc gc hgr
      go_wp2_with fail
      go_roundw
      case rel => exact ⟨k - 1, z ++ y, by omega, by go_num, rfl, ⟨by rw [ByteArray.size_append]; omega, HY⟩, CC.out, G⟩
      case measure => simp [intOf]; omega
    · go_wp2_with fail
      go_ret
      exact ⟨z, ⟨by omega, HZ⟩, rfl, HU.out, hgr⟩
set_option maxRecDepth 100000 in
set_option maxHeartbeats 2000000 in
theorem l13Bad (D B : Nat) (ao : Option Addr) (len cap : Nat) (w : World) (hcur : Cur D B ao len cap w) :
    Calls Tryd.prog 28 #[.pointer (some ⟨B, 0, none⟩)] w fun e w' => ∃ z : ByteArray, (z.size ≤ 20 ∧ Hid (niceB z.data.toList = true)) ∧ e = .returned (.string z) ∧ Cur D B ao len cap w' ∧ w.grownBy w' (some B) := by
  have HC : Hid (Cur D B ao len cap w) := hcur
  have hB := hcur.lt
  clear hcur
  go_enter Tryd.func28, Tryd.ntmps28
  go_wp2_with fail
  refine (l1StrP niceB 20 22 _ 22 0 _ _ _ _ _ _ _ (by omega) (by omega) (HC.out.alloc _) (World.ownsRow_lit w _ 22 (Nat.zero_le _) (by decide) rfl) (by omega) (by kernel_rfl)).mono ?_
  rintro e wc ⟨y, ⟨hy, hyc⟩, rfl, cc, gc⟩
  have HY : Hid (niceB y.data.toList = true) := hyc
  clear hyc
  have CC : Hid (Cur D B ao len cap wc) := cc
  have G := grow_trans (World.grownBy_alloc w _ (some B)) gc
  clear cc gc
  go_wp2_with fail
  go_ret
  exact ⟨y, ⟨hy, HY⟩, rfl, CC.out, G⟩
set_option maxHeartbeats 1000000 in
theorem drawEscape (ao : Option Addr) (len cap : Nat) (w : World) (hl : len ≤ 1048576) (hcode : CodeRow w.heap.size w ao len) :
    Calls Tryd.prog 9 #[.slice ao len cap] w fun e w' => ∃ z : ByteArray, z.size ≤ 140 ∧ e = .returned (.string z) ∧ Below w.heap.size w w' := by
  have HCO : Hid (CodeRow w.heap.size w ao len) := hcode
  clear hcode
  go_enter Tryd.func9, Tryd.ntmps9
  go_wp2_with fail
  refine (l1New _ _ _ _ hl HCO.out).mono ?_
  rintro e wa ⟨B, rfl, hB, ca, ba⟩
  have CA : Hid (Cur w.heap.size B ao len cap wa) := ca
  clear ca HCO
  go_wp2_with fail
  refine (l13Text _ _ _ _ _ _ CA.out).mono ?_
  rintro e wb ⟨z, ⟨hz, _⟩, rfl, cb, gb⟩
  have Bb : Below w.heap.size w wb := ba.grown gb ba.size (fun k hk => by cases hk; exact CA.out.le)
  clear cb gb CA ba
  go_wp2_with fail
  go_ret
  exact ⟨z, hz, rfl, Bb⟩
set_option maxRecDepth 100000 in
set_option maxHeartbeats 4000000 in
theorem drawTokens (ao : Option Addr) (len cap : Nat) (w : World) (hl : len ≤ 1048576) (hcode : CodeRow w.heap.size w ao len) :
    Calls Tryd.prog 14 #[.slice ao len cap] w fun e w' => ∃ z : ByteArray, (z.size ≤ 8000 ∧ Hid (DrawnT z.data.toList)) ∧ e = .returned (.string z) ∧ Below w.heap.size w w' := by
  have HCO : Hid (CodeRow w.heap.size w ao len) := hcode
  clear hcode
  go_enter Tryd.func14, Tryd.ntmps14
  go_wp2_with fail
  refine (l1New _ _ _ _ hl HCO.out).mono ?_
  rintro e wa ⟨B, rfl, hB, ca, ba⟩
  have CA : Hid (Cur w.heap.size B ao len cap wa) := ca
  clear ca HCO
  go_wp2_with fail
  refine (l13Text _ _ _ _ _ _ CA.out).mono ?_
  rintro e wb ⟨z, ⟨hz, HZ⟩, rfl, cb, gb⟩
  have CB : Hid (Cur w.heap.size B ao len cap wb) := cb
  have Bb : Below w.heap.size w wb := ba.grown gb ba.size (fun k hk => by cases hk; exact CA.out.le)
  clear cb gb CA ba
  go_wp2_with fail
  refine (l1Below 5 _ _ _ _ _ _ (by omega) (by omega) CB.out).mono ?_
  rintro e wq ⟨x, hx0, hx1, rfl, cc, gc⟩
  have CC : Hid (Cur w.heap.size B ao len cap wq) := cc
  have Bc : Below w.heap.size w wq := Bb.grown gc Bb.size (fun k hk => by cases hk; exact CB.out.le)
  clear cc gc CB Bb
  go_upto_block 0 with fail
  go_cut [4] (fun v wx => ∃ y : ByteArray, v = .string y ∧ (y.size ≤ 160 ∧ Hid (niceB y.data.toList = true)) ∧ Cur w.heap.size B ao len cap wx ∧ Below w.heap.size w wx)
  case first =>
    by_cases h0 : x = 0
    · subst h0
      go_wp2_with fail
      refine (l13Bad _ _ _ _ _ _ CC.out).mono ?_
      rintro e wd ⟨y, ⟨hy, HY⟩, rfl, cd, gd⟩
      have HZY : Hid (niceB (z ++ y).data.toList = true) := by show _ = _; rw [app_data]; exact closed_nice HZ.out HY.out
      have CD : Hid (Cur w.heap.size B ao len cap wd) := cd
      have Bd : Below w.heap.size w wd := Bc.grown gd Bc.size (fun k hk => by cases hk; exact CC.out.le)
      clear cd gd
      go_wp2_with fail
      go_meet
      exact ⟨z ++ y, rfl, ⟨by rw [ByteArray.size_append]; omega, HZY⟩, CD.out, Bd⟩
    · have h0i : (x == 0) = false := beq_eq_false_iff_ne.2 h0
      go_wp2_with fail
      go_meet
      exact ⟨z, rfl, ⟨by omega, closed_is HZ.out⟩, CC.out, Bc⟩
  case rest =>
    obtain ⟨y, rfl, ⟨hy, HY⟩, cd, Bd⟩ := hcut
    have HDY : Hid (DrawnT y.data.toList) := .inl ⟨by simpa using hy, HY.out⟩
    generalize wc = wd at *
    have CD : Hid (Cur w.heap.size B ao len cap wd) := cd
    have HLE := cd.le
    clear cd CC Bc
    go_wp2_with fail
    refine (l1Once 100 _ _ _ _ _ _ (by omega) (by omega) CD.out).mono ?_
    rintro e wf ⟨b, rfl, cf, gf⟩
    have CF : Hid (Cur w.heap.size B ao len cap wf) := cf
    have Bf : Below w.heap.size w wf := Bd.grown gf Bd.size (fun k hk => by cases hk; exact HLE)
    clear cf gf CD Bd
    cases b with
    | false =>
      go_wp2_with fail
      go_ret
      exact ⟨y, ⟨by omega, HDY⟩, rfl, Bf⟩
    | true =>
      go_wp2_with fail
      go_loopw [4, 5] (fun a i wr => ∃ (k : Nat) (u : ByteArray), k ≤ 1501 ∧ i = .int .i64 k ∧ a = .string u ∧ (u.size = 4 * k ∧ Hid (u.data.toList = repA k)) ∧ Cur w.heap.size B ao len cap wr ∧ Below w.heap.size w wr) (fun _ i _ => 1501 - (intOf i).toNat)
      case atStart => exact ⟨0, ⟨#[]⟩, Nat.zero_le _, rfl, rfl, ⟨rfl, rfl⟩, CF.out, Bf⟩
      case round =>
        obtain ⟨k, u, hk, rfl, rfl, ⟨hu, HR⟩, hcu, hbe⟩ := hrel
        have HR2 : Hid ((u ++ ⟨#[60, 97, 47, 62]⟩ : ByteArray).data.toList = repA (k + 1)) := by show _ = _; rw [app_data, HR.out, ← repA_snoc]
        have HU : Hid (Cur w.heap.size B ao len cap wr) := hcu
        clear hcu CF Bf
        go_wp2_with fail
        refine (l1Below 2 _ _ _ _ _ _ (by omega) (by omega) HU.out).mono ?_
        rintro e wg ⟨x2, hx20, hx21, rfl, cg, gg⟩
        have CG : Hid (Cur w.heap.size B ao len cap wg) := cg
        have Bg : Below w.heap.size w wg := hbe.grown gg hbe.size (fun k hk => by cases hk; exact HLE)
        clear cg gg HU hbe
        by_cases hlt : (k : Int) < 1500 + x2
        · go_wp2_with fail
          go_roundw
          case rel => exact ⟨k + 1, u ++ ⟨#[60, 97, 47, 62]⟩, by omega, by go_num, rfl, ⟨(by rw [ByteArray.size_append, hu]; show 4 * k + 4 = _; omega), HR2⟩, CG.out, Bg⟩
          case measure => simp [intOf]; omega
        · go_wp2_with fail
          go_ret
          exact ⟨u, ⟨by omega, .inr ⟨k, HR.out⟩⟩, rfl, Bg⟩
end Go.Proofs.YtjdmmmohaiiocaaDoor
