/- Proved: laws.FnAddresses answers true at every []byte and leaves it as it was, the tables of package math/bits and of internal/strconv being as their text lays them; no condition. -/
import Derived.Test.YtophgcneckjdjaaDoorRows
import Derived.Test.YtophgcneckjdjaaDoorCards
import Derived.Test.YtophgcneckjdjaaDoorTie
import Derived.Test.YtophgcneckjdjaaDoorLaidPow
import Derived.Test.YtophgcneckjdjaaDoorAddrBack
import Derived.Test.YtophgcneckjdjaaDoorArrEq
import Derived.Test.YtophgcneckjdjaaDoorLaidBru
import Derived.OpenShut
import Derived.ShutString
namespace Go.Proofs.YtophgcneckjdjaaDoor.fnAddresses
open Go.ChangeShapes Go.WideShapes Go.ChangeAt Go.RowKit
open Go.ChangeMaps (open_string shut_string)
set_option linter.unusedVariables false

def IsRow (k : IntKind) (w : World) (a : Option Addr) (len cap : Nat) (zs : List Int) : Prop :=
  (a = none ∧ len = 0 ∧ cap = 0 ∧ zs = []) ∨
  ∃ x, a = some x ∧ len ≤ cap ∧ cap ≤ maxLen ∧ zs.length = cap ∧ (∀ i, i < zs.length → w.cell? (x.add i) = some (.int k (zs.getD i 0))) ∧ ∀ n ∈ zs, (Lit.int k n).wf = true

theorem walk (a0 : Option Addr) (len0 cap0 : Nat) (z0 : List Int) (w : World) (w0 : IsRow .u8 w a0 len0 cap0 z0) (hT : Pow w) (hM : MaxI w) (hD : Bruijn w) :
    Calls Tryd.prog 3 #[.slice a0 len0 cap0] w fun e w' => e = .returned (.bool true) ∧ Below w.heap.size w w' := by
  by_cases hbig : 1048576 < (len0 : Int)
  · go_enter Tryd.func3, Tryd.ntmps3
    go_wp2_with fail
    refine (big_yes _ _ _ _ hbig).mono ?_
    rintro e w' ⟨rfl, rfl⟩
    go_wp2
    go_ret
    exact ⟨rfl, Below.refl _ _⟩
  · have hl : len0 ≤ 1048576 := by omega
    have hcode : CodeRow w.heap.size w a0 len0 := by
      rcases w0 with ⟨rfl, rfl, rfl, rfl⟩ | ⟨x, rfl, h1, h2, h3, h4, h5⟩
      · exact .inl rfl
      · by_cases h0 : len0 = 0
        · exact .inl h0
        · obtain ⟨b, off, rfl, hc⟩ := ints_at h4 (by omega)
          refine .inr ⟨b, off, rfl, World.block_lt_of_cell? w ⟨b, off + 0, none⟩ (hc 0 (by omega)), fun i hi => ?_⟩
          refine ⟨_, hc i (by omega), ?_⟩
          have hb := bounds_u8 (h5 (z0.getD i 0) (by
            rw [List.getD_eq_getElem?_getD, List.getElem?_eq_getElem (by omega)]
            exact List.getElem_mem _))
          exact hb
    have HT : Hid (Pow w) := hT
    have HM : Hid (MaxI w) := hM
    have HD : Hid (Bruijn w) := hD
    clear w0 hT hM hD
    have HCO : Hid (CodeRow w.heap.size w a0 len0) := hcode
    clear hcode
    go_enter Tryd.func3, Tryd.ntmps3
    go_wp2_with fail
    refine (big_no _ _ _ _ (by omega)).mono ?_
    rintro e w' ⟨rfl, rfl⟩
    go_wp2_with fail
    refine (drawSix _ _ _ _ hl HCO.out).mono ?_
    rintro e wa ⟨x0, x1, x2, x3, x4, x5, x6, x7, n, h6, hn0, hn1, rfl, ba⟩
    have CT : Hid (∀ W, Pow W → Calls Tryd.prog 11 #[.int .i64 n] W fun e w' => e = .returned (.string (ip4T n)) ∧ Below W.heap.size W w') := fun W h => implIp4Text n W hn0 hn1 h
    have CP : Hid (∀ W, Pow W → Calls Tryd.prog 12 #[.string (ip4T n)] W fun e w' => e = .returned (.tuple #[.int .i64 n, .bool true]) ∧ Below W.heap.size W w') := fun W h => implParse_back hn0 hn1 W h
    have CL : Hid (∀ W, Calls Tryd.prog 13 #[.string (ip4T n)] W fun e w' => e = .returned (.tuple #[.int .i64 n, .bool true]) ∧ Below W.heap.size W w') := fun W => implLoose_back hn0 hn1 W
    have C6 : Hid (∀ W, Bruijn W → Calls Tryd.prog 14 #[.agg #[.int .i64 x0, .int .i64 x1, .int .i64 x2, .int .i64 x3, .int .i64 x4, .int .i64 x5, .int .i64 x6, .int .i64 x7]] W fun e w' => e = .returned (.string ⟨(ip6L [x0, x1, x2, x3, x4, x5, x6, x7]).toArray⟩) ∧ Below W.heap.size W w') := fun W h => implIp6Text x0 x1 x2 x3 x4 x5 x6 x7 W h
    have CQ : Hid (∀ W, Pow W → Bruijn W → MaxI W → Calls Tryd.prog 15 #[.string ⟨(ip6L [x0, x1, x2, x3, x4, x5, x6, x7]).toArray⟩] W fun e w' => e = .returned (.tuple #[.agg #[.int .i64 x0, .int .i64 x1, .int .i64 x2, .int .i64 x3, .int .i64 x4, .int .i64 x5, .int .i64 x6, .int .i64 x7], .bool true]) ∧ Below W.heap.size W w') := fun W a b c => implParse6_back h6 W a b c
    have hsz := ip6_sizes h6
    generalize ip4T n = T at CT CP CL
    generalize (⟨(ip6L [x0, x1, x2, x3, x4, x5, x6, x7]).toArray⟩ : ByteArray) = T6 at C6 CQ hsz
    obtain ⟨hs1, hs2⟩ := hsz
    have hs1' : 2 ≤ (T6.size : Int) := by omega
    have hs2' : (T6.size : Int) ≤ 39 := by omega
    clear h6 hn0 hn1
    have HB0 : Hid (Below w.heap.size w (wa.alloc (.cells #[.int .i64 x0, .int .i64 x1, .int .i64 x2, .int .i64 x3, .int .i64 x4, .int .i64 x5, .int .i64 x6, .int .i64 x7] 24))) := ba.alloc ba.size _
    clear ba
    go_wp2_with fail
    refine (CT.out _ (pow_below HT.out HB0.out)).mono ?_
    rintro e w1 ⟨rfl, b1⟩
    have HB1 : Hid (Below w.heap.size w w1) := HB0.out.trans (b1.mono HB0.out.size)
    have c1 : Hid (Below (wa.alloc (.cells #[.int .i64 x0, .int .i64 x1, .int .i64 x2, .int .i64 x3, .int .i64 x4, .int .i64 x5, .int .i64 x6, .int .i64 x7] 24)).heap.size (wa.alloc (.cells #[.int .i64 x0, .int .i64 x1, .int .i64 x2, .int .i64 x3, .int .i64 x4, .int .i64 x5, .int .i64 x6, .int .i64 x7] 24)) w1) := b1
    clear b1
    go_wp2_with fail
    refine (CP.out _ (pow_below HT.out HB1.out)).mono ?_
    rintro e w2 ⟨rfl, b2⟩
    have HB2 : Hid (Below w.heap.size w w2) := HB1.out.trans (b2.mono HB1.out.size)
    have c2 : Hid (Below (wa.alloc (.cells #[.int .i64 x0, .int .i64 x1, .int .i64 x2, .int .i64 x3, .int .i64 x4, .int .i64 x5, .int .i64 x6, .int .i64 x7] 24)).heap.size (wa.alloc (.cells #[.int .i64 x0, .int .i64 x1, .int .i64 x2, .int .i64 x3, .int .i64 x4, .int .i64 x5, .int .i64 x6, .int .i64 x7] 24)) w2) := c1.out.trans (b2.mono c1.out.size)
    clear b2 c1 HB1
    go_wp2_with fail
    refine (CL.out _).mono ?_
    rintro e w3 ⟨rfl, b3⟩
    have HB3 : Hid (Below w.heap.size w w3) := HB2.out.trans (b3.mono HB2.out.size)
    have c3 : Hid (Below (wa.alloc (.cells #[.int .i64 x0, .int .i64 x1, .int .i64 x2, .int .i64 x3, .int .i64 x4, .int .i64 x5, .int .i64 x6, .int .i64 x7] 24)).heap.size (wa.alloc (.cells #[.int .i64 x0, .int .i64 x1, .int .i64 x2, .int .i64 x3, .int .i64 x4, .int .i64 x5, .int .i64 x6, .int .i64 x7] 24)) w3) := c2.out.trans (b3.mono c2.out.size)
    clear b3 c2 HB2
    have q0 : w3.cell? ⟨wa.heap.size, 0, none⟩ = some (.int .i64 x0) := cell_later c3.out (cell8 wa x0 x1 x2 x3 x4 x5 x6 x7 0 (by decide))
    have q1 : w3.cell? ⟨wa.heap.size, 1, none⟩ = some (.int .i64 x1) := cell_later c3.out (cell8 wa x0 x1 x2 x3 x4 x5 x6 x7 1 (by decide))
    have q2 : w3.cell? ⟨wa.heap.size, 2, none⟩ = some (.int .i64 x2) := cell_later c3.out (cell8 wa x0 x1 x2 x3 x4 x5 x6 x7 2 (by decide))
    have q3 : w3.cell? ⟨wa.heap.size, 3, none⟩ = some (.int .i64 x3) := cell_later c3.out (cell8 wa x0 x1 x2 x3 x4 x5 x6 x7 3 (by decide))
    have q4 : w3.cell? ⟨wa.heap.size, 4, none⟩ = some (.int .i64 x4) := cell_later c3.out (cell8 wa x0 x1 x2 x3 x4 x5 x6 x7 4 (by decide))
    have q5 : w3.cell? ⟨wa.heap.size, 5, none⟩ = some (.int .i64 x5) := cell_later c3.out (cell8 wa x0 x1 x2 x3 x4 x5 x6 x7 5 (by decide))
    have q6 : w3.cell? ⟨wa.heap.size, 6, none⟩ = some (.int .i64 x6) := cell_later c3.out (cell8 wa x0 x1 x2 x3 x4 x5 x6 x7 6 (by decide))
    have q7 : w3.cell? ⟨wa.heap.size, 7, none⟩ = some (.int .i64 x7) := cell_later c3.out (cell8 wa x0 x1 x2 x3 x4 x5 x6 x7 7 (by decide))
    go_wp2_with fail
    refine (C6.out _ (bruijn_below HD.out HB3.out)).mono ?_
    rintro e w4 ⟨rfl, b4⟩
    have HB4 : Hid (Below w.heap.size w w4) := HB3.out.trans (b4.mono HB3.out.size)
    have c4 : Hid (Below (wa.alloc (.cells #[.int .i64 x0, .int .i64 x1, .int .i64 x2, .int .i64 x3, .int .i64 x4, .int .i64 x5, .int .i64 x6, .int .i64 x7] 24)).heap.size (wa.alloc (.cells #[.int .i64 x0, .int .i64 x1, .int .i64 x2, .int .i64 x3, .int .i64 x4, .int .i64 x5, .int .i64 x6, .int .i64 x7] 24)) w4) := c3.out.trans (b4.mono c3.out.size)
    clear b4 c3 HB3 q0 q1 q2 q3 q4 q5 q6 q7
    go_wp2_with fail
    refine (CQ.out _ (pow_below HT.out HB4.out) (bruijn_below HD.out HB4.out) (max_below HM.out HB4.out)).mono ?_
    rintro e w5 ⟨rfl, b5⟩
    have HB5 : Hid (Below w.heap.size w (w5.alloc (.cells #[.int .i64 x0, .int .i64 x1, .int .i64 x2, .int .i64 x3, .int .i64 x4, .int .i64 x5, .int .i64 x6, .int .i64 x7] 24))) := (HB4.out.trans (b5.mono HB4.out.size)).alloc (Nat.le_trans HB4.out.size b5.size) _
    have c5 : Hid (Below (wa.alloc (.cells #[.int .i64 x0, .int .i64 x1, .int .i64 x2, .int .i64 x3, .int .i64 x4, .int .i64 x5, .int .i64 x6, .int .i64 x7] 24)).heap.size (wa.alloc (.cells #[.int .i64 x0, .int .i64 x1, .int .i64 x2, .int .i64 x3, .int .i64 x4, .int .i64 x5, .int .i64 x6, .int .i64 x7] 24)) (w5.alloc (.cells #[.int .i64 x0, .int .i64 x1, .int .i64 x2, .int .i64 x3, .int .i64 x4, .int .i64 x5, .int .i64 x6, .int .i64 x7] 24))) := (c4.out.trans (b5.mono c4.out.size)).alloc (Nat.le_trans c4.out.size b5.size) _
    clear b5 c4 HB4
    have q0 : (w5.alloc (.cells #[.int .i64 x0, .int .i64 x1, .int .i64 x2, .int .i64 x3, .int .i64 x4, .int .i64 x5, .int .i64 x6, .int .i64 x7] 24)).cell? ⟨wa.heap.size, 0, none⟩ = some (.int .i64 x0) := cell_later c5.out (cell8 wa x0 x1 x2 x3 x4 x5 x6 x7 0 (by decide))
    have q1 : (w5.alloc (.cells #[.int .i64 x0, .int .i64 x1, .int .i64 x2, .int .i64 x3, .int .i64 x4, .int .i64 x5, .int .i64 x6, .int .i64 x7] 24)).cell? ⟨wa.heap.size, 1, none⟩ = some (.int .i64 x1) := cell_later c5.out (cell8 wa x0 x1 x2 x3 x4 x5 x6 x7 1 (by decide))
    have q2 : (w5.alloc (.cells #[.int .i64 x0, .int .i64 x1, .int .i64 x2, .int .i64 x3, .int .i64 x4, .int .i64 x5, .int .i64 x6, .int .i64 x7] 24)).cell? ⟨wa.heap.size, 2, none⟩ = some (.int .i64 x2) := cell_later c5.out (cell8 wa x0 x1 x2 x3 x4 x5 x6 x7 2 (by decide))
    have q3 : (w5.alloc (.cells #[.int .i64 x0, .int .i64 x1, .int .i64 x2, .int .i64 x3, .int .i64 x4, .int .i64 x5, .int .i64 x6, .int .i64 x7] 24)).cell? ⟨wa.heap.size, 3, none⟩ = some (.int .i64 x3) := cell_later c5.out (cell8 wa x0 x1 x2 x3 x4 x5 x6 x7 3 (by decide))
    have q4 : (w5.alloc (.cells #[.int .i64 x0, .int .i64 x1, .int .i64 x2, .int .i64 x3, .int .i64 x4, .int .i64 x5, .int .i64 x6, .int .i64 x7] 24)).cell? ⟨wa.heap.size, 4, none⟩ = some (.int .i64 x4) := cell_later c5.out (cell8 wa x0 x1 x2 x3 x4 x5 x6 x7 4 (by decide))
    have q5 : (w5.alloc (.cells #[.int .i64 x0, .int .i64 x1, .int .i64 x2, .int .i64 x3, .int .i64 x4, .int .i64 x5, .int .i64 x6, .int .i64 x7] 24)).cell? ⟨wa.heap.size, 5, none⟩ = some (.int .i64 x5) := cell_later c5.out (cell8 wa x0 x1 x2 x3 x4 x5 x6 x7 5 (by decide))
    have q6 : (w5.alloc (.cells #[.int .i64 x0, .int .i64 x1, .int .i64 x2, .int .i64 x3, .int .i64 x4, .int .i64 x5, .int .i64 x6, .int .i64 x7] 24)).cell? ⟨wa.heap.size, 6, none⟩ = some (.int .i64 x6) := cell_later c5.out (cell8 wa x0 x1 x2 x3 x4 x5 x6 x7 6 (by decide))
    have q7 : (w5.alloc (.cells #[.int .i64 x0, .int .i64 x1, .int .i64 x2, .int .i64 x3, .int .i64 x4, .int .i64 x5, .int .i64 x6, .int .i64 x7] 24)).cell? ⟨wa.heap.size, 7, none⟩ = some (.int .i64 x7) := cell_later c5.out (cell8 wa x0 x1 x2 x3 x4 x5 x6 x7 7 (by decide))
    have heq := eq8 x0 x1 x2 x3 x4 x5 x6 x7
    go_wp2_with fail
    go_ret
    exact ⟨rfl, HB5.out⟩

set_option maxRecDepth 100000 in
theorem contract (H : Type) (enc : TypeId × Value → H) (W : World) (base : Nat) (args : Array Value) (ds gs : List (DataW H)) (before : List MemPlace)
    (hval : ∀ (j : Nat) t v, Tryd.f3.params[j]? = some t → args[j]? = some v → Value.okWide Tryd.prog W .any base t v)
    (hW : DataW.Whole enc Tryd.prog Tryd.f3.params.toList Rows.fnAddressesSpec.vars false W args.toList ds gs before) (hL : laidMet Tryd.prog laidPow W) (hSh : W.ShapedOpen Tryd.prog) :
    Calls Tryd.prog 3 args W fun e W' => ∃ v, e = .returned v ∧ Rows.fnAddressesSpec.post enc Tryd.prog Tryd.f3 false true false false W args v W' := by
  have hW' := hW
  obtain ⟨p, q, hA0, hV, rfl, hfz, hnd⟩ := hW
  have hA : DataW.TrodAll enc Tryd.prog W 0 (fun _ => true) true Tryd.f3.params.toList args.toList ds p := hA0
  rw [Tryd.params3] at hA hval
  obtain ⟨v0, vs0, d0, ds0, p0, q0, hargs, rfl, rfl, h0, r0⟩ := trodAll_cons hA
  obtain ⟨rfl, rfl, rfl⟩ := trodAll_nil r0
  obtain rfl : args = #[v0] := by cases args; simp_all
  obtain ⟨rfl, rfl⟩ := trodVars_none hV
  obtain ⟨a0, len0, cap0, rfl⟩ := okWide_slice Tryd.underlying22 (hval 0 22 v0 rfl rfl)
  have k0 := h0
  have lt0 : ∀ x ∈ p0, x.block < W.heap.size := by obtain ⟨m, hm⟩ := k0; exact DataW.trod_lt m _ _ _ hm
  obtain ⟨z0, w0⟩ : ∃ zs, IsRow .u8 W a0 len0 cap0 zs := by
    obtain ⟨fuel, hf⟩ := h0
    rcases open_ints Tryd.underlying22 Tryd.underlying5 (by kernel_rfl) hf with ⟨hcs, _⟩ | ⟨x, l, c, zs, hcs, _, hl, hm, hz, _, hcell, hwz⟩
    · simp [Value.cells] at hcs
      obtain ⟨rfl, rfl, rfl⟩ := hcs
      exact ⟨[], .inl ⟨rfl, rfl, rfl, rfl⟩⟩
    · simp [Value.cells] at hcs
      obtain ⟨rfl, rfl, rfl⟩ := hcs
      exact ⟨zs, .inr ⟨_, rfl, hl, hm, by simpa using hz, hcell, hwz⟩⟩
  clear hA0
  refine (walk a0 len0 cap0 z0 W w0 (pow_laid hL) (max_shaped hSh) (bru_laid hL)).mono fun e W' ⟨he, bel⟩ => ?_
  subst he
  exact ⟨_, rfl, _, _, _, [], _, [], hW', trodAll_mk1 (shut_bool Tryd.underlying4 _), (trodAll_cons_mk (Below.trod laidOutPow (by kernel_rfl) (of_decide_eq_true (by kernel_rfl)) k0 bel lt0) trodAll_mk0), rfl, bel.frame _, fun h => by cases h⟩

theorem witness_row (os : Os) {H : Type} (enc : TypeId × Value → H) :
    (OpenSpec.ofChange Rows.fnAddressesSpec).preRow enc Tryd.prog Tryd.f3 Rows.fnAddressesRow.domain false laidPow (({ World.holding Tryd.prog os ⟨#[], #[], []⟩ with heap := powHeap (World.holding Tryd.prog os ⟨#[], #[], []⟩).heap } : World).forCall (fun _ _ => 0) ⟨#[], #[.slice none 0 0], []⟩).memory #[.slice none 0 0] := by
  have hw : (DataW.whole enc Tryd.prog (({ World.holding Tryd.prog os ⟨#[], #[], []⟩ with heap := powHeap (World.holding Tryd.prog os ⟨#[], #[], []⟩).heap } : World).forCall (fun _ _ => 0) ⟨#[], #[.slice none 0 0], []⟩).memory Tryd.f3.params.toList Rows.fnAddressesSpec.vars false (#[.slice none 0 0] : Array Value).toList 8).map (fun x => (x.1, x.2.1)) =
      some ([.nil], []) := by kernel_rfl
  obtain ⟨⟨x1, x2, x3⟩, hx, hx1⟩ := Option.map_eq_some_iff.1 hw
  simp only [Prod.mk.injEq] at hx1
  obtain ⟨rfl, rfl⟩ := hx1
  exact OpenSpec.preRow_of_cond 8 hx (by kernel_rfl) (fun k hk => by cases hk) (by kernel_rfl) (pow_met os _)

set_option maxRecDepth 100000 in
set_option maxHeartbeats 2000000 in
theorem lifted (os : Os) (started : os.Started) (H : Type) (enc : TypeId × Value → H) (F : Stop.Interp) :
    ReturnsInHanded {} Tryd.checked os 3 .any ((OpenSpec.ofChange Rows.fnAddressesSpec).preRow enc Tryd.prog Tryd.f3 Rows.fnAddressesRow.domain false laidPow) (((OpenSpec.ofChange Rows.fnAddressesSpec).at F).post enc Tryd.prog Tryd.f3 false true false false) := by
  refine returnsInHanded_of_row (C := Tryd.checked) (s := OpenSpec.ofChange Rows.fnAddressesSpec) ownPow started (by kernel_rfl) Tryd.func3
    (witness_row_atRef (enc := enc) (C := Tryd.checked) false ({ World.holding Tryd.prog os ⟨#[], #[], []⟩ with heap := powHeap (World.holding Tryd.prog os ⟨#[], #[], []⟩).heap }) #[.slice none 0 0] rfl (by kernel_rfl) (by kernel_rfl) (by kernel_rfl) (witness_row os enc)) ?_
  intro W base args ds gs before hval hW _ _ _ hL hSh _
  exact contract H enc W base args ds gs before hval hW hL hSh

theorem said : Rows.FnAddressesSaid :=
  OpenClaim.holds_of_cond 3 Tryd.f3 rfl rfl rfl rfl rfl rfl rfl ⟨rfl, rfl, rfl, rfl, rfl⟩ rfl rfl rfl rfl rfl (by kernel_rfl) Tryd.func3 (by kernel_rfl)
    (of_decide_eq_true (by kernel_rfl)) (by unfold Func.isWrapper; first | (rw [if_pos (by decide +kernel)]; kernel_rfl) | (rw [if_neg (by decide +kernel)]; exact ⟨rfl, rfl⟩))
    (fun os started H enc _ F => by rw [OpenClaim.pre_eq_preRow]; exact lifted os started H enc F)

theorem plain (f : FuncId) (fn : Func) (hf : Tryd.pinned.checked.prog.funcNamed "loop.example/g00191/laws.FnAddresses" = some f) (hfn : Tryd.pinned.checked.prog.funcs[f]? = some fn) :
    false = Tryd.pinned.checked.prog.looks [] ∧ ∀ (j : Nat) t, fn.params[j]? = some t → Tryd.pinned.checked.prog.wantsStandIn t = false := by
  obtain rfl : f = 3 := Option.some.inj ((show Tryd.prog.funcNamed "loop.example/g00191/laws.FnAddresses" = some 3 by kernel_rfl).symm.trans hf) |>.symm
  obtain rfl : fn = Tryd.f3 := (Option.some.inj (Tryd.func3.symm.trans hfn)).symm
  refine ⟨by kernel_rfl, fun j t ht => ?_⟩
  rw [Tryd.params3] at ht
  obtain rfl : t = 22 := by simpa using Array.mem_of_getElem? ht
  exact (show Tryd.prog.wantsStandIn 22 = false by kernel_rfl)

theorem card : Rows.FnAddressesCardSaid :=
  Claim7.holds_tied_plain_at .later [] _ _ _ _ said (fun _ h => by cases h) (by kernel_rfl) (fun _ h => by cases h) fnAddresses_row_tie rfl ⟨rfl, rfl⟩ (by kernel_rfl) rfl plain (by kernel_rfl)
end Go.Proofs.YtophgcneckjdjaaDoor.fnAddresses

namespace Go.Proofs.YtophgcneckjdjaaDoor
theorem fnAddresses_holds : Rows.FnAddressesCardSaid := fnAddresses.card
#print axioms fnAddresses_holds
end Go.Proofs.YtophgcneckjdjaaDoor
