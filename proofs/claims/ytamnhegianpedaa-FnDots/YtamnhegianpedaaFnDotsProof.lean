/- Proved: laws.FnDots answers true at every code and leaves it as it was; no condition. -/
import Derived.Test.YtamnhegianpedaaRows
import Derived.Test.YtamnhegianpedaaDropDotsImpl
import Derived.Test.YtamnhegianpedaaDotBack
import Derived.Test.YtamnhegianpedaaDraw7Walk
import Derived.ProofKit
import Derived.OpenShut
import Derived.ShutString
import Derived.ChangeOld
import Derived.Below
namespace Go.Proofs.Ytamnhegianpedaa.fnDots
open Go.ChangeShapes Go.WideShapes Go.ChangeAt Go.RowKit
open Go.ChangeMaps (open_string shut_string)
set_option linter.unusedVariables false

theorem own : ownKnob Try.prog.godebug = none := by kernel_rfl
theorem laidOut : laidOutB Try.prog = true := by kernel_rfl

/-- WHAT THE WALK IS TOLD OF A SLICE OF INTEGERS THAT CAME IN: it is nil; or it leads to a row of 'cap' cells, the numbers 'zs' (the first 'len' are its elements, the rest its spare room), each fitting its kind. -/
def IsRow (k : IntKind) (w : World) (a : Option Addr) (len cap : Nat) (zs : List Int) : Prop :=
  (a = none ∧ len = 0 ∧ cap = 0 ∧ zs = []) ∨
  ∃ x, a = some x ∧ len ≤ cap ∧ cap ≤ maxLen ∧ zs.length = cap ∧ (∀ i, i < zs.length → w.cell? (x.add i) = some (.int k (zs.getD i 0))) ∧ ∀ n ∈ zs, (Lit.int k n).wf = true

theorem walk (a0 : Option Addr) (len0 cap0 : Nat) (z0 : List Int) (w : World) (w0 : IsRow .u8 w a0 len0 cap0 z0) :
    Calls Try.prog 3 #[.slice a0 len0 cap0] w fun e w' => e = .returned (.bool true) ∧ Below w.heap.size w w' := by
  by_cases hbig : 1048576 < (len0 : Int)
  · go_enter Try.func3, Try.ntmps3
    go_wp2_with fail
    refine (big_yes _ _ _ _ hbig).mono ?_
    rintro e w' ⟨rfl, rfl⟩
    go_wp2
    go_ret
    exact ⟨rfl, Below.refl _ _⟩
  · have hl : len0 ≤ 1048576 := by omega
    have hcode : CodeRow w.heap.size w a0 len0 := by
      rcases w0 with ⟨rfl, rfl, rfl, rfl⟩ | ⟨x, rfl, h1, h2, h3, h4, h5⟩
      · exact .inl rfl
      · by_cases h0 : len0 = 0
        · exact .inl h0
        · obtain ⟨b, off, rfl, hc⟩ := ints_at h4 (by omega)
          refine .inr ⟨b, off, rfl, World.block_lt_of_cell? w ⟨b, off + 0, none⟩ (hc 0 (by omega)), fun i hi => ?_⟩
          refine ⟨_, hc i (by omega), ?_⟩
          have hb := bounds_u8 (h5 (z0.getD i 0) (by
            rw [List.getD_eq_getElem?_getD, List.getElem?_eq_getElem (by omega)]
            exact List.getElem_mem _))
          exact hb
    have HCO : Hid (CodeRow w.heap.size w a0 len0) := hcode
    clear w0 hcode
    go_enter Try.func3, Try.ntmps3
    go_wp2_with fail
    refine (big_no _ _ _ _ (by omega)).mono ?_
    rintro e w' ⟨rfl, rfl⟩
    go_wp2_with fail
    refine (drawDropDots _ _ _ _ hl HCO.out).mono ?_
    rintro e wa ⟨p, hp, rfl, ba⟩
    have za := ba.size
    have CD : Hid (∀ W, Calls Try.prog 10 #[.string p] W fun e w' => e = .returned (.string (dropT p)) ∧ Below W.heap.size W w') := fun W => implDropDots p W (by omega)
    by_cases h0 : p.size = 0
    · have he := empty_yes h0
      rw [dropT_no (rooted_empty h0)] at CD
      go_wp2_with fail
      refine (CD.out _).mono ?_
      rintro e wb ⟨rfl, bb⟩
      have Bb : Below w.heap.size w wb := ba.trans (bb.mono za)
      clear ba bb
      go_wp2
      go_ret
      exact ⟨rfl, Bb⟩
    · have he := empty_no (show 0 < p.size by omega)
      by_cases h47 : p[0].toNat = 47
      · have hr := rooted_yes (by omega) h47
        obtain ⟨d, u, L, a, b, hd, ⟨hd0, hd47⟩, hf, hL, hall, hu, ⟨hu0, hu47⟩, htw, hda, hdb, hab, hds⟩ := dot_back hr
        rw [hd] at CD
        have CF : Hid (∀ W, Calls Try.prog 11 #[.string d, .int .u8 47] W fun e w' => ∃ v, e = .returned v ∧ w'.ownsRow W.heap.size 9 1 v L.length (scells L) ∧ Below W.heap.size W w') := fun W => by
          have h1 := implFields d 47 W (by omega)
          rw [hf] at h1
          exact h1
        have CU : Hid (∀ W, Calls Try.prog 13 #[.string d] W fun e w' => e = .returned (.string u) ∧ Below W.heap.size W w') := fun W => by
          have h1 := implUpTo d W (by omega)
          rw [hu] at h1
          exact h1
        have CT : Hid (∀ W, Calls Try.prog 10 #[.string d] W fun e w' => e = .returned (.string d) ∧ Below W.heap.size W w') := fun W => by
          have h1 := implDropDots d W (by omega)
          rw [htw] at h1
          exact h1
        have CA : Hid (∀ W, Calls Try.prog 14 #[.string d] W fun e w' => e = .returned (.int .i64 (a : Int)) ∧ W = w') := fun W => by
          have h1 := implDepth d W
          rw [hda] at h1
          exact h1
        have CB : Hid (∀ W, Calls Try.prog 14 #[.string p] W fun e w' => e = .returned (.int .i64 (b : Int)) ∧ W = w') := fun W => by
          have h1 := implDepth p W
          rw [hdb] at h1
          exact h1
        have HALL : Hid (∀ x ∈ L, isd x.data.toList = 0 ∧ x.size ≤ d.size) := hall
        have hde := empty_no hd0
        have hue := empty_no hu0
        have hus : u.size ≤ d.size := by rw [← hu]; unfold upT; rw [ByteArray.size_extract]; omega
        have hui := run_at Try.prog 9 Try.underlying9 u ((u.size : Int) - 1) (u.size - 1) 47 (by omega) (by omega) hu47
        have hm : ((a : Int) == (L.length : Int) - 1) = true := by rw [beq_iff_eq]; omega
        have hL0 : 0 < L.length := by omega
        have hLl : L.length ≤ 1001 := by
          have h1 := (fieldsTo_le d 47 d.size).2
          have h2 : (fieldsL d 47).length = L.length := by rw [hf]
          unfold fieldsL at h2
          rw [List.length_append, List.length_singleton] at h2
          omega
        have habi : (a : Int) ≤ (b : Int) := by omega
        have hdsi : (d.size : Int) ≤ (p.size : Int) + 1 := by omega
        clear hd hf hL hall hu htw hda hdb hr hu47
        go_wp2_with fail
        refine (CD.out _).mono ?_
        rintro e wb ⟨rfl, bb⟩
        have Bb : Below w.heap.size w wb := ba.trans (bb.mono za)
        have Zb := Bb.size
        clear ba bb
        go_wp2_with fail
        refine (CF.out _).mono ?_
        rintro e wc ⟨vc, rfl, oc, bc⟩
        have Bc : Below w.heap.size w wc := Bb.trans (bc.mono Zb)
        have Zc := Bc.size
        clear Bb bc
        rcases own_shape oc with ⟨h, _⟩ | ⟨_, g, cp, rfl⟩
        · omega
        · have hglt := (oc.lt g rfl).2
          have HC : Hid (∀ j, j < L.length → wc.cell? ⟨g, j, none⟩ = some (.string (L.getD j ByteArray.empty))) := fun j hj => scell_at oc j hj
          clear oc
          go_wp2_with fail
          go_loopw [6] (fun i wr => ∃ k : Nat, k ≤ L.length ∧ i = .int .i64 k ∧ Below wc.heap.size wc wr) (fun i _ => L.length - (intOf i).toNat)
          case atStart => exact ⟨0, Nat.zero_le _, rfl, Below.refl _ _⟩
          case round =>
            obtain ⟨k, hk, rfl, hbel⟩ := hrel
            by_cases hlt : k < L.length
            · have hc : wr.cell? ⟨g, k, none⟩ = some (.string (L.getD k ByteArray.empty)) := by
                rw [cell_same (hbel.block g hglt) k]
                exact HC.out k hlt
              have hmem : L.getD k ByteArray.empty ∈ L := by
                rw [List.getD_eq_getElem?_getD, List.getElem?_eq_getElem hlt]
                exact List.getElem_mem hlt
              obtain ⟨hx0, hxs⟩ := HALL.out _ hmem
              clear hmem
              generalize L.getD k ByteArray.empty = x at hc hx0 hxs
              have CI : Hid (∀ W, Calls Try.prog 12 #[.string x] W fun e w' => e = .returned (.int .i64 0) ∧ Below W.heap.size W w') := fun W => by
                have h1 := implIsDot x W (by omega)
                rw [hx0] at h1
                exact h1
              clear hx0
              go_wp2_with fail
              refine (CI.out _).mono ?_
              rintro e wd ⟨rfl, bd⟩
              have Bd : Below wc.heap.size wc wd := hbel.trans (bd.mono hbel.size)
              clear hbel bd
              go_wp2_with fail
              go_roundw
              case rel => exact ⟨k + 1, by omega, by go_num, Bd⟩
              case measure => simp [intOf]; omega
            · have Br : Below w.heap.size w wr := Bc.trans (hbel.mono Zc)
              have Zr := Br.size
              clear hbel Bc
              go_wp2_with fail
              refine (CU.out _).mono ?_
              rintro e we ⟨rfl, be⟩
              have Be : Below w.heap.size w we := Br.trans (be.mono Zr)
              have Ze := Be.size
              clear Br be
              go_wp2_with fail
              refine (CT.out _).mono ?_
              rintro e wf ⟨rfl, bf⟩
              have Bf : Below w.heap.size w wf := Be.trans (bf.mono Ze)
              clear Be bf
              go_wp2_with fail
              refine (CA.out _).mono ?_
              rintro e w' ⟨rfl, rfl⟩
              go_wp2_with fail
              refine (CB.out _).mono ?_
              rintro e w' ⟨rfl, rfl⟩
              go_wp2_with fail
              refine (CA.out _).mono ?_
              rintro e w' ⟨rfl, rfl⟩
              go_wp2_with fail
              go_ret
              exact ⟨rfl, Bf⟩
      · rw [dropT_no (rooted_no (by omega) h47)] at CD
        go_wp2_with fail
        refine (CD.out _).mono ?_
        rintro e wb ⟨rfl, bb⟩
        have Bb : Below w.heap.size w wb := ba.trans (bb.mono za)
        clear ba bb
        go_wp2
        go_ret
        exact ⟨rfl, Bb⟩

set_option maxRecDepth 100000 in
theorem lifted (os : Os) (started : os.Started) (H : Type) (enc : TypeId × Value → H) :
    ReturnsInHanded {} Try.checked os 3 .any (Rows.fnDotsSpec.pre6 enc Try.prog Try.f3 Rows.fnDotsRow.domain false) (Rows.fnDotsSpec.post enc Try.prog Try.f3 false true false false) := by
  refine returnsInHanded_of_change (C := Try.checked) own started (by kernel_rfl) Try.func3
    (ChangeSpec.witness6 (enc := enc) (C := Try.checked) false ⟨#[], #[.slice none 0 0], []⟩ 8 (by kernel_rfl) (by kernel_rfl) (by kernel_rfl) (by kernel_rfl)) ?_
  intro W base args ds gs before hval0 hW hcnd _
  have hval : ∀ (j : Nat) t v, Try.f3.params[j]? = some t → args[j]? = some v → Value.okWide Try.prog W .any base t v := hval0
  have hW' := hW
  obtain ⟨p, q, hA0, hV, rfl, hfz, hnd⟩ := hW
  have hA : DataW.TrodAll enc Try.prog W 0 (fun _ => true) true Try.f3.params.toList args.toList ds p := hA0
  rw [Try.params3] at hA hval
  obtain ⟨v0, vs0, d0, ds0, p0, q0, hargs, rfl, rfl, h0, r0⟩ := trodAll_cons hA
  obtain ⟨rfl, rfl, rfl⟩ := trodAll_nil r0
  obtain rfl : args = #[v0] := by cases args; simp_all
  obtain ⟨rfl, rfl⟩ := trodVars_none hV
  obtain ⟨a0, len0, cap0, rfl⟩ := okWide_slice Try.underlying22 (hval 0 22 v0 rfl rfl)
  have k0 := h0
  have lt0 : ∀ x ∈ p0, x.block < W.heap.size := by obtain ⟨m, hm⟩ := k0; exact DataW.trod_lt m _ _ _ hm
  obtain ⟨z0, w0⟩ : ∃ zs, IsRow .u8 W a0 len0 cap0 zs := by
    obtain ⟨fuel, hf⟩ := h0
    rcases open_ints Try.underlying22 Try.underlying5 (by kernel_rfl) hf with ⟨hcs, _⟩ | ⟨x, l, c, zs, hcs, _, hl, hm, hz, _, hcell, hwz⟩
    · simp [Value.cells] at hcs
      obtain ⟨rfl, rfl, rfl⟩ := hcs
      exact ⟨[], .inl ⟨rfl, rfl, rfl, rfl⟩⟩
    · simp [Value.cells] at hcs
      obtain ⟨rfl, rfl, rfl⟩ := hcs
      exact ⟨zs, .inr ⟨_, rfl, hl, hm, by simpa using hz, hcell, hwz⟩⟩
  clear hA0 hval0
  refine (walk a0 len0 cap0 z0 W w0).mono fun e W' ⟨he, bel⟩ => ?_
  subst he
  exact ⟨_, rfl, _, _, _, [], _, [], hW', trodAll_mk1 (shut_bool Try.underlying4 _), (trodAll_cons_mk (Below.trod laidOut (by kernel_rfl) (of_decide_eq_true (by kernel_rfl)) k0 bel lt0) trodAll_mk0), rfl, bel.frame _, fun h => by cases h⟩

theorem over : Rows.fnDotsRow.holds Try.pinned (OpenSpec.ofChange Rows.fnDotsSpec) :=
  OpenClaim.holds_of_wide 3 Try.f3 rfl rfl rfl rfl rfl rfl rfl ⟨rfl, rfl, rfl, rfl, rfl⟩ rfl rfl rfl rfl rfl (by kernel_rfl) Try.func3 (by kernel_rfl)
    (of_decide_eq_true (by kernel_rfl)) (by unfold Func.isWrapper; first | (rw [if_pos (by decide +kernel)]; kernel_rfl) | (rw [if_neg (by decide +kernel)]; exact ⟨rfl, rfl⟩))
    (fun os started H enc _ => lifted os started H enc)

theorem proved : Rows.FnDotsSaid := over
end Go.Proofs.Ytamnhegianpedaa.fnDots

namespace Go.Proofs.Ytamnhegianpedaa
theorem fnDots_holds : Rows.FnDotsSaid := fnDots.proved
#print axioms fnDots_holds
end Go.Proofs.Ytamnhegianpedaa
