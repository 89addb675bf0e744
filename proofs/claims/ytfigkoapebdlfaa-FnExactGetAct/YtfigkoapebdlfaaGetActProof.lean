/- Proved: laws.FnExactGetAct answers true at every slice of bytes and leaves it as it was; no condition. -/
import Derived.Test.YtfigkoapebdlfaaRows
import Derived.Test.YtfigkoapebdlfaaBytMarks
import Derived.Test.YtfigkoapebdlfaaActGet
import Derived.Test.YtfigkoapebdlfaaActEq
import Derived.ProofKit
import Derived.OpenShut
import Derived.ShutString
import Derived.ChangeOld
import Derived.Below
namespace Go.Proofs.Ytfigkoapebdlfaa.fnExactGetAct
open Go.ChangeShapes Go.WideShapes Go.ChangeAt Go.RowKit
open Go.ChangeMaps (open_string shut_string)
set_option linter.unusedVariables false

theorem own : ownKnob Try.prog.godebug = none := by kernel_rfl
theorem laidOut : laidOutB Try.prog = true := by kernel_rfl

/-- WHAT THE WALK IS TOLD OF A SLICE OF INTEGERS THAT CAME IN: it is nil; or it leads to a row of 'cap' cells, the numbers 'zs' (the first 'len' are its elements, the rest its spare room), each fitting its kind. -/
def IsRow (k : IntKind) (w : World) (a : Option Addr) (len cap : Nat) (zs : List Int) : Prop :=
  (a = none ∧ len = 0 ∧ cap = 0 ∧ zs = []) ∨
  ∃ x, a = some x ∧ len ≤ cap ∧ cap ≤ maxLen ∧ zs.length = cap ∧ (∀ i, i < zs.length → w.cell? (x.add i) = some (.int k (zs.getD i 0))) ∧ ∀ n ∈ zs, (Lit.int k n).wf = true

set_option maxHeartbeats 8000000 in
theorem walk (a0 : Option Addr) (len0 cap0 : Nat) (z0 : List Int) (w : World) (w0 : IsRow .u8 w a0 len0 cap0 z0) :
    Calls Try.prog 5 #[.slice a0 len0 cap0] w fun e w' => e = .returned (.bool true) ∧ Below w.heap.size w w' := by
  by_cases hbig : 1048576 < (len0 : Int)
  · clear w0
    go_enter Try.func5, Try.ntmps5
    go_wp2
    go_ret
    exact ⟨rfl, Below.refl _ _⟩
  · obtain ⟨l, hl, hb⟩ := open_bytes w0
    subst hl
    have hn : l.length ≤ 1048576 := by omega
    have HB : Hid (BRow w (.slice a0 l.length cap0) l) := hb
    clear w0 hb
    have CS : Hid (∀ v W, BRow W v l → Calls Try.prog 17 #[v] W fun e w' => e = .returned (actV (getAct l)) ∧ Below W.heap.size W w') := fun v W h => specGetAct v l W h (by omega)
    have CI : Hid (∀ v W, BRow W v l → Calls Try.prog 19 #[v] W fun e w' => e = .returned (actV (getAct l)) ∧ Below W.heap.size W w') := fun v W h => implGetAct v l W h (by omega)
    obtain ⟨x, q, hV⟩ : ∃ (x : AV) (q : Bool), actV (getAct l) = .tuple #[.agg #[.int .i64 x.k, .string x.t, .string x.b, .int .i64 x.n], .bool q] := by
      cases getAct l with
      | none => exact ⟨⟨0, ⟨#[]⟩, ⟨#[]⟩, 0⟩, false, rfl⟩
      | some x => exact ⟨x, true, rfl⟩
    rw [hV] at CS CI
    clear hV
    have CE : Hid (∀ W, Calls Try.prog 20 #[.agg #[.int .i64 x.k, .string x.t, .string x.b, .int .i64 x.n], .agg #[.int .i64 x.k, .string x.t, .string x.b, .int .i64 x.n]] W fun e w' => e = .returned (.bool true) ∧ Below W.heap.size W w') := fun W => eqActL x W
    have hqq : (q != q) = false := by simp
    generalize x.k = k at *
    generalize x.t = t at *
    generalize x.b = b at *
    generalize x.n = n at *
    go_enter Try.func5, Try.ntmps5
    go_wp2_with fail
    refine (toByteS _ l _ HB.out (by omega)).mono ?_
    rintro e wa ⟨va, rfl, oa, ba⟩
    have HA := hidB (BRow.of_own oa)
    obtain ⟨ao, ac, hva⟩ := (BRow.of_own oa).slice
    subst hva
    clear oa
    go_wp2_with fail
    refine (CS.out _ _ HA.out).mono ?_
    rintro e wb ⟨rfl, bb⟩
    have B1 := ba.trans (bb.mono ba.size)
    clear bb ba HA CS
    go_upto_region 4 with fail
    obtain ⟨O, hO⟩ : ∃ O, O = wb.alloc (.cells #[.int .i64 k, .string t, .string b, .int .i64 n] 26) := ⟨_, rfl⟩
    have bO : Below wb.heap.size wb O := by rw [hO]; exact (Below.refl _ _).alloc (Nat.le_refl _) _
    have AO : BAt O wb.heap.size [.int .i64 k, .string t, .string b, .int .i64 n] := by rw [hO]; exact BAt.new wb #[.int .i64 k, .string t, .string b, .int .i64 n] _
    have B2 := B1.trans (bO.mono B1.size)
    rw [← hO]
    clear hO bO B1
    generalize wb.heap.size = D at *
    go_wp2_with fail
    refine (toByteS _ l _ (HB.out.below B2) (by omega)).mono ?_
    rintro e wc ⟨vc, rfl, oc, bc⟩
    have AC := AO.below bc
    have B3 := B2.trans (bc.mono B2.size)
    have HC := hidB (BRow.of_own oc)
    have HOC := hidB oc
    obtain ⟨co, cc, hvc⟩ := (BRow.of_own oc).slice
    subst hvc
    clear oc bc B2 AO
    go_wp2_with fail
    refine (CI.out _ _ HC.out).mono ?_
    rintro e wd ⟨rfl, bd⟩
    have AD := AC.below bd
    have B4 := B3.trans (bd.mono B3.size)
    have HOD := hidB (own_below HOC.out bd)
    clear bd B3 HOC HC AC CI
    go_upto_region 6 with fail
    obtain ⟨U, hU⟩ : ∃ U, U = wd.alloc (.cells #[.int .i64 k, .string t, .string b, .int .i64 n] 26) := ⟨_, rfl⟩
    have bU : Below wd.heap.size wd U := by rw [hU]; exact (Below.refl _ _).alloc (Nat.le_refl _) _
    have AU : BAt U wd.heap.size [.int .i64 k, .string t, .string b, .int .i64 n] := by rw [hU]; exact BAt.new wd #[.int .i64 k, .string t, .string b, .int .i64 n] _
    have AE := AD.below bU
    have HOU := hidB (own_below HOD.out bU)
    have B5 := B4.trans (bU.mono B4.size)
    rw [← hU]
    clear hU bU B4 AD HOD
    generalize wd.heap.size = F at *
    have c0 := AU.1 0 _ rfl
    have c1 := AU.1 1 _ rfl
    have c2 := AU.1 2 _ rfl
    have c3 := AU.1 3 _ rfl
    have d0 := AE.1 0 _ rfl
    have d1 := AE.1 1 _ rfl
    have d2 := AE.1 2 _ rfl
    have d3 := AE.1 3 _ rfl
    go_wp2_with fail
    refine (CE.out _).mono ?_
    rintro e we ⟨rfl, be⟩
    have HOE := hidB (own_below HOU.out be)
    have B6 := B5.trans (be.mono B5.size)
    clear be B5 HOU c0 c1 c2 c3 d0 d1 d2 d3 AU AE CE
    go_wp2_with fail
    refine (toByteS _ l _ (HB.out.below B6) (by omega)).mono ?_
    rintro e wf ⟨vf, rfl, of, bf⟩
    have B7 := B6.trans (bf.mono B6.size)
    have HOF := hidB (own_below HOE.out bf)
    have HF := hidB of
    obtain ⟨fo, fc, hvf⟩ := (BRow.of_own of).slice
    subst hvf
    clear of bf B6 HOE
    go_wp2_with fail
    refine (eqByteS l _ _ _ _ _ _ (by omega) HOF.out HF.out).mono ?_
    rintro e wg ⟨rfl, bg⟩
    have B8 := B7.trans (bg.mono B7.size)
    clear bg B7 HOF HF
    go_wp2_with fail
    go_ret
    exact ⟨rfl, B8⟩

set_option maxRecDepth 100000 in
theorem lifted (os : Os) (started : os.Started) (H : Type) (enc : TypeId × Value → H) :
    ReturnsInHanded {} Try.checked os 5 .any (Rows.fnExactGetActSpec.pre6 enc Try.prog Try.f5 Rows.fnExactGetActRow.domain false) (Rows.fnExactGetActSpec.post enc Try.prog Try.f5 false true false false) := by
  refine returnsInHanded_of_change (C := Try.checked) own started (by kernel_rfl) Try.func5
    (ChangeSpec.witness6 (enc := enc) (C := Try.checked) false ⟨#[], #[.slice none 0 0], []⟩ 8 (by kernel_rfl) (by kernel_rfl) (by kernel_rfl) (by kernel_rfl)) ?_
  intro W base args ds gs before hval0 hW hcnd _
  have hval : ∀ (j : Nat) t v, Try.f5.params[j]? = some t → args[j]? = some v → Value.okWide Try.prog W .any base t v := hval0
  have hW' := hW
  obtain ⟨p, q, hA0, hV, rfl, hfz, hnd⟩ := hW
  have hA : DataW.TrodAll enc Try.prog W 0 (fun _ => true) true Try.f5.params.toList args.toList ds p := hA0
  rw [Try.params5] at hA hval
  obtain ⟨v0, vs0, d0, ds0, p0, q0, hargs, rfl, rfl, h0, r0⟩ := trodAll_cons hA
  obtain ⟨rfl, rfl, rfl⟩ := trodAll_nil r0
  obtain rfl : args = #[v0] := by cases args; simp_all
  obtain ⟨rfl, rfl⟩ := trodVars_none hV
  obtain ⟨a0, len0, cap0, rfl⟩ := okWide_slice Try.underlying29 (hval 0 29 v0 rfl rfl)
  have k0 := h0
  have lt0 : ∀ x ∈ p0, x.block < W.heap.size := by obtain ⟨m, hm⟩ := k0; exact DataW.trod_lt m _ _ _ hm
  obtain ⟨z0, w0⟩ : ∃ zs, IsRow .u8 W a0 len0 cap0 zs := by
    obtain ⟨fuel, hf⟩ := h0
    rcases open_ints Try.underlying29 Try.underlying5 (by kernel_rfl) hf with ⟨hcs, _⟩ | ⟨x, l, c, zs, hcs, _, hl, hm, hz, _, hcell, hwz⟩
    · simp [Value.cells] at hcs
      obtain ⟨rfl, rfl, rfl⟩ := hcs
      exact ⟨[], .inl ⟨rfl, rfl, rfl, rfl⟩⟩
    · simp [Value.cells] at hcs
      obtain ⟨rfl, rfl, rfl⟩ := hcs
      exact ⟨zs, .inr ⟨_, rfl, hl, hm, by simpa using hz, hcell, hwz⟩⟩
  clear hA0 hval0
  refine (walk a0 len0 cap0 z0 W w0).mono fun e W' ⟨he, bel⟩ => ?_
  subst he
  exact ⟨_, rfl, _, _, _, [], _, [], hW', trodAll_mk1 (shut_bool Try.underlying4 _), (trodAll_cons_mk (Below.trod laidOut (by kernel_rfl) (of_decide_eq_true (by kernel_rfl)) k0 bel lt0) trodAll_mk0), rfl, bel.frame _, fun h => by cases h⟩

theorem over : Rows.fnExactGetActRow.holds Try.pinned (OpenSpec.ofChange Rows.fnExactGetActSpec) :=
  OpenClaim.holds_of_wide 5 Try.f5 rfl rfl rfl rfl rfl rfl rfl ⟨rfl, rfl, rfl, rfl, rfl⟩ rfl rfl rfl rfl rfl (by kernel_rfl) Try.func5 (by kernel_rfl)
    (of_decide_eq_true (by kernel_rfl)) (by unfold Func.isWrapper; first | (rw [if_pos (by decide +kernel)]; kernel_rfl) | (rw [if_neg (by decide +kernel)]; exact ⟨rfl, rfl⟩))
    (fun os started H enc _ => lifted os started H enc)

theorem proved : Rows.FnExactGetActSaid := over
end Go.Proofs.Ytfigkoapebdlfaa.fnExactGetAct

namespace Go.Proofs.Ytfigkoapebdlfaa
theorem fnExactGetAct_holds : Rows.FnExactGetActSaid := fnExactGetAct.proved
#print axioms fnExactGetAct_holds
end Go.Proofs.Ytfigkoapebdlfaa
