/- Proved: laws.FnDecoded answers true at every code and leaves it as it was; no condition. -/
import Derived.Test.YtdbhhohdfibplaaRows
import Derived.Test.YtdbhhohdfibplaaDecBoth
import Derived.Test.YtdbhhohdfibplaaEncBoth
import Derived.Test.YtdbhhohdfibplaaDraw3Walk
import Derived.ProofKit
import Derived.OpenShut
import Derived.ShutString
import Derived.ChangeOld
import Derived.Below
namespace Go.Proofs.Ytdbhhohdfibplaa.fnDecoded
open Go.ChangeShapes Go.WideShapes Go.ChangeAt Go.RowKit
open Go.ChangeMaps (open_string shut_string)
set_option linter.unusedVariables false

theorem own : ownKnob Try.prog.godebug = none := by kernel_rfl
theorem laidOut : laidOutB Try.prog = true := by kernel_rfl

/-- WHAT THE WALK IS TOLD OF A SLICE OF INTEGERS THAT CAME IN: it is nil; or it leads to a row of 'cap' cells, the numbers 'zs' (the first 'len' are its elements, the rest its spare room), each fitting its kind. -/
def IsRow (k : IntKind) (w : World) (a : Option Addr) (len cap : Nat) (zs : List Int) : Prop :=
  (a = none ∧ len = 0 ∧ cap = 0 ∧ zs = []) ∨
  ∃ x, a = some x ∧ len ≤ cap ∧ cap ≤ maxLen ∧ zs.length = cap ∧ (∀ i, i < zs.length → w.cell? (x.add i) = some (.int k (zs.getD i 0))) ∧ ∀ n ∈ zs, (Lit.int k n).wf = true

theorem walk (a0 : Option Addr) (len0 cap0 : Nat) (z0 : List Int) (w : World) (w0 : IsRow .u8 w a0 len0 cap0 z0) :
    Calls Try.prog 4 #[.slice a0 len0 cap0] w fun e w' => e = .returned (.bool true) ∧ Below w.heap.size w w' := by
  by_cases hbig : 1048576 < (len0 : Int)
  · go_enter Try.func4, Try.ntmps4
    go_wp2_with fail
    refine (big_yes _ _ _ _ hbig).mono ?_
    rintro e w' ⟨rfl, rfl⟩
    go_wp2
    go_ret
    exact ⟨rfl, Below.refl _ _⟩
  · have hl : len0 ≤ 1048576 := by omega
    have hcode : CodeRow w.heap.size w a0 len0 := by
      rcases w0 with ⟨rfl, rfl, rfl, rfl⟩ | ⟨x, rfl, h1, h2, h3, h4, h5⟩
      · exact .inl rfl
      · by_cases h0 : len0 = 0
        · exact .inl h0
        · obtain ⟨b, off, rfl, hc⟩ := ints_at h4 (by omega)
          refine .inr ⟨b, off, rfl, World.block_lt_of_cell? w ⟨b, off + 0, none⟩ (hc 0 (by omega)), fun i hi => ?_⟩
          refine ⟨_, hc i (by omega), ?_⟩
          have hb := bounds_u8 (h5 (z0.getD i 0) (by
            rw [List.getD_eq_getElem?_getD, List.getElem?_eq_getElem (by omega)]
            exact List.getElem_mem _))
          exact hb
    clear w0
    go_enter Try.func4, Try.ntmps4
    go_wp2_with fail
    refine (big_no _ _ _ _ (by omega)).mono ?_
    rintro e w' ⟨rfl, rfl⟩
    go_wp2_with fail
    refine (drawPunyDecode _ _ _ _ hl hcode).mono ?_
    rintro e wa ⟨s, rfl, ba⟩
    have za := ba.size
    have hcode2 := hcode.later ba
    obtain ⟨r, hr, HS, HI⟩ := decBoth s
    have HS' : Hid (∀ W, Calls Try.prog 16 #[.string s] W fun e w' => decAns W w' r e ∧ Below W.heap.size W w') := HS
    have HI' : Hid (∀ W, Calls Try.prog 12 #[.string s] W fun e w' => decAns W w' r e ∧ Below W.heap.size W w') := HI
    have HIFF : Hid (∀ l, r = some l → encOk l = true ∧ encC l = sN s) := hr
    clear HS HI hr
    go_wp2_with fail
    refine (HI'.out _).mono ?_
    rintro e wb ⟨hd, bb⟩
    have zb := bb.size
    have Bb : Below w.heap.size w wb := ba.trans (bb.mono za)
    have hcode3 := hcode2.later bb
    clear bb ba hcode hcode2
    cases r with
    | none =>
      obtain ⟨vd, rfl, od⟩ := hd
      obtain ⟨ao, cp, rfl⟩ := own_slice od
      clear od hcode3
      go_wp2_with fail
      refine (HS'.out _).mono ?_
      rintro e wc ⟨hc, bc⟩
      obtain ⟨vc, rfl, oc⟩ := hc
      have Bc : Below w.heap.size w wc := Bb.trans (bc.mono (by omega))
      clear oc bc
      go_wp2_with fail
      go_ret
      exact ⟨rfl, Bc⟩
    | some l =>
      obtain ⟨vd, rfl, od⟩ := hd
      obtain ⟨hk, hes⟩ := HIFF.out l rfl
      have hl60 := (encOk_parts hk).1
      have ht : (⟨(b8 (encC l)).toArray⟩ : ByteArray) = s := (sN_eq s (encC l) (fun c hc => by have := enc_ascii c hc; omega)).2 hes
      have hI := implEncAll l vd wa.heap.size wb (by omega) od
      simp only [hk, if_true, ht] at hI
      have HE : Hid (Calls Try.prog 10 #[vd] wb fun e w' => e = .returned (.tuple #[.string s, .bool true]) ∧ Below wb.heap.size wb w') := hI
      have HC3 : Hid (CodeRow wb.heap.size wb a0 len0) := hcode3
      clear hI ht hes hk od hcode3
      go_wp2_with fail
      refine HE.out.mono ?_
      rintro e wc ⟨rfl, bc⟩
      have zc := bc.size
      have Bc : Below w.heap.size w wc := Bb.trans (bc.mono (by omega))
      have HC4 : Hid (CodeRow wc.heap.size wc a0 len0) := HC3.out.later bc
      clear bc
      go_wp2_with fail
      refine (drawAdapt _ _ _ _ hl HC4.out).mono ?_
      rintro e wd ⟨d, n, b, rfl, bd⟩
      have zd := bd.size
      have Bd : Below w.heap.size w wd := Bc.trans (bd.mono (by omega))
      clear bd
      have hnn : 0 ≤ adaptZ d n b := by unfold adaptZ; split <;> omega
      have HA1 : Hid (∀ W, Calls Try.prog 18 #[.int .i64 d, .int .i64 n, .bool b] W fun e w' => e = .returned (.int .i64 (adaptZ d n b)) ∧ W = w') := implAdapt d n b
      have HA2 : Hid (∀ W, Calls Try.prog 19 #[.int .i64 d, .int .i64 n, .bool b] W fun e w' => e = .returned (.int .i64 (adaptZ d n b)) ∧ W = w') := specAdapt d n b
      generalize adaptZ d n b = q at hnn HA1 HA2
      go_wp2_with fail
      refine (HA1.out _).mono ?_
      rintro e we ⟨rfl, rfl⟩
      go_wp2_with fail
      refine (HA2.out _).mono ?_
      rintro e wf ⟨rfl, rfl⟩
      go_wp2_with fail
      go_ret
      exact ⟨rfl, Bd⟩

set_option maxRecDepth 100000 in
theorem lifted (os : Os) (started : os.Started) (H : Type) (enc : TypeId × Value → H) :
    ReturnsInHanded {} Try.checked os 4 .any (Rows.fnDecodedSpec.pre6 enc Try.prog Try.f4 Rows.fnDecodedRow.domain false) (Rows.fnDecodedSpec.post enc Try.prog Try.f4 false true false false) := by
  refine returnsInHanded_of_change (C := Try.checked) own started (by kernel_rfl) Try.func4
    (ChangeSpec.witness6 (enc := enc) (C := Try.checked) false ⟨#[], #[.slice none 0 0], []⟩ 8 (by kernel_rfl) (by kernel_rfl) (by kernel_rfl) (by kernel_rfl)) ?_
  intro W base args ds gs before hval0 hW hcnd _
  have hval : ∀ (j : Nat) t v, Try.f4.params[j]? = some t → args[j]? = some v → Value.okWide Try.prog W .any base t v := hval0
  have hW' := hW
  obtain ⟨p, q, hA0, hV, rfl, hfz, hnd⟩ := hW
  have hA : DataW.TrodAll enc Try.prog W 0 (fun _ => true) true Try.f4.params.toList args.toList ds p := hA0
  rw [Try.params4] at hA hval
  obtain ⟨v0, vs0, d0, ds0, p0, q0, hargs, rfl, rfl, h0, r0⟩ := trodAll_cons hA
  obtain ⟨rfl, rfl, rfl⟩ := trodAll_nil r0
  obtain rfl : args = #[v0] := by cases args; simp_all
  obtain ⟨rfl, rfl⟩ := trodVars_none hV
  obtain ⟨a0, len0, cap0, rfl⟩ := okWide_slice Try.underlying22 (hval 0 22 v0 rfl rfl)
  have k0 := h0
  have lt0 : ∀ x ∈ p0, x.block < W.heap.size := by obtain ⟨m, hm⟩ := k0; exact DataW.trod_lt m _ _ _ hm
  obtain ⟨z0, w0⟩ : ∃ zs, IsRow .u8 W a0 len0 cap0 zs := by
    obtain ⟨fuel, hf⟩ := h0
    rcases open_ints Try.underlying22 Try.underlying5 (by kernel_rfl) hf with ⟨hcs, _⟩ | ⟨x, l, c, zs, hcs, _, hl, hm, hz, _, hcell, hwz⟩
    · simp [Value.cells] at hcs
      obtain ⟨rfl, rfl, rfl⟩ := hcs
      exact ⟨[], .inl ⟨rfl, rfl, rfl, rfl⟩⟩
    · simp [Value.cells] at hcs
      obtain ⟨rfl, rfl, rfl⟩ := hcs
      exact ⟨zs, .inr ⟨_, rfl, hl, hm, by simpa using hz, hcell, hwz⟩⟩
  clear hA0 hval0
  refine (walk a0 len0 cap0 z0 W w0).mono fun e W' ⟨he, bel⟩ => ?_
  subst he
  exact ⟨_, rfl, _, _, _, [], _, [], hW', trodAll_mk1 (shut_bool Try.underlying4 _), (trodAll_cons_mk (Below.trod laidOut (by kernel_rfl) (of_decide_eq_true (by kernel_rfl)) k0 bel lt0) trodAll_mk0), rfl, bel.frame _, fun h => by cases h⟩

theorem over : Rows.fnDecodedRow.holds Try.pinned (OpenSpec.ofChange Rows.fnDecodedSpec) :=
  OpenClaim.holds_of_wide 4 Try.f4 rfl rfl rfl rfl rfl rfl rfl ⟨rfl, rfl, rfl, rfl, rfl⟩ rfl rfl rfl rfl rfl (by kernel_rfl) Try.func4 (by kernel_rfl)
    (of_decide_eq_true (by kernel_rfl)) (by unfold Func.isWrapper; first | (rw [if_pos (by decide +kernel)]; kernel_rfl) | (rw [if_neg (by decide +kernel)]; exact ⟨rfl, rfl⟩))
    (fun os started H enc _ => lifted os started H enc)

theorem proved : Rows.FnDecodedSaid := over
end Go.Proofs.Ytdbhhohdfibplaa.fnDecoded

namespace Go.Proofs.Ytdbhhohdfibplaa
theorem fnDecoded_holds : Rows.FnDecodedSaid := fnDecoded.proved
#print axioms fnDecoded_holds
end Go.Proofs.Ytdbhhohdfibplaa
