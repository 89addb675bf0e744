/- Proved: laws.FnPuny answers true at every code and leaves it as it was; no condition. -/
import Derived.Test.YtdbhhohdfibplaaRows
import Derived.Test.YtdbhhohdfibplaaDecImpl
import Derived.Test.YtdbhhohdfibplaaEncBoth
import Derived.Test.YtdbhhohdfibplaaDraw3Walk
import Derived.Test.YtdbhhohdfibplaaAsciiWalk
import Derived.ProofKit
import Derived.OpenShut
import Derived.ShutString
import Derived.ChangeOld
import Derived.Below
namespace Go.Proofs.Ytdbhhohdfibplaa.fnPuny
open Go.ChangeShapes Go.WideShapes Go.ChangeAt Go.RowKit
open Go.ChangeMaps (open_string shut_string)
set_option linter.unusedVariables false

theorem own : ownKnob Try.prog.godebug = none := by kernel_rfl
theorem laidOut : laidOutB Try.prog = true := by kernel_rfl

/-- WHAT THE WALK IS TOLD OF A SLICE OF INTEGERS THAT CAME IN: it is nil; or it leads to a row of 'cap' cells, the numbers 'zs' (the first 'len' are its elements, the rest its spare room), each fitting its kind. -/
def IsRow (k : IntKind) (w : World) (a : Option Addr) (len cap : Nat) (zs : List Int) : Prop :=
  (a = none ∧ len = 0 ∧ cap = 0 ∧ zs = []) ∨
  ∃ x, a = some x ∧ len ≤ cap ∧ cap ≤ maxLen ∧ zs.length = cap ∧ (∀ i, i < zs.length → w.cell? (x.add i) = some (.int k (zs.getD i 0))) ∧ ∀ n ∈ zs, (Lit.int k n).wf = true

theorem walk (a0 : Option Addr) (len0 cap0 : Nat) (z0 : List Int) (w : World) (w0 : IsRow .u8 w a0 len0 cap0 z0) :
    Calls Try.prog 3 #[.slice a0 len0 cap0] w fun e w' => e = .returned (.bool true) ∧ Below w.heap.size w w' := by
  by_cases hbig : 1048576 < (len0 : Int)
  · go_enter Try.func3, Try.ntmps3
    go_wp2_with fail
    refine (big_yes _ _ _ _ hbig).mono ?_
    rintro e w' ⟨rfl, rfl⟩
    go_wp2
    go_ret
    exact ⟨rfl, Below.refl _ _⟩
  · have hl : len0 ≤ 1048576 := by omega
    have hcode : CodeRow w.heap.size w a0 len0 := by
      rcases w0 with ⟨rfl, rfl, rfl, rfl⟩ | ⟨x, rfl, h1, h2, h3, h4, h5⟩
      · exact .inl rfl
      · by_cases h0 : len0 = 0
        · exact .inl h0
        · obtain ⟨b, off, rfl, hc⟩ := ints_at h4 (by omega)
          refine .inr ⟨b, off, rfl, World.block_lt_of_cell? w ⟨b, off + 0, none⟩ (hc 0 (by omega)), fun i hi => ?_⟩
          refine ⟨_, hc i (by omega), ?_⟩
          have hb := bounds_u8 (h5 (z0.getD i 0) (by
            rw [List.getD_eq_getElem?_getD, List.getElem?_eq_getElem (by omega)]
            exact List.getElem_mem _))
          exact hb
    clear w0
    go_enter Try.func3, Try.ntmps3
    go_wp2_with fail
    refine (big_no _ _ _ _ (by omega)).mono ?_
    rintro e w' ⟨rfl, rfl⟩
    go_wp2_with fail
    refine (drawPunyEncode _ _ _ _ hl hcode).mono ?_
    rintro e wa ⟨v, zl, hzl, rfl, oa, ba⟩
    have za := ba.size
    have hB0 : Below w.heap.size w wa := ba
    by_cases hok : encOkZ zl
    · obtain ⟨l, hzz, hk⟩ := nats_of hok
      have hlen : zl.length = l.length := by rw [hzz]; simp
      rw [hlen, hzz] at oa
      have OA : Hid (wa.ownsRow w.heap.size 3 1 v l.length (icN l)) := oa
      have hl60 := (encOk_parts hk).1
      have h600 := encC_600 hk
      obtain ⟨t, ht⟩ : ∃ t : ByteArray, (⟨(b8 (encC l)).toArray⟩ : ByteArray) = t := ⟨_, rfl⟩
      have hsN : sN t = encC l := by
        have := (sN_eq t (encC l) (fun c hc => by have := enc_ascii c hc; omega)).1 ht
        exact this.symm
      have hts : (t.size : Int) ≤ 600 := by
        have := sN_length t
        rw [hsN] at this
        omega
      have HD : Hid (decC (sN t) = some l) := by show _ = _; rw [hsN]; exact dec_enc hk
      have HAS : Hid (asciiB t.data.toList = true) := by
        show _ = _
        unfold asciiB
        rw [List.all_eq_true]
        intro c hc
        have hm : c.toNat ∈ sN t := by unfold sN; exact List.mem_map_of_mem hc
        rw [hsN] at hm
        have := enc_ascii _ hm
        simpa using this
      have hI := fun W h => implEncAll l v w.heap.size W (by omega) h
      have hS := fun W h => specEncAll l v w.heap.size W hk h
      simp only [hk, if_true, ht] at hI
      simp only [ht] at hS
      have HI' : Hid (∀ W : World, W.ownsRow w.heap.size 3 1 v l.length (icN l) → Calls Try.prog 10 #[v] W fun e w' => e = .returned (.tuple #[.string t, .bool true]) ∧ Below W.heap.size W w') := hI
      have HS' : Hid (∀ W : World, W.ownsRow w.heap.size 3 1 v l.length (icN l) → Calls Try.prog 11 #[v] W fun e w' => e = .returned (.tuple #[.string t, .bool true]) ∧ Below W.heap.size W w') := hS
      clear hI hS oa hok hzz hlen hsN ht hk ba
      go_wp2_with fail
      refine (HI'.out _ OA.out).mono ?_
      rintro e wb ⟨rfl, bb⟩
      have zb := bb.size
      have OB : Hid (wb.ownsRow w.heap.size 3 1 v l.length (icN l)) := own_below OA.out bb
      have Bb : Below w.heap.size w wb := hB0.trans (bb.mono za)
      clear bb
      go_wp2_with fail
      refine (HS'.out _ OB.out).mono ?_
      rintro e wc ⟨rfl, bc⟩
      have zc := bc.size
      have OC : Hid (wc.ownsRow w.heap.size 3 1 v l.length (icN l)) := own_below OB.out bc
      have Bc : Below w.heap.size w wc := Bb.trans (bc.mono (by omega))
      clear bc
      go_wp2_with fail
      refine (implPunyDecode t _ hts).mono ?_
      rintro e wd ⟨hd, bd⟩
      rw [HD.out] at hd
      obtain ⟨vd, rfl, od⟩ := hd
      have zd := bd.size
      have Bd : Below w.heap.size w wd := Bc.trans (bd.mono (by omega))
      have OD : Hid (wd.ownsRow w.heap.size 3 1 v l.length (icN l)) := own_below OC.out bd
      clear bd
      go_wp2_with fail
      refine (sameInts (l.map fun (c : Nat) => (c : Int)) _ _ _ _ _ _ (by omega) od OD.out).mono ?_
      rintro e we ⟨rfl, be⟩
      have Be : Below w.heap.size w we := Bd.trans (be.mono (by omega))
      clear be od
      go_wp2_with fail
      refine (implAscii t _ (by unfold maxLen; omega)).mono ?_
      rw [HAS.out]
      rintro e wf ⟨rfl, rfl⟩
      go_wp2_with fail
      go_ret
      exact ⟨rfl, Be⟩
    · have hne : zl ≠ [] := fun h => hok (by rw [h]; exact ⟨by decide, fun z hz => by simp at hz⟩)
      rcases own_shape oa with ⟨h0, _⟩ | ⟨_, g, cp, rfl⟩
      · exact absurd (List.eq_nil_of_length_eq_zero h0) hne
      have HOK : Hid (¬ encOkZ zl) := hok
      have OA : Hid (wa.ownsRow w.heap.size 3 1 (.slice (some ⟨g, 0, none⟩) zl.length cp) zl.length (icells zl)) := oa
      clear oa hok hne ba
      go_wp2_with fail
      refine (implPunyEncode_no zl zl.length g cp _ _ HOK.out rfl (by omega) OA.out).mono ?_
      rintro e wb ⟨rfl, bb⟩
      have zb := bb.size
      have OB : Hid (wb.ownsRow w.heap.size 3 1 (.slice (some ⟨g, 0, none⟩) zl.length cp) zl.length (icells zl)) := own_below OA.out bb
      have Bb : Below w.heap.size w wb := hB0.trans (bb.mono za)
      clear bb
      go_wp2_with fail
      refine (specPunyEncode_no zl zl.length g cp _ _ HOK.out rfl (by omega) OB.out).mono ?_
      rintro e wc ⟨rfl, bc⟩
      have Bc : Below w.heap.size w wc := Bb.trans (bc.mono (by omega))
      clear bc
      go_wp2_with fail
      go_ret
      exact ⟨rfl, Bc⟩

set_option maxRecDepth 100000 in
theorem lifted (os : Os) (started : os.Started) (H : Type) (enc : TypeId × Value → H) :
    ReturnsInHanded {} Try.checked os 3 .any (Rows.fnPunySpec.pre6 enc Try.prog Try.f3 Rows.fnPunyRow.domain false) (Rows.fnPunySpec.post enc Try.prog Try.f3 false true false false) := by
  refine returnsInHanded_of_change (C := Try.checked) own started (by kernel_rfl) Try.func3
    (ChangeSpec.witness6 (enc := enc) (C := Try.checked) false ⟨#[], #[.slice none 0 0], []⟩ 8 (by kernel_rfl) (by kernel_rfl) (by kernel_rfl) (by kernel_rfl)) ?_
  intro W base args ds gs before hval0 hW hcnd _
  have hval : ∀ (j : Nat) t v, Try.f3.params[j]? = some t → args[j]? = some v → Value.okWide Try.prog W .any base t v := hval0
  have hW' := hW
  obtain ⟨p, q, hA0, hV, rfl, hfz, hnd⟩ := hW
  have hA : DataW.TrodAll enc Try.prog W 0 (fun _ => true) true Try.f3.params.toList args.toList ds p := hA0
  rw [Try.params3] at hA hval
  obtain ⟨v0, vs0, d0, ds0, p0, q0, hargs, rfl, rfl, h0, r0⟩ := trodAll_cons hA
  obtain ⟨rfl, rfl, rfl⟩ := trodAll_nil r0
  obtain rfl : args = #[v0] := by cases args; simp_all
  obtain ⟨rfl, rfl⟩ := trodVars_none hV
  obtain ⟨a0, len0, cap0, rfl⟩ := okWide_slice Try.underlying22 (hval 0 22 v0 rfl rfl)
  have k0 := h0
  have lt0 : ∀ x ∈ p0, x.block < W.heap.size := by obtain ⟨m, hm⟩ := k0; exact DataW.trod_lt m _ _ _ hm
  obtain ⟨z0, w0⟩ : ∃ zs, IsRow .u8 W a0 len0 cap0 zs := by
    obtain ⟨fuel, hf⟩ := h0
    rcases open_ints Try.underlying22 Try.underlying5 (by kernel_rfl) hf with ⟨hcs, _⟩ | ⟨x, l, c, zs, hcs, _, hl, hm, hz, _, hcell, hwz⟩
    · simp [Value.cells] at hcs
      obtain ⟨rfl, rfl, rfl⟩ := hcs
      exact ⟨[], .inl ⟨rfl, rfl, rfl, rfl⟩⟩
    · simp [Value.cells] at hcs
      obtain ⟨rfl, rfl, rfl⟩ := hcs
      exact ⟨zs, .inr ⟨_, rfl, hl, hm, by simpa using hz, hcell, hwz⟩⟩
  clear hA0 hval0
  refine (walk a0 len0 cap0 z0 W w0).mono fun e W' ⟨he, bel⟩ => ?_
  subst he
  exact ⟨_, rfl, _, _, _, [], _, [], hW', trodAll_mk1 (shut_bool Try.underlying4 _), (trodAll_cons_mk (Below.trod laidOut (by kernel_rfl) (of_decide_eq_true (by kernel_rfl)) k0 bel lt0) trodAll_mk0), rfl, bel.frame _, fun h => by cases h⟩

theorem over : Rows.fnPunyRow.holds Try.pinned (OpenSpec.ofChange Rows.fnPunySpec) :=
  OpenClaim.holds_of_wide 3 Try.f3 rfl rfl rfl rfl rfl rfl rfl ⟨rfl, rfl, rfl, rfl, rfl⟩ rfl rfl rfl rfl rfl (by kernel_rfl) Try.func3 (by kernel_rfl)
    (of_decide_eq_true (by kernel_rfl)) (by unfold Func.isWrapper; first | (rw [if_pos (by decide +kernel)]; kernel_rfl) | (rw [if_neg (by decide +kernel)]; exact ⟨rfl, rfl⟩))
    (fun os started H enc _ => lifted os started H enc)

theorem proved : Rows.FnPunySaid := over
end Go.Proofs.Ytdbhhohdfibplaa.fnPuny

namespace Go.Proofs.Ytdbhhohdfibplaa
theorem fnPuny_holds : Rows.FnPunySaid := fnPuny.proved
#print axioms fnPuny_holds
end Go.Proofs.Ytdbhhohdfibplaa
