/- Proved: laws.FnExactParseUrl answers true at every string and leaves it as it was; no condition. -/
import Derived.Test.YtgcbaphbiaimoaaGreatDoorRows
import Derived.Test.YtgcbaphbiaimoaaGreatDoorCards
import Derived.Test.YtgcbaphbiaimoaaGreatDoorTie
import Derived.Test.YtgcbaphbiaimoaaGreatDoorQP06
import Derived.Test.YtgcbaphbiaimoaaGreatDoorQP35
import Derived.Test.YtgcbaphbiaimoaaGreatDoorQP34
import Derived.OpenShut
import Derived.ShutString
namespace Go.Proofs.YtgcbaphbiaimoaaGreatDoor.fnExactParseUrl
open Go.ChangeShapes Go.WideShapes Go.ChangeAt Go.RowKit
open Go.ChangeMaps (open_string shut_string)
set_option linter.unusedVariables false

set_option maxRecDepth 100000 in
set_option maxHeartbeats 8000000 in
theorem walk (a0 : ByteArray) (w0 : a0.size ≤ maxLen) (w : World) (hT : Pow w) (hM : MaxI w) (hD : zJz w) (hU : Lib.Utf8Tabs 12 13 w) (hK : xLz w) (hE : ErrT w) :
    Calls Tryz.prog 7 #[.string a0] w fun e w' => e = .returned (.bool true) ∧ Below w.heap.size w w' := by
  by_cases hbig : 1048576 < (a0.size : Int)
  · clear hT hM hD hU hK hE
    go_enter Tryz.func7, Tryz.ntmps7
    go_wp2
    go_ret
    exact ⟨rfl, Below.refl _ _⟩
  · have hs : a0.size ≤ 1048576 := by omega
    obtain ⟨s, k, n, p, nm, a, r, q, x0, x1, x2, x3, x4, x5, x6, x7, hu⟩ := zcnz _ (zanz a0.data.toList)
    have CS : Hid (∀ W, Calls Tryz.prog 20 #[.string a0] W fun e w' => e = .returned (.tuple #[.agg (zqz s k nm n x0 x1 x2 x3 x4 x5 x6 x7 p a q r).toArray, .int .i64 (zwz a0.data.toList).1]) ∧ Below W.heap.size W w') := fun W => by
      have h := zeaz a0 W (by omega)
      rw [hu, zcoz] at h
      exact h
    have CI : Hid (∀ W, Below w.heap.size w W → Calls Tryz.prog 18 #[.string a0] W fun e w' => e = .returned (.tuple #[.agg (zqz s k nm n x0 x1 x2 x3 x4 x5 x6 x7 p a q r).toArray, .int .i64 (zwz a0.data.toList).1]) ∧ Below W.heap.size W w') := fun W hb => by
      have h := zebz a0 W (by omega) (zYz hU hb) (yfz hT hb) (zxz hD hb) (viz hM hb) (hK.later hb) (zc4z hE hb)
      rw [hu, zcoz] at h
      exact h
    have CE : Hid (∀ W, Calls Tryz.prog 26 #[.agg (zqz s k nm n x0 x1 x2 x3 x4 x5 x6 x7 p a q r).toArray, .agg (zqz s k nm n x0 x1 x2 x3 x4 x5 x6 x7 p a q r).toArray] W fun e w' => e = .returned (.bool true) ∧ Below W.heap.size W w') := fun W => zpdz s k n p nm a r q x0 x1 x2 x3 x4 x5 x6 x7 W
    generalize (zwz a0.data.toList).1 = c at CS CI
    clear hT hM hD hU hK hE hu
    go_enter Tryz.func7, Tryz.ntmps7
    go_wp2_with fail
    refine (CS.out _).mono ?_
    rintro e w1 ⟨rfl, b1⟩
    have B1 : Hid (Below w.heap.size w (w1.alloc (.cells #[.int .i64 0, .int .i64 0, .string ⟨#[]⟩, .int .i64 0, .int .i64 0, .int .i64 0, .int .i64 0, .int .i64 0, .int .i64 0, .int .i64 0, .int .i64 0, .int .i64 0, .int .i64 0, .string ⟨#[]⟩, .bool false, .string ⟨#[]⟩] 28))) := b1.alloc b1.size _
    have hz1 : w.heap.size ≤ w1.heap.size := b1.size
    clear b1 CS
    go_upto_region 4 with (refine y5z (UAt.new w1 _ _) rfl (us := zqz s k nm n x0 x1 x2 x3 x4 x5 x6 x7 p a q r) rfl (zQz ..) rfl _ _ rfl rfl rfl ?_; intro w2 HUh HMh)
    have B2 : Hid (Below w.heap.size w w2) := HMh.2 _ _ hz1 B1.out
    have HV2 : Hid (UAt w2 w1.heap.size (zqz s k nm n x0 x1 x2 x3 x4 x5 x6 x7 p a q r)) := HUh
    clear HUh HMh B1 hz1
    generalize w1.heap.size = V at HV2 ⊢
    go_wp2_with fail
    refine (CI.out _ B2.out).mono ?_
    rintro e w3 ⟨rfl, b3⟩
    have hb3 : Below w.heap.size w w3 := B2.out.trans (b3.mono B2.out.size)
    have B3 : Hid (Below w.heap.size w (w3.alloc (.cells #[.int .i64 0, .int .i64 0, .string ⟨#[]⟩, .int .i64 0, .int .i64 0, .int .i64 0, .int .i64 0, .int .i64 0, .int .i64 0, .int .i64 0, .int .i64 0, .int .i64 0, .int .i64 0, .string ⟨#[]⟩, .bool false, .string ⟨#[]⟩] 28))) := hb3.alloc hb3.size _
    have HV3 : Hid (UAt (w3.alloc (.cells #[.int .i64 0, .int .i64 0, .string ⟨#[]⟩, .int .i64 0, .int .i64 0, .int .i64 0, .int .i64 0, .int .i64 0, .int .i64 0, .int .i64 0, .int .i64 0, .int .i64 0, .int .i64 0, .string ⟨#[]⟩, .bool false, .string ⟨#[]⟩] 28)) V (zqz s k nm n x0 x1 x2 x3 x4 x5 x6 x7 p a q r)) := (HV2.out.below b3).below ((Below.refl _ _).alloc (Nat.le_refl _) _)
    have hz3 : w.heap.size ≤ w3.heap.size := hb3.size
    have hlt : V < w3.heap.size := Nat.lt_of_lt_of_le HV2.out.2.2 b3.size
    clear b3 hb3 B2 HV2 CI
    go_upto_region 5 with (refine y5z (UAt.new w3 _ _) rfl (us := zqz s k nm n x0 x1 x2 x3 x4 x5 x6 x7 p a q r) rfl (zQz ..) rfl _ _ rfl rfl rfl ?_; intro w4 HUh HMh)
    have B4 : Hid (Below w.heap.size w w4) := HMh.2 _ _ hz3 B3.out
    have HV4 : Hid (UAt w4 V (zqz s k nm n x0 x1 x2 x3 x4 x5 x6 x7 p a q r)) := HMh.1 _ _ (by omega) HV3.out
    have HN4 : Hid (UAt w4 w3.heap.size (zqz s k nm n x0 x1 x2 x3 x4 x5 x6 x7 p a q r)) := HUh
    clear HUh HMh B3 HV3 hz3
    generalize w3.heap.size = V2 at HN4 hlt ⊢
    go_wp2_with (first | (refine xGz HN4.out rfl rfl _ rfl rfl ?_) | (refine xGz HV4.out rfl rfl _ rfl rfl ?_))
    refine (CE.out _).mono ?_
    rintro e w5 ⟨rfl, b5⟩
    go_wp2_with fail
    go_ret
    exact ⟨rfl, B4.out.trans (b5.mono B4.out.size)⟩

set_option maxRecDepth 100000 in
theorem contract(H:Type)(enc:TypeId×Value→H)(W:World)(base:Nat)(args:Array Value)(ds gs:List (DataW H))(before:List MemPlace)
    (hval: ∀(j:Nat) t v,Tryz.f7.params[j]? =some t→args[j]? =some v→Value.okWide Tryz.prog W .any base t v)
    (hW:DataW.Whole enc Tryz.prog Tryz.f7.params.toList Rows.fnExactParseUrlSpec.vars false W args.toList ds gs before) (hL:laidMetH Tryz.prog xVz W) (hSh:W.ShapedOpen Tryz.prog):
    Calls Tryz.prog 7 args W fun e W'=> ∃v,e=.returned v∧Rows.fnExactParseUrlSpec.post enc Tryz.prog Tryz.f7 false true false false W args v W':=by
  have hW':=hW
  obtain ⟨p,q,hA0,hV,rfl,hfz,hnd⟩:=hW
  have hA:DataW.TrodAll enc Tryz.prog W 0 (fun _=>true) true Tryz.f7.params.toList args.toList ds p:=hA0
  rw[Tryz.params7]at hA hval
  obtain ⟨v0,vs0,d0,ds0,p0,q0,hargs,rfl,rfl,h0,r0⟩:=trodAll_cons hA
  obtain ⟨rfl,rfl,rfl⟩:=trodAll_nil r0
  obtain rfl:args= #[v0]:=by cases args;simp_all
  have hV2:DataW.TrodVars enc Tryz.prog W (fun _=>true) ["loop.example/g00191/impl.keptMarks", "loop.example/g00191/impl.plainMarks"] gs q:=hV
  obtain ⟨g1,g2,rfl⟩:=zjUz hV2
  obtain ⟨a0,rfl,rfl,rfl,w0⟩:=open_string Tryz.underlying9 (hval 0 9 v0 rfl rfl) h0
  clear hA0
  refine (walk a0 w0 W (zm3z hL) (zfLz hSh) (zm4z hL) (zjWz hL) (zhsz hL) (zjXz hL)).mono fun e W' ⟨he,bel⟩=> ?_
  subst he
  exact ⟨_,rfl,_,_,_,[],[],_,hW',trodAll_cons_mk (shut_bool Tryz.underlying4 _) trodAll_mk0,(trodAll_cons_mk (shut_string Tryz.underlying9 w0) trodAll_mk0),bel.trodVars za7z (by kernel_rfl) hV,bel.frame _,fun h=>by cases h⟩

theorem witness_row(os:Os){H:Type}(enc:TypeId×Value→H):
    (OpenSpec.ofChange Rows.fnExactParseUrlSpec).preRow enc Tryz.prog Tryz.f7 Rows.fnExactParseUrlRow.domain false xVz (({World.holding Tryz.prog os ⟨#[],#[],[]⟩with heap:=za8z (World.holding Tryz.prog os ⟨#[],#[],[]⟩).heap}:World).forCall (fun _ _=>0) ⟨#[],#[.string ⟨#[]⟩],[]⟩).memory #[.string ⟨#[]⟩]:=by
  have hw:(DataW.whole enc Tryz.prog (({World.holding Tryz.prog os ⟨#[],#[],[]⟩with heap:=za8z (World.holding Tryz.prog os ⟨#[],#[],[]⟩).heap}:World).forCall (fun _ _=>0) ⟨#[],#[.string ⟨#[]⟩],[]⟩).memory Tryz.f7.params.toList Rows.fnExactParseUrlSpec.vars false (#[.string ⟨#[]⟩]:Array Value).toList 8).map (fun x=>(x.1,x.2.1))=
      some ([.lit (.string [])],[Rows.laid_loop_example_g00191_impl_keptMarks,Rows.laid_loop_example_g00191_impl_plainMarks]):=by kernel_rfl
  obtain ⟨⟨x1,x2,x3⟩,hx,hx1⟩:=Option.map_eq_some_iff.1 hw
  simp only[Prod.mk.injEq]at hx1
  obtain ⟨rfl,rfl⟩:=hx1
  exact OpenSpec.preRow_of_cond 8 hx (by kernel_rfl) (fun k hk=>by cases hk) (by kernel_rfl) (zm5z os _)

set_option maxRecDepth 100000 in
set_option maxHeartbeats 2000000 in
theorem lifted(os:Os)(started:os.Started)(H:Type)(enc:TypeId×Value→H)(F:Stop.Interp):
    ReturnsInHanded {} Tryz.checked os 7 .any ((OpenSpec.ofChange Rows.fnExactParseUrlSpec).preRow enc Tryz.prog Tryz.f7 Rows.fnExactParseUrlRow.domain false xVz) (((OpenSpec.ofChange Rows.fnExactParseUrlSpec).at F).post enc Tryz.prog Tryz.f7 false true false false):=by
  refine returnsInHanded_of_row (C:=Tryz.checked) (s:=OpenSpec.ofChange Rows.fnExactParseUrlSpec) zjTz started (by kernel_rfl) Tryz.func7
    (witness_row_atRef (enc:=enc) (C:=Tryz.checked) false ({World.holding Tryz.prog os ⟨#[],#[],[]⟩with heap:=za8z (World.holding Tryz.prog os ⟨#[],#[],[]⟩).heap}) #[.string ⟨#[]⟩] rfl (by kernel_rfl) (by kernel_rfl) (by kernel_rfl) (witness_row os enc)) ?_
  intro W base args ds gs before hval hW _ _ _ hL hSh _
  exact contract H enc W base args ds gs before hval hW hL hSh

theorem both_true{a b:Bool}(h:a=true)(k:b=true):(a&&b)=true:=by rw[h,k];rfl
set_option maxRecDepth 100000 in
set_option maxHeartbeats 16000000 in
theorem said:Rows.FnExactParseUrlSaid:=
  OpenClaim.holds_of_cond 7 Tryz.f7 rfl rfl rfl rfl rfl rfl rfl ⟨rfl,rfl,rfl,rfl,rfl⟩ rfl rfl rfl rfl rfl (by as_aux_lemma=>kernel_rfl) Tryz.func7
    (by unfold joinedFacts;repeat' (with_reducible refine both_true ?_ ?_)
        all_goals as_aux_lemma=>kernel_rfl)
    (by as_aux_lemma=>exact of_decide_eq_true (by kernel_rfl)) (by as_aux_lemma=>unfold Func.isWrapper;first|(rw[if_pos (by decide+kernel)];kernel_rfl)|(rw[if_neg (by decide+kernel)];exact ⟨rfl,rfl⟩))
    (fun os started H enc _ F=>by rw[OpenClaim.pre_eq_preRow];exact lifted os started H enc F)

theorem plain(f:FuncId)(fn:Func)(hf:Tryz.pinned.checked.prog.funcNamed "loop.example/g00191/laws.FnExactParseUrl" =some f)(hfn:Tryz.pinned.checked.prog.funcs[f]? =some fn):
    true=Tryz.pinned.checked.prog.looks []∧ ∀(j:Nat) t,fn.params[j]? =some t→Tryz.pinned.checked.prog.wantsStandIn t=false:=by
  obtain rfl:f=7:=Option.some.inj ((show Tryz.prog.funcNamed "loop.example/g00191/laws.FnExactParseUrl" =some 7 by kernel_rfl).symm.trans hf)|>.symm
  obtain rfl:fn=Tryz.f7:=(Option.some.inj (Tryz.func7.symm.trans hfn)).symm
  refine ⟨by kernel_rfl,fun j t ht=> ?_⟩
  rw[Tryz.params7]at ht
  obtain rfl:t=9:=by simpa using Array.mem_of_getElem? ht
  exact (show Tryz.prog.wantsStandIn 9=false by kernel_rfl)

theorem card:Rows.FnExactParseUrlCardSaid:=
  Claim7.holds_tied_plain_at .later [] _ _ _ _ said (fun _ h=>by cases h) (by kernel_rfl) (fun _ h=>by cases h) fnExactParseUrl_row_tie rfl ⟨rfl,rfl⟩ (by kernel_rfl) rfl plain (by kernel_rfl)
end Go.Proofs.YtgcbaphbiaimoaaGreatDoor.fnExactParseUrl

namespace Go.Proofs.YtgcbaphbiaimoaaGreatDoor
theorem fnExactParseUrl_holds:Rows.FnExactParseUrlCardSaid:=fnExactParseUrl.card
#print axioms fnExactParseUrl_holds
end Go.Proofs.YtgcbaphbiaimoaaGreatDoor
