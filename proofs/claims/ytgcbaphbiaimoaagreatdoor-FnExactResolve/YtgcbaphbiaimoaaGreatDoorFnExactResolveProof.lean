/- Proved: laws.FnExactResolve answers true at every address and text and leaves them as they were; no condition. -/
import Derived.Test.YtgcbaphbiaimoaaGreatDoorRows
import Derived.Test.YtgcbaphbiaimoaaGreatDoorCards
import Derived.Test.YtgcbaphbiaimoaaGreatDoorTie
import Derived.Test.YtgcbaphbiaimoaaGreatDoorQB25
import Derived.Test.YtgcbaphbiaimoaaGreatDoorQB36
import Derived.OpenShut
import Derived.ShutString
namespace Go.Proofs.YtgcbaphbiaimoaaGreatDoor.fnExactResolve
open _root_.Go.World renaming holding->za
open _root_.Go.Proofs.Tryz
open _root_.Go.Proofs.YtgcbaphbiaimoaaGreatDoor.Tryz
open Go.ChangeShapes Go.WideShapes Go.ChangeAt Go.RowKit
open Go.ChangeMaps (open_string shut_string)
set_option linter.unusedVariables false
set_option linter.unusedSimpArgs false

set_option maxRecDepth 100000 in
set_option maxHeartbeats 8000000 in
theorem walk(s k n p:Int)(nm a r:ByteArray)(q:Bool)(x0 x1 x2 x3 x4 x5 x6 x7:Int)(S:ByteArray)(hn:nm.size<=maxLen)(ha:a.size<=maxLen)(hr:r.size<=maxLen)(hS:S.size<=maxLen)(w:World)(ad:Nat->Addr)(hT:qZ ad w):
    Calls prog 8 #[.agg (aA s k nm n x0 x1 x2 x3 x4 x5 x6 x7 p a q r).toArray,.string S] w fun e w'=>e=.returned (.bool true)/\Below w.heap.size w w':=by
  exact Y4 ad s k n p nm a r q x0 x1 x2 x3 x4 x5 x6 x7 S w hn ha hr hS hT

set_option maxRecDepth 100000 in
theorem contract(H:Type)(enc:TypeId×Value->H)(W:World)(base:Nat)(args:Array Value)(ds gs:List (DataW H))(before:List MemPlace)
    (hval: ∀(j:Nat) t v,f8.params[j]? =some t->args[j]? =some v->Value.okWide prog W .any base t v)
    (hW:DataW.Whole enc prog f8.params.toList Rows.fnExactResolveSpec.vars false W args.toList ds gs before) (hL:laidMetH prog lP W) (hSh:W.ShapedOpen prog):
    Calls prog 8 args W fun e W'=> ∃v,e=.returned v/\Rows.fnExactResolveSpec.post enc prog f8 false true false false W args v W':=by
  have hW':=hW;obtain ⟨p,q,hA0,hV,rfl,hfz,hnd⟩:=hW;have hA:DataW.TrodAll enc prog W 0 (fun _=>true) true f8.params.toList args.toList ds p:=hA0;rw[params8]at hA hval;obtain ⟨v0,vs0,d0,ds0,p0,q0,hargs,rfl,rfl,h0,r0⟩:=trodAll_cons hA;obtain ⟨v1,vs1,d1,ds1,p1,q1,rfl,rfl,rfl,h1,r1⟩:=trodAll_cons r0;obtain ⟨rfl,rfl,rfl⟩:=trodAll_nil r1
  obtain rfl:args= #[v0,v1]:=by cases args;simp_all
  obtain ⟨g1,g2,g3,g4,g5,g6,g7,rfl⟩:=JC hV;obtain ⟨ad,hSens⟩:=WJ hL;have k0:=h0;have lt0: ∀x∈p0,x.block<W.heap.size:=by obtain ⟨m,hm⟩:=k0;exact DataW.trod_lt m _ _ _ hm
  obtain ⟨s,k,n,pp,nm,a,r,qq,x0,x1,x2,x3,x4,x5,x6,x7,rfl,hn,ha,hr⟩:=Hd (hval 0 46 v0 rfl rfl) h0;obtain ⟨S,rfl,rfl,rfl,hS⟩:=open_string underlying9 (hval 1 9 v1 rfl rfl) h1;clear hA0;refine (walk s k n pp nm a r qq x0 x1 x2 x3 x4 x5 x6 x7 S hn ha hr hS W ad ⟨WF (lQ hL),K8 (lQ hL),K9 (lQ hL),EZ hSh,MX (lQ hL),WG (lQ hL),hSens⟩).mono fun e W' ⟨he,bel⟩=> ?_
  subst he;exact ⟨_,rfl,_,_,_,[],_,_,hW',trodAll_mk1 (shut_bool underlying4 _),(trodAll_cons_mk (Below.trod nH kr (of_decide_eq_true kr) k0 bel lt0) (trodAll_cons_mk (shut_string underlying9 hS) trodAll_mk0)),bel.trodVars nH kr hV,bel.frame _,fun h=>by cases h⟩

theorem witness_row(os:Os){H:Type}(enc:TypeId×Value->H):
    (OpenSpec.ofChange Rows.fnExactResolveSpec).preRow enc prog f8 Rows.fnExactResolveRow.domain false lP (({za prog os ⟨eY,#[],[]⟩with heap:=sC (za prog os ⟨eY,#[],[]⟩).heap}:World).forCall (fun _ _=>0) ⟨#[],#[.agg #[.int .i64 0,.int .i64 0,.string ⟨#[]⟩,.int .i64 0,.int .i64 0,.int .i64 0,.int .i64 0,.int .i64 0,.int .i64 0,.int .i64 0,.int .i64 0,.int .i64 0,.int .i64 0,.string ⟨#[]⟩,.bool false,.string ⟨#[]⟩],.string ⟨#[]⟩],[]⟩).memory #[.agg #[.int .i64 0,.int .i64 0,.string ⟨#[]⟩,.int .i64 0,.int .i64 0,.int .i64 0,.int .i64 0,.int .i64 0,.int .i64 0,.int .i64 0,.int .i64 0,.int .i64 0,.int .i64 0,.string ⟨#[]⟩,.bool false,.string ⟨#[]⟩],.string ⟨#[]⟩]:=by
  obtain ⟨x,hx⟩:=Option.isSome_iff_exists.1 (show (DataW.whole enc prog (({za prog os ⟨eY,#[],[]⟩with heap:=sC (za prog os ⟨eY,#[],[]⟩).heap}:World).forCall (fun _ _=>0) ⟨#[],#[.agg #[.int .i64 0,.int .i64 0,.string ⟨#[]⟩,.int .i64 0,.int .i64 0,.int .i64 0,.int .i64 0,.int .i64 0,.int .i64 0,.int .i64 0,.int .i64 0,.int .i64 0,.int .i64 0,.string ⟨#[]⟩,.bool false,.string ⟨#[]⟩],.string ⟨#[]⟩],[]⟩).memory f8.params.toList Rows.fnExactResolveSpec.vars false (#[.agg #[.int .i64 0,.int .i64 0,.string ⟨#[]⟩,.int .i64 0,.int .i64 0,.int .i64 0,.int .i64 0,.int .i64 0,.int .i64 0,.int .i64 0,.int .i64 0,.int .i64 0,.int .i64 0,.string ⟨#[]⟩,.bool false,.string ⟨#[]⟩],.string ⟨#[]⟩]:Array Value).toList 8).isSome=true by kernel_rfl);exact OpenSpec.preRow_of_cond 8 hx kr (fun k hk=>by cases hk) kr (M0 os _)

set_option maxRecDepth 100000 in
set_option maxHeartbeats 2000000 in
theorem lifted(os:Os)(started:os.Started)(H:Type)(enc:TypeId×Value->H)(F:Stop.Interp):
    ReturnsInHanded {} checked os 8 .any ((OpenSpec.ofChange Rows.fnExactResolveSpec).preRow enc prog f8 Rows.fnExactResolveRow.domain false lP) (((OpenSpec.ofChange Rows.fnExactResolveSpec).at F).post enc prog f8 false true false false):=by
  refine returnsInHanded_of_row (C:=checked) (s:=OpenSpec.ofChange Rows.fnExactResolveSpec) WD started kr func8
    (witness_row_atRef (enc:=enc) (C:=checked) false ({za prog os ⟨eY,#[],[]⟩with heap:=sC (za prog os ⟨eY,#[],[]⟩).heap}) #[.agg #[.int .i64 0,.int .i64 0,.string ⟨#[]⟩,.int .i64 0,.int .i64 0,.int .i64 0,.int .i64 0,.int .i64 0,.int .i64 0,.int .i64 0,.int .i64 0,.int .i64 0,.int .i64 0,.string ⟨#[]⟩,.bool false,.string ⟨#[]⟩],.string ⟨#[]⟩] rfl kr kr kr (witness_row os enc)) ?_
  intro W base args ds gs before hval hW _ _ _ hL hSh _;exact contract H enc W base args ds gs before hval hW hL hSh

theorem both_true{a b:Bool}(h:a=true)(k:b=true):(a&&b)=true:=by rw[h,k];rfl
set_option maxRecDepth 100000 in
set_option maxHeartbeats 16000000 in
theorem said:Rows.FnExactResolveSaid:=
  OpenClaim.holds_of_cond 8 f8 rfl rfl rfl rfl rfl rfl rfl ⟨rfl,rfl,rfl,rfl,rfl⟩ rfl rfl rfl rfl rfl (by as_aux_lemma=>kernel_rfl) func8
    (by unfold joinedFacts;repeat' (with_reducible refine both_true ?_ ?_)
        all_goals as_aux_lemma=>kernel_rfl)
    (by as_aux_lemma=>exact of_decide_eq_true kr) (by as_aux_lemma=>unfold Func.isWrapper;first|(rw[if_pos (by decide+kernel)];kernel_rfl)|(rw[if_neg (by decide+kernel)];exact ⟨rfl,rfl⟩))
    (fun os started H enc _ F=>by rw[OpenClaim.pre_eq_preRow];exact lifted os started H enc F)

theorem plain(f:FuncId)(fn:Func)(hf:pinned.checked.prog.funcNamed "loop.example/g00191/laws.FnExactResolve" =some f)(hfn:pinned.checked.prog.funcs[f]? =some fn):
    true=pinned.checked.prog.looks []/\ ∀(j:Nat) t,fn.params[j]? =some t->pinned.checked.prog.wantsStandIn t=false:=by
  obtain rfl:f=8:=Option.some.inj ((show prog.funcNamed "loop.example/g00191/laws.FnExactResolve" =some 8 by kernel_rfl).symm.trans hf)|>.symm
  obtain rfl:fn=f8:=(Option.some.inj (func8.symm.trans hfn)).symm
  refine ⟨kr,fun j t ht=> ?_⟩;rw[params8]at ht;have hm:=Array.mem_of_getElem? ht;simp at hm
  rcases hm with rfl|rfl
  .exact (show prog.wantsStandIn 46=false by kernel_rfl)
  .exact (show prog.wantsStandIn 9=false by kernel_rfl)

theorem card:Rows.FnExactResolveCardSaid:=
  Claim7.holds_tied_plain_at .later [] _ _ _ _ said (fun _ h=>by cases h) kr (fun _ h=>by cases h) fnExactResolve_row_tie rfl ⟨rfl,rfl⟩ kr rfl plain kr
end Go.Proofs.YtgcbaphbiaimoaaGreatDoor.fnExactResolve

namespace Go.Proofs.YtgcbaphbiaimoaaGreatDoor
open _root_.Go.World renaming holding->za
open _root_.Go.Proofs.Tryz
open _root_.Go.Proofs.YtgcbaphbiaimoaaGreatDoor.Tryz
theorem fnExactResolve_holds:Rows.FnExactResolveCardSaid:=fnExactResolve.card
#print axioms fnExactResolve_holds
