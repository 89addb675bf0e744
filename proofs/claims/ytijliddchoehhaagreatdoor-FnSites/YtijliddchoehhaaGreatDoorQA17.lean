/- Endless, ThrWalk. -/
import Derived.RangeFuncNested
import Derived.RangeFuncBound
import Derived.RangeFuncCalls
import Derived.RangeFuncLeaves
import Derived.Test.YtijliddchoehhaaGreatDoorQA12
import Derived.RangeFuncBox
import Derived.Shelf.Abstract
import Derived.Shelf.RegionOpen
import Derived.OwnWalkIn
import Derived.TacticsInMore
import Derived.LoopNIn
import Derived.LoopIn
import Derived.Maps.AppendAt
set_option maxHeartbeats 2000000
set_option maxRecDepth 100000
namespace Go.Proofs.YtijliddchoehhaaGreatDoor
open Go.RowKit
def RoundEnds(B:Nat)(I:Nat→World→Prop)(Ix:Code→World→Prop)(k:Nat)(W:World):Exit→Act→World→Prop
 | .normal,_,V=>KeepsFrom B W V∧I (k+1) V
 | .ret,_,V=>KeepsFrom B W V∧Ix .ret V
 | .exit id,_,V=>KeepsFrom B W V∧Ix (.exit id) V
 | .goto _,_,_=>False
 | .panic _,_,_=>False
 | .outgrown,_,_=>False
def Endless(F:Fence)(n:Nat)(P:Program)(g:Nat)(lb:Array Value)(x:Nat→Value)(C:World→Prop)(N:Nat):Prop:=
 ∀(l:Nat) (J:Nat→World→Prop) (Jx:World→Prop) (W:World),
  (∀k V,J k V→k<N∧C V)→
  (∀k V,J k V→YieldAt F (n-1) P l #[x k] V fun e V'=>(e=.returned (.bool true)∧J (k+1) V')∨(e=.returned (.bool false)∧Jx V'))→
  J 0 W→
  CallsIn F n P g (#[.func (.yield l) #[] #[]]++lb) W fun e V=>(∃v,e=.returned v)∧Jx V
def LoopAt(W:World)(b:Nat)(r:Loop):Prop:=W.heap[b+1]? =some (.loop r)∧W.heap[b]? =some (.deferred (some []))
theorem LoopAt.put{W:World}{b:Nat}{r:Loop}(h:LoopAt W b r)(r':Loop):LoopAt (W.putObj (b+1) (.loop r')) b r':=
 ⟨World.putObj_heap_same (Array.getElem?_eq_some_iff.1 h.1).1,(World.putObj_heap_other (by omega)).trans h.2⟩
theorem LoopAt.keeps{W V:World}{b:Nat}{r:Loop}(h:LoopAt W b r)(hk:KeepsFrom b W V):LoopAt V b r:=
 ⟨hk.same _ _ (by omega) h.1 rfl,hk.same _ _ (Nat.le_refl _) h.2 rfl⟩
theorem OwnFrom.put{β:Type}{b:Nat}{I:β→World→Prop}(h:OwnFrom b I){s:β}{W:World}{r:Loop}(hl:LoopAt W b r)(o:Obj)(hs:I s W):I s (W.putObj (b+1) o):=
 h.putObj o hs (by omega) hl.1 rfl
theorem round_of{F:Fence}{n:Nat}{P:Program}{fn:FuncId}(hfn:F.fn fn){b:Nat}{r:Loop}{p:Tmp}(hp:r.params= #[p])(hr:r.state=.ready)(hpe:r.pending=none)(hf:r.fn=fn){x:Nat→Value}{a₁:Nat→Act}{k:Nat}
  {I:Nat→World→Prop} {Ix:Code→World→Prop} (hI:OwnFrom b I) (hIx: ∀c,OwnFrom b (fun (_:Unit)=>Ix c)) {W:World} (hi:I k W) (hl:LoopAt W b r)
  (hassign: ∀(K:Act→World→Prop),K (a₁ k) W→r.assign.wpIn (F.inRound (b+1)) n P (Exit.then K (fun _ _ _=>False)) {tmps:=r.tmps.setIfInBounds p (x k),defers:=[]} W)
  (hbody: ∀V,I k V→r.body.wpIn (F.inRound (b+1)) n P (RoundEnds b I Ix k V) (a₁ k) V):
  YieldAt F n P (b+1) #[x k] W fun e V=>(e=.returned (.bool true)∧I (k+1) V∧LoopAt V b r)∨
   (e=.returned (.bool false)∧ ∃c,Ix c V∧LoopAt V b {r with state:=.done,pending:=some c}):=by
 have hy:=run_yield (P:=P) (args:= #[x k]) hl.1 (by rw[hp];rfl)
 rw[hp,hf]at hy
 have hz:(Array.zip #[p] #[x k]).foldl (fun (tmps:Array Value) (y:Tmp×Value)=>tmps.setIfInBounds y.1 y.2) r.tmps=r.tmps.setIfInBounds p (x k):=by simp
 rw[show (Array.foldl (fun tmps (y:Tmp×Value)=>match y with|(t,a)=>tmps.setIfInBounds t a) r.tmps (Array.zip #[p] #[x k]))=r.tmps.setIfInBounds p (x k) from hz]at hy
 refine ⟨fn,_,r.assign,r.body,hy,roundIn_of_wpIn hfn ?_⟩
 apply hassign
 refine ⟨_,run_beginRound hl.1 hr,?_⟩
 have hl2:LoopAt _ b _:=hl.put {r with state:=.busy}
 refine wpIn_mono (hbody _ (OwnFrom.put hI hl _ hi)) ?_
 rintro e a3 V hV
 cases e with
 |normal=>
  have hl3:=hl2.keeps hV.1
  have h4:=OwnFrom.put hI hl3 (.loop r) hV.2
  have h5:=hl3.put r
  have h6:=run_endRound (P:=P) none hl3.1
  refine ⟨_,_,h6,.inl ⟨rfl,?_⟩⟩
  have e6:({r with state:=LoopState.ready,pending:=none}:Loop)=r:=by cases r;simp at hr hpe;subst hr;subst hpe;rfl
  simp only[Option.isNone_none,if_true]
  rw[e6]
  exact ⟨h4,h5⟩
 |ret=>
  have hl3:=hl2.keeps hV.1
  exact ⟨_,_,run_endRound (P:=P) (some .ret) hl3.1,.inr ⟨rfl,.ret,OwnFrom.put (hIx .ret) (s:=()) hl3 _ hV.2,hl3.put _⟩⟩
 |exit id=>
  have hl3:=hl2.keeps hV.1
  exact ⟨_,_,run_endRound (P:=P) (some (.exit id)) hl3.1,.inr ⟨rfl,.exit id,OwnFrom.put (hIx (.exit id)) (s:=()) hl3 _ hV.2,hl3.put _⟩⟩
 |goto t=>exact hV.elim
 |panic ch=>exact hV.elim
 |outgrown=>exact hV.elim
theorem wpIn_endless{F:Fence}{n:Nat}{P:Program}{g:Operand}{p:Tmp}{assign body:Code}{Q:Exit→Act→World→Prop}{a:Act}{w:World}
  (hro:F.round=none) (h1:1≤n) {gf:Nat} {lb:Array Value} (hg:a.eval g=.func (.func gf) #[] lb) (hFg:F.fn gf) (eg: ∀args w,(callFunc gf args).run P w=.ok (.enter gf args) w)
  {x:Nat→Value} {C:World→Prop} {N:Nat} (hit:Endless F (n-1) P gf lb x C N)
  (I:Nat→World→Prop) (Ix:Code→World→Prop) (hI:OwnFrom w.heap.size I) (hIx: ∀c,OwnFrom w.heap.size (fun (_:Unit)=>Ix c)) (hC: ∀k V,I k V→k<N∧C V) (h0:I 0 w) (a₁:Nat→Act)
  (hassign: ∀(l k:Nat) (W:World) (K:Act→World→Prop),K (a₁ k) W→assign.wpIn (F.inRound l) (n-1-1) P (Exit.then K (fun _ _ _=>False)) {tmps:=a.tmps.setIfInBounds p (x k),defers:=[]} W)
  (hbody: ∀(l k:Nat) (W:World),I k W→body.wpIn (F.inRound l) (n-1-1) P (RoundEnds w.heap.size I Ix k W) (a₁ k) W)
  (hstop: ∀(D:Nat) (c:Code) (W:World),w.heap.size≤D→Ix c W→W.heap[D]? =some (.deferred (some []))→c.wpIn F n P Q {a with defers:={target:=.collected D,args:= #[]}::a.defers} W):
  (Code.rangeFunc g #[p] assign body).wpIn F n P Q a w:=by
 refine wpIn_rangeFunc fun fn hfn=> ?_
 rw[hro]
 obtain ⟨r,hr⟩: ∃r:Loop,r={state:=.ready,pending:=none,fn,tmps:=a.tmps,params:= #[p],assign,body,defers:=w.heap.size}:=⟨_,rfl⟩
 have hen:=run_enterLoop_outer (P:=P) (w:=w) fn a.tmps #[p] assign body
 rw[←hr]at hen
 have hl:LoopAt ((w.alloc (.deferred (some []))).alloc (.loop r)) w.heap.size r:=by
  constructor
  ·have h:=World.alloc_heap_new (w.alloc (.deferred (some []))) (.loop r)
   rwa[World.size_alloc]at h
  exact (Below.heap_alloc _ _ _ (by simp)).trans (World.alloc_heap_new w _)
 have hi:=hI.alloc (.loop r) (hI.alloc (.deferred (some [])) h0)
 generalize (w.alloc (.deferred (some []))).alloc (.loop r)=W1 at hen hl hi
 refine ⟨_,_,W1,{target:=.fn (.func gf) lb,args:= #[.func (.yield (w.heap.size+1)) #[] #[]]},W1,gf,#[.func (.yield (w.heap.size+1)) #[] #[]]++lb,W1,hen,?_,?_,?_,fun _=>h1,?_⟩
 ·simp only[resolve,hg]
  simp[go_sem]
 ·intro f' hf'
  simp[Target.leads]at hf'
  subst hf'
  exact hFg
 ·simp[invoke,go_sem,eg]
 refine (hit (w.heap.size+1) (fun k V=>I k V∧LoopAt V w.heap.size r) (fun V=> ∃c,Ix c V∧LoopAt V w.heap.size {r with state:=.done,pending:=some c}) W1 (fun k V h=>hC k V h.1) ?_ ⟨hi,hl⟩).mono ?_
 ·rintro k V ⟨hk,hv⟩
  refine (round_of (a₁:=a₁) hfn (by rw[hr]) (by rw[hr]) (by rw[hr]) (by rw[hr]) hI hIx hk hv ?_ ?_).mono (fun _ _ h=>h)
  ·rw[hr];exact fun K hK=>hassign _ k V K hK
  rw[hr];exact fun V hV=>hbody _ k V hV
 rintro e V ⟨⟨v,rfl⟩,c,hc,hv⟩
 exact ⟨some c,_,run_endLoop (P:=P) hv.1 (by simp),hstop _ c _ (Nat.le_refl _) (OwnFrom.put (hIx c) (s:=()) hv _ hc) (hv.put _).2⟩
end Go.Proofs.YtijliddchoehhaaGreatDoor
namespace Go.Proofs.YtijliddchoehhaaGreatDoor
open Go.RowKit Go.Shelf
attribute [local go_sem] Oper.semAt_some
def thrN(bias k:Nat):Nat:=limN (36*(k+1)) bias
theorem lim_int(k bias:Nat):min (max ((k:Int)-(bias:Int)) 1) 26=(limN k bias:Int):=by
 unfold limN
 split
 ·omega
 split<;>omega
theorem thr1_in(F:Fence)(n:Nat)(h6:F.fn 165)(hro:F.round=none)(hn:1≤n)(B bias N:Nat)(hb:(bias:Int)≤2400)(hN:(N:Int)≤1000):
  Endless F n Tryz.prog 165 #[.pointer (some ⟨B,0,none⟩)] (fun k=> .int .i64 (thrN bias k:Int)) (fun V=>V.cell? ⟨B,0,none⟩=some (.int .i64 (bias:Int))) N:=fun l J Jx W hC hY h0=>by
 have HC:Hid (∀k V,J k V→k<N∧V.cell? ⟨B,0,none⟩=some (.int .i64 (bias:Int))):=hC
 have HY:Hid (∀k V,J k V→YieldAt F (n-1) Tryz.prog l #[.int .i64 (thrN bias k:Int)] V fun e V'=>(e=.returned (.bool true)∧J (k+1) V')∨(e=.returned (.bool false)∧Jx V')):=hY
 clear hC hY
 refine callsIn_of_wp Tryz.func165 rfl h6 ?_ hro
 simp only[Tryz.ntmps165,List.size_toArray,List.length_cons,List.length_nil,Nat.reduceAdd,Nat.reduceSub,Array.replicate_succ,Array.replicate_zero,List.push_toArray,List.append_toArray,List.nil_append,List.cons_append]
 gi_wp2
 gi_loopw [3] (fun p wr=> ∃k:Nat,p=.int .i64 (36*((k:Int)+1))∧J k wr) (fun p _=>(36*(1000:Int)+36-intOf p).toNat)
 case atStart=>exact ⟨0,rfl,h0⟩
 obtain ⟨k,rfl,hJ⟩:=hrel
 obtain ⟨hk,hc⟩:=HC.out k wr hJ
 have hk1:(k:Int)<1000:=by omega
 have hk0:0≤(k:Int):=by omega
 have hb0:0≤(bias:Int):=by omega
 obtain ⟨fn,tmps,assign,body,hy,hR⟩:=HY.out k wr hJ
 have hL:=lim_int (36*(k+1)) bias
 rw[show ((36*(k+1):Nat):Int)=36*((k:Int)+1) by omega]at hL
 unfold thrN at hy
 rw[←hL]at hy
 clear hL
 gi_wp2
 refine hR.mono ?_
 rintro e W3 (⟨rfl,hJ3⟩|⟨rfl,hJx3⟩)
 ·gi_wp2
  go_roundw
  case rel=>exact ⟨k+1,by go_num,hJ3⟩
  case measure=>simp[intOf];omega
 gi_wp2
 go_end0
 exact ⟨⟨_,rfl⟩,hJx3⟩
theorem thr_in(F:Fence)(n:Nat)(h5:F.fn 157)(hro:F.round=none)(bias:Int)(w:World):
  CallsIn F n Tryz.prog 157 #[.int .i64 bias] w fun e w'=>e=.returned (.func (.func 165) #[] #[.pointer (some ⟨w.heap.size,0,none⟩)])∧w'=w.alloc (.cells #[.int .i64 bias] 3):=by
 refine callsIn_of_wp Tryz.func157 rfl h5 ?_ hro
 simp only[Tryz.ntmps157,List.size_toArray,List.length_cons,List.length_nil,Nat.reduceAdd,Nat.reduceSub,Array.replicate_succ,Array.replicate_zero,List.push_toArray,List.append_toArray,List.nil_append,List.cons_append]
 gi_wp2
 go_ret
 exact ⟨rfl,rfl⟩
end Go.Proofs.YtijliddchoehhaaGreatDoor
