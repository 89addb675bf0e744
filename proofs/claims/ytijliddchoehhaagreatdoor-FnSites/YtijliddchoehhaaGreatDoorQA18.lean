/- RoundRegion, NumImpl, AdaptImpl. -/
import Derived.Test.YtijliddchoehhaaGreatDoorQA17
import Derived.RegionIn
import Derived.Test.YtijliddchoehhaaGreatDoorQA03
set_option maxHeartbeats 4000000
set_option maxRecDepth 100000
namespace Go.Proofs.YtijliddchoehhaaGreatDoor
open Go.RowKit
def NoDefers(ops:Array Oper):Prop:= ∀(i:Nat) (o:Oper),ops[i]? =some o→ ∀c,o.op≠ .defer c
def Op.plain:Op→Bool
 | .defer _=>false
 |_=>true
theorem noDefers_of{ops:Array Oper}(h:ops.toList.all (fun o=>Op.plain o.op)=true):NoDefers ops:=by
 intro i o ho c e
 have hm:o∈ops.toList:=by
  rw[←Array.getElem?_toList]at ho
  exact List.mem_of_getElem? ho
 have:=List.all_eq_true.1 h o hm
 rw[e]at this
 cases this
theorem wpAnyIn_round{n:Nat}{P:Program}{md:Region.Mode}{ops:Array Oper}{Q:Exit→Act→World→Prop}(l:Nat)(hd:NoDefers ops): ∀(fuel:Nat) (listed:Array Bool) (a:Act) (w:World),
  wpAnyIn Fence.wide n P md ops Q fuel listed a w→wpAnyIn (Fence.wide.inRound l) n P md ops Q fuel listed a w
 |0,_,_,_,h=>h
 |fuel+1,listed,a,w,h=>by
  refine ⟨h.1,fun i hi=> ?_⟩
  have h2:=h.2 i hi
  unfold wpOpIn at h2⊢
  cases ho:ops[i]? with
  |none=>
   rw[ho]at h2
   exact wpAnyIn_round l hd fuel _ _ _ h2
  |some o=>
   rw[ho]at h2
   simp only at h2⊢
   by_cases hw:Region.wanted o (yielded ops a.tmps)=true
   ·rw[if_pos hw]at h2⊢
    have h3:=Oper.wpIn_mono (fun a w=>wpAnyIn_round l hd fuel _ a w) h2
    refine ⟨h3.1,?_⟩
    have h4:=h3.2
    rw[Oper.semAt_eq _ _ _ (hd i o ho)]at h4⊢
    exact h4
   rw[if_neg hw]at h2⊢
   exact ⟨h2.1,wpAnyIn_round l hd fuel _ _ _ h2.2⟩
theorem wpIn_region_round{id n l:Nat}{P:Program}{ops:Array Oper}{Q:Exit→Act→World→Prop}{a:Act}{w:World}(hm:P.follows .mixedOrders=true)(hd:ops.toList.all (fun o=>Op.plain o.op)=true)
  (h:wpAnyIn Fence.wide n P .any ops Q ops.size (Array.replicate ops.size false) a w.drew):(Code.region id ops true).wpIn (Fence.wide.inRound l) n P Q a w:=
 wpIn_region_any hm (wpAnyIn_round l (noDefers_of hd) _ _ _ _ h)
theorem stepIn_append_mine{F:Fence}{n:Nat}{P:Program}{w:World}{ops:Array Oper}{o:Oper}{a:Act}{K:Act→World→Prop}{Q:Exit→Act→World→Prop}{E:Prop}(hg:o.guard=none)(s x:Operand)(t:TypeId)
  (hop:o.op=.call {callee:=.builtin .append,args:= #[s,x],argTypes:= #[t,t]})
  (B:Nat) (e:TypeId) (z:Value) (bytes:Nat) (ht:P.underlying t=some (.slice e)) (hinfo:(P.info? e).map (fun i=>(i.zero,i.size,i.bytes))=some (some z,1,bytes)) (hz:z.cells.size=1)
  (v:Value) (n':Nat) (xs:List Value) (hs:a.eval s=v) (hown:w.ownsRow B e 1 v n' xs)
  (ad:Addr) (m c:Nat) (news:List Value) (hx:a.eval x=.slice (some ad) m c) (hl:news.length=m*1) (hnews: ∀j u,news[j]? =some u→w.cell? (ad.add j)=some u) (h1: ∀u∈news,u.oneCell'=true)
  (h63:n'+m≤maxLen) (hbytes:(n'+m)*bytes≤140737488355328) (hbase:B≤w.heap.size)
  (hK: ∀v' w',w'.ownsRow B e 1 v' (n'+m) (xs++news)→w.grownBy w' v.ownBlock→K (a.put o.dst v') w'):
  if Region.wanted o (yielded ops a.tmps)=true then Oper.wpIn F n P o a w K Q else E:=by
 obtain ⟨i0,hi,hz0,hz1,hz2⟩:=info_parts hinfo
 have hw:Region.wanted o (yielded ops a.tmps)=true:=by simp[Region.wanted,hg]
 rw[if_pos hw]
 obtain ⟨v',w',hrun,r1,r2,_⟩:=run_append_own (P:=P) w B t o.type e i0 z 1 bytes ht hi hz0 hz1 hz2 hz (by decide) v n' xs hown ad m c news hl hnews h1 h63 hbytes hbase
 refine ⟨?_,?_⟩
 ·simp[Oper.about,hop,resolve,Target.leads,Sem.run_pure]
 rw[Oper.semAt_eq _ _ _ (by rw[hop];intro c hc;cases hc)]
 simp[execOp,hop,resolve,invoke,builtin,hs,hx,hrun,Result.andThen]
 exact hK v' w' r1 r2
end Go.Proofs.YtijliddchoehhaaGreatDoor
namespace Go.Proofs.YtijliddchoehhaaGreatDoor
open Go.RowKit Go.Shelf
attribute [local go_sem] Oper.semAt_some
def digits36:ByteArray:=⟨#[97,98,99,100,101,102,103,104,105,106,107,108,109,110,111,112,113,114,115,116,117,118,119,120,121,122,48,49,50,51,52,53,54,55,56,57]⟩
theorem dig36_at: ∀n,(h:n<36)→(digits36[n]'h).toNat=digB n:=by decide+kernel
theorem dig36_run(P:Program)(t:TypeId)(h:P.underlying t=some .string)(k:IntKind)(n:Nat)(hn:n<36)(i:Int)(hi:i=(n:Int))(W:World):
  (Instr.index t (.string ⟨#[97,98,99,100,101,102,103,104,105,106,107,108,109,110,111,112,113,114,115,116,117,118,119,120,121,122,48,49,50,51,52,53,54,55,56,57]⟩) (.int k i)).run P W=.ok (.int .u8 (digB n:Int)) W:=by
 subst hi
 have hs:(⟨#[97,98,99,100,101,102,103,104,105,106,107,108,109,110,111,112,113,114,115,116,117,118,119,120,121,122,48,49,50,51,52,53,54,55,56,57]⟩:ByteArray).size=36:=rfl
 rw[run_index_string W t _ k _ h,dif_pos (by omega)]
 simp only[Int.toNat_natCast]
 exact congrArg (fun d:Nat=>Result.ok (Value.int .u8 (d:Int)) W) (dig36_at n hn)
def NumI(B n0:Nat)(w:World)(o0:List Nat)(q0 bias k:Nat)(W:World):Prop:=
 ∃(f q:Nat) (o:List Nat) (v:Value),Boxed W n0 22 v∧Boxed W (n0+1) 3 (.int .i64 (q:Int))∧Boxed W (n0+2) 3 (.int .i64 (bias:Int))∧f+k=27∧q≤q0∧q<2^f∧o.length+f≤o0.length+27∧
  o++(numF (f+1) (36*(k+1)) bias q).map digB=o0++(numF 28 36 bias q0).map digB∧W.ownsRow B 5 1 v o.length (bcells (b8 o))∧Below B w W
def NumX(B n0:Nat)(w:World)(o0:List Nat)(q0 bias:Nat)(c:Code)(W:World):Prop:=
 c=.exit 0∧ ∃v,Boxed W n0 22 v∧W.ownsRow B 5 1 v (o0++(numF 28 36 bias q0).map digB).length (bcells (b8 (o0++(numF 28 36 bias q0).map digB)))∧Below B w W
theorem box_keep{W V:World}{row:Option Nat}{b:Nat}{t:TypeId}{v:Value}(h:Boxed W b t v)(hg:W.grownBy V row)(hr: ∀r,row=some r→ ∃o:Obj,W.heap[r]? =some o∧o.isCells=false):Boxed V b t v:=by
 refine h.kept hg fun e=> ?_
 obtain ⟨o,ho,hc⟩:=hr b e.symm
 rw[show W.heap[b]? =_ from h]at ho
 cases ho
 cases hc
theorem row_keep{W V:World}{row:Option Nat}{B:Nat}{e:TypeId}{v:Value}{n:Nat}{xs:List Value}(h:W.ownsRow B e 1 v n xs)(hg:W.grownBy V row)(hr: ∀r,row=some r→ ∃o:Obj,W.heap[r]? =some o∧o.isCells=false):V.ownsRow B e 1 v n xs:=by
 refine h.kept hg ?_
 rcases h.2 with ⟨rfl,_⟩|⟨g,cap,cur,rfl,_,hgb,_⟩
 ·exact .inl rfl
 refine .inr fun e'=> ?_
 obtain ⟨o,ho,hc⟩:=hr g (by simpa[Value.ownBlock] using e'.symm)
 rw[hgb]at ho
 cases ho
 cases hc
theorem below_keep{B b:Nat}{w W V:World}{row:Option Nat}(h:Below B w W)(hg:W.grownBy V row)(hB:B≤b)(hs:B≤w.heap.size)(hr: ∀r,row=some r→b≤r∧ ∃o:Obj,W.heap[r]? =some o∧o.isCells=false):Below B w V:=
 h.grown hg (Nat.le_trans hs h.size) (fun k e=>Nat.le_trans hB (hr k e).1)
theorem numI_own{B n0 b:Nat}{w:World}{o0:List Nat}{q0 bias:Nat}(hB:B≤b)(hs:B≤w.heap.size):OwnFrom b (NumI B n0 w o0 q0 bias):=by
 rintro k W V row ⟨f,q,o,v,h1,h2,h3,h4,h5,h6,h7,h8,h9,h10⟩ hg hr
 exact ⟨f,q,o,v,box_keep h1 hg (fun r e=>(hr r e).2),box_keep h2 hg (fun r e=>(hr r e).2),box_keep h3 hg (fun r e=>(hr r e).2),h4,h5,h6,h7,h8,row_keep h9 hg (fun r e=>(hr r e).2),below_keep h10 hg hB hs hr⟩
theorem numX_own{B n0 b:Nat}{w:World}{o0:List Nat}{q0 bias:Nat}(hB:B≤b)(hs:B≤w.heap.size)(c:Code):OwnFrom b (fun (_:Unit)=>NumX B n0 w o0 q0 bias c):=by
 rintro _ W V row ⟨hc,v,h1,h9,h10⟩ hg hr
 exact ⟨hc,v,box_keep h1 hg (fun r e=>(hr r e).2),row_keep h9 hg (fun r e=>(hr r e).2),below_keep h10 hg hB hs hr⟩
theorem implNumber_in(n:Nat)(hn:3≤n)(q0 bias:Nat)(o0:List Nat)(v0:Value)(B:Nat)(w:World)(hq:(q0:Int)≤67960831)(hb:(bias:Int)≤2400)(hown0:w.ownsRow B 5 1 v0 o0.length (bcells (b8 o0)))(hB:B≤w.heap.size)(ho:o0.length≤1048576):
  CallsIn Fence.wide n Tryz.prog 140 #[v0,.int .i64 (q0:Int),.int .i64 (bias:Int)] w fun e w'=> ∃v',e=.returned v'∧w'.ownsRow B 5 1 v' (o0++(numF 28 36 bias q0).map digB).length (bcells (b8 (o0++(numF 28 36 bias q0).map digB)))∧Below B w w':=by
 have hb0:0≤(bias:Int):=by omega
 have h1:1≤n:=by omega
 have hmx:Tryz.prog.follows .mixedOrders=true:=by kernel_rfl
 have HP:Hid (q0<2^27):=by
  show _<_
  have:(2:Nat)^27=134217728:=by decide
  omega
 obtain ⟨ao,n1,cap1,rfl⟩: ∃ao n1 cap1,v0=.slice ao n1 cap1:=by
  rcases hown0.2 with ⟨rfl,_⟩|⟨g,cap,_,rfl,_⟩
  ·exact ⟨_,_,_,rfl⟩
  exact ⟨_,_,_,rfl⟩
 refine callsIn_of_wp_marks Tryz.func140 rfl trivial ?_ rfl
 simp only[Tryz.ntmps140,List.size_toArray,List.length_cons,List.length_nil,Nat.reduceAdd,Nat.reduceSub,Array.replicate_succ,Array.replicate_zero,List.push_toArray,List.append_toArray,List.nil_append,List.cons_append]
 gi_wp2_with (refine ⟨trivial,?_⟩;gi_at_call 157;refine (thr_in Fence.wide (n-1) trivial rfl _ _).mono ?_;rintro e w' ⟨rfl,rfl⟩)
 have b1:=Boxed.new w 22 (.slice ao n1 cap1)
 have b2:=Boxed.new (w.alloc (.cells #[.slice ao n1 cap1] 22)) 3 (.int .i64 (q0:Int))
 have b3:=Boxed.new ((w.alloc (.cells #[.slice ao n1 cap1] 22)).alloc (.cells #[.int .i64 (q0:Int)] 3)) 3 (.int .i64 (bias:Int))
 rw[World.size_alloc]at b2 b3
 rw[World.size_alloc]at b3
 have hB0:Below B w (((w.alloc (.cells #[.slice ao n1 cap1] 22)).alloc (.cells #[.int .i64 (q0:Int)] 3)).alloc (.cells #[.int .i64 (bias:Int)] 3)):=(((Below.refl B w).alloc hB _).alloc (by simp;omega) _).alloc (by simp;omega) _
 have hI0:NumI B w.heap.size w o0 q0 bias 0 (((w.alloc (.cells #[.slice ao n1 cap1] 22)).alloc (.cells #[.int .i64 (q0:Int)] 3)).alloc (.cells #[.int .i64 (bias:Int)] 3)):=
  ⟨27,q0,o0,_,(b1.alloc _).alloc _,b2.alloc _,b3,rfl,Nat.le_refl _,HP.out,Nat.le_refl _,rfl,((hown0.alloc _).alloc _).alloc _,hB0⟩
 have hsz:(((w.alloc (.cells #[.slice ao n1 cap1] 22)).alloc (.cells #[.int .i64 (q0:Int)] 3)).alloc (.cells #[.int .i64 (bias:Int)] 3)).heap.size=w.heap.size+3:=by simp
 have hbx:=b3.cell
 generalize (((w.alloc (.cells #[.slice ao n1 cap1] 22)).alloc (.cells #[.int .i64 (q0:Int)] 3)).alloc (.cells #[.int .i64 (bias:Int)] 3))=W0 at*
 clear b1 b2 b3 hB0
 refine wpIn_endless rfl h1 (gf:=165) (lb:= #[.pointer (some ⟨w.heap.size+2,0,none⟩)]) (by rfl) trivial (enters_of Tryz.func165 (by kernel_rfl) rfl)
  (thr1_in Fence.wide (n-1) trivial rfl (by omega) (w.heap.size+2) bias 28 hb (by decide)) (NumI B w.heap.size w o0 q0 bias) (NumX B w.heap.size w o0 q0 bias) (numI_own (by omega) hB) (numX_own (by omega) hB) ?hC hI0
  (fun k=>{tmps:= #[.slice ao n1 cap1,.int .i64 (q0:Int),.int .i64 (bias:Int),.pointer (some ⟨w.heap.size,0,none⟩),.pointer (some ⟨w.heap.size+1,0,none⟩),undef,.slice none 0 0,.int .i64 (thrN bias k:Int),.int .i64 (bias:Int),.func (.func 165) #[] #[.pointer (some ⟨w.heap.size+2,0,none⟩)],.int .i64 (thrN bias k:Int),undef,undef,undef,undef,undef,undef,undef,undef,undef,undef,undef,undef,undef,undef,undef,undef,undef,undef,undef,undef,undef,undef,undef,undef,undef,undef,undef],defers:=[]}) ?assign ?body ?stop
 case hC=>
  rintro k V ⟨f,q,o,v,h1,h2,h3,h4,_⟩
  exact ⟨by omega,h3.cell⟩
 case assign=>
  intro l k W K hK
  gi_wp2
  exact hK
 case body=>
  rintro l k W ⟨f,q,o,v,b1,b2,b3,hf,hq1,hq2,hol,he,hrow,hbel⟩
  have HE:Hid (o++(numF (f+1) (36*(k+1)) bias q).map digB=o0++(numF 28 36 bias q0).map digB):=he
  have HF:Hid (q<2^f):=hq2
  have hsz:=hbel.size
  obtain ⟨l1,l2⟩:=lim_le (36*(k+1)) bias
  clear he hq2
  have hc1:=b1.cell
  have hc2:=b2.cell
  have hf1:=b1.frozen
  have hf2:=b2.frozen
  unfold thrN
  by_cases hlt:q<limN (36*(k+1)) bias
  ·have HR:Hid (o++[digB q]=o0++(numF 28 36 bias q0).map digB):=by show _=_;rw[←HE.out,numF_end hlt];rfl
   have hdl:=(dig_lt (show q<36 by omega)).1
   have hix:=dig36_run Tryz.prog 9 Tryz.underlying9 .i64 q (by omega) (q:Int) rfl
   generalize limN (36*(k+1)) bias=t at l1 l2 hlt
   generalize digB q=c at HR hdl hix
   have hqt:(q:Int)<(t:Int):=by omega
   gi_wp2
   have HA:Hid ((W.alloc (.cells #[.int .u8 (c:Int)] 5)).drew.ownsRow B 5 1 v o.length (bcells (b8 o))):=hrow.alloc _
   have HN:Hid (∀j u,[Value.int .u8 (c:Int)][j]? =some u→(W.alloc (.cells #[.int .u8 (c:Int)] 5)).drew.cell? ((⟨W.heap.size,0,none⟩:Addr).add j)=some u):=by
    intro j u hj
    rw[Addr.add_lit,Nat.zero_add]
    show (W.alloc (.cells #[.int .u8 (c:Int)] 5)).cell? ⟨W.heap.size,j,none⟩=some u
    rw[World.cell?_alloc_at _ _ _ _ rfl]
    simpa using hj
   have hc4:(W.alloc (.cells #[.int .u8 (c:Int)] 5)).cell? ⟨w.heap.size,0,none⟩=some v:=Boxed.cell (Boxed.alloc b1 _)
   have HL:Hid (B≤(W.alloc (.cells #[.int .u8 (c:Int)] 5)).drew.heap.size):=by show B≤_;simp;omega
   refine wpIn_region_round hmx (by kernel_rfl) ?_
   refine wpAnyIn_ready (rs:=[0,1]) (by kernel_rfl) (by simp) (AllReadyIn.cons rfl (fun K hK=> ?_) (AllReadyIn.cons rfl (fun K hK=> ?_) AllReadyIn.nil))
   ·go_simp
    refine hK _ _ ?_
    clear hK K
    refine wpAnyIn_ready (rs:=[1]) (by kernel_rfl) (by simp) (AllReadyIn.cons rfl (fun K hK=> ?_) AllReadyIn.nil)
    go_simp
    refine hK _ _ ?_
    clear hK K
    refine wpAnyIn_ready (rs:=[2]) (by kernel_rfl) (by simp) (AllReadyIn.cons rfl (fun K hK=> ?_) AllReadyIn.nil)
    go_simp
    refine hK _ _ ?_
    clear hK K
    refine wpAnyIn_ready (rs:=[3]) (by kernel_rfl) (by simp) (AllReadyIn.cons rfl (fun K hK=> ?_) AllReadyIn.nil)
    go_simp
    refine hK _ _ ?_
    clear hK K
    refine wpAnyIn_ready (rs:=[4]) (by kernel_rfl) (by simp) (AllReadyIn.cons rfl (fun K hK=> ?_) AllReadyIn.nil)
    refine stepIn_append_mine rfl (.tmp 14) (.tmp 17) 22 rfl B 5 (.int .u8 0) 1 Tryz.underlying22 Tryz.info5 rfl v o.length (bcells (b8 o)) rfl HA.out ⟨W.heap.size,0,none⟩ 1 1 [.int .u8 (c:Int)] rfl rfl HN.out (byte_one' _) (by unfold maxLen;omega) (by omega) HL.out ?_
    intro v' w1 hown' hgrow
    obtain ⟨g',cap',rfl⟩:=ownsRow_succ hown'
    obtain ⟨hv1,hv2,hr2,hk2,hb2⟩:=Boxed.appended (W:=W.drew) (tmp:=.cells #[.int .u8 (c:Int)] 5) b1 (by decide) hrow (by simp;omega) hB hown' hgrow
    have hc3:=hv1.cell
    have hf3:=hv1.frozen
    clear hown' hgrow
    refine hK _ _ ?_
    clear hK K
    try go_simp
    refine wpAnyIn_ready (rs:=[5]) (by kernel_rfl) (by simp) (AllReadyIn.cons rfl (fun K hK=> ?_) AllReadyIn.nil)
    go_simp
    refine hK _ _ ?_
    clear hK K
    refine wpAnyIn_done (by kernel_rfl) ?_ _
    gi_wp2
    have R:=own_nat c (by omega) rfl hr2
    rw[HR.out]at R
    exact ⟨((KeepsOthers.drew W).trans hk2).from _,rfl,_,hv2,R,hbel.trans (((Below.refl B W).drew).trans hb2)⟩
   go_simp
   refine hK _ _ ?_
   clear hK K
   refine wpAnyIn_ready (rs:=[0,2]) (by kernel_rfl) (by simp) (AllReadyIn.cons rfl (fun K hK=> ?_) (AllReadyIn.cons rfl (fun K hK=> ?_) AllReadyIn.nil))
   ·go_simp
    refine hK _ _ ?_
    clear hK K
    refine wpAnyIn_ready (rs:=[2]) (by kernel_rfl) (by simp) (AllReadyIn.cons rfl (fun K hK=> ?_) AllReadyIn.nil)
    go_simp
    refine hK _ _ ?_
    clear hK K
    refine wpAnyIn_ready (rs:=[3]) (by kernel_rfl) (by simp) (AllReadyIn.cons rfl (fun K hK=> ?_) AllReadyIn.nil)
    go_simp
    refine hK _ _ ?_
    clear hK K
    refine wpAnyIn_ready (rs:=[4]) (by kernel_rfl) (by simp) (AllReadyIn.cons rfl (fun K hK=> ?_) AllReadyIn.nil)
    refine stepIn_append_mine rfl (.tmp 14) (.tmp 17) 22 rfl B 5 (.int .u8 0) 1 Tryz.underlying22 Tryz.info5 rfl v o.length (bcells (b8 o)) rfl HA.out ⟨W.heap.size,0,none⟩ 1 1 [.int .u8 (c:Int)] rfl rfl HN.out (byte_one' _) (by unfold maxLen;omega) (by omega) HL.out ?_
    intro v' w1 hown' hgrow
    obtain ⟨g',cap',rfl⟩:=ownsRow_succ hown'
    obtain ⟨hv1,hv2,hr2,hk2,hb2⟩:=Boxed.appended (W:=W.drew) (tmp:=.cells #[.int .u8 (c:Int)] 5) b1 (by decide) hrow (by simp;omega) hB hown' hgrow
    have hc3:=hv1.cell
    have hf3:=hv1.frozen
    clear hown' hgrow
    refine hK _ _ ?_
    clear hK K
    try go_simp
    refine wpAnyIn_ready (rs:=[5]) (by kernel_rfl) (by simp) (AllReadyIn.cons rfl (fun K hK=> ?_) AllReadyIn.nil)
    go_simp
    refine hK _ _ ?_
    clear hK K
    refine wpAnyIn_done (by kernel_rfl) ?_ _
    gi_wp2
    have R:=own_nat c (by omega) rfl hr2
    rw[HR.out]at R
    exact ⟨((KeepsOthers.drew W).trans hk2).from _,rfl,_,hv2,R,hbel.trans (((Below.refl B W).drew).trans hb2)⟩
   go_simp
   refine hK _ _ ?_
   clear hK K
   refine wpAnyIn_ready (rs:=[0,3]) (by kernel_rfl) (by simp) (AllReadyIn.cons rfl (fun K hK=> ?_) (AllReadyIn.cons rfl (fun K hK=> ?_) AllReadyIn.nil))
   ·go_simp
    refine hK _ _ ?_
    clear hK K
    refine wpAnyIn_ready (rs:=[3]) (by kernel_rfl) (by simp) (AllReadyIn.cons rfl (fun K hK=> ?_) AllReadyIn.nil)
    go_simp
    refine hK _ _ ?_
    clear hK K
    refine wpAnyIn_ready (rs:=[4]) (by kernel_rfl) (by simp) (AllReadyIn.cons rfl (fun K hK=> ?_) AllReadyIn.nil)
    refine stepIn_append_mine rfl (.tmp 14) (.tmp 17) 22 rfl B 5 (.int .u8 0) 1 Tryz.underlying22 Tryz.info5 rfl v o.length (bcells (b8 o)) rfl HA.out ⟨W.heap.size,0,none⟩ 1 1 [.int .u8 (c:Int)] rfl rfl HN.out (byte_one' _) (by unfold maxLen;omega) (by omega) HL.out ?_
    intro v' w1 hown' hgrow
    obtain ⟨g',cap',rfl⟩:=ownsRow_succ hown'
    obtain ⟨hv1,hv2,hr2,hk2,hb2⟩:=Boxed.appended (W:=W.drew) (tmp:=.cells #[.int .u8 (c:Int)] 5) b1 (by decide) hrow (by simp;omega) hB hown' hgrow
    have hc3:=hv1.cell
    have hf3:=hv1.frozen
    clear hown' hgrow
    refine hK _ _ ?_
    clear hK K
    try go_simp
    refine wpAnyIn_ready (rs:=[5]) (by kernel_rfl) (by simp) (AllReadyIn.cons rfl (fun K hK=> ?_) AllReadyIn.nil)
    go_simp
    refine hK _ _ ?_
    clear hK K
    refine wpAnyIn_done (by kernel_rfl) ?_ _
    gi_wp2
    have R:=own_nat c (by omega) rfl hr2
    rw[HR.out]at R
    exact ⟨((KeepsOthers.drew W).trans hk2).from _,rfl,_,hv2,R,hbel.trans (((Below.refl B W).drew).trans hb2)⟩
   go_simp
   refine hK _ _ ?_
   clear hK K
   refine wpAnyIn_ready (rs:=[0]) (by kernel_rfl) (by simp) (AllReadyIn.cons rfl (fun K hK=> ?_) AllReadyIn.nil)
   go_simp
   refine hK _ _ ?_
   clear hK K
   refine wpAnyIn_ready (rs:=[4]) (by kernel_rfl) (by simp) (AllReadyIn.cons rfl (fun K hK=> ?_) AllReadyIn.nil)
   refine stepIn_append_mine rfl (.tmp 14) (.tmp 17) 22 rfl B 5 (.int .u8 0) 1 Tryz.underlying22 Tryz.info5 rfl v o.length (bcells (b8 o)) rfl HA.out ⟨W.heap.size,0,none⟩ 1 1 [.int .u8 (c:Int)] rfl rfl HN.out (byte_one' _) (by unfold maxLen;omega) (by omega) HL.out ?_
   intro v' w1 hown' hgrow
   obtain ⟨g',cap',rfl⟩:=ownsRow_succ hown'
   obtain ⟨hv1,hv2,hr2,hk2,hb2⟩:=Boxed.appended (W:=W.drew) (tmp:=.cells #[.int .u8 (c:Int)] 5) b1 (by decide) hrow (by simp;omega) hB hown' hgrow
   have hc3:=hv1.cell
   have hf3:=hv1.frozen
   clear hown' hgrow
   refine hK _ _ ?_
   clear hK K
   try go_simp
   refine wpAnyIn_ready (rs:=[5]) (by kernel_rfl) (by simp) (AllReadyIn.cons rfl (fun K hK=> ?_) AllReadyIn.nil)
   go_simp
   refine hK _ _ ?_
   clear hK K
   refine wpAnyIn_done (by kernel_rfl) ?_ _
   gi_wp2
   have R:=own_nat c (by omega) rfl hr2
   rw[HR.out]at R
   exact ⟨((KeepsOthers.drew W).trans hk2).from _,rfl,_,hv2,R,hbel.trans (((Below.refl B W).drew).trans hb2)⟩
  obtain ⟨g,hg,hl,hnum⟩:=numF_more (k:=36*(k+1)) (bias:=bias) HF.out hlt
  have hm:(q-limN (36*(k+1)) bias)%(36-limN (36*(k+1)) bias)<36-limN (36*(k+1)) bias:=Nat.mod_lt _ (by omega)
  have hdv:(q-limN (36*(k+1)) bias)/(36-limN (36*(k+1)) bias)≤(q-limN (36*(k+1)) bias):=Nat.div_le_self _ _
  have HR:Hid ((o++[digB (limN (36*(k+1)) bias+(q-limN (36*(k+1)) bias)%(36-limN (36*(k+1)) bias))])++(numF (g+1) (36*(k+1+1)) bias ((q-limN (36*(k+1)) bias)/(36-limN (36*(k+1)) bias))).map digB=o0++(numF 28 36 bias q0).map digB):=by
   show _=_
   rw[←HE.out,hnum,show 36*(k+1+1)=36*(k+1)+36 by omega]
   simp
  have HL2:Hid ((q-limN (36*(k+1)) bias)/(36-limN (36*(k+1)) bias)<2^g):=hl
  clear hnum hl
  generalize limN (36*(k+1)) bias=t at l1 l2 hlt HR HL2 hm hdv
  have hqt: ¬(q:Int)<(t:Int):=by omega
  have hc1':((q-t:Nat):Int)=(q:Int)-(t:Int):=by omega
  have hc2':((36-t:Nat):Int)=36-(t:Int):=by omega
  have hM:((q:Int)-(t:Int))%(36-(t:Int))=(((q-t)%(36-t):Nat):Int):=by rw[←hc1',←hc2'];norm_cast
  have hQ:((q:Int)-(t:Int))/(36-(t:Int))=(((q-t)/(36-t):Nat):Int):=by rw[←hc1',←hc2'];norm_cast
  generalize (q-t)%(36-t)=m at hM HR hm
  generalize (q-t)/(36-t)=q' at hQ HR HL2 hdv
  have hdl:=(dig_lt (show t+m<36 by omega)).1
  have hix:=dig36_run Tryz.prog 9 Tryz.underlying9 .i64 (t+m) (by omega) ((t:Int)+(m:Int)) (by omega)
  generalize digB (t+m)=c at HR hdl hix
  have hne: ¬36-(t:Int)=0:=by omega
  have ht0:1≤(t:Int):=by omega
  have ht1:(t:Int)≤26:=by omega
  have hm0:(m:Int)<36-(t:Int):=by omega
  have hq0:(q:Int)≤67960831:=by omega
  clear hc1' hc2'
  have HA:Hid ((W.alloc (.cells #[.int .u8 (c:Int)] 5)).drew.ownsRow B 5 1 v o.length (bcells (b8 o))):=hrow.alloc _
  have HN:Hid (∀j u,[Value.int .u8 (c:Int)][j]? =some u→(W.alloc (.cells #[.int .u8 (c:Int)] 5)).drew.cell? ((⟨W.heap.size,0,none⟩:Addr).add j)=some u):=by
   intro j u hj
   rw[Addr.add_lit,Nat.zero_add]
   show (W.alloc (.cells #[.int .u8 (c:Int)] 5)).cell? ⟨W.heap.size,j,none⟩=some u
   rw[World.cell?_alloc_at _ _ _ _ rfl]
   simpa using hj
  have hc4:(W.alloc (.cells #[.int .u8 (c:Int)] 5)).cell? ⟨w.heap.size,0,none⟩=some v:=Boxed.cell (Boxed.alloc b1 _)
  have HL:Hid (B≤(W.alloc (.cells #[.int .u8 (c:Int)] 5)).drew.heap.size):=by show B≤_;simp;omega
  gi_wp2
  have e1:IntKind.i64.wrap (36-(t:Int))=36-(t:Int):=i64_wrap_small _ (by omega) (by omega)
  have e2:IntKind.i64.wrap ((q:Int)-(t:Int))=(q:Int)-(t:Int):=i64_wrap_small _ (by omega) (by omega)
  have e3:((q:Int)-(t:Int)).tmod (36-(t:Int))=(m:Int):=by rw[Int.tmod_eq_emod_of_nonneg (by omega),hM]
  have e4:IntKind.i64.wrap ((t:Int)+(m:Int))=(t:Int)+(m:Int):=i64_wrap_small _ (by omega) (by omega)
  refine wpIn_region_round hmx (by kernel_rfl) ?_
  refine wpAnyIn_take (i:=1) (v:= ?_) rfl rfl (by kernel_rfl) (by kernel_rfl) (by kernel_rfl) (fun _ _ _ h=>h) ⟨Or.inl ⟨by rfl,?_⟩,fun _=>rfl⟩ ?_
  rotate_left
  ·intro w
   go_simp
   try with_reducible rfl
  refine wpAnyIn_take (i:=3) (v:= ?_) rfl rfl (by kernel_rfl) (by kernel_rfl) (by kernel_rfl) (fun _ _ _ h=>h) ⟨Or.inl ⟨by rfl,?_⟩,fun _=>rfl⟩ ?_
  rotate_left
  ·intro w
   go_simp
   try with_reducible rfl
  refine wpAnyIn_take (i:=5) (v:= ?_) rfl rfl (by kernel_rfl) (by kernel_rfl) (by kernel_rfl) (fun _ _ _ h=>h) ⟨Or.inl ⟨by rfl,?_⟩,fun _=>rfl⟩ ?_
  rotate_left
  ·intro w
   go_simp
   try with_reducible rfl
  refine wpAnyIn_take (i:=6) (v:= ?_) rfl rfl (by kernel_rfl) (by kernel_rfl) (by kernel_rfl) (fun _ _ _ h=>h) ⟨Or.inl ⟨by rfl,?_⟩,fun _=>rfl⟩ ?_
  rotate_left
  ·intro w
   go_simp
   try with_reducible rfl
  refine wpAnyIn_ready (rs:=[0,2]) (by kernel_rfl) (by simp) (AllReadyIn.cons rfl (fun K hK=> ?_) (AllReadyIn.cons rfl (fun K hK=> ?_) AllReadyIn.nil))
  ·go_simp
   refine hK _ _ ?_
   clear hK K
   refine wpAnyIn_ready (rs:=[2]) (by kernel_rfl) (by simp) (AllReadyIn.cons rfl (fun K hK=> ?_) AllReadyIn.nil)
   go_simp
   refine hK _ _ ?_
   clear hK K
   refine wpAnyIn_take (i:=4) (v:= ?_) rfl rfl (by kernel_rfl) (by kernel_rfl) (by kernel_rfl) (fun _ _ _ h=>h) ⟨Or.inl ⟨by rfl,?_⟩,fun _=>rfl⟩ ?_
   rotate_left
   ·intro w
    go_simp
    try with_reducible rfl
   refine wpAnyIn_take (i:=7) (v:= ?_) rfl rfl (by kernel_rfl) (by kernel_rfl) (by kernel_rfl) (fun _ _ _ h=>h) ⟨Or.inl ⟨by rfl,?_⟩,fun _=>rfl⟩ ?_
   rotate_left
   ·intro w
    go_simp
    try with_reducible rfl
   refine wpAnyIn_take (i:=8) (v:= ?_) rfl rfl (by kernel_rfl) (by kernel_rfl) (by kernel_rfl) (fun _ _ _ h=>h) ⟨Or.inl ⟨by rfl,?_⟩,fun _=>rfl⟩ ?_
   rotate_left
   ·intro w
    go_simp
    try with_reducible rfl
   refine wpAnyIn_ready (rs:=[9]) (by kernel_rfl) (by simp) (AllReadyIn.cons rfl (fun K hK=> ?_) AllReadyIn.nil)
   go_simp
   refine hK _ _ ?_
   clear hK K
   refine wpAnyIn_ready (rs:=[10]) (by kernel_rfl) (by simp) (AllReadyIn.cons rfl (fun K hK=> ?_) AllReadyIn.nil)
   go_simp
   refine hK _ _ ?_
   clear hK K
   refine wpAnyIn_ready (rs:=[11]) (by kernel_rfl) (by simp) (AllReadyIn.cons rfl (fun K hK=> ?_) AllReadyIn.nil)
   refine stepIn_append_mine rfl (.tmp 19) (.tmp 29) 22 rfl B 5 (.int .u8 0) 1 Tryz.underlying22 Tryz.info5 rfl v o.length (bcells (b8 o)) rfl HA.out ⟨W.heap.size,0,none⟩ 1 1 [.int .u8 (c:Int)] rfl rfl HN.out (byte_one' _) (by unfold maxLen;omega) (by omega) HL.out ?_
   intro v' w1 hown' hgrow
   obtain ⟨g',cap',rfl⟩:=ownsRow_succ hown'
   obtain ⟨hv1,hv2,hr2,hk2,hb2⟩:=Boxed.appended (W:=W.drew) (tmp:=.cells #[.int .u8 (c:Int)] 5) b1 (by decide) hrow (by simp;omega) hB hown' hgrow
   have hc3:=hv1.cell
   have hf3:=hv1.frozen
   have b2':Boxed (w1.setCell ⟨w.heap.size,0,none⟩ (.slice (some ⟨g',0,none⟩) (o.length+1) cap')) (w.heap.size+1) 3 (.int .i64 (q:Int)):=Boxed.other (Boxed.kept (Boxed.alloc (W:=W.drew) b2 _) hgrow (Boxed.not_row (Boxed.alloc (W:=W.drew) b2 _) (by decide) HA.out)) (by omega) _
   have b3':Boxed (w1.setCell ⟨w.heap.size,0,none⟩ (.slice (some ⟨g',0,none⟩) (o.length+1) cap')) (w.heap.size+2) 3 (.int .i64 (bias:Int)):=Boxed.other (Boxed.kept (Boxed.alloc (W:=W.drew) b3 _) hgrow (Boxed.not_row (Boxed.alloc (W:=W.drew) b3 _) (by decide) HA.out)) (by omega) _
   have hc5:=b2'.cell
   have hf5:=b2'.frozen
   clear hown' hgrow
   refine hK _ _ ?_
   clear hK K
   try go_simp
   refine wpAnyIn_ready (rs:=[12]) (by kernel_rfl) (by simp) (AllReadyIn.cons rfl (fun K hK=> ?_) AllReadyIn.nil)
   go_simp
   refine hK _ _ ?_
   clear hK K
   refine wpAnyIn_done (by kernel_rfl) ?_ _
   gi_wp2
   have R:=own_nat c (by omega) rfl hr2
   refine ⟨(((KeepsOthers.drew W).trans hk2).trans (KeepsOthers.setCell _ _ _)).from _,g,q',o++[c],_,Boxed.other hv2 (by omega) _,b2'.set _,Boxed.other b3' (by omega) _,by omega,by omega,HL2.out,by simp;omega,HR.out,R.kept (grownBy_setCell' _ _ _) (.inr (b2'.not_row (by decide) R).symm),?_⟩
   exact (hbel.trans (((Below.refl B W).drew).trans hb2)).setCell (p:=⟨w.heap.size+1,0,none⟩) (by show B≤w.heap.size+1;omega) _
  go_simp
  refine hK _ _ ?_
  clear hK K
  refine wpAnyIn_take (i:=4) (v:= ?_) rfl rfl (by kernel_rfl) (by kernel_rfl) (by kernel_rfl) (fun _ _ _ h=>h) ⟨Or.inl ⟨by rfl,?_⟩,fun _=>rfl⟩ ?_
  rotate_left
  ·intro w
   go_simp
   try with_reducible rfl
  refine wpAnyIn_take (i:=7) (v:= ?_) rfl rfl (by kernel_rfl) (by kernel_rfl) (by kernel_rfl) (fun _ _ _ h=>h) ⟨Or.inl ⟨by rfl,?_⟩,fun _=>rfl⟩ ?_
  rotate_left
  ·intro w
   go_simp
   try with_reducible rfl
  refine wpAnyIn_take (i:=8) (v:= ?_) rfl rfl (by kernel_rfl) (by kernel_rfl) (by kernel_rfl) (fun _ _ _ h=>h) ⟨Or.inl ⟨by rfl,?_⟩,fun _=>rfl⟩ ?_
  rotate_left
  ·intro w
   go_simp
   try with_reducible rfl
  refine wpAnyIn_ready (rs:=[0,9]) (by kernel_rfl) (by simp) (AllReadyIn.cons rfl (fun K hK=> ?_) (AllReadyIn.cons rfl (fun K hK=> ?_) AllReadyIn.nil))
  ·go_simp
   refine hK _ _ ?_
   clear hK K
   refine wpAnyIn_ready (rs:=[9]) (by kernel_rfl) (by simp) (AllReadyIn.cons rfl (fun K hK=> ?_) AllReadyIn.nil)
   go_simp
   refine hK _ _ ?_
   clear hK K
   refine wpAnyIn_ready (rs:=[10]) (by kernel_rfl) (by simp) (AllReadyIn.cons rfl (fun K hK=> ?_) AllReadyIn.nil)
   go_simp
   refine hK _ _ ?_
   clear hK K
   refine wpAnyIn_ready (rs:=[11]) (by kernel_rfl) (by simp) (AllReadyIn.cons rfl (fun K hK=> ?_) AllReadyIn.nil)
   refine stepIn_append_mine rfl (.tmp 19) (.tmp 29) 22 rfl B 5 (.int .u8 0) 1 Tryz.underlying22 Tryz.info5 rfl v o.length (bcells (b8 o)) rfl HA.out ⟨W.heap.size,0,none⟩ 1 1 [.int .u8 (c:Int)] rfl rfl HN.out (byte_one' _) (by unfold maxLen;omega) (by omega) HL.out ?_
   intro v' w1 hown' hgrow
   obtain ⟨g',cap',rfl⟩:=ownsRow_succ hown'
   obtain ⟨hv1,hv2,hr2,hk2,hb2⟩:=Boxed.appended (W:=W.drew) (tmp:=.cells #[.int .u8 (c:Int)] 5) b1 (by decide) hrow (by simp;omega) hB hown' hgrow
   have hc3:=hv1.cell
   have hf3:=hv1.frozen
   have b2':Boxed (w1.setCell ⟨w.heap.size,0,none⟩ (.slice (some ⟨g',0,none⟩) (o.length+1) cap')) (w.heap.size+1) 3 (.int .i64 (q:Int)):=Boxed.other (Boxed.kept (Boxed.alloc (W:=W.drew) b2 _) hgrow (Boxed.not_row (Boxed.alloc (W:=W.drew) b2 _) (by decide) HA.out)) (by omega) _
   have b3':Boxed (w1.setCell ⟨w.heap.size,0,none⟩ (.slice (some ⟨g',0,none⟩) (o.length+1) cap')) (w.heap.size+2) 3 (.int .i64 (bias:Int)):=Boxed.other (Boxed.kept (Boxed.alloc (W:=W.drew) b3 _) hgrow (Boxed.not_row (Boxed.alloc (W:=W.drew) b3 _) (by decide) HA.out)) (by omega) _
   have hc5:=b2'.cell
   have hf5:=b2'.frozen
   clear hown' hgrow
   refine hK _ _ ?_
   clear hK K
   try go_simp
   refine wpAnyIn_ready (rs:=[12]) (by kernel_rfl) (by simp) (AllReadyIn.cons rfl (fun K hK=> ?_) AllReadyIn.nil)
   go_simp
   refine hK _ _ ?_
   clear hK K
   refine wpAnyIn_done (by kernel_rfl) ?_ _
   gi_wp2
   have R:=own_nat c (by omega) rfl hr2
   refine ⟨(((KeepsOthers.drew W).trans hk2).trans (KeepsOthers.setCell _ _ _)).from _,g,q',o++[c],_,Boxed.other hv2 (by omega) _,b2'.set _,Boxed.other b3' (by omega) _,by omega,by omega,HL2.out,by simp;omega,HR.out,R.kept (grownBy_setCell' _ _ _) (.inr (b2'.not_row (by decide) R).symm),?_⟩
   exact (hbel.trans (((Below.refl B W).drew).trans hb2)).setCell (p:=⟨w.heap.size+1,0,none⟩) (by show B≤w.heap.size+1;omega) _
  go_simp
  refine hK _ _ ?_
  clear hK K
  refine wpAnyIn_ready (rs:=[0,10]) (by kernel_rfl) (by simp) (AllReadyIn.cons rfl (fun K hK=> ?_) (AllReadyIn.cons rfl (fun K hK=> ?_) AllReadyIn.nil))
  ·go_simp
   refine hK _ _ ?_
   clear hK K
   refine wpAnyIn_ready (rs:=[10]) (by kernel_rfl) (by simp) (AllReadyIn.cons rfl (fun K hK=> ?_) AllReadyIn.nil)
   go_simp
   refine hK _ _ ?_
   clear hK K
   refine wpAnyIn_ready (rs:=[11]) (by kernel_rfl) (by simp) (AllReadyIn.cons rfl (fun K hK=> ?_) AllReadyIn.nil)
   refine stepIn_append_mine rfl (.tmp 19) (.tmp 29) 22 rfl B 5 (.int .u8 0) 1 Tryz.underlying22 Tryz.info5 rfl v o.length (bcells (b8 o)) rfl HA.out ⟨W.heap.size,0,none⟩ 1 1 [.int .u8 (c:Int)] rfl rfl HN.out (byte_one' _) (by unfold maxLen;omega) (by omega) HL.out ?_
   intro v' w1 hown' hgrow
   obtain ⟨g',cap',rfl⟩:=ownsRow_succ hown'
   obtain ⟨hv1,hv2,hr2,hk2,hb2⟩:=Boxed.appended (W:=W.drew) (tmp:=.cells #[.int .u8 (c:Int)] 5) b1 (by decide) hrow (by simp;omega) hB hown' hgrow
   have hc3:=hv1.cell
   have hf3:=hv1.frozen
   have b2':Boxed (w1.setCell ⟨w.heap.size,0,none⟩ (.slice (some ⟨g',0,none⟩) (o.length+1) cap')) (w.heap.size+1) 3 (.int .i64 (q:Int)):=Boxed.other (Boxed.kept (Boxed.alloc (W:=W.drew) b2 _) hgrow (Boxed.not_row (Boxed.alloc (W:=W.drew) b2 _) (by decide) HA.out)) (by omega) _
   have b3':Boxed (w1.setCell ⟨w.heap.size,0,none⟩ (.slice (some ⟨g',0,none⟩) (o.length+1) cap')) (w.heap.size+2) 3 (.int .i64 (bias:Int)):=Boxed.other (Boxed.kept (Boxed.alloc (W:=W.drew) b3 _) hgrow (Boxed.not_row (Boxed.alloc (W:=W.drew) b3 _) (by decide) HA.out)) (by omega) _
   have hc5:=b2'.cell
   have hf5:=b2'.frozen
   clear hown' hgrow
   refine hK _ _ ?_
   clear hK K
   try go_simp
   refine wpAnyIn_ready (rs:=[12]) (by kernel_rfl) (by simp) (AllReadyIn.cons rfl (fun K hK=> ?_) AllReadyIn.nil)
   go_simp
   refine hK _ _ ?_
   clear hK K
   refine wpAnyIn_done (by kernel_rfl) ?_ _
   gi_wp2
   have R:=own_nat c (by omega) rfl hr2
   refine ⟨(((KeepsOthers.drew W).trans hk2).trans (KeepsOthers.setCell _ _ _)).from _,g,q',o++[c],_,Boxed.other hv2 (by omega) _,b2'.set _,Boxed.other b3' (by omega) _,by omega,by omega,HL2.out,by simp;omega,HR.out,R.kept (grownBy_setCell' _ _ _) (.inr (b2'.not_row (by decide) R).symm),?_⟩
   exact (hbel.trans (((Below.refl B W).drew).trans hb2)).setCell (p:=⟨w.heap.size+1,0,none⟩) (by show B≤w.heap.size+1;omega) _
  go_simp
  refine hK _ _ ?_
  clear hK K
  refine wpAnyIn_ready (rs:=[0]) (by kernel_rfl) (by simp) (AllReadyIn.cons rfl (fun K hK=> ?_) AllReadyIn.nil)
  go_simp
  refine hK _ _ ?_
  clear hK K
  refine wpAnyIn_ready (rs:=[11]) (by kernel_rfl) (by simp) (AllReadyIn.cons rfl (fun K hK=> ?_) AllReadyIn.nil)
  refine stepIn_append_mine rfl (.tmp 19) (.tmp 29) 22 rfl B 5 (.int .u8 0) 1 Tryz.underlying22 Tryz.info5 rfl v o.length (bcells (b8 o)) rfl HA.out ⟨W.heap.size,0,none⟩ 1 1 [.int .u8 (c:Int)] rfl rfl HN.out (byte_one' _) (by unfold maxLen;omega) (by omega) HL.out ?_
  intro v' w1 hown' hgrow
  obtain ⟨g',cap',rfl⟩:=ownsRow_succ hown'
  obtain ⟨hv1,hv2,hr2,hk2,hb2⟩:=Boxed.appended (W:=W.drew) (tmp:=.cells #[.int .u8 (c:Int)] 5) b1 (by decide) hrow (by simp;omega) hB hown' hgrow
  have hc3:=hv1.cell
  have hf3:=hv1.frozen
  have b2':Boxed (w1.setCell ⟨w.heap.size,0,none⟩ (.slice (some ⟨g',0,none⟩) (o.length+1) cap')) (w.heap.size+1) 3 (.int .i64 (q:Int)):=Boxed.other (Boxed.kept (Boxed.alloc (W:=W.drew) b2 _) hgrow (Boxed.not_row (Boxed.alloc (W:=W.drew) b2 _) (by decide) HA.out)) (by omega) _
  have b3':Boxed (w1.setCell ⟨w.heap.size,0,none⟩ (.slice (some ⟨g',0,none⟩) (o.length+1) cap')) (w.heap.size+2) 3 (.int .i64 (bias:Int)):=Boxed.other (Boxed.kept (Boxed.alloc (W:=W.drew) b3 _) hgrow (Boxed.not_row (Boxed.alloc (W:=W.drew) b3 _) (by decide) HA.out)) (by omega) _
  have hc5:=b2'.cell
  have hf5:=b2'.frozen
  clear hown' hgrow
  refine hK _ _ ?_
  clear hK K
  try go_simp
  refine wpAnyIn_ready (rs:=[12]) (by kernel_rfl) (by simp) (AllReadyIn.cons rfl (fun K hK=> ?_) AllReadyIn.nil)
  go_simp
  refine hK _ _ ?_
  clear hK K
  refine wpAnyIn_done (by kernel_rfl) ?_ _
  gi_wp2
  have R:=own_nat c (by omega) rfl hr2
  refine ⟨(((KeepsOthers.drew W).trans hk2).trans (KeepsOthers.setCell _ _ _)).from _,g,q',o++[c],_,Boxed.other hv2 (by omega) _,b2'.set _,Boxed.other b3' (by omega) _,by omega,by omega,HL2.out,by simp;omega,HR.out,R.kept (grownBy_setCell' _ _ _) (.inr (b2'.not_row (by decide) R).symm),?_⟩
  exact (hbel.trans (((Below.refl B W).drew).trans hb2)).setCell (p:=⟨w.heap.size+1,0,none⟩) (by show B≤w.heap.size+1;omega) _
 case stop=>
  rintro D c W hD ⟨rfl,v,b1,hrow,hbel⟩ hK
  have hc1:=b1.cell
  gi_wp2
  refine ⟨by simp,.inl ⟨_,_,rfl,run_takeDeferred hK,?_⟩⟩
  exact ⟨_,results_tmp rfl _ _ _,v,rfl,ownsRow_putObj hrow _ hK rfl,hbel.trans (belowK_b (w:=w) hB W D _ _ (by omega) hK rfl rfl)⟩
theorem implNumber(q0 bias:Nat)(o0:List Nat)(v0:Value)(B:Nat)(w:World)(hq:(q0:Int)≤67960831)(hb:(bias:Int)≤2400)(hown0:w.ownsRow B 5 1 v0 o0.length (bcells (b8 o0)))(hB:B≤w.heap.size)(ho:o0.length≤1048576):
  Calls Tryz.prog 140 #[v0,.int .i64 (q0:Int),.int .i64 (bias:Int)] w fun e w'=> ∃v',e=.returned v'∧w'.ownsRow B 5 1 v' (o0++(numF 28 36 bias q0).map digB).length (bcells (b8 (o0++(numF 28 36 bias q0).map digB)))∧Below B w w':=
 callsIn_wide.1 (implNumber_in 3 (Nat.le_refl _) q0 bias o0 v0 B w hq hb hown0 hB ho)
end Go.Proofs.YtijliddchoehhaaGreatDoor
namespace Go.Proofs.YtijliddchoehhaaGreatDoor
open Go.RowKit
theorem implAdapt_in(delta n:Nat)(first:Bool)(w:World)(h1:(delta:Int)≤1000000000000)(h2:1≤(n:Int))(h3:(n:Int)≤1000000):
  Calls Tryz.prog 141 #[.int .i64 (delta:Int),.int .i64 (n:Int),.bool first] w fun e w'=>e=.returned (.int .i64 (adaptN delta n first:Int))∧w=w':=by
 have h0:0≤(delta:Int):=by omega
 obtain ⟨x,hx⟩: ∃x:Nat,x=if first then delta/700 else delta/2:=⟨_,rfl⟩
 have HN:Hid (adaptN delta n first=adaptF 64 (x+x/n) 0):=adaptN_in h1 h2 h3 x hx
 have hy:x/n≤x:=Nat.div_le_self x n
 have hne: ¬(n:Int)=0:=by omega
 have hxle:(x:Int)≤500000000000:=by cases first<;>simp at hx<;>omega
 obtain ⟨z,hz⟩: ∃z:Nat,x/n=z:=⟨_,rfl⟩
 have hZ:(x:Int)/(n:Int)=(z:Int):=by rw[←hz];simp
 rw[hz]at HN hy
 have hzle:(z:Int)≤(x:Int):=by omega
 have HP:Hid (x+z<2^64):=by
  show _<_
  have:(2:Nat)^64=18446744073709551616:=by decide
  omega
 clear hz hy
 cases first with
 |true=>
  have hX:(delta:Int)/700=(x:Int):=by simp at hx;omega
  clear hx
  go_enter Tryz.func141,Tryz.ntmps141
  have hA: ¬(delta:Int)<0:=by omega
  have hB: ¬1000000000000<(delta:Int):=by omega
  have hC: ¬(n:Int)<1:=by omega
  have hD: ¬1000000<(n:Int):=by omega
  go_wp2_with fail
  go_loop[0,7] (fun a b=> ∃f d k:Nat,a=.int .i64 d∧b=.int .i64 k∧d≤x+z∧k+36*f≤2304∧d<2^f∧adaptF f d k=adaptF 64 (x+z) 0) (fun a _=>(intOf a).toNat)
  case atStart=>exact ⟨64,x+z,0,by simp,rfl,Nat.le_refl _,by omega,HP.out,rfl⟩
  obtain ⟨f,d,k,rfl,rfl,hd,hk,hf,he⟩:=hrel
  have HE:Hid (adaptF f d k=adaptF 64 (x+z) 0):=he
  have HF:Hid (d<2^f):=hf
  clear he hf
  by_cases hlt:455<(d:Int)
  ·obtain ⟨g,hg,he,hl⟩:=adaptF_more (k:=k) (show 455<d by omega) HF.out
   have HE2:Hid (adaptF g (d/35) (k+36)=adaptF 64 (x+z) 0):=he.symm.trans HE.out
   have HF2:Hid (d/35<2^g):=hl
   clear he hl
   go_wp2
   go_round
   case rel=>exact ⟨g,d/35,k+36,by simp,by go_num,by omega,by omega,HF2.out,HE2.out⟩
   case measure=>simp[intOf];omega
  have HR:Hid (adaptN delta n true=k+36*d/(d+38)):=by show _=_;rw[HN.out,←HE.out,adaptF_end (by omega)]
  have hnz: ¬(d:Int)+38=0:=by omega
  have hr0:36*d/(d+38)≤36:=Nat.div_le_of_le_mul (by omega)
  obtain ⟨r,hr⟩: ∃r:Nat,36*d/(d+38)=r:=⟨_,rfl⟩
  have hR:(36*(d:Int))/((d:Int)+38)=(r:Int):=by rw[←hr];simp
  rw[hr]at HR hr0
  clear hr
  go_wp2
  go_ret
  exact ⟨ret_int (by rw[HR.out];simp),rfl⟩
 |false=>
  have hX:(delta:Int)/2=(x:Int):=by simp at hx;omega
  clear hx
  go_enter Tryz.func141,Tryz.ntmps141
  have hA: ¬(delta:Int)<0:=by omega
  have hB: ¬1000000000000<(delta:Int):=by omega
  have hC: ¬(n:Int)<1:=by omega
  have hD: ¬1000000<(n:Int):=by omega
  go_wp2_with fail
  go_loop[0,7] (fun a b=> ∃f d k:Nat,a=.int .i64 d∧b=.int .i64 k∧d≤x+z∧k+36*f≤2304∧d<2^f∧adaptF f d k=adaptF 64 (x+z) 0) (fun a _=>(intOf a).toNat)
  case atStart=>exact ⟨64,x+z,0,by simp,rfl,Nat.le_refl _,by omega,HP.out,rfl⟩
  obtain ⟨f,d,k,rfl,rfl,hd,hk,hf,he⟩:=hrel
  have HE:Hid (adaptF f d k=adaptF 64 (x+z) 0):=he
  have HF:Hid (d<2^f):=hf
  clear he hf
  by_cases hlt:455<(d:Int)
  ·obtain ⟨g,hg,he,hl⟩:=adaptF_more (k:=k) (show 455<d by omega) HF.out
   have HE2:Hid (adaptF g (d/35) (k+36)=adaptF 64 (x+z) 0):=he.symm.trans HE.out
   have HF2:Hid (d/35<2^g):=hl
   clear he hl
   go_wp2
   go_round
   case rel=>exact ⟨g,d/35,k+36,by simp,by go_num,by omega,by omega,HF2.out,HE2.out⟩
   case measure=>simp[intOf];omega
  have HR:Hid (adaptN delta n false=k+36*d/(d+38)):=by show _=_;rw[HN.out,←HE.out,adaptF_end (by omega)]
  have hnz: ¬(d:Int)+38=0:=by omega
  have hr0:36*d/(d+38)≤36:=Nat.div_le_of_le_mul (by omega)
  obtain ⟨r,hr⟩: ∃r:Nat,36*d/(d+38)=r:=⟨_,rfl⟩
  have hR:(36*(d:Int))/((d:Int)+38)=(r:Int):=by rw[←hr];simp
  rw[hr]at HR hr0
  clear hr
  go_wp2
  go_ret
  exact ⟨ret_int (by rw[HR.out];simp),rfl⟩
end Go.Proofs.YtijliddchoehhaaGreatDoor
