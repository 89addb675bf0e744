/- CutImpl, ReadImpl. -/
import Derived.Test.YtgcbaphbiaimoaaGreatDoorQF22
set_option maxHeartbeats 8000000
set_option maxRecDepth 100000
namespace Go.Proofs.YtgcbaphbiaimoaaGreatDoor
open Go.Value renaming int->I,string->L,tuple->H,bool->G,pointer->F
open Go.IntKind renaming i64->J
open Go.Ending renaming returned->Y
open Go.Obj renaming cells->Z
open _root_.Array renaming toList_extract->zk
open _root_.ByteArray renaming data_extract->zd
open _root_.List renaming extract_eq_take_drop->zf,getElem?_eq_getElem->zg,getElem_of_mem->zl,length_map->zi,length_take->zn,take_of_length_le->zh
open _root_.Nat renaming div_le_self->zj,le_add_right->zm,le_refl->za,le_trans->ze,mod_lt->zo
open _root_.Go.World renaming size_alloc->zc
open _root_.Go.Proofs.Tryz
open _root_.Go.Proofs.YtgcbaphbiaimoaaGreatDoor.Tryz
section
open Go.RowKit Go.Shelf
attribute [local go_sem] Oper.semAt_some
def lG(bias:Nat):Nat->Nat->Nat->List Nat->Option (Nat×List Nat)
 |_,_,_,[]=>none
 |k,i,w,d::ds=>if 36<=d∨66846660<i+d*w then none else if d<bF k bias then some (i+d*w,ds)else lG bias (k+36) (i+d*w) (w*(36-bF k bias)) ds
theorem RQ(bias:Nat): ∀(ds:List Nat) (k i w m:Nat) (r:List Nat),dA bias k i w ds=some (m,r)->i<=m
 |[],k,i,w,m,r,h=>by simp[dA]at h
 |d::ds,k,i,w,m,r,h=>by
  rw[dA]at h;split at h
  .cases h
  split at h
  .cases h
   omega
  have:=RQ bias ds _ _ _ _ _ h
  omega
theorem zV(bias:Nat): ∀(ds:List Nat) (k i w m:Nat) (r:List Nat),dA bias k i w ds=some (m,r)->m<=66846660->lG bias k i w ds=some (m,r)
 |[],k,i,w,m,r,h,_=>by simp[dA]at h
 |d::ds,k,i,w,m,r,h,hm=>by
  rw[dA]at h;rw[lG];split at h
  .cases h
  next h0=>
  split at h
  .next h1=>
   cases h
   rw[if_neg om,if_pos h1]
  next h1=>
  have:=RQ bias ds _ _ _ _ _ h
  rw[if_neg om,if_neg h1];exact zV bias ds _ _ _ _ _ h hm
theorem ix36: ∀c,c<256->Lib.indexByte [97,98,99,100,101,102,103,104,105,106,107,108,109,110,111,112,113,114,115,116,117,118,119,120,121,122,48,49,50,51,52,53,54,55,56,57] c.toUInt8=if aW c<36 then (aW c:Int)else-1:=by decide+kernel
theorem KA{P:Program}{w:World}{t:TypeId}{b:Nat}{v:Value}(ha: ∀w,(isAgg t).run P w=.ok false w)(h:w.cell? ⟨b,0,none⟩=some v):(loadVar t ⟨b,0,none⟩).run P w=.ok v w:=by
 simp[loadVar,go_sem,ha,h]
theorem tW{P:Program}{fn:Func}{p q r:Tmp}{t1 t2 t3:TypeId}(h:fn.results= #[.cell p t1,.cell q t2,.cell r t3])(tmps:Array Value)(w:World)(b1 b2 b3:Nat)(v1 v2 v3:Value)
  (hp:tmps[p]?.getD undef=F (some ⟨b1,0,none⟩)) (hq:tmps[q]?.getD undef=F (some ⟨b2,0,none⟩)) (hr:tmps[r]?.getD undef=F (some ⟨b3,0,none⟩))
  (l1:(loadVar t1 ⟨b1,0,none⟩).run P w=.ok v1 w) (l2:(loadVar t2 ⟨b2,0,none⟩).run P w=.ok v2 w) (l3:(loadVar t3 ⟨b3,0,none⟩).run P w=.ok v3 w):
  (results fn tmps).run P w=.ok (H #[v1,v2,v3]) w:=by
 simp[results,h,hp,hq,hr,asAddr,l1,l2,l3,Sem.run_bind,Result.andThen]
def EQ(s0:ByteArray)(bias:Nat)(e:Ending):Prop:=
 (lG bias 36 0 1 ((sN s0).map aW)=none/\e=Y (H #[I J 0,L ⟨#[]⟩,G false]))∨
 ∃(m:Nat) (u:ByteArray),lG bias 36 0 1 ((sN s0).map aW)=some (m,(sN u).map aW)/\m<=66846660/\u.size<s0.size/\e=Y (H #[I J (m:Int),L u,G true])
def CutI(n0:Nat)(w:World)(s0:ByteArray)(bias k:Nat)(W:World):Prop:=
 ∃(u:ByteArray) (i wt:Nat),Boxed W n0 9 (L u)/\Boxed W (n0+1) 3 (I J (i:Int))/\Boxed W (n0+2) 9 (L ⟨#[]⟩)/\Boxed W (n0+3) 4 (G false)/\Boxed W (n0+4) 3 (I J (wt:Int))/\Boxed W (n0+5) 3 (I J (bias:Int))/\
  u.size+k=s0.size/\i<=66846660/\wt<=2339633100/\lG bias (36*(k+1)) i wt ((sN u).map aW)=lG bias 36 0 1 ((sN s0).map aW)/\Below n0 w W
def CutX(n0:Nat)(w:World)(s0:ByteArray)(bias:Nat)(c:Code)(W:World):Prop:=
 ((c=.ret/\Boxed W (n0+1) 3 (I J 0)/\Boxed W (n0+2) 9 (L ⟨#[]⟩)/\Boxed W (n0+3) 4 (G false)/\lG bias 36 0 1 ((sN s0).map aW)=none)∨
  (c=.exit 0/\ ∃(u:ByteArray) (m:Nat),Boxed W n0 9 (L u)/\Boxed W (n0+1) 3 (I J (m:Int))/\Boxed W (n0+2) 9 (L ⟨#[]⟩)/\Boxed W (n0+3) 4 (G false)/\
   lG bias 36 0 1 ((sN s0).map aW)=some (m,(sN u).map aW)/\m<=66846660/\u.size<s0.size))/\Below n0 w W
theorem Y5{n0 b:Nat}{w:World}{s0:ByteArray}{bias:Nat}(hB:n0<=b)(hs:n0<=w.heap.size):OwnFrom b (CutI n0 w s0 bias):=by
 rintro k W V row ⟨u,i,wt,h1,h2,h3,h4,h5,h6,a1,a2,a3,a4,h10⟩ hg hr;have hr':=fun r e=>(hr r e).2
 exact ⟨u,i,wt,dK h1 hg hr',dK h2 hg hr',dK h3 hg hr',dK h4 hg hr',dK h5 hg hr',dK h6 hg hr',a1,a2,a3,a4,qV h10 hg hB hs hr⟩
theorem Y6{n0 b:Nat}{w:World}{s0:ByteArray}{bias:Nat}(hB:n0<=b)(hs:n0<=w.heap.size)(c:Code):OwnFrom b (fun (_:Unit)=>CutX n0 w s0 bias c):=by
 rintro _ W V row ⟨h,h10⟩ hg hr;have hr':=fun r e=>(hr r e).2
 refine ⟨?_,qV h10 hg hB hs hr⟩
 rcases h with ⟨hc,h2,h3,h4,a1⟩|⟨hc,u,m,h1,h2,h3,h4,a1,a2,a3⟩
 .exact .inl ⟨hc,dK h2 hg hr',dK h3 hg hr',dK h4 hg hr',a1⟩
 exact .inr ⟨hc,u,m,dK h1 hg hr',dK h2 hg hr',dK h3 hg hr',dK h4 hg hr',a1,a2,a3⟩
theorem cix(d:Nat)(hd:d<256)(W:World):Calls prog 204 #[L ⟨#[97,98,99,100,101,102,103,104,105,106,107,108,109,110,111,112,113,114,115,116,117,118,119,120,121,122,48,49,50,51,52,53,54,55,56,57]⟩,.int .u8 (d:Int)] W
  fun e w'=>e=Y (I J (if aW d<36 then (aW d:Int)else-1))/\W=w':=by
 refine (strings_IndexByte _ _ W).mono ?_;rintro e w' ⟨rfl,rfl⟩;refine ⟨?_,rfl⟩;rw[Int.toNat_natCast,<-ix36 d hd]
theorem Hg(u:ByteArray)(h:0<u.size):sN u=u[0].toNat::sN (u.extract 1 u.size):=by
 have h1:=oA u 0 h;rw[List.drop_zero]at h1;rw[h1]
 congr 1
 have hl:(sN u).length=u.size:=bM u;simp only[sN,zd,zk,List.map_drop,List.map_take,zf]at hl⊢;rw[zh (by simp at hl⊢)]
theorem BG{u:ByteArray}(h:u.size=0):sN u=[]:=List.eq_nil_of_length_eq_zero ((bM u).trans h)
theorem cO{n0:Nat}{w W:World}(h:Below n0 w W)(j:Nat)(v:Value):Below n0 w (W.setCell ⟨n0+j,0,none⟩ v):=h.setCell (p:=⟨n0+j,0,none⟩) (zm _ _) v
theorem VN(n:Nat)(hn:3<=n)(s0:ByteArray)(bias:Nat)(w:World)(hs:(s0.size:Int)<=600)(hb:(bias:Int)<=2400):
  CallsIn Fence.wide n prog 308 #[L s0,I J (bias:Int)] w fun e w'=>EQ s0 bias e/\Below w.heap.size w w':=by
 have hb0:0<=(bias:Int):=om;have h1:1<=n:=om;have hmx:prog.follows .mixedOrders=true:=kr;refine callsIn_of_wp_marks func308 rfl trivial ?_ rfl;simp only[ntmps308,List.size_toArray,List.length_cons,List.length_nil,Nat.reduceAdd,Nat.reduceSub,Array.replicate_succ,Array.replicate_zero,List.push_toArray,List.append_toArray,List.nil_append,List.cons_append]
 gi_wp2_with (refine ⟨trivial,?_⟩;gi_at_call 307;refine (X5 Fence.wide (n-1) trivial rfl _ _).mono ?_;rintro e w' ⟨rfl,rfl⟩)
 obtain ⟨W0,hW0⟩: ∃W0,((((((w.alloc (Z #[L s0] 9)).alloc (Z #[I J 0] 3)).alloc (Z #[L ⟨#[]⟩] 9)).alloc (Z #[G false] 4)).alloc (Z #[I J 1] 3)).alloc (Z #[I J (bias:Int)] 3))=W0:=⟨_,rfl⟩;have hsz:W0.heap.size=w.heap.size+6:=by rw[<-hW0];simp
 have hI0:CutI w.heap.size w s0 bias 0 W0:=by
  rw[<-hW0];refine ⟨s0,0,1,?_,?_,?_,?_,?_,?_,rfl,om,om,rfl,?_⟩
  .exact (((((Boxed.new w _ _).alloc _).alloc _).alloc _).alloc _).alloc _
  .have h:=Boxed.new (w.alloc (Z #[L s0] 9)) 3 (I J 0)
   simp only[zc]at h;exact (((h.alloc _).alloc _).alloc _).alloc _
  .have h:=Boxed.new ((w.alloc (Z #[L s0] 9)).alloc (Z #[I J 0] 3)) 9 (L ⟨#[]⟩)
   simp only[zc]at h;exact ((h.alloc _).alloc _).alloc _
  .have h:=Boxed.new (((w.alloc (Z #[L s0] 9)).alloc (Z #[I J 0] 3)).alloc (Z #[L ⟨#[]⟩] 9)) 4 (G false)
   simp only[zc]at h;exact (h.alloc _).alloc _
  .have h:=Boxed.new ((((w.alloc (Z #[L s0] 9)).alloc (Z #[I J 0] 3)).alloc (Z #[L ⟨#[]⟩] 9)).alloc (Z #[G false] 4)) 3 (I J 1)
   simp only[zc]at h;exact h.alloc _
  .have h:=Boxed.new (((((w.alloc (Z #[L s0] 9)).alloc (Z #[I J 0] 3)).alloc (Z #[L ⟨#[]⟩] 9)).alloc (Z #[G false] 4)).alloc (Z #[I J 1] 3)) 3 (I J (bias:Int))
   simp only[zc]at h;exact h
  exact ((((((Below.refl _ w).alloc (za _) _).alloc j2 _).alloc (by simp;omega) _).alloc (by simp;omega) _).alloc (by simp;omega) _).alloc (by simp;omega) _
 rw[hW0];clear hW0;refine xA rfl h1 (gf:=310) (lb:= #[F (some ⟨w.heap.size+5,0,none⟩)]) (by rfl) trivial (enters_of func310 kr rfl)
  (YK Fence.wide (n-1) trivial rfl om (w.heap.size+5) bias 601 hb de) (CutI w.heap.size w s0 bias) (CutX w.heap.size w s0 bias) (Y5 om (za _)) (Y6 om (za _)) ?hC hI0
  (fun k=>{tmps:= #[L s0,I J (bias:Int),F (some ⟨w.heap.size,0,none⟩),undef,F (some ⟨w.heap.size+1,0,none⟩),F (some ⟨w.heap.size+2,0,none⟩),F (some ⟨w.heap.size+3,0,none⟩),F (some ⟨w.heap.size+4,0,none⟩),I J (MS bias k:Int),undef,I J (bias:Int),.func (.func 310) #[] #[F (some ⟨w.heap.size+5,0,none⟩)],I J (MS bias k:Int),undef,undef,undef,undef,undef,undef,undef,undef,undef,undef,undef,undef,undef,undef,undef,undef,undef,undef,undef,undef,undef,undef,undef,undef,undef,undef,undef],defers:=[]}) ?assign ?body ?stop
 case hC=>
  rintro k V ⟨u,i,wt,_,_,_,_,_,h6,a1,_⟩;exact ⟨om,h6.cell⟩
 case assign=>
  intro l k W K hK
  gi_wp2
  exact hK
 case body=>
  rintro l k W ⟨u,i,wt,b1,b2,b3,b4,b5,b6,a1,a2,a3,a4,hbel⟩;have HA:Hid (lG bias (36*(k+1)) i wt ((sN u).map aW)=lG bias 36 0 1 ((sN s0).map aW)):=a4;clear a4;obtain ⟨l1,l2⟩:=qI (36*(k+1)) bias;have hc1:=b1.cell;have hc2:=b2.cell;have hc3:=b3.cell;have hc4:=b4.cell;have hc5:=b5.cell;have hf1:=b1.frozen;have hf2:=b2.frozen;have hf3:=b3.frozen;have hf4:=b4.frozen;have hf5:=b5.frozen;unfold MS;have K0: ∀V:World,KeepsFrom W0.heap.size V V:=fun V=>KeepsFrom.refl _ _
  by_cases hu:u.size=0
  .have he:=aV hu
   have HN:Hid (lG bias 36 0 1 ((sN s0).map aW)=none):=by
    show _=_;rw[<-HA.out,BG hu];rfl
   gi_wp2
   refine ⟨((KeepsOthers.setCell _ _ _).trans ((KeepsOthers.setCell _ _ _).trans (KeepsOthers.setCell _ _ _))).from _,.inl ⟨rfl,?_,?_,?_,HN.out⟩,?_⟩
   .exact ((b2.set _).other om _).other om _
   .exact ((b3.other om _).set _).other om _
   .exact ((b4.other om _).other om _).set _
   exact cO (cO (cO hbel 1 _) 2 _) 3 _
  have hu0:0<u.size:=om;have he:=aX hu0;have hcut:=Hg u hu0;have hl:(u.extract 1 u.size).size=u.size-1:=by simp
  obtain ⟨d,hd⟩: ∃d:Nat,u[0].toNat=d:=⟨_,rfl⟩;have hd1:d<256:=by rw[<-hd];exact u[0].toNat_lt
  rw[hd]at hcut;have HA2:Hid (lG bias 36 0 1 ((sN s0).map aW)=lG bias (36*(k+1)) i wt (aW d::(sN (u.extract 1 u.size)).map aW)):=by
   show _=_;rw[<-HA.out,hcut];rfl
  have hc:=cix d hd1;have hvl:=XE d;clear hcut hu;generalize aW d=v at HA2 hc hvl
  by_cases hv:v<36
  .rw[if_pos hv]at hc
   have CI:Hid (∀W,CS 204 #[L ⟨#[97,98,99,100,101,102,103,104,105,106,107,108,109,110,111,112,113,114,115,116,117,118,119,120,121,122,48,49,50,51,52,53,54,55,56,57]⟩,.int .u8 (d:Int)] W (I J (v:Int))):=hc;clear hc;obtain ⟨pr,hpr⟩: ∃pr:Nat,v*wt=pr:=⟨_,rfl⟩;have hple:pr<=35*2339633100:=by rw[<-hpr];exact Nat.mul_le_mul om om
   have hP:(v:Int)*(wt:Int)=(pr:Int):=by rw[<-hpr];norm_cast
   have hge:1<=v->wt<=pr:=fun h=>by rw[<-hpr];exact Nat.le_mul_of_pos_left _ h
   have hpI:(pr:Int)<=81887158500:=om;have hiI:(i:Int)<=66846660:=om;have hi0:0<=(i:Int):=om;have hp0:0<=(pr:Int):=om;have hv0: ¬(v:Int)<0:=om;have HA3:Hid (lG bias 36 0 1 ((sN s0).map aW)=if 66846660<i+pr then none else if v<bF (36*(k+1)) bias then some (i+pr,(sN (u.extract 1 u.size)).map aW)else lG bias (36*(k+1+1)) (i+pr) (wt*(36-bF (36*(k+1)) bias)) ((sN (u.extract 1 u.size)).map aW)):=by
    show _=_;rw[HA2.out,lG,hpr,show 36*(k+1+1)=36*(k+1)+36 by omega]
    by_cases hx:66846660<i+pr
    .rw[if_pos (.inr hx),if_pos hx]
    rw[if_neg om,if_neg hx]
   generalize bF (36*(k+1)) bias=t at l1 l2 HA3;clear hpr HA2 HA
   by_cases hbig:66846660<(i:Int)+(pr:Int)
   .have HN:Hid (lG bias 36 0 1 ((sN s0).map aW)=none):=by
     show _=_;rw[HA3.out,if_pos om]
    gi_wp2_with fail
    refine ⟨trivial,fun h=>(by cases h),?_⟩;refine (CallsIn.inRound l (callsIn_wide.2 (CI.out _))).mono ?_;rintro e w' ⟨rfl,rfl⟩
    gi_wp2_with fail
    refine ⟨((KeepsOthers.setCell _ _ _).trans ((KeepsOthers.setCell _ _ _).trans ((KeepsOthers.setCell _ _ _).trans (KeepsOthers.setCell _ _ _)))).from _,.inl ⟨rfl,?_,?_,?_,HN.out⟩,?_⟩
    .exact (((b2.set _).set _).other om _).other om _
    .exact (((b3.other om _).other om _).set _).other om _
    .exact (((b4.other om _).other om _).other om _).set _
    exact cO (cO (cO (cO hbel 1 _) 1 _) 2 _) 3 _
   have hbi:(i:Int)+(pr:Int)<=66846660:=om
   by_cases hvt:(v:Int)<(t:Int)
   .have HN:Hid (lG bias 36 0 1 ((sN s0).map aW)=some (i+pr,(sN (u.extract 1 u.size)).map aW)):=by
     show _=_;rw[HA3.out,if_neg om,if_pos om]
    gi_wp2_with fail
    refine ⟨trivial,fun h=>(by cases h),?_⟩;refine (CallsIn.inRound l (callsIn_wide.2 (CI.out _))).mono ?_;rintro e w' ⟨rfl,rfl⟩
    gi_wp2_with fail
    refine ⟨((KeepsOthers.setCell _ _ _).trans (KeepsOthers.setCell _ _ _)).from _,.inr ⟨rfl,u.extract 1 u.size,i+pr,?_,?_,?_,?_,HN.out,om,om⟩,?_⟩
    .exact (b1.other om _).set _
    .exact ((b2.set _).other om _)
    .exact (b3.other om _).other om _
    .exact (b4.other om _).other om _
    exact cO (cO hbel 1 _) 0 _
   have HN:Hid (lG bias (36*(k+1+1)) (i+pr) (wt*(36-t)) ((sN (u.extract 1 u.size)).map aW)=lG bias 36 0 1 ((sN s0).map aW)):=by
    show _=_;rw[HA3.out,if_neg om,if_neg om]
   have hwp:wt<=66846660:=by have:=hge om;omega
   obtain ⟨w2,hw2⟩: ∃w2:Nat,wt*(36-t)=w2:=⟨_,rfl⟩;have hw2l:w2<=2339633100:=by rw[<-hw2];exact ze (Nat.mul_le_mul hwp (show 36-t<=35 by omega)) de
   have hW2:(wt:Int)*(36-(t:Int))=(w2:Int):=by rw[<-hw2,show (36:Int)-(t:Int)=((36-t:Nat):Int) by omega];norm_cast
   rw[hw2]at HN;clear hw2
   gi_wp2_with fail
   refine ⟨trivial,fun h=>(by cases h),?_⟩;refine (CallsIn.inRound l (callsIn_wide.2 (CI.out _))).mono ?_;rintro e w' ⟨rfl,rfl⟩
   gi_wp2_with fail
   refine ⟨((KeepsOthers.setCell _ _ _).trans ((KeepsOthers.setCell _ _ _).trans (KeepsOthers.setCell _ _ _))).from _,u.extract 1 u.size,i+pr,w2,?_,?_,?_,?_,?_,?_,om,om,hw2l,HN.out,?_⟩
   .exact ((b1.other om _).set _).other om _
   .exact ((b2.set _).other om _).other om _
   .exact ((b3.other om _).other om _).other om _
   .exact ((b4.other om _).other om _).other om _
   .exact ((b5.other om _).other om _).set _
   .exact ((b6.other om _).other om _).other om _
   exact cO (cO (cO hbel 1 _) 0 _) 4 _
  rw[if_neg hv]at hc;have CI:Hid (∀W,CS 204 #[L ⟨#[97,98,99,100,101,102,103,104,105,106,107,108,109,110,111,112,113,114,115,116,117,118,119,120,121,122,48,49,50,51,52,53,54,55,56,57]⟩,.int .u8 (d:Int)] W (I J (-1))):=hc;clear hc;have HN:Hid (lG bias 36 0 1 ((sN s0).map aW)=none):=by
   show _=_;rw[HA2.out,lG,if_pos om]
  gi_wp2_with fail
  refine ⟨trivial,fun h=>(by cases h),?_⟩;refine (CallsIn.inRound l (callsIn_wide.2 (CI.out _))).mono ?_;rintro e w' ⟨rfl,rfl⟩
  gi_wp2_with fail
  refine ⟨((KeepsOthers.setCell _ _ _).trans ((KeepsOthers.setCell _ _ _).trans ((KeepsOthers.setCell _ _ _).trans (KeepsOthers.setCell _ _ _)))).from _,.inl ⟨rfl,?_,?_,?_,HN.out⟩,?_⟩
  .exact (((b2.set _).set _).other om _).other om _
  .exact (((b3.other om _).other om _).set _).other om _
  .exact (((b4.other om _).other om _).other om _).set _
  exact cO (cO (cO (cO hbel 1 _) 1 _) 2 _) 3 _
 case stop=>
  rintro D c W hD ⟨⟨rfl,b2,b3,b4,hno⟩|⟨rfl,u,m,b1,b2,b3,b4,hyes,hm,hlt⟩,hbel⟩ hK
  .gi_wp2
   refine ⟨by simp,.inl ⟨_,_,rfl,run_takeDeferred hK,?_⟩⟩;have hb':Below w.heap.size w (W.putObj D (.deferred none)):=hbel.trans (belowK_b (w:=w) (za _) W D _ _ om hK rfl rfl);have hp:=fun {b:Nat} {t:TypeId} {v:Value} (h:Boxed W b t v)=>(dK h (grownBy_putObj' W D (.deferred none)) (fun r e=>by cases e;exact ⟨_,hK,rfl⟩)).cell
   exact ⟨_,tW rfl _ _ _ _ _ _ _ _ rfl rfl rfl (KA isAgg3 (hp b2)) (KA isAgg9 (hp b3)) (KA isAgg4 (hp b4)),.inl ⟨hno,rfl⟩,hb'⟩
  have hc1:=b1.cell;have hc2:=b2.cell;have hc3:=b3.cell;have hc4:=b4.cell;have hf2:=b2.frozen;have hf3:=b3.frozen;have hf4:=b4.frozen
  gi_wp2
  gi_region
  all_goals
   gi_wp2
   have c2:=((b2.set (I J (m:Int))).other (B':=w.heap.size+2) om (L u)).other (B':=w.heap.size+3) om (G true);have c3:=((b3.other (B':=w.heap.size+1) om (I J (m:Int))).set (L u)).other (B':=w.heap.size+3) om (G true);have c4:=((b4.other (B':=w.heap.size+1) om (I J (m:Int))).other (B':=w.heap.size+2) om (L u)).set (G true);have hbel2:Below w.heap.size w (((W.setCell ⟨w.heap.size+1,0,none⟩ (I J (m:Int))).setCell ⟨w.heap.size+2,0,none⟩ (L u)).setCell ⟨w.heap.size+3,0,none⟩ (G true)).drew:=(cO (cO (cO hbel 1 _) 2 _) 3 _).drew;have hK2:(((W.setCell ⟨w.heap.size+1,0,none⟩ (I J (m:Int))).setCell ⟨w.heap.size+2,0,none⟩ (L u)).setCell ⟨w.heap.size+3,0,none⟩ (G true)).drew.heap[D]? =some (.deferred (some [])):=
    ((KeepsOthers.setCell W _ _).trans ((KeepsOthers.setCell _ _ _).trans ((KeepsOthers.setCell _ _ _).trans (KeepsOthers.drew _)))).same D _ hK rfl
   have c2':Boxed (((W.setCell ⟨w.heap.size+1,0,none⟩ (I J (m:Int))).setCell ⟨w.heap.size+2,0,none⟩ (L u)).setCell ⟨w.heap.size+3,0,none⟩ (G true)).drew (w.heap.size+1) 3 (I J (m:Int)):=c2;have c3':Boxed (((W.setCell ⟨w.heap.size+1,0,none⟩ (I J (m:Int))).setCell ⟨w.heap.size+2,0,none⟩ (L u)).setCell ⟨w.heap.size+3,0,none⟩ (G true)).drew (w.heap.size+2) 9 (L u):=c3;have c4':Boxed (((W.setCell ⟨w.heap.size+1,0,none⟩ (I J (m:Int))).setCell ⟨w.heap.size+2,0,none⟩ (L u)).setCell ⟨w.heap.size+3,0,none⟩ (G true)).drew (w.heap.size+3) 4 (G true):=c4;generalize (((W.setCell ⟨w.heap.size+1,0,none⟩ (I J (m:Int))).setCell ⟨w.heap.size+2,0,none⟩ (L u)).setCell ⟨w.heap.size+3,0,none⟩ (G true)).drew=V at hbel2 hK2 c2' c3' c4'⊢;refine ⟨by simp,.inl ⟨_,_,rfl,run_takeDeferred hK2,?_⟩⟩;have hb':Below w.heap.size w (V.putObj D (.deferred none)):=hbel2.trans (belowK_b (w:=w) (za _) V D _ _ om hK2 rfl rfl);have hp:=fun {b:Nat} {t:TypeId} {v:Value} (h:Boxed V b t v)=>(dK h (grownBy_putObj' V D (.deferred none)) (fun r e=>by cases e;exact ⟨_,hK2,rfl⟩)).cell
   exact ⟨_,tW rfl _ _ _ _ _ _ _ _ rfl rfl rfl (KA isAgg3 (hp c2')) (KA isAgg9 (hp c3')) (KA isAgg4 (hp c4')),.inr ⟨m,u,hyes,hm,hlt,rfl⟩,hb'⟩
theorem MU(s0:ByteArray)(bias:Nat)(w:World)(hs:(s0.size:Int)<=600)(hb:(bias:Int)<=2400):Calls prog 308 #[L s0,I J (bias:Int)] w fun e w'=>EQ s0 bias e/\Below w.heap.size w w':=
 callsIn_wide.1 (VN 3 (za _) s0 bias w hs hb)
end
section
open Go.RowKit Go.Shelf
def iF(basic:Nat):Nat->List Nat->Nat->Nat->Nat->List Nat->Option (List Nat)
 |_,[],_,_,_,out=>some out
 |0,_::_,_,_,_,_=>none
 |f+1,v::vs,n,i,bias,out=>
  match lG bias 36 0 1 (v::vs)with
  |none=>none
  |some (more,rest)=>iF basic f rest (n+(i+more)/(out.length+1)) ((i+more)%(out.length+1)+1) (aU more (out.length+1) (out.length==basic)) (dF ((i+more)%(out.length+1)) (n+(i+more)/(out.length+1)) out)
theorem yT{basic f:Nat}{vs:List Nat}{n i bias:Nat}{out:List Nat}(hv:vs≠[])(h:lG bias 36 0 1 vs=none):iF basic (f+1) vs n i bias out=none:=by
 cases vs with
 |nil=>exact absurd rfl hv
 |cons v vs=>rw[iF,h]
theorem yU{basic f:Nat}{vs:List Nat}{n i bias:Nat}{out:List Nat}{more:Nat}{rest:List Nat}(hv:vs≠[])(h:lG bias 36 0 1 vs=some (more,rest)):
  iF basic (f+1) vs n i bias out=iF basic f rest (n+(i+more)/(out.length+1)) ((i+more)%(out.length+1)+1) (aU more (out.length+1) (out.length==basic)) (dF ((i+more)%(out.length+1)) (n+(i+more)/(out.length+1)) out):=by
 cases vs with
 |nil=>exact absurd rfl hv
 |cons v vs=>rw[iF,h]
theorem MV(basic:Nat): ∀(f:Nat) (vs:List Nat) (n i bias:Nat) (out l:List Nat),128<=n->jR basic f vs n i bias out=some l->iF basic f vs n i bias out=some l
 |f,[],n,i,bias,out,l,_,h=>by
  cases f<;>simpa[jR,iF] using h
 |0,v::vs,n,i,bias,out,l,_,h=>by simp[jR]at h
 |f+1,v::vs,n,i,bias,out,l,hn,h=>by
  rw[jR]at h
  cases hr:dA bias 36 0 1 (v::vs)with
  |none=>rw[hr]at h;cases h
  |some mr=>
   obtain ⟨more,rest⟩:=mr;rw[hr]at h;simp only at h;split at h
   .cases h
   next hno=>
   have hm:more<=66846660:=by
    have h1:(i+more)/(out.length+1)<=1113983:=om;have h2:i+more<(1113983+1)*(out.length+1):=by
     have:=Nat.div_lt_iff_lt_mul (x:=i+more) (y:=1113983+1) (k:=out.length+1) om
     exact this.1 om
    have h3:(1113983+1)*(out.length+1)<=1113984*60:=Nat.mul_le_mul_left _ om;omega
   rw[iF,zV bias _ _ _ _ _ _ hr hm];exact MV basic f rest _ _ _ _ l (ze hn (zm _ _)) h
theorem Y7(s:ByteArray)(w:World)(hs:(s.size:Int)<=1048576):Calls prog 210 #[L s,.int .u8 45] w fun e w'=> ∃r:Int,e=Y (I J r)/\w=w'/\((r= -1/\cP (sN s)=none)∨ ∃k:Nat,k<s.size/\r=(k:Int)/\cP (sN s)=some ((sN s).take k,(sN s).drop (k+1))):=by
 refine (strings_LastIndexByte s 45 om w).mono ?_;rintro e w' ⟨rfl,rfl⟩;refine ⟨_,rfl,rfl,?_⟩;have hget: ∀j,j<s.size->(sN s)[j]? =some (s.data[j]!).toNat:=by
  intro j hj;have hj':j<s.data.size:=hj;simp only[sN,List.getElem?_map];rw[Array.getElem?_toList,Array.getElem?_eq_getElem hj',getElem!_pos s.data j hj'];rfl
 rcases Lib.lastIndexByte_spec s 45 with ⟨h1,h2⟩|⟨k,hk,h1,h2,h3⟩
 .refine .inl ⟨h1,nG _ ?_⟩
  intro c hc h45;obtain ⟨j,hj,he⟩:=zl hc;rw[bM]at hj;have h4:=hget j hj;rw[zg (by rw[bM];exact hj),he]at h4;have h5:=h2 j hj;injection h4 with h4;omega
 refine .inr ⟨k,hk,h1,?_⟩;have hl:((sN s).take k).length=k:=by rw[zn,bM];omega
 have h:=DL ((sN s).take k) (sN s) (by
  rw[hl];intro c hc h45;obtain ⟨j,hj,he⟩:=zl hc;rw[List.length_drop,bM]at hj;rw[List.getElem_drop]at he;have h4:=hget (k+1+j) om;rw[zg (by rw[bM];omega),he]at h4;have h5:=h3 (k+1+j) om om;injection h4 with h4;omega) (by rw[hl]) (by
  rw[hl,hget k hk]
  congr 1
  omega)
 rw[hl]at h;exact h
def MW:Value->Nat
 | L u=>u.size
 |_=>0
theorem mP(u:ByteArray):MW (L u)=u.size:=rfl
def fY(w w':World)(r:Option (List Nat))(e:Ending):Prop:=
 (r=none/\e=Y (H #[.slice none 0 0,G false]))∨ ∃(l:List Nat) (v:Value),r=some l/\l.length<=600/\e=Y (H #[v,G true])/\w'.ownsRow w.heap.size 3 1 v l.length (icN l)
theorem Y8(s:ByteArray)(w:World)(hs600:(s.size:Int)<=600):Calls prog 303 #[L s] w fun e w'=>((∃k:Nat,0<k/\k<s.size/\cP (sN s)=some ((sN s).take k,(sN s).drop (k+1))/\fY w w' (iF k s.size (((sN s).drop (k+1)).map aW) 128 0 72 ((sN s).take k)) e)∨
   ((cP (sN s)=none∨cP (sN s)=some ([],(sN s).drop 1))/\fY w w' (iF 0 s.size ((sN s).map aW) 128 0 72 []) e))/\Below w.heap.size w w':=by
 have HZ:Hid ((w.alloc (Z #[] 3)).ownsRow w.heap.size 3 1 (.slice (some ⟨w.heap.size,0,none⟩) 0 0) ([]:List Nat).length (icN [])):=World.ownsRow_lit w #[] 0 (za _) de rfl;have HB0:Hid (Below w.heap.size w (w.alloc (Z #[] 3))):=(Below.refl _ _).alloc (za _) _;go_enter func303,ntmps303;go_wp2_with fail;refine (Y7 _ _ om).mono ?_;rintro e wz ⟨r,rfl,rfl,hr⟩;have H128:Hid (128+s.size*66847300<=40108380128):=by show _<=_;omega
 rcases hr with ⟨rfl,hsp⟩|⟨k0,hk0,rfl,hsp⟩
 .obtain ⟨R,hR⟩: ∃q,iF 0 s.size ((sN s).map aW) 128 0 72 []=q:=⟨_,rfl⟩
  have HR:Hid (iF 0 s.size ((sN s).map aW) 128 0 72 []=R):=hR;have HA:Hid (∀(W:World) (e:Ending),fY w W R e->((∃k:Nat,0<k/\k<s.size/\cP (sN s)=some ((sN s).take k,(sN s).drop (k+1))/\fY w W (iF k s.size (((sN s).drop (k+1)).map aW) 128 0 72 ((sN s).take k)) e)∨
   ((cP (sN s)=none∨cP (sN s)=some ([],(sN s).drop 1))/\fY w W (iF 0 s.size ((sN s).map aW) 128 0 72 []) e))):=fun W e h=> .inr ⟨.inl hsp,by rw[hR];exact h⟩
  clear hR hsp;have hmx:max (-1:Int) 0=0:=de;go_wp2_with fail;refine wp_loop_rounds 1 ?_;rw[rounds_succ];go_wp2_with fail
  go_loopw[4,7,8,9,10] (fun v a b c e wr=> ∃(u:ByteArray) (f n i bi:Nat) (out:List Nat),a=L u/\b=I J n/\c=I J i/\e=I J bi/\out.length+u.size<=600/\u.size<=f/\n+u.size*66847300<=40108380128/\i<=out.length/\bi<=2400/\iF 0 f ((sN u).map aW) n i bi out=R/\wr.ownsRow w.heap.size 3 1 v out.length (icN out)/\Below w.heap.size w wr)
   (fun _ a _ _ _ _=>MW a)
  case round=>
   obtain ⟨u,f,n,i,bi,out,rfl,rfl,rfl,rfl,hou,hf,hn,hi,hbi,he,hown,hbel⟩:=hrel;have HOW:Hid (wr.ownsRow w.heap.size 3 1 u4 out.length (icN out)):=hown;have HBL:Hid (Below w.heap.size w wr):=hbel;have hszr:=hbel.size;have HE:Hid (iF 0 f ((sN u).map aW) n i bi out=R):=he;obtain ⟨ao,cp0,hu⟩:=gR hown;clear hown hbel he;subst hu
   by_cases hu0:u.size=0
   .have hem:=aV hu0
    have HRR:Hid (R=some out):=by
     show _=_;rw[<-HE.out,BG hu0]
     cases f<;>rfl
    go_wp2_with fail;go_ret2;exact ⟨HA.out _ _ (.inr ⟨out,_,HRR.out,om,rfl,HOW.out⟩),HBL.out⟩
   have hup:0<u.size:=om;have hem:=aX hup;obtain ⟨f',rfl⟩: ∃j,f=j+1:=⟨f-1,om⟩;have hne:(sN u).map aW≠[]:=by
    intro h;have h1:((sN u).map aW).length=0:=by rw[h];rfl
    rw[zi,bM]at h1;omega
   have CUT:Hid (Calls prog 308 #[L u,I J (bi:Int)] wr fun e w'=>EQ u bi e/\Below wr.heap.size wr w'):=MU u bi wr om om;have HNE:Hid ((sN u).map aW≠[]):=hne;clear hu0 hne;go_wp2_with fail;refine CUT.out.mono ?_;rintro e w2 ⟨hans,hb2⟩;have B2:Hid (Below w.heap.size w w2):=HBL.out.trans (hb2.mono hszr);have O2:Hid (w2.ownsRow w.heap.size 3 1 (.slice ao out.length cp0) out.length (icN out)):=aH HOW.out hb2;have hsz2:w.heap.size<=w2.heap.size:=ze hszr hb2.size;clear hb2
   rcases hans with ⟨hno,rfl⟩|⟨m,u',hyes,hm,hul,rfl⟩
   .have HRR:Hid (R=none):=by
     show _=_;rw[<-HE.out];exact yT HNE.out hno
    clear hno;go_wp2_with fail;go_ret2;exact ⟨HA.out _ _ (.inl ⟨HRR.out,rfl⟩),B2.out⟩
   have HST:=yU (basic:=0) (f:=f') (n:=n) (i:=i) (out:=out) HNE.out hyes;have hdq1:(i+m)/(out.length+1)<=i+m:=zj _ _;have hps1:(i+m)%(out.length+1)<out.length+1:=zo _ om;have hQ:((i:Int)+(m:Int))/((out.length:Int)+1)=(((i+m)/(out.length+1):Nat):Int):=by norm_cast
   have hM:((i:Int)+(m:Int))%((out.length:Int)+1)=(((i+m)%(out.length+1):Nat):Int):=by norm_cast
   have HE2:Hid (iF 0 f' ((sN u').map aW) (n+(i+m)/(out.length+1)) ((i+m)%(out.length+1)+1) (aU m (out.length+1) (out.length==0)) (dF ((i+m)%(out.length+1)) (n+(i+m)/(out.length+1)) out)=R):=by
    show _=_;rw[<-HE.out];exact HST.symm
   clear HST hyes;generalize (i+m)/(out.length+1)=dq at hQ HE2 hdq1;generalize (i+m)%(out.length+1)=pos at hM HE2 hps1;have hnz: ¬(out.length:Int)+1=0:=om;have hnn:(n:Int)+(dq:Int)<=50000000000:=om;have hmI:(m:Int)<=66846660:=om;have hoI:(out.length:Int)<=600:=om;have hiI:(i:Int)<=600:=om;have hbd:n+dq+u'.size*66847300<=40108380128:=om;have CTA:Hid (∀(first:Bool) (W:World),CS 301 #[I J (m:Int),I J ((out.length:Int)+1),G first] W (I J (aU m (out.length+1) first:Int))):=fun first W=>by
    have h:=jN m (out.length+1) first W om om om
    rw[show ((out.length+1:Nat):Int)=(out.length:Int)+1 by omega]at h;exact h
   have CIN:Hid (Calls prog 309 #[.slice ao out.length cp0,I J (pos:Int),.slice (some ⟨w2.heap.size,0,none⟩) 1 1] (w2.alloc (Z #[I J ((n:Int)+(dq:Int))] 3)) fun e w'=>
     ∃v',e=Y v'/\w'.ownsRow w.heap.size 3 1 v' (out.length+1) (icN (dF pos (n+dq) out))/\Below w.heap.size w2 w'):=by
    have h:=uT out pos (n+dq) (.slice ao out.length cp0) w.heap.size w2 O2.out hsz2 om om;rw[show ((n+dq:Nat):Int)=(n:Int)+(dq:Int) by omega]at h;exact h
   have hal:=fI m (out.length+1) (out.length==0);have hbq:((out.length:Int)==0)=(out.length==0):=by
    cases hq:out.length==0 with
    |true=>rw[beq_iff_eq]at hq⊢;omega
    |false=>rw[beq_eq_false_iff_ne]at hq⊢;omega
   generalize (out.length==0)=first at hbq HE2 hal
   go_wp2_with fail;refine (CTA.out _ _).mono ?_;rintro e wx ⟨rfl,rfl⟩;go_wp2_with fail;refine CIN.out.mono ?_;rintro e w3 ⟨v',rfl,own3,hb3⟩;have B3:Below w.heap.size w w3:=B2.out.trans hb3;clear hb3;go_wp2_with fail;go_roundw
   case rel=>exact ⟨u',f',n+dq,pos+1,_,dF pos (n+dq) out,rfl,gn,gn,rfl,by rw[aP];omega,om,hbd,by rw[aP];omega,hal,HE2.out,by rw[aP];exact own3,B3⟩
   case measure=>rw[mP,mP];exact hul
  case atStart=>exact ⟨s,s.size,128,0,72,[],rfl,rfl,rfl,rfl,by simp;omega,za _,H128.out,za _,om,HR.out,HZ.out,HB0.out⟩
 by_cases hk1:k0=0
 .subst hk1
  obtain ⟨R,hR⟩: ∃q,iF 0 s.size ((sN s).map aW) 128 0 72 []=q:=⟨_,rfl⟩;have HR:Hid (iF 0 s.size ((sN s).map aW) 128 0 72 []=R):=hR;have HA:Hid (∀(W:World) (e:Ending),fY w W R e->((∃k:Nat,0<k/\k<s.size/\cP (sN s)=some ((sN s).take k,(sN s).drop (k+1))/\fY w W (iF k s.size (((sN s).drop (k+1)).map aW) 128 0 72 ((sN s).take k)) e)∨
   ((cP (sN s)=none∨cP (sN s)=some ([],(sN s).drop 1))/\fY w W (iF 0 s.size ((sN s).map aW) 128 0 72 []) e))):=fun W e h=> .inr ⟨.inr (by rw[hsp];rfl),by rw[hR];exact h⟩
  clear hR hsp hk0;go_wp2_with fail;refine wp_loop_rounds 1 ?_;rw[rounds_succ];go_wp2_with fail
  go_loopw[4,7,8,9,10] (fun v a b c e wr=> ∃(u:ByteArray) (f n i bi:Nat) (out:List Nat),a=L u/\b=I J n/\c=I J i/\e=I J bi/\out.length+u.size<=600/\u.size<=f/\n+u.size*66847300<=40108380128/\i<=out.length/\bi<=2400/\iF 0 f ((sN u).map aW) n i bi out=R/\wr.ownsRow w.heap.size 3 1 v out.length (icN out)/\Below w.heap.size w wr)
   (fun _ a _ _ _ _=>MW a)
  case round=>
   obtain ⟨u,f,n,i,bi,out,rfl,rfl,rfl,rfl,hou,hf,hn,hi,hbi,he,hown,hbel⟩:=hrel;have HOW:Hid (wr.ownsRow w.heap.size 3 1 u4 out.length (icN out)):=hown;have HBL:Hid (Below w.heap.size w wr):=hbel;have hszr:=hbel.size;have HE:Hid (iF 0 f ((sN u).map aW) n i bi out=R):=he;obtain ⟨ao,cp0,hu⟩:=gR hown;clear hown hbel he;subst hu
   by_cases hu0:u.size=0
   .have hem:=aV hu0
    have HRR:Hid (R=some out):=by
     show _=_;rw[<-HE.out,BG hu0]
     cases f<;>rfl
    go_wp2_with fail;go_ret2;exact ⟨HA.out _ _ (.inr ⟨out,_,HRR.out,om,rfl,HOW.out⟩),HBL.out⟩
   have hup:0<u.size:=om;have hem:=aX hup;obtain ⟨f',rfl⟩: ∃j,f=j+1:=⟨f-1,om⟩;have hne:(sN u).map aW≠[]:=by
    intro h;have h1:((sN u).map aW).length=0:=by rw[h];rfl
    rw[zi,bM]at h1;omega
   have CUT:Hid (Calls prog 308 #[L u,I J (bi:Int)] wr fun e w'=>EQ u bi e/\Below wr.heap.size wr w'):=MU u bi wr om om;have HNE:Hid ((sN u).map aW≠[]):=hne;clear hu0 hne;go_wp2_with fail;refine CUT.out.mono ?_;rintro e w2 ⟨hans,hb2⟩;have B2:Hid (Below w.heap.size w w2):=HBL.out.trans (hb2.mono hszr);have O2:Hid (w2.ownsRow w.heap.size 3 1 (.slice ao out.length cp0) out.length (icN out)):=aH HOW.out hb2;have hsz2:w.heap.size<=w2.heap.size:=ze hszr hb2.size;clear hb2
   rcases hans with ⟨hno,rfl⟩|⟨m,u',hyes,hm,hul,rfl⟩
   .have HRR:Hid (R=none):=by
     show _=_;rw[<-HE.out];exact yT HNE.out hno
    clear hno;go_wp2_with fail;go_ret2;exact ⟨HA.out _ _ (.inl ⟨HRR.out,rfl⟩),B2.out⟩
   have HST:=yU (basic:=0) (f:=f') (n:=n) (i:=i) (out:=out) HNE.out hyes;have hdq1:(i+m)/(out.length+1)<=i+m:=zj _ _;have hps1:(i+m)%(out.length+1)<out.length+1:=zo _ om;have hQ:((i:Int)+(m:Int))/((out.length:Int)+1)=(((i+m)/(out.length+1):Nat):Int):=by norm_cast
   have hM:((i:Int)+(m:Int))%((out.length:Int)+1)=(((i+m)%(out.length+1):Nat):Int):=by norm_cast
   have HE2:Hid (iF 0 f' ((sN u').map aW) (n+(i+m)/(out.length+1)) ((i+m)%(out.length+1)+1) (aU m (out.length+1) (out.length==0)) (dF ((i+m)%(out.length+1)) (n+(i+m)/(out.length+1)) out)=R):=by
    show _=_;rw[<-HE.out];exact HST.symm
   clear HST hyes;generalize (i+m)/(out.length+1)=dq at hQ HE2 hdq1;generalize (i+m)%(out.length+1)=pos at hM HE2 hps1;have hnz: ¬(out.length:Int)+1=0:=om;have hnn:(n:Int)+(dq:Int)<=50000000000:=om;have hmI:(m:Int)<=66846660:=om;have hoI:(out.length:Int)<=600:=om;have hiI:(i:Int)<=600:=om;have hbd:n+dq+u'.size*66847300<=40108380128:=om;have CTA:Hid (∀(first:Bool) (W:World),CS 301 #[I J (m:Int),I J ((out.length:Int)+1),G first] W (I J (aU m (out.length+1) first:Int))):=fun first W=>by
    have h:=jN m (out.length+1) first W om om om
    rw[show ((out.length+1:Nat):Int)=(out.length:Int)+1 by omega]at h;exact h
   have CIN:Hid (Calls prog 309 #[.slice ao out.length cp0,I J (pos:Int),.slice (some ⟨w2.heap.size,0,none⟩) 1 1] (w2.alloc (Z #[I J ((n:Int)+(dq:Int))] 3)) fun e w'=>
     ∃v',e=Y v'/\w'.ownsRow w.heap.size 3 1 v' (out.length+1) (icN (dF pos (n+dq) out))/\Below w.heap.size w2 w'):=by
    have h:=uT out pos (n+dq) (.slice ao out.length cp0) w.heap.size w2 O2.out hsz2 om om;rw[show ((n+dq:Nat):Int)=(n:Int)+(dq:Int) by omega]at h;exact h
   have hal:=fI m (out.length+1) (out.length==0);have hbq:((out.length:Int)==0)=(out.length==0):=by
    cases hq:out.length==0 with
    |true=>rw[beq_iff_eq]at hq⊢;omega
    |false=>rw[beq_eq_false_iff_ne]at hq⊢;omega
   generalize (out.length==0)=first at hbq HE2 hal
   go_wp2_with fail;refine (CTA.out _ _).mono ?_;rintro e wx ⟨rfl,rfl⟩;go_wp2_with fail;refine CIN.out.mono ?_;rintro e w3 ⟨v',rfl,own3,hb3⟩;have B3:Below w.heap.size w w3:=B2.out.trans hb3;clear hb3;go_wp2_with fail;go_roundw
   case rel=>exact ⟨u',f',n+dq,pos+1,_,dF pos (n+dq) out,rfl,gn,gn,rfl,by rw[aP];omega,om,hbd,by rw[aP];omega,hal,HE2.out,by rw[aP];exact own3,B3⟩
   case measure=>rw[mP,mP];exact hul
  case atStart=>exact ⟨s,s.size,128,0,72,[],rfl,rfl,rfl,rfl,by simp;omega,za _,H128.out,za _,om,HR.out,HZ.out,HB0.out⟩
 have hk2:0<(k0:Int):=om;have hk4:0<k0:=om;have hk3: ¬(k0:Int)<0:=om;have hxs:(s.extract k0 s.size).size=s.size-k0:=by simp
 have hx2:(s.extract (k0+1) s.size).size=s.size-(k0+1):=by simp
 have HX:Hid (sN (s.extract (k0+1) s.size)=(sN s).drop (k0+1)):=by
  show _=_;have hl:(sN s).length=s.size:=bM s;simp only[sN,zd,zk,List.map_drop,List.map_take,zf]at hl⊢;rw[zh (by simp at hl⊢)]
 obtain ⟨R,hR⟩: ∃q,iF k0 s.size (((sN s).drop (k0+1)).map aW) 128 0 72 ((sN s).take k0)=q:=⟨_,rfl⟩;have HR:Hid (iF k0 s.size ((sN (s.extract (k0+1) s.size)).map aW) 128 0 72 ((sN s).take k0)=R):=by
  show _=_;rw[HX.out];exact hR
 have HA:Hid (∀(W:World) (e:Ending),fY w W R e->((∃k:Nat,0<k/\k<s.size/\cP (sN s)=some ((sN s).take k,(sN s).drop (k+1))/\fY w W (iF k s.size (((sN s).drop (k+1)).map aW) 128 0 72 ((sN s).take k)) e)∨
  ((cP (sN s)=none∨cP (sN s)=some ([],(sN s).drop 1))/\fY w W (iF 0 s.size ((sN s).map aW) 128 0 72 []) e))):=fun W e h=> .inl ⟨k0,om,hk0,hsp,by rw[hR];exact h⟩
 clear hR hsp HX;have hmx:max (k0:Int) 0=(k0:Int):=om;go_wp2_with fail
 go_loopw[4,19] (fun v i wr=> ∃k:Nat,k<=k0/\i=I J k/\wr.ownsRow w.heap.size 3 1 v k (icN ((sN s).take k))/\Below w.heap.size w wr) (fun _ i _=>k0-(intOf i).toNat)
 case atStart=>exact ⟨0,Nat.zero_le _,rfl,HZ.out,HB0.out⟩
 obtain ⟨k,hk,rfl,hown,hbel⟩:=hrel;have hsz:=hbel.size
 by_cases hlt:k<k0
 .have hks:k<s.size:=om
  obtain ⟨d,hd⟩: ∃d:Nat,s[k].toNat=d:=⟨_,rfl⟩;have hd1:(d:Int)<=255:=by have:=s[k].toNat_lt;omega
  have HS:Hid ((sN s).take (k+1)=(sN s).take k++[d]):=by
   show _=_;rw[<-hd,List.take_succ_eq_append_getElem (by rw[bM];exact hks)]
   congr 2
   simp[sN];rfl
  go_wp2_with (at_builtin;refine aB _ rfl _ _ 95 rfl w.heap.size 3 (I J 0) 8 underlying95 infoI rfl _ _ _ rfl hown #[I J (d:Int)] 1 rfl rfl (by intro u hu;simp at hu;subst hu;rfl) om (by unfold maxLen;omega) om ?_);intro v' w1 hown' hb1;have R1:w1.ownsRow w.heap.size 3 1 v' (k+1) (icN ((sN s).take (k+1))):=by rw[HS.out,pG];exact hown'
  have B1:Below w.heap.size w w1:=hbel.trans hb1;clear hown' hb1 hown hbel;go_wp2_with fail;go_roundw
  case rel=>exact ⟨k+1,om,gn,R1,B1⟩
  case measure=>exact j1
 obtain rfl:k=k0:=om
 have hlen:((sN s).take k).length=k:=by rw[zn,bM];omega
 have HO1:Hid (wr.ownsRow w.heap.size 3 1 u4 ((sN s).take k).length (icN ((sN s).take k))):=by rw[hlen];exact hown
 have HB1:Hid (Below w.heap.size w wr):=hbel;have HXX:Hid (Value.string ((s.extract k s.size).extract 1 (s.size-k))=Value.string (s.extract (k+1) s.size)):=by
  show _=_
  congr 1
  apply ByteArray.ext;simp only[zd,Array.extract_extract]
  congr 1
  omega
 have HS1:Hid (((sN s).take k).length+(s.extract (k+1) s.size).size<=600):=by show _<=_;omega
 have HS2:Hid (128+(s.extract (k+1) s.size).size*66847300<=40108380128):=by show _<=_;omega
 have HS3:Hid ((s.extract (k+1) s.size).size<=s.size):=by show _<=_;omega
 obtain ⟨ao0,cp1,hu⟩:=gR hown;subst hu;clear hown hbel hlt hlen;go_wp2_with fail
 go_loopw[4,7,8,9,10] (fun v a b c e wr=> ∃(u:ByteArray) (f n i bi:Nat) (out:List Nat),a=L u/\b=I J n/\c=I J i/\e=I J bi/\out.length+u.size<=600/\u.size<=f/\n+u.size*66847300<=40108380128/\i<=out.length/\bi<=2400/\iF k f ((sN u).map aW) n i bi out=R/\wr.ownsRow w.heap.size 3 1 v out.length (icN out)/\Below w.heap.size w wr)
  (fun _ a _ _ _ _=>MW a)
 case round=>
  obtain ⟨u,f,n,i,bi,out,rfl,rfl,rfl,rfl,hou,hf,hn,hi,hbi,he,hown,hbel⟩:=hrel;have HOW:Hid (wr.ownsRow w.heap.size 3 1 u4 out.length (icN out)):=hown;have HBL:Hid (Below w.heap.size w wr):=hbel;have hszr:=hbel.size;have HE:Hid (iF k f ((sN u).map aW) n i bi out=R):=he;obtain ⟨ao,cp0,hu⟩:=gR hown;clear hown hbel he;subst hu
  by_cases hu0:u.size=0
  .have hem:=aV hu0
   have HRR:Hid (R=some out):=by
    show _=_;rw[<-HE.out,BG hu0]
    cases f<;>rfl
   go_wp2_with fail;go_ret2;exact ⟨HA.out _ _ (.inr ⟨out,_,HRR.out,om,rfl,HOW.out⟩),HBL.out⟩
  have hup:0<u.size:=om;have hem:=aX hup;obtain ⟨f',rfl⟩: ∃j,f=j+1:=⟨f-1,om⟩;have hne:(sN u).map aW≠[]:=by
   intro h;have h1:((sN u).map aW).length=0:=by rw[h];rfl
   rw[zi,bM]at h1;omega
  have CUT:Hid (Calls prog 308 #[L u,I J (bi:Int)] wr fun e w'=>EQ u bi e/\Below wr.heap.size wr w'):=MU u bi wr om om;have HNE:Hid ((sN u).map aW≠[]):=hne;clear hu0 hne;go_wp2_with fail;refine CUT.out.mono ?_;rintro e w2 ⟨hans,hb2⟩;have B2:Hid (Below w.heap.size w w2):=HBL.out.trans (hb2.mono hszr);have O2:Hid (w2.ownsRow w.heap.size 3 1 (.slice ao out.length cp0) out.length (icN out)):=aH HOW.out hb2;have hsz2:w.heap.size<=w2.heap.size:=ze hszr hb2.size;clear hb2
  rcases hans with ⟨hno,rfl⟩|⟨m,u',hyes,hm,hul,rfl⟩
  .have HRR:Hid (R=none):=by
    show _=_;rw[<-HE.out];exact yT HNE.out hno
   clear hno;go_wp2_with fail;go_ret2;exact ⟨HA.out _ _ (.inl ⟨HRR.out,rfl⟩),B2.out⟩
  have HST:=yU (basic:=k) (f:=f') (n:=n) (i:=i) (out:=out) HNE.out hyes;have hdq1:(i+m)/(out.length+1)<=i+m:=zj _ _;have hps1:(i+m)%(out.length+1)<out.length+1:=zo _ om;have hQ:((i:Int)+(m:Int))/((out.length:Int)+1)=(((i+m)/(out.length+1):Nat):Int):=by norm_cast
  have hM:((i:Int)+(m:Int))%((out.length:Int)+1)=(((i+m)%(out.length+1):Nat):Int):=by norm_cast
  have HE2:Hid (iF k f' ((sN u').map aW) (n+(i+m)/(out.length+1)) ((i+m)%(out.length+1)+1) (aU m (out.length+1) (out.length==k)) (dF ((i+m)%(out.length+1)) (n+(i+m)/(out.length+1)) out)=R):=by
   show _=_;rw[<-HE.out];exact HST.symm
  clear HST hyes;generalize (i+m)/(out.length+1)=dq at hQ HE2 hdq1;generalize (i+m)%(out.length+1)=pos at hM HE2 hps1;have hnz: ¬(out.length:Int)+1=0:=om;have hnn:(n:Int)+(dq:Int)<=50000000000:=om;have hmI:(m:Int)<=66846660:=om;have hoI:(out.length:Int)<=600:=om;have hiI:(i:Int)<=600:=om;have hbd:n+dq+u'.size*66847300<=40108380128:=om;have CTA:Hid (∀(first:Bool) (W:World),CS 301 #[I J (m:Int),I J ((out.length:Int)+1),G first] W (I J (aU m (out.length+1) first:Int))):=fun first W=>by
   have h:=jN m (out.length+1) first W om om om
   rw[show ((out.length+1:Nat):Int)=(out.length:Int)+1 by omega]at h;exact h
  have CIN:Hid (Calls prog 309 #[.slice ao out.length cp0,I J (pos:Int),.slice (some ⟨w2.heap.size,0,none⟩) 1 1] (w2.alloc (Z #[I J ((n:Int)+(dq:Int))] 3)) fun e w'=>
    ∃v',e=Y v'/\w'.ownsRow w.heap.size 3 1 v' (out.length+1) (icN (dF pos (n+dq) out))/\Below w.heap.size w2 w'):=by
   have h:=uT out pos (n+dq) (.slice ao out.length cp0) w.heap.size w2 O2.out hsz2 om om;rw[show ((n+dq:Nat):Int)=(n:Int)+(dq:Int) by omega]at h;exact h
  have hal:=fI m (out.length+1) (out.length==k);have hbq:((out.length:Int)==(↑k))=(out.length==k):=by
   cases hq:out.length==k with
   |true=>rw[beq_iff_eq]at hq⊢;omega
   |false=>rw[beq_eq_false_iff_ne]at hq⊢;omega
  generalize (out.length==k)=first at hbq HE2 hal
  go_wp2_with fail;refine (CTA.out _ _).mono ?_;rintro e wx ⟨rfl,rfl⟩;go_wp2_with fail;refine CIN.out.mono ?_;rintro e w3 ⟨v',rfl,own3,hb3⟩;have B3:Below w.heap.size w w3:=B2.out.trans hb3;clear hb3;go_wp2_with fail;go_roundw
  case rel=>exact ⟨u',f',n+dq,pos+1,_,dF pos (n+dq) out,rfl,gn,gn,rfl,by rw[aP];omega,om,hbd,by rw[aP];omega,hal,HE2.out,by rw[aP];exact own3,B3⟩
  case measure=>rw[mP,mP];exact hul
 case atStart=>exact ⟨s.extract (k+1) s.size,s.size,128,0,72,(sN s).take k,HXX.out,rfl,rfl,rfl,HS1.out,HS3.out,HS2.out,om,om,HR.out,HO1.out,HB1.out⟩
