/- CutImpl, ReadImpl, DecImpl. -/
import Derived.Test.YtgcbaphbiaimoaaGreatDoorQB17
set_option maxHeartbeats 8000000
set_option maxRecDepth 100000
namespace Go.Proofs.YtgcbaphbiaimoaaGreatDoor
open Go.Value renaming int->I,string->L,tuple->H,bool->G,pointer->F
open Go.IntKind renaming i64->J
open Go.Ending renaming returned->Y
open Go.Obj renaming cells->Z
open _root_.Array renaming toList_extract->zn
open _root_.Go.RowKit.Below renaming refl->zr
open _root_.ByteArray renaming data_extract->zg
open _root_.List renaming eq_nil_of_length_eq_zero->zc,extract_eq_take_drop->zh,getElem?_eq_getElem->zi,getElem_of_mem->zo,length_drop->zq,length_map->zl,length_take->zj,take_of_length_le->zk
open _root_.Nat renaming div_le_self->zm,le_add_right->zp,le_refl->za,le_trans->zf,mod_lt->zs
open _root_.Go.World renaming ownsRow_lit->zd,size_alloc->ze
open _root_.Go.Proofs.Tryz
open _root_.Go.Proofs.YtgcbaphbiaimoaaGreatDoor.Tryz
section
open Go.RowKit Go.Shelf
attribute [local go_sem] Oper.semAt_some
def mH(bias:Nat):Nat->Nat->Nat->List Nat->Option (Nat×List Nat)
 |_,_,_,[]=>none
 |k,i,w,d::ds=>if 36<=d∨66846660<i+d*w then none else if d<bQ k bias then some (i+d*w,ds)else mH bias (k+36) (i+d*w) (w*(36-bQ k bias)) ds
theorem VD(bias:Nat): ∀(ds:List Nat) (k i w m:Nat) (r:List Nat),dM bias k i w ds=some (m,r)->i<=m
 |[],k,i,w,m,r,h=>by simp[dM]at h
 |d::ds,k,i,w,m,r,h=>by
  rw[dM]at h;split at h
  .cases h
  split at h
  .cases h
   omega
  have:=VD bias ds _ _ _ _ _ h
  omega
theorem CY(bias:Nat): ∀(ds:List Nat) (k i w m:Nat) (r:List Nat),dM bias k i w ds=some (m,r)->m<=66846660->mH bias k i w ds=some (m,r)
 |[],k,i,w,m,r,h,_=>by simp[dM]at h
 |d::ds,k,i,w,m,r,h,hm=>by
  rw[dM]at h;rw[mH];split at h
  .cases h
  next h0=>
  split at h
  .next h1=>
   cases h
   rw[if_neg om,if_pos h1]
  next h1=>
  have:=VD bias ds _ _ _ _ _ h
  rw[if_neg om,if_neg h1];exact CY bias ds _ _ _ _ _ h hm
theorem ix36: ∀c,c<256->Lib.indexByte [97,98,99,100,101,102,103,104,105,106,107,108,109,110,111,112,113,114,115,116,117,118,119,120,121,122,48,49,50,51,52,53,54,55,56,57] c.toUInt8=if bC c<36 then (bC c:Int)else-1:=by decide+kernel
theorem MQ{P:Program}{w:World}{t:TypeId}{b:Nat}{v:Value}(ha: ∀w,(isAgg t).run P w=.ok false w)(h:w.cell? ⟨b,0,none⟩=some v):(loadVar t ⟨b,0,none⟩).run P w=.ok v w:=by
 simp[loadVar,go_sem,ha,h]
theorem vF{P:Program}{fn:Func}{p q r:Tmp}{t1 t2 t3:TypeId}(h:fn.results= #[.cell p t1,.cell q t2,.cell r t3])(tmps:Array Value)(w:World)(b1 b2 b3:Nat)(v1 v2 v3:Value)
  (hp:tmps[p]?.getD undef=F (some ⟨b1,0,none⟩)) (hq:tmps[q]?.getD undef=F (some ⟨b2,0,none⟩)) (hr:tmps[r]?.getD undef=F (some ⟨b3,0,none⟩))
  (l1:(loadVar t1 ⟨b1,0,none⟩).run P w=.ok v1 w) (l2:(loadVar t2 ⟨b2,0,none⟩).run P w=.ok v2 w) (l3:(loadVar t3 ⟨b3,0,none⟩).run P w=.ok v3 w):
  (results fn tmps).run P w=.ok (H #[v1,v2,v3]) w:=by
 simp[results,h,hp,hq,hr,asAddr,l1,l2,l3,Sem.run_bind,Result.andThen]
def GZ(s0:ByteArray)(bias:Nat)(e:Ending):Prop:=
 (mH bias 36 0 1 ((sN s0).map bC)=none/\e=Y (H #[I J 0,L ⟨#[]⟩,G false]))∨
 ∃(m:Nat) (u:ByteArray),mH bias 36 0 1 ((sN s0).map bC)=some (m,(sN u).map bC)/\m<=66846660/\u.size<s0.size/\e=Y (H #[I J (m:Int),L u,G true])
def CutI(n0:Nat)(w:World)(s0:ByteArray)(bias k:Nat)(W:World):Prop:=
 ∃(u:ByteArray) (i wt:Nat),Boxed W n0 9 (L u)/\Boxed W (n0+1) 3 (I J (i:Int))/\Boxed W (n0+2) 9 (L ⟨#[]⟩)/\Boxed W (n0+3) 4 (G false)/\Boxed W (n0+4) 3 (I J (wt:Int))/\Boxed W (n0+5) 3 (I J (bias:Int))/\
  u.size+k=s0.size/\i<=66846660/\wt<=2339633100/\mH bias (36*(k+1)) i wt ((sN u).map bC)=mH bias 36 0 1 ((sN s0).map bC)/\Below n0 w W
def CutX(n0:Nat)(w:World)(s0:ByteArray)(bias:Nat)(c:Code)(W:World):Prop:=
 ((c=.ret/\Boxed W (n0+1) 3 (I J 0)/\Boxed W (n0+2) 9 (L ⟨#[]⟩)/\Boxed W (n0+3) 4 (G false)/\mH bias 36 0 1 ((sN s0).map bC)=none)∨
  (c=.exit 0/\ ∃(u:ByteArray) (m:Nat),Boxed W n0 9 (L u)/\Boxed W (n0+1) 3 (I J (m:Int))/\Boxed W (n0+2) 9 (L ⟨#[]⟩)/\Boxed W (n0+3) 4 (G false)/\
   mH bias 36 0 1 ((sN s0).map bC)=some (m,(sN u).map bC)/\m<=66846660/\u.size<s0.size))/\Below n0 w W
theorem Du{n0 b:Nat}{w:World}{s0:ByteArray}{bias:Nat}(hB:n0<=b)(hs:n0<=w.heap.size):OwnFrom b (CutI n0 w s0 bias):=by
 rintro k W V row ⟨u,i,wt,h1,h2,h3,h4,h5,h6,a1,a2,a3,a4,h10⟩ hg hr;have hr':=fun r e=>(hr r e).2
 exact ⟨u,i,wt,eD h1 hg hr',eD h2 hg hr',eD h3 hg hr',eD h4 hg hr',eD h5 hg hr',eD h6 hg hr',a1,a2,a3,a4,rY h10 hg hB hs hr⟩
theorem Dv{n0 b:Nat}{w:World}{s0:ByteArray}{bias:Nat}(hB:n0<=b)(hs:n0<=w.heap.size)(c:Code):OwnFrom b (fun (_:Unit)=>CutX n0 w s0 bias c):=by
 rintro _ W V row ⟨h,h10⟩ hg hr;have hr':=fun r e=>(hr r e).2
 refine ⟨?_,rY h10 hg hB hs hr⟩
 rcases h with ⟨hc,h2,h3,h4,a1⟩|⟨hc,u,m,h1,h2,h3,h4,a1,a2,a3⟩
 .exact .inl ⟨hc,eD h2 hg hr',eD h3 hg hr',eD h4 hg hr',a1⟩
 exact .inr ⟨hc,u,m,eD h1 hg hr',eD h2 hg hr',eD h3 hg hr',eD h4 hg hr',a1,a2,a3⟩
theorem cix(d:Nat)(hd:d<256)(W:World):Calls prog 204 #[L ⟨#[97,98,99,100,101,102,103,104,105,106,107,108,109,110,111,112,113,114,115,116,117,118,119,120,121,122,48,49,50,51,52,53,54,55,56,57]⟩,.int .u8 (d:Int)] W
  fun e w'=>e=Y (I J (if bC d<36 then (bC d:Int)else-1))/\W=w':=by
 refine (strings_IndexByte _ _ W).mono ?_;rintro e w' ⟨rfl,rfl⟩;refine ⟨?_,rfl⟩;rw[Int.toNat_natCast,<-ix36 d hd]
theorem Ml(u:ByteArray)(h:0<u.size):sN u=u[0].toNat::sN (u.extract 1 u.size):=by
 have h1:=oY u 0 h;rw[List.drop_zero]at h1;rw[h1]
 congr 1
 have hl:(sN u).length=u.size:=cA u;simp only[sN,zg,zn,List.map_drop,List.map_take,zh]at hl⊢;rw[zk (by simp at hl⊢)]
theorem EH{u:ByteArray}(h:u.size=0):sN u=[]:=zc ((cA u).trans h)
theorem dC{n0:Nat}{w W:World}(h:Below n0 w W)(j:Nat)(v:Value):Below n0 w (W.setCell ⟨n0+j,0,none⟩ v):=h.setCell (p:=⟨n0+j,0,none⟩) (zp _ _) v
theorem YR(n:Nat)(hn:3<=n)(s0:ByteArray)(bias:Nat)(w:World)(hs:(s0.size:Int)<=600)(hb:(bias:Int)<=2400):
  CallsIn Fence.wide n prog 308 #[L s0,I J (bias:Int)] w fun e w'=>GZ s0 bias e/\Below w.heap.size w w':=by
 have hb0:0<=(bias:Int):=om;have h1:1<=n:=om;have hmx:prog.follows .mixedOrders=true:=kr;refine callsIn_of_wp_marks func308 rfl trivial ?_ rfl;simp only[ntmps308,List.size_toArray,List.length_cons,List.length_nil,Nat.reduceAdd,Nat.reduceSub,Array.replicate_succ,Array.replicate_zero,List.push_toArray,List.append_toArray,List.nil_append,List.cons_append]
 gi_wp2_with (refine ⟨trivial,?_⟩;gi_at_call 307;refine (Dn Fence.wide (n-1) trivial rfl _ _).mono ?_;rintro e w' ⟨rfl,rfl⟩)
 obtain ⟨W0,hW0⟩: ∃W0,((((((w.alloc (Z #[L s0] 9)).alloc (Z #[I J 0] 3)).alloc (Z #[L ⟨#[]⟩] 9)).alloc (Z #[G false] 4)).alloc (Z #[I J 1] 3)).alloc (Z #[I J (bias:Int)] 3))=W0:=⟨_,rfl⟩;have hsz:W0.heap.size=w.heap.size+6:=by rw[<-hW0];simp
 have hI0:CutI w.heap.size w s0 bias 0 W0:=by
  rw[<-hW0];refine ⟨s0,0,1,?_,?_,?_,?_,?_,?_,rfl,om,om,rfl,?_⟩
  .exact (((((Boxed.new w _ _).alloc _).alloc _).alloc _).alloc _).alloc _
  .have h:=Boxed.new (w.alloc (Z #[L s0] 9)) 3 (I J 0)
   simp only[ze]at h;exact (((h.alloc _).alloc _).alloc _).alloc _
  .have h:=Boxed.new ((w.alloc (Z #[L s0] 9)).alloc (Z #[I J 0] 3)) 9 (L ⟨#[]⟩)
   simp only[ze]at h;exact ((h.alloc _).alloc _).alloc _
  .have h:=Boxed.new (((w.alloc (Z #[L s0] 9)).alloc (Z #[I J 0] 3)).alloc (Z #[L ⟨#[]⟩] 9)) 4 (G false)
   simp only[ze]at h;exact (h.alloc _).alloc _
  .have h:=Boxed.new ((((w.alloc (Z #[L s0] 9)).alloc (Z #[I J 0] 3)).alloc (Z #[L ⟨#[]⟩] 9)).alloc (Z #[G false] 4)) 3 (I J 1)
   simp only[ze]at h;exact h.alloc _
  .have h:=Boxed.new (((((w.alloc (Z #[L s0] 9)).alloc (Z #[I J 0] 3)).alloc (Z #[L ⟨#[]⟩] 9)).alloc (Z #[G false] 4)).alloc (Z #[I J 1] 3)) 3 (I J (bias:Int))
   simp only[ze]at h;exact h
  exact ((((((zr _ w).alloc (za _) _).alloc j2 _).alloc (by simp;omega) _).alloc (by simp;omega) _).alloc (by simp;omega) _).alloc (by simp;omega) _
 rw[hW0];clear hW0;refine yT rfl h1 (gf:=310) (lb:= #[F (some ⟨w.heap.size+5,0,none⟩)]) (by rfl) trivial (enters_of func310 kr rfl)
  (J5 Fence.wide (n-1) trivial rfl om (w.heap.size+5) bias 601 hb de) (CutI w.heap.size w s0 bias) (CutX w.heap.size w s0 bias) (Du om (za _)) (Dv om (za _)) ?hC hI0
  (fun k=>{tmps:= #[L s0,I J (bias:Int),F (some ⟨w.heap.size,0,none⟩),undef,F (some ⟨w.heap.size+1,0,none⟩),F (some ⟨w.heap.size+2,0,none⟩),F (some ⟨w.heap.size+3,0,none⟩),F (some ⟨w.heap.size+4,0,none⟩),I J (PZ bias k:Int),undef,I J (bias:Int),.func (.func 310) #[] #[F (some ⟨w.heap.size+5,0,none⟩)],I J (PZ bias k:Int),undef,undef,undef,undef,undef,undef,undef,undef,undef,undef,undef,undef,undef,undef,undef,undef,undef,undef,undef,undef,undef,undef,undef,undef,undef,undef,undef],defers:=[]}) ?assign ?body ?stop
 case hC=>
  rintro k V ⟨u,i,wt,_,_,_,_,_,h6,a1,_⟩;exact ⟨om,h6.cell⟩
 case assign=>
  intro l k W K hK
  gi_wp2
  exact hK
 case body=>
  rintro l k W ⟨u,i,wt,b1,b2,b3,b4,b5,b6,a1,a2,a3,a4,hbel⟩;have HA:Hid (mH bias (36*(k+1)) i wt ((sN u).map bC)=mH bias 36 0 1 ((sN s0).map bC)):=a4;clear a4;obtain ⟨l1,l2⟩:=rL (36*(k+1)) bias;have hc1:=b1.cell;have hc2:=b2.cell;have hc3:=b3.cell;have hc4:=b4.cell;have hc5:=b5.cell;have hf1:=b1.frozen;have hf2:=b2.frozen;have hf3:=b3.frozen;have hf4:=b4.frozen;have hf5:=b5.frozen;unfold PZ;have K0: ∀V:World,KeepsFrom W0.heap.size V V:=fun V=>KeepsFrom.refl _ _
  by_cases hu:u.size=0
  .have he:=aS hu
   have HN:Hid (mH bias 36 0 1 ((sN s0).map bC)=none):=by
    show _=_;rw[<-HA.out,EH hu];rfl
   gi_wp2
   refine ⟨((KeepsOthers.setCell _ _ _).trans ((KeepsOthers.setCell _ _ _).trans (KeepsOthers.setCell _ _ _))).from _,.inl ⟨rfl,?_,?_,?_,HN.out⟩,?_⟩
   .exact ((b2.set _).other om _).other om _
   .exact ((b3.other om _).set _).other om _
   .exact ((b4.other om _).other om _).set _
   exact dC (dC (dC hbel 1 _) 2 _) 3 _
  have hu0:0<u.size:=om;have he:=aW hu0;have hcut:=Ml u hu0;have hl:(u.extract 1 u.size).size=u.size-1:=by simp
  obtain ⟨d,hd⟩: ∃d:Nat,u[0].toNat=d:=⟨_,rfl⟩;have hd1:d<256:=by rw[<-hd];exact u[0].toNat_lt
  rw[hd]at hcut;have HA2:Hid (mH bias 36 0 1 ((sN s0).map bC)=mH bias (36*(k+1)) i wt (bC d::(sN (u.extract 1 u.size)).map bC)):=by
   show _=_;rw[<-HA.out,hcut];rfl
  have hc:=cix d hd1;have hvl:=E9 d;clear hcut hu;generalize bC d=v at HA2 hc hvl
  by_cases hv:v<36
  .rw[if_pos hv]at hc
   have CI:Hid (∀W,CS 204 #[L ⟨#[97,98,99,100,101,102,103,104,105,106,107,108,109,110,111,112,113,114,115,116,117,118,119,120,121,122,48,49,50,51,52,53,54,55,56,57]⟩,.int .u8 (d:Int)] W (I J (v:Int))):=hc;clear hc;obtain ⟨pr,hpr⟩: ∃pr:Nat,v*wt=pr:=⟨_,rfl⟩;have hple:pr<=35*2339633100:=by rw[<-hpr];exact Nat.mul_le_mul om om
   have hP:(v:Int)*(wt:Int)=(pr:Int):=by rw[<-hpr];norm_cast
   have hge:1<=v->wt<=pr:=fun h=>by rw[<-hpr];exact Nat.le_mul_of_pos_left _ h
   have hpI:(pr:Int)<=81887158500:=om;have hiI:(i:Int)<=66846660:=om;have hi0:0<=(i:Int):=om;have hp0:0<=(pr:Int):=om;have hv0: ¬(v:Int)<0:=om;have HA3:Hid (mH bias 36 0 1 ((sN s0).map bC)=if 66846660<i+pr then none else if v<bQ (36*(k+1)) bias then some (i+pr,(sN (u.extract 1 u.size)).map bC)else mH bias (36*(k+1+1)) (i+pr) (wt*(36-bQ (36*(k+1)) bias)) ((sN (u.extract 1 u.size)).map bC)):=by
    show _=_;rw[HA2.out,mH,hpr,show 36*(k+1+1)=36*(k+1)+36 by omega]
    by_cases hx:66846660<i+pr
    .rw[if_pos (.inr hx),if_pos hx]
    rw[if_neg om,if_neg hx]
   generalize bQ (36*(k+1)) bias=t at l1 l2 HA3;clear hpr HA2 HA
   by_cases hbig:66846660<(i:Int)+(pr:Int)
   .have HN:Hid (mH bias 36 0 1 ((sN s0).map bC)=none):=by
     show _=_;rw[HA3.out,if_pos om]
    gi_wp2_with fail
    refine ⟨trivial,fun h=>(by cases h),?_⟩;refine (CallsIn.inRound l (callsIn_wide.2 (CI.out _))).mono ?_;rintro e w' ⟨rfl,rfl⟩
    gi_wp2_with fail
    refine ⟨((KeepsOthers.setCell _ _ _).trans ((KeepsOthers.setCell _ _ _).trans ((KeepsOthers.setCell _ _ _).trans (KeepsOthers.setCell _ _ _)))).from _,.inl ⟨rfl,?_,?_,?_,HN.out⟩,?_⟩
    .exact (((b2.set _).set _).other om _).other om _
    .exact (((b3.other om _).other om _).set _).other om _
    .exact (((b4.other om _).other om _).other om _).set _
    exact dC (dC (dC (dC hbel 1 _) 1 _) 2 _) 3 _
   have hbi:(i:Int)+(pr:Int)<=66846660:=om
   by_cases hvt:(v:Int)<(t:Int)
   .have HN:Hid (mH bias 36 0 1 ((sN s0).map bC)=some (i+pr,(sN (u.extract 1 u.size)).map bC)):=by
     show _=_;rw[HA3.out,if_neg om,if_pos om]
    gi_wp2_with fail
    refine ⟨trivial,fun h=>(by cases h),?_⟩;refine (CallsIn.inRound l (callsIn_wide.2 (CI.out _))).mono ?_;rintro e w' ⟨rfl,rfl⟩
    gi_wp2_with fail
    refine ⟨((KeepsOthers.setCell _ _ _).trans (KeepsOthers.setCell _ _ _)).from _,.inr ⟨rfl,u.extract 1 u.size,i+pr,?_,?_,?_,?_,HN.out,om,om⟩,?_⟩
    .exact (b1.other om _).set _
    .exact ((b2.set _).other om _)
    .exact (b3.other om _).other om _
    .exact (b4.other om _).other om _
    exact dC (dC hbel 1 _) 0 _
   have HN:Hid (mH bias (36*(k+1+1)) (i+pr) (wt*(36-t)) ((sN (u.extract 1 u.size)).map bC)=mH bias 36 0 1 ((sN s0).map bC)):=by
    show _=_;rw[HA3.out,if_neg om,if_neg om]
   have hwp:wt<=66846660:=by have:=hge om;omega
   obtain ⟨w2,hw2⟩: ∃w2:Nat,wt*(36-t)=w2:=⟨_,rfl⟩;have hw2l:w2<=2339633100:=by rw[<-hw2];exact zf (Nat.mul_le_mul hwp (show 36-t<=35 by omega)) de
   have hW2:(wt:Int)*(36-(t:Int))=(w2:Int):=by rw[<-hw2,show (36:Int)-(t:Int)=((36-t:Nat):Int) by omega];norm_cast
   rw[hw2]at HN;clear hw2
   gi_wp2_with fail
   refine ⟨trivial,fun h=>(by cases h),?_⟩;refine (CallsIn.inRound l (callsIn_wide.2 (CI.out _))).mono ?_;rintro e w' ⟨rfl,rfl⟩
   gi_wp2_with fail
   refine ⟨((KeepsOthers.setCell _ _ _).trans ((KeepsOthers.setCell _ _ _).trans (KeepsOthers.setCell _ _ _))).from _,u.extract 1 u.size,i+pr,w2,?_,?_,?_,?_,?_,?_,om,om,hw2l,HN.out,?_⟩
   .exact ((b1.other om _).set _).other om _
   .exact ((b2.set _).other om _).other om _
   .exact ((b3.other om _).other om _).other om _
   .exact ((b4.other om _).other om _).other om _
   .exact ((b5.other om _).other om _).set _
   .exact ((b6.other om _).other om _).other om _
   exact dC (dC (dC hbel 1 _) 0 _) 4 _
  rw[if_neg hv]at hc;have CI:Hid (∀W,CS 204 #[L ⟨#[97,98,99,100,101,102,103,104,105,106,107,108,109,110,111,112,113,114,115,116,117,118,119,120,121,122,48,49,50,51,52,53,54,55,56,57]⟩,.int .u8 (d:Int)] W (I J (-1))):=hc;clear hc;have HN:Hid (mH bias 36 0 1 ((sN s0).map bC)=none):=by
   show _=_;rw[HA2.out,mH,if_pos om]
  gi_wp2_with fail
  refine ⟨trivial,fun h=>(by cases h),?_⟩;refine (CallsIn.inRound l (callsIn_wide.2 (CI.out _))).mono ?_;rintro e w' ⟨rfl,rfl⟩
  gi_wp2_with fail
  refine ⟨((KeepsOthers.setCell _ _ _).trans ((KeepsOthers.setCell _ _ _).trans ((KeepsOthers.setCell _ _ _).trans (KeepsOthers.setCell _ _ _)))).from _,.inl ⟨rfl,?_,?_,?_,HN.out⟩,?_⟩
  .exact (((b2.set _).set _).other om _).other om _
  .exact (((b3.other om _).other om _).set _).other om _
  .exact (((b4.other om _).other om _).other om _).set _
  exact dC (dC (dC (dC hbel 1 _) 1 _) 2 _) 3 _
 case stop=>
  rintro D c W hD ⟨⟨rfl,b2,b3,b4,hno⟩|⟨rfl,u,m,b1,b2,b3,b4,hyes,hm,hlt⟩,hbel⟩ hK
  .gi_wp2
   refine ⟨by simp,.inl ⟨_,_,rfl,run_takeDeferred hK,?_⟩⟩;have hb':Below w.heap.size w (W.putObj D (.deferred none)):=hbel.trans (belowK_b (w:=w) (za _) W D _ _ om hK rfl rfl);have hp:=fun {b:Nat} {t:TypeId} {v:Value} (h:Boxed W b t v)=>(eD h (grownBy_putObj' W D (.deferred none)) (fun r e=>by cases e;exact ⟨_,hK,rfl⟩)).cell
   exact ⟨_,vF rfl _ _ _ _ _ _ _ _ rfl rfl rfl (MQ isAgg3 (hp b2)) (MQ isAgg9 (hp b3)) (MQ isAgg4 (hp b4)),.inl ⟨hno,rfl⟩,hb'⟩
  have hc1:=b1.cell;have hc2:=b2.cell;have hc3:=b3.cell;have hc4:=b4.cell;have hf2:=b2.frozen;have hf3:=b3.frozen;have hf4:=b4.frozen
  gi_wp2
  gi_region
  all_goals
   gi_wp2
   have c2:=((b2.set (I J (m:Int))).other (B':=w.heap.size+2) om (L u)).other (B':=w.heap.size+3) om (G true);have c3:=((b3.other (B':=w.heap.size+1) om (I J (m:Int))).set (L u)).other (B':=w.heap.size+3) om (G true);have c4:=((b4.other (B':=w.heap.size+1) om (I J (m:Int))).other (B':=w.heap.size+2) om (L u)).set (G true);have hbel2:Below w.heap.size w (((W.setCell ⟨w.heap.size+1,0,none⟩ (I J (m:Int))).setCell ⟨w.heap.size+2,0,none⟩ (L u)).setCell ⟨w.heap.size+3,0,none⟩ (G true)).drew:=(dC (dC (dC hbel 1 _) 2 _) 3 _).drew;have hK2:(((W.setCell ⟨w.heap.size+1,0,none⟩ (I J (m:Int))).setCell ⟨w.heap.size+2,0,none⟩ (L u)).setCell ⟨w.heap.size+3,0,none⟩ (G true)).drew.heap[D]? =some (.deferred (some [])):=
    ((KeepsOthers.setCell W _ _).trans ((KeepsOthers.setCell _ _ _).trans ((KeepsOthers.setCell _ _ _).trans (KeepsOthers.drew _)))).same D _ hK rfl
   have c2':Boxed (((W.setCell ⟨w.heap.size+1,0,none⟩ (I J (m:Int))).setCell ⟨w.heap.size+2,0,none⟩ (L u)).setCell ⟨w.heap.size+3,0,none⟩ (G true)).drew (w.heap.size+1) 3 (I J (m:Int)):=c2;have c3':Boxed (((W.setCell ⟨w.heap.size+1,0,none⟩ (I J (m:Int))).setCell ⟨w.heap.size+2,0,none⟩ (L u)).setCell ⟨w.heap.size+3,0,none⟩ (G true)).drew (w.heap.size+2) 9 (L u):=c3;have c4':Boxed (((W.setCell ⟨w.heap.size+1,0,none⟩ (I J (m:Int))).setCell ⟨w.heap.size+2,0,none⟩ (L u)).setCell ⟨w.heap.size+3,0,none⟩ (G true)).drew (w.heap.size+3) 4 (G true):=c4;generalize (((W.setCell ⟨w.heap.size+1,0,none⟩ (I J (m:Int))).setCell ⟨w.heap.size+2,0,none⟩ (L u)).setCell ⟨w.heap.size+3,0,none⟩ (G true)).drew=V at hbel2 hK2 c2' c3' c4'⊢;refine ⟨by simp,.inl ⟨_,_,rfl,run_takeDeferred hK2,?_⟩⟩;have hb':Below w.heap.size w (V.putObj D (.deferred none)):=hbel2.trans (belowK_b (w:=w) (za _) V D _ _ om hK2 rfl rfl);have hp:=fun {b:Nat} {t:TypeId} {v:Value} (h:Boxed V b t v)=>(eD h (grownBy_putObj' V D (.deferred none)) (fun r e=>by cases e;exact ⟨_,hK2,rfl⟩)).cell
   exact ⟨_,vF rfl _ _ _ _ _ _ _ _ rfl rfl rfl (MQ isAgg3 (hp c2')) (MQ isAgg9 (hp c3')) (MQ isAgg4 (hp c4')),.inr ⟨m,u,hyes,hm,hlt,rfl⟩,hb'⟩
theorem QC(s0:ByteArray)(bias:Nat)(w:World)(hs:(s0.size:Int)<=600)(hb:(bias:Int)<=2400):Calls prog 308 #[L s0,I J (bias:Int)] w fun e w'=>GZ s0 bias e/\Below w.heap.size w w':=
 callsIn_wide.1 (YR 3 (za _) s0 bias w hs hb)
end
section
open Go.RowKit Go.Shelf
def jK(basic:Nat):Nat->List Nat->Nat->Nat->Nat->List Nat->Option (List Nat)
 |_,[],_,_,_,out=>some out
 |0,_::_,_,_,_,_=>none
 |f+1,v::vs,n,i,bias,out=>
  match mH bias 36 0 1 (v::vs)with
  |none=>none
  |some (more,rest)=>jK basic f rest (n+(i+more)/(out.length+1)) ((i+more)%(out.length+1)+1) (bB more (out.length+1) (out.length==basic)) (dR ((i+more)%(out.length+1)) (n+(i+more)/(out.length+1)) out)
theorem AT{basic f:Nat}{vs:List Nat}{n i bias:Nat}{out:List Nat}(hv:vs≠[])(h:mH bias 36 0 1 vs=none):jK basic (f+1) vs n i bias out=none:=by
 cases vs with
 |nil=>exact absurd rfl hv
 |cons v vs=>rw[jK,h]
theorem AU{basic f:Nat}{vs:List Nat}{n i bias:Nat}{out:List Nat}{more:Nat}{rest:List Nat}(hv:vs≠[])(h:mH bias 36 0 1 vs=some (more,rest)):
  jK basic (f+1) vs n i bias out=jK basic f rest (n+(i+more)/(out.length+1)) ((i+more)%(out.length+1)+1) (bB more (out.length+1) (out.length==basic)) (dR ((i+more)%(out.length+1)) (n+(i+more)/(out.length+1)) out):=by
 cases vs with
 |nil=>exact absurd rfl hv
 |cons v vs=>rw[jK,h]
theorem QD(basic:Nat): ∀(f:Nat) (vs:List Nat) (n i bias:Nat) (out l:List Nat),128<=n->kU basic f vs n i bias out=some l->jK basic f vs n i bias out=some l
 |f,[],n,i,bias,out,l,_,h=>by
  cases f<;>simpa[kU,jK] using h
 |0,v::vs,n,i,bias,out,l,_,h=>by simp[kU]at h
 |f+1,v::vs,n,i,bias,out,l,hn,h=>by
  rw[kU]at h
  cases hr:dM bias 36 0 1 (v::vs)with
  |none=>rw[hr]at h;cases h
  |some mr=>
   obtain ⟨more,rest⟩:=mr;rw[hr]at h;simp only at h;split at h
   .cases h
   next hno=>
   have hm:more<=66846660:=by
    have h1:(i+more)/(out.length+1)<=1113983:=om;have h2:i+more<(1113983+1)*(out.length+1):=by
     have:=Nat.div_lt_iff_lt_mul (x:=i+more) (y:=1113983+1) (k:=out.length+1) om
     exact this.1 om
    have h3:(1113983+1)*(out.length+1)<=1113984*60:=Nat.mul_le_mul_left _ om;omega
   rw[jK,CY bias _ _ _ _ _ _ hr hm];exact QD basic f rest _ _ _ _ l (zf hn (zp _ _)) h
theorem Dw(s:ByteArray)(w:World)(hs:(s.size:Int)<=1048576):Calls prog 210 #[L s,.int .u8 45] w fun e w'=> ∃r:Int,e=Y (I J r)/\w=w'/\((r= -1/\dF (sN s)=none)∨ ∃k:Nat,k<s.size/\r=(k:Int)/\dF (sN s)=some ((sN s).take k,(sN s).drop (k+1))):=by
 refine (strings_LastIndexByte s 45 om w).mono ?_;rintro e w' ⟨rfl,rfl⟩;refine ⟨_,rfl,rfl,?_⟩;have hget: ∀j,j<s.size->(sN s)[j]? =some (s.data[j]!).toNat:=by
  intro j hj;have hj':j<s.data.size:=hj;simp only[sN,List.getElem?_map];rw[Array.getElem?_toList,Array.getElem?_eq_getElem hj',getElem!_pos s.data j hj'];rfl
 rcases Lib.lastIndexByte_spec s 45 with ⟨h1,h2⟩|⟨k,hk,h1,h2,h3⟩
 .refine .inl ⟨h1,oA _ ?_⟩
  intro c hc h45;obtain ⟨j,hj,he⟩:=zo hc;rw[cA]at hj;have h4:=hget j hj;rw[zi (by rw[cA];exact hj),he]at h4;have h5:=h2 j hj;injection h4 with h4;omega
 refine .inr ⟨k,hk,h1,?_⟩;have hl:((sN s).take k).length=k:=by rw[zj,cA];omega
 have h:=FN ((sN s).take k) (sN s) (by
  rw[hl];intro c hc h45;obtain ⟨j,hj,he⟩:=zo hc;rw[zq,cA]at hj;rw[List.getElem_drop]at he;have h4:=hget (k+1+j) om;rw[zi (by rw[cA];omega),he]at h4;have h5:=h3 (k+1+j) om om;injection h4 with h4;omega) (by rw[hl]) (by
  rw[hl,hget k hk]
  congr 1
  omega)
 rw[hl]at h;exact h
def QE:Value->Nat
 | L u=>u.size
 |_=>0
theorem nN(u:ByteArray):QE (L u)=u.size:=rfl
def gX(w w':World)(r:Option (List Nat))(e:Ending):Prop:=
 (r=none/\e=Y (H #[.slice none 0 0,G false]))∨ ∃(l:List Nat) (v:Value),r=some l/\l.length<=600/\e=Y (H #[v,G true])/\w'.ownsRow w.heap.size 3 1 v l.length (icN l)
theorem Dx(s:ByteArray)(w:World)(hs600:(s.size:Int)<=600):Calls prog 303 #[L s] w fun e w'=>((∃k:Nat,0<k/\k<s.size/\dF (sN s)=some ((sN s).take k,(sN s).drop (k+1))/\gX w w' (jK k s.size (((sN s).drop (k+1)).map bC) 128 0 72 ((sN s).take k)) e)∨
   ((dF (sN s)=none∨dF (sN s)=some ([],(sN s).drop 1))/\gX w w' (jK 0 s.size ((sN s).map bC) 128 0 72 []) e))/\Below w.heap.size w w':=by
 have HZ:Hid ((w.alloc (Z #[] 3)).ownsRow w.heap.size 3 1 (.slice (some ⟨w.heap.size,0,none⟩) 0 0) ([]:List Nat).length (icN [])):=zd w #[] 0 (za _) de rfl;have HB0:Hid (Below w.heap.size w (w.alloc (Z #[] 3))):=(zr _ _).alloc (za _) _;go_enter func303,ntmps303;go_wp2_with fail;refine (Dw _ _ om).mono ?_;rintro e wz ⟨r,rfl,rfl,hr⟩;have H128:Hid (128+s.size*66847300<=40108380128):=by show _<=_;omega
 rcases hr with ⟨rfl,hsp⟩|⟨k0,hk0,rfl,hsp⟩
 .obtain ⟨R,hR⟩: ∃q,jK 0 s.size ((sN s).map bC) 128 0 72 []=q:=⟨_,rfl⟩
  have HR:Hid (jK 0 s.size ((sN s).map bC) 128 0 72 []=R):=hR;have HA:Hid (∀(W:World) (e:Ending),gX w W R e->((∃k:Nat,0<k/\k<s.size/\dF (sN s)=some ((sN s).take k,(sN s).drop (k+1))/\gX w W (jK k s.size (((sN s).drop (k+1)).map bC) 128 0 72 ((sN s).take k)) e)∨
   ((dF (sN s)=none∨dF (sN s)=some ([],(sN s).drop 1))/\gX w W (jK 0 s.size ((sN s).map bC) 128 0 72 []) e))):=fun W e h=> .inr ⟨.inl hsp,by rw[hR];exact h⟩
  clear hR hsp;have hmx:max (-1:Int) 0=0:=de;go_wp2_with fail;refine wp_loop_rounds 1 ?_;rw[rounds_succ];go_wp2_with fail
  go_loopw[4,7,8,9,10] (fun v a b c e wr=> ∃(u:ByteArray) (f n i bi:Nat) (out:List Nat),a=L u/\b=I J n/\c=I J i/\e=I J bi/\out.length+u.size<=600/\u.size<=f/\n+u.size*66847300<=40108380128/\i<=out.length/\bi<=2400/\jK 0 f ((sN u).map bC) n i bi out=R/\wr.ownsRow w.heap.size 3 1 v out.length (icN out)/\Below w.heap.size w wr)
   (fun _ a _ _ _ _=>QE a)
  case round=>
   obtain ⟨u,f,n,i,bi,out,rfl,rfl,rfl,rfl,hou,hf,hn,hi,hbi,he,hown,hbel⟩:=hrel;have HOW:Hid (wr.ownsRow w.heap.size 3 1 u4 out.length (icN out)):=hown;have HBL:Hid (Below w.heap.size w wr):=hbel;have hszr:=hbel.size;have HE:Hid (jK 0 f ((sN u).map bC) n i bi out=R):=he;obtain ⟨ao,cp0,hu⟩:=iR hown;clear hown hbel he;subst hu
   by_cases hu0:u.size=0
   .have hem:=aS hu0
    have HRR:Hid (R=some out):=by
     show _=_;rw[<-HE.out,EH hu0]
     cases f<;>rfl
    go_wp2_with fail;go_ret2;exact ⟨HA.out _ _ (.inr ⟨out,_,HRR.out,om,rfl,HOW.out⟩),HBL.out⟩
   have hup:0<u.size:=om;have hem:=aW hup;obtain ⟨f',rfl⟩: ∃j,f=j+1:=⟨f-1,om⟩;have hne:(sN u).map bC≠[]:=by
    intro h;have h1:((sN u).map bC).length=0:=by rw[h];rfl
    rw[zl,cA]at h1;omega
   have CUT:Hid (Calls prog 308 #[L u,I J (bi:Int)] wr fun e w'=>GZ u bi e/\Below wr.heap.size wr w'):=QC u bi wr om om;have HNE:Hid ((sN u).map bC≠[]):=hne;clear hu0 hne;go_wp2_with fail;refine CUT.out.mono ?_;rintro e w2 ⟨hans,hb2⟩;have B2:Hid (Below w.heap.size w w2):=HBL.out.trans (hb2.mono hszr);have O2:Hid (w2.ownsRow w.heap.size 3 1 (.slice ao out.length cp0) out.length (icN out)):=aN HOW.out hb2;have hsz2:w.heap.size<=w2.heap.size:=zf hszr hb2.size;clear hb2
   rcases hans with ⟨hno,rfl⟩|⟨m,u',hyes,hm,hul,rfl⟩
   .have HRR:Hid (R=none):=by
     show _=_;rw[<-HE.out];exact AT HNE.out hno
    clear hno;go_wp2_with fail;go_ret2;exact ⟨HA.out _ _ (.inl ⟨HRR.out,rfl⟩),B2.out⟩
   have HST:=AU (basic:=0) (f:=f') (n:=n) (i:=i) (out:=out) HNE.out hyes;have hdq1:(i+m)/(out.length+1)<=i+m:=zm _ _;have hps1:(i+m)%(out.length+1)<out.length+1:=zs _ om;have hQ:((i:Int)+(m:Int))/((out.length:Int)+1)=(((i+m)/(out.length+1):Nat):Int):=by norm_cast
   have hM:((i:Int)+(m:Int))%((out.length:Int)+1)=(((i+m)%(out.length+1):Nat):Int):=by norm_cast
   have HE2:Hid (jK 0 f' ((sN u').map bC) (n+(i+m)/(out.length+1)) ((i+m)%(out.length+1)+1) (bB m (out.length+1) (out.length==0)) (dR ((i+m)%(out.length+1)) (n+(i+m)/(out.length+1)) out)=R):=by
    show _=_;rw[<-HE.out];exact HST.symm
   clear HST hyes;generalize (i+m)/(out.length+1)=dq at hQ HE2 hdq1;generalize (i+m)%(out.length+1)=pos at hM HE2 hps1;have hnz: ¬(out.length:Int)+1=0:=om;have hnn:(n:Int)+(dq:Int)<=50000000000:=om;have hmI:(m:Int)<=66846660:=om;have hoI:(out.length:Int)<=600:=om;have hiI:(i:Int)<=600:=om;have hbd:n+dq+u'.size*66847300<=40108380128:=om;have CTA:Hid (∀(first:Bool) (W:World),CS 301 #[I J (m:Int),I J ((out.length:Int)+1),G first] W (I J (bB m (out.length+1) first:Int))):=fun first W=>by
    have h:=kN m (out.length+1) first W om om om
    rw[show ((out.length+1:Nat):Int)=(out.length:Int)+1 by omega]at h;exact h
   have CIN:Hid (Calls prog 309 #[.slice ao out.length cp0,I J (pos:Int),.slice (some ⟨w2.heap.size,0,none⟩) 1 1] (w2.alloc (Z #[I J ((n:Int)+(dq:Int))] 3)) fun e w'=>
     ∃v',e=Y v'/\w'.ownsRow w.heap.size 3 1 v' (out.length+1) (icN (dR pos (n+dq) out))/\Below w.heap.size w2 w'):=by
    have h:=wI out pos (n+dq) (.slice ao out.length cp0) w.heap.size w2 O2.out hsz2 om om;rw[show ((n+dq:Nat):Int)=(n:Int)+(dq:Int) by omega]at h;exact h
   have hal:=gB m (out.length+1) (out.length==0);have hbq:((out.length:Int)==0)=(out.length==0):=by
    cases hq:out.length==0 with
    |true=>rw[beq_iff_eq]at hq⊢;omega
    |false=>rw[beq_eq_false_iff_ne]at hq⊢;omega
   generalize (out.length==0)=first at hbq HE2 hal
   go_wp2_with fail;refine (CTA.out _ _).mono ?_;rintro e wx ⟨rfl,rfl⟩;go_wp2_with fail;refine CIN.out.mono ?_;rintro e w3 ⟨v',rfl,own3,hb3⟩;have B3:Below w.heap.size w w3:=B2.out.trans hb3;clear hb3;go_wp2_with fail;go_roundw
   case rel=>exact ⟨u',f',n+dq,pos+1,_,dR pos (n+dq) out,rfl,gn,gn,rfl,by rw[aX];omega,om,hbd,by rw[aX];omega,hal,HE2.out,by rw[aX];exact own3,B3⟩
   case measure=>rw[nN,nN];exact hul
  case atStart=>exact ⟨s,s.size,128,0,72,[],rfl,rfl,rfl,rfl,by simp;omega,za _,H128.out,za _,om,HR.out,HZ.out,HB0.out⟩
 by_cases hk1:k0=0
 .subst hk1
  obtain ⟨R,hR⟩: ∃q,jK 0 s.size ((sN s).map bC) 128 0 72 []=q:=⟨_,rfl⟩;have HR:Hid (jK 0 s.size ((sN s).map bC) 128 0 72 []=R):=hR;have HA:Hid (∀(W:World) (e:Ending),gX w W R e->((∃k:Nat,0<k/\k<s.size/\dF (sN s)=some ((sN s).take k,(sN s).drop (k+1))/\gX w W (jK k s.size (((sN s).drop (k+1)).map bC) 128 0 72 ((sN s).take k)) e)∨
   ((dF (sN s)=none∨dF (sN s)=some ([],(sN s).drop 1))/\gX w W (jK 0 s.size ((sN s).map bC) 128 0 72 []) e))):=fun W e h=> .inr ⟨.inr (by rw[hsp];rfl),by rw[hR];exact h⟩
  clear hR hsp hk0;go_wp2_with fail;refine wp_loop_rounds 1 ?_;rw[rounds_succ];go_wp2_with fail
  go_loopw[4,7,8,9,10] (fun v a b c e wr=> ∃(u:ByteArray) (f n i bi:Nat) (out:List Nat),a=L u/\b=I J n/\c=I J i/\e=I J bi/\out.length+u.size<=600/\u.size<=f/\n+u.size*66847300<=40108380128/\i<=out.length/\bi<=2400/\jK 0 f ((sN u).map bC) n i bi out=R/\wr.ownsRow w.heap.size 3 1 v out.length (icN out)/\Below w.heap.size w wr)
   (fun _ a _ _ _ _=>QE a)
  case round=>
   obtain ⟨u,f,n,i,bi,out,rfl,rfl,rfl,rfl,hou,hf,hn,hi,hbi,he,hown,hbel⟩:=hrel;have HOW:Hid (wr.ownsRow w.heap.size 3 1 u4 out.length (icN out)):=hown;have HBL:Hid (Below w.heap.size w wr):=hbel;have hszr:=hbel.size;have HE:Hid (jK 0 f ((sN u).map bC) n i bi out=R):=he;obtain ⟨ao,cp0,hu⟩:=iR hown;clear hown hbel he;subst hu
   by_cases hu0:u.size=0
   .have hem:=aS hu0
    have HRR:Hid (R=some out):=by
     show _=_;rw[<-HE.out,EH hu0]
     cases f<;>rfl
    go_wp2_with fail;go_ret2;exact ⟨HA.out _ _ (.inr ⟨out,_,HRR.out,om,rfl,HOW.out⟩),HBL.out⟩
   have hup:0<u.size:=om;have hem:=aW hup;obtain ⟨f',rfl⟩: ∃j,f=j+1:=⟨f-1,om⟩;have hne:(sN u).map bC≠[]:=by
    intro h;have h1:((sN u).map bC).length=0:=by rw[h];rfl
    rw[zl,cA]at h1;omega
   have CUT:Hid (Calls prog 308 #[L u,I J (bi:Int)] wr fun e w'=>GZ u bi e/\Below wr.heap.size wr w'):=QC u bi wr om om;have HNE:Hid ((sN u).map bC≠[]):=hne;clear hu0 hne;go_wp2_with fail;refine CUT.out.mono ?_;rintro e w2 ⟨hans,hb2⟩;have B2:Hid (Below w.heap.size w w2):=HBL.out.trans (hb2.mono hszr);have O2:Hid (w2.ownsRow w.heap.size 3 1 (.slice ao out.length cp0) out.length (icN out)):=aN HOW.out hb2;have hsz2:w.heap.size<=w2.heap.size:=zf hszr hb2.size;clear hb2
   rcases hans with ⟨hno,rfl⟩|⟨m,u',hyes,hm,hul,rfl⟩
   .have HRR:Hid (R=none):=by
     show _=_;rw[<-HE.out];exact AT HNE.out hno
    clear hno;go_wp2_with fail;go_ret2;exact ⟨HA.out _ _ (.inl ⟨HRR.out,rfl⟩),B2.out⟩
   have HST:=AU (basic:=0) (f:=f') (n:=n) (i:=i) (out:=out) HNE.out hyes;have hdq1:(i+m)/(out.length+1)<=i+m:=zm _ _;have hps1:(i+m)%(out.length+1)<out.length+1:=zs _ om;have hQ:((i:Int)+(m:Int))/((out.length:Int)+1)=(((i+m)/(out.length+1):Nat):Int):=by norm_cast
   have hM:((i:Int)+(m:Int))%((out.length:Int)+1)=(((i+m)%(out.length+1):Nat):Int):=by norm_cast
   have HE2:Hid (jK 0 f' ((sN u').map bC) (n+(i+m)/(out.length+1)) ((i+m)%(out.length+1)+1) (bB m (out.length+1) (out.length==0)) (dR ((i+m)%(out.length+1)) (n+(i+m)/(out.length+1)) out)=R):=by
    show _=_;rw[<-HE.out];exact HST.symm
   clear HST hyes;generalize (i+m)/(out.length+1)=dq at hQ HE2 hdq1;generalize (i+m)%(out.length+1)=pos at hM HE2 hps1;have hnz: ¬(out.length:Int)+1=0:=om;have hnn:(n:Int)+(dq:Int)<=50000000000:=om;have hmI:(m:Int)<=66846660:=om;have hoI:(out.length:Int)<=600:=om;have hiI:(i:Int)<=600:=om;have hbd:n+dq+u'.size*66847300<=40108380128:=om;have CTA:Hid (∀(first:Bool) (W:World),CS 301 #[I J (m:Int),I J ((out.length:Int)+1),G first] W (I J (bB m (out.length+1) first:Int))):=fun first W=>by
    have h:=kN m (out.length+1) first W om om om
    rw[show ((out.length+1:Nat):Int)=(out.length:Int)+1 by omega]at h;exact h
   have CIN:Hid (Calls prog 309 #[.slice ao out.length cp0,I J (pos:Int),.slice (some ⟨w2.heap.size,0,none⟩) 1 1] (w2.alloc (Z #[I J ((n:Int)+(dq:Int))] 3)) fun e w'=>
     ∃v',e=Y v'/\w'.ownsRow w.heap.size 3 1 v' (out.length+1) (icN (dR pos (n+dq) out))/\Below w.heap.size w2 w'):=by
    have h:=wI out pos (n+dq) (.slice ao out.length cp0) w.heap.size w2 O2.out hsz2 om om;rw[show ((n+dq:Nat):Int)=(n:Int)+(dq:Int) by omega]at h;exact h
   have hal:=gB m (out.length+1) (out.length==0);have hbq:((out.length:Int)==0)=(out.length==0):=by
    cases hq:out.length==0 with
    |true=>rw[beq_iff_eq]at hq⊢;omega
    |false=>rw[beq_eq_false_iff_ne]at hq⊢;omega
   generalize (out.length==0)=first at hbq HE2 hal
   go_wp2_with fail;refine (CTA.out _ _).mono ?_;rintro e wx ⟨rfl,rfl⟩;go_wp2_with fail;refine CIN.out.mono ?_;rintro e w3 ⟨v',rfl,own3,hb3⟩;have B3:Below w.heap.size w w3:=B2.out.trans hb3;clear hb3;go_wp2_with fail;go_roundw
   case rel=>exact ⟨u',f',n+dq,pos+1,_,dR pos (n+dq) out,rfl,gn,gn,rfl,by rw[aX];omega,om,hbd,by rw[aX];omega,hal,HE2.out,by rw[aX];exact own3,B3⟩
   case measure=>rw[nN,nN];exact hul
  case atStart=>exact ⟨s,s.size,128,0,72,[],rfl,rfl,rfl,rfl,by simp;omega,za _,H128.out,za _,om,HR.out,HZ.out,HB0.out⟩
 have hk2:0<(k0:Int):=om;have hk4:0<k0:=om;have hk3: ¬(k0:Int)<0:=om;have hxs:(s.extract k0 s.size).size=s.size-k0:=by simp
 have hx2:(s.extract (k0+1) s.size).size=s.size-(k0+1):=by simp
 have HX:Hid (sN (s.extract (k0+1) s.size)=(sN s).drop (k0+1)):=by
  show _=_;have hl:(sN s).length=s.size:=cA s;simp only[sN,zg,zn,List.map_drop,List.map_take,zh]at hl⊢;rw[zk (by simp at hl⊢)]
 obtain ⟨R,hR⟩: ∃q,jK k0 s.size (((sN s).drop (k0+1)).map bC) 128 0 72 ((sN s).take k0)=q:=⟨_,rfl⟩;have HR:Hid (jK k0 s.size ((sN (s.extract (k0+1) s.size)).map bC) 128 0 72 ((sN s).take k0)=R):=by
  show _=_;rw[HX.out];exact hR
 have HA:Hid (∀(W:World) (e:Ending),gX w W R e->((∃k:Nat,0<k/\k<s.size/\dF (sN s)=some ((sN s).take k,(sN s).drop (k+1))/\gX w W (jK k s.size (((sN s).drop (k+1)).map bC) 128 0 72 ((sN s).take k)) e)∨
  ((dF (sN s)=none∨dF (sN s)=some ([],(sN s).drop 1))/\gX w W (jK 0 s.size ((sN s).map bC) 128 0 72 []) e))):=fun W e h=> .inl ⟨k0,om,hk0,hsp,by rw[hR];exact h⟩
 clear hR hsp HX;have hmx:max (k0:Int) 0=(k0:Int):=om;go_wp2_with fail
 go_loopw[4,19] (fun v i wr=> ∃k:Nat,k<=k0/\i=I J k/\wr.ownsRow w.heap.size 3 1 v k (icN ((sN s).take k))/\Below w.heap.size w wr) (fun _ i _=>k0-(intOf i).toNat)
 case atStart=>exact ⟨0,Nat.zero_le _,rfl,HZ.out,HB0.out⟩
 obtain ⟨k,hk,rfl,hown,hbel⟩:=hrel;have hsz:=hbel.size
 by_cases hlt:k<k0
 .have hks:k<s.size:=om
  obtain ⟨d,hd⟩: ∃d:Nat,s[k].toNat=d:=⟨_,rfl⟩;have hd1:(d:Int)<=255:=by have:=s[k].toNat_lt;omega
  have HS:Hid ((sN s).take (k+1)=(sN s).take k++[d]):=by
   show _=_;rw[<-hd,List.take_succ_eq_append_getElem (by rw[cA];exact hks)]
   congr 2
   simp[sN];rfl
  go_wp2_with (at_builtin;refine aC _ rfl _ _ 95 rfl w.heap.size 3 (I J 0) 8 underlying95 infoI rfl _ _ _ rfl hown #[I J (d:Int)] 1 rfl rfl (by intro u hu;simp at hu;subst hu;rfl) om (by unfold maxLen;omega) om ?_);intro v' w1 hown' hb1;have R1:w1.ownsRow w.heap.size 3 1 v' (k+1) (icN ((sN s).take (k+1))):=by rw[HS.out,qG];exact hown'
  have B1:Below w.heap.size w w1:=hbel.trans hb1;clear hown' hb1 hown hbel;go_wp2_with fail;go_roundw
  case rel=>exact ⟨k+1,om,gn,R1,B1⟩
  case measure=>exact j1
 obtain rfl:k=k0:=om
 have hlen:((sN s).take k).length=k:=by rw[zj,cA];omega
 have HO1:Hid (wr.ownsRow w.heap.size 3 1 u4 ((sN s).take k).length (icN ((sN s).take k))):=by rw[hlen];exact hown
 have HB1:Hid (Below w.heap.size w wr):=hbel;have HXX:Hid (Value.string ((s.extract k s.size).extract 1 (s.size-k))=Value.string (s.extract (k+1) s.size)):=by
  show _=_
  congr 1
  apply ByteArray.ext;simp only[zg,Array.extract_extract]
  congr 1
  omega
 have HS1:Hid (((sN s).take k).length+(s.extract (k+1) s.size).size<=600):=by show _<=_;omega
 have HS2:Hid (128+(s.extract (k+1) s.size).size*66847300<=40108380128):=by show _<=_;omega
 have HS3:Hid ((s.extract (k+1) s.size).size<=s.size):=by show _<=_;omega
 obtain ⟨ao0,cp1,hu⟩:=iR hown;subst hu;clear hown hbel hlt hlen;go_wp2_with fail
 go_loopw[4,7,8,9,10] (fun v a b c e wr=> ∃(u:ByteArray) (f n i bi:Nat) (out:List Nat),a=L u/\b=I J n/\c=I J i/\e=I J bi/\out.length+u.size<=600/\u.size<=f/\n+u.size*66847300<=40108380128/\i<=out.length/\bi<=2400/\jK k f ((sN u).map bC) n i bi out=R/\wr.ownsRow w.heap.size 3 1 v out.length (icN out)/\Below w.heap.size w wr)
  (fun _ a _ _ _ _=>QE a)
 case round=>
  obtain ⟨u,f,n,i,bi,out,rfl,rfl,rfl,rfl,hou,hf,hn,hi,hbi,he,hown,hbel⟩:=hrel;have HOW:Hid (wr.ownsRow w.heap.size 3 1 u4 out.length (icN out)):=hown;have HBL:Hid (Below w.heap.size w wr):=hbel;have hszr:=hbel.size;have HE:Hid (jK k f ((sN u).map bC) n i bi out=R):=he;obtain ⟨ao,cp0,hu⟩:=iR hown;clear hown hbel he;subst hu
  by_cases hu0:u.size=0
  .have hem:=aS hu0
   have HRR:Hid (R=some out):=by
    show _=_;rw[<-HE.out,EH hu0]
    cases f<;>rfl
   go_wp2_with fail;go_ret2;exact ⟨HA.out _ _ (.inr ⟨out,_,HRR.out,om,rfl,HOW.out⟩),HBL.out⟩
  have hup:0<u.size:=om;have hem:=aW hup;obtain ⟨f',rfl⟩: ∃j,f=j+1:=⟨f-1,om⟩;have hne:(sN u).map bC≠[]:=by
   intro h;have h1:((sN u).map bC).length=0:=by rw[h];rfl
   rw[zl,cA]at h1;omega
  have CUT:Hid (Calls prog 308 #[L u,I J (bi:Int)] wr fun e w'=>GZ u bi e/\Below wr.heap.size wr w'):=QC u bi wr om om;have HNE:Hid ((sN u).map bC≠[]):=hne;clear hu0 hne;go_wp2_with fail;refine CUT.out.mono ?_;rintro e w2 ⟨hans,hb2⟩;have B2:Hid (Below w.heap.size w w2):=HBL.out.trans (hb2.mono hszr);have O2:Hid (w2.ownsRow w.heap.size 3 1 (.slice ao out.length cp0) out.length (icN out)):=aN HOW.out hb2;have hsz2:w.heap.size<=w2.heap.size:=zf hszr hb2.size;clear hb2
  rcases hans with ⟨hno,rfl⟩|⟨m,u',hyes,hm,hul,rfl⟩
  .have HRR:Hid (R=none):=by
    show _=_;rw[<-HE.out];exact AT HNE.out hno
   clear hno;go_wp2_with fail;go_ret2;exact ⟨HA.out _ _ (.inl ⟨HRR.out,rfl⟩),B2.out⟩
  have HST:=AU (basic:=k) (f:=f') (n:=n) (i:=i) (out:=out) HNE.out hyes;have hdq1:(i+m)/(out.length+1)<=i+m:=zm _ _;have hps1:(i+m)%(out.length+1)<out.length+1:=zs _ om;have hQ:((i:Int)+(m:Int))/((out.length:Int)+1)=(((i+m)/(out.length+1):Nat):Int):=by norm_cast
  have hM:((i:Int)+(m:Int))%((out.length:Int)+1)=(((i+m)%(out.length+1):Nat):Int):=by norm_cast
  have HE2:Hid (jK k f' ((sN u').map bC) (n+(i+m)/(out.length+1)) ((i+m)%(out.length+1)+1) (bB m (out.length+1) (out.length==k)) (dR ((i+m)%(out.length+1)) (n+(i+m)/(out.length+1)) out)=R):=by
   show _=_;rw[<-HE.out];exact HST.symm
  clear HST hyes;generalize (i+m)/(out.length+1)=dq at hQ HE2 hdq1;generalize (i+m)%(out.length+1)=pos at hM HE2 hps1;have hnz: ¬(out.length:Int)+1=0:=om;have hnn:(n:Int)+(dq:Int)<=50000000000:=om;have hmI:(m:Int)<=66846660:=om;have hoI:(out.length:Int)<=600:=om;have hiI:(i:Int)<=600:=om;have hbd:n+dq+u'.size*66847300<=40108380128:=om;have CTA:Hid (∀(first:Bool) (W:World),CS 301 #[I J (m:Int),I J ((out.length:Int)+1),G first] W (I J (bB m (out.length+1) first:Int))):=fun first W=>by
   have h:=kN m (out.length+1) first W om om om
   rw[show ((out.length+1:Nat):Int)=(out.length:Int)+1 by omega]at h;exact h
  have CIN:Hid (Calls prog 309 #[.slice ao out.length cp0,I J (pos:Int),.slice (some ⟨w2.heap.size,0,none⟩) 1 1] (w2.alloc (Z #[I J ((n:Int)+(dq:Int))] 3)) fun e w'=>
    ∃v',e=Y v'/\w'.ownsRow w.heap.size 3 1 v' (out.length+1) (icN (dR pos (n+dq) out))/\Below w.heap.size w2 w'):=by
   have h:=wI out pos (n+dq) (.slice ao out.length cp0) w.heap.size w2 O2.out hsz2 om om;rw[show ((n+dq:Nat):Int)=(n:Int)+(dq:Int) by omega]at h;exact h
  have hal:=gB m (out.length+1) (out.length==k);have hbq:((out.length:Int)==(↑k))=(out.length==k):=by
   cases hq:out.length==k with
   |true=>rw[beq_iff_eq]at hq⊢;omega
   |false=>rw[beq_eq_false_iff_ne]at hq⊢;omega
  generalize (out.length==k)=first at hbq HE2 hal
  go_wp2_with fail;refine (CTA.out _ _).mono ?_;rintro e wx ⟨rfl,rfl⟩;go_wp2_with fail;refine CIN.out.mono ?_;rintro e w3 ⟨v',rfl,own3,hb3⟩;have B3:Below w.heap.size w w3:=B2.out.trans hb3;clear hb3;go_wp2_with fail;go_roundw
  case rel=>exact ⟨u',f',n+dq,pos+1,_,dR pos (n+dq) out,rfl,gn,gn,rfl,by rw[aX];omega,om,hbd,by rw[aX];omega,hal,HE2.out,by rw[aX];exact own3,B3⟩
  case measure=>rw[nN,nN];exact hul
 case atStart=>exact ⟨s.extract (k+1) s.size,s.size,128,0,72,(sN s).take k,HXX.out,rfl,rfl,rfl,HS1.out,HS3.out,HS2.out,om,om,HR.out,HO1.out,HB1.out⟩
theorem IA(l:List Nat)(v:Value)(B:Nat)(w:World)(hl:l.length<=1048576)(hown:w.ownsRow B 3 1 v l.length (icN l)):Calls prog 292 #[v] w fun e w'=>e=Y (H #[L ⟨(b8 (if eU l=true then bJ l else [])).toArray⟩,G (eU l)])/\Below w.heap.size w w':=by
 rcases aY hown with ⟨h0,_,ao,cap,rfl⟩|⟨_,g,cap,rfl⟩
 .have hl0:l=[]:=zc h0
  subst hl0;refine j6 (wH ao cap w) fun w' hb=>?_
  exact ⟨rfl,hb⟩
 by_cases hok:eU l=true
 .rw[if_pos hok,hok]
  exact wG l l.length g cap B w hok rfl hown
 rw[if_neg hok];have hf:eU l=false:=by simpa using hok
 rw[hf];exact yU (l.map fun (c:Nat)=>(c:Int)) l.length g cap B w (fun h=>hok (DW.2 h)) j2 hl hown
theorem J8{s l:List Nat}(h:dB s=some l):lZ s=some l:=by
 unfold dB at h;split at h
 .next l' hr=>
  split at h
  .cases h;exact hr
  cases h
 cases h
theorem T7:dF []=none:=rfl
theorem Dy{s l:List Nat}(h:dF s=some ([],s.drop 1))(hd:dB s=some l):False:=by
 obtain ⟨_,he⟩:=(rM s l).1 hd;obtain ⟨p1,p2⟩:=KY l;rw[he]at p1 p2;have h1:headD s=[]:=by unfold headD;rw[h]
 have h2:xO s=s.drop 1:=by unfold xO;rw[h]
 rw[h1]at p1;have h3:s=(sR l).map bT:=by
  rw[<-he];unfold bJ;rw[<-p1];rfl
 rw[<-h3,h2]at p2;have h4:=congrArg List.length p2;rw[zq]at h4;have h5:s=[]:=zc om;rw[h5,T7]at h
 cases h
theorem IB(s:ByteArray)(w:World)(hs600:(s.size:Int)<=600):Calls prog 295 #[L s] w fun e w'=>lD w w' (dB (sN s)) e/\Below w.heap.size w w':=by
 have hng: ¬600<(s.size:Int):=om;go_enter func295,ntmps295;go_wp2_with fail;refine (Dx s w hs600).mono ?_;rintro e w2 ⟨hans,hb⟩;obtain ⟨R,hR,HD⟩: ∃R:Option (List Nat),gX w w2 R e/\ ∀l,dB (sN s)=some l->R=some l:=by
  rcases hans with ⟨k,hk,hks,hsp,hr⟩|⟨hsp|hsp,hr⟩
  .refine ⟨_,hr,fun l hl=> ?_⟩
   have h1:=J8 hl;unfold lZ headD xO at h1;rw[hsp,cA]at h1;simp only at h1;rw[zj,cA,Nat.min_eq_left om]at h1;exact QD k _ _ _ _ _ _ l de h1
  .refine ⟨_,hr,fun l hl=> ?_⟩
   have h1:=J8 hl;unfold lZ headD xO at h1;rw[hsp,cA]at h1;exact QD 0 _ _ _ _ _ _ l de h1
  exact ⟨_,hr,fun l hl=>(Dy hsp hl).elim⟩
 have HDD:Hid (∀l,dB (sN s)=some l->R=some l):=HD;have HB:Hid (Below w.heap.size w w2):=hb;have hsz:=hb.size;clear hans HD hb
 rcases hR with ⟨hno,rfl⟩|⟨l,v,hyes,hl6,rfl,hown⟩
 .have HN:Hid (dB (sN s)=none):=by
   show _=_
   cases hd:dB (sN s)with
   |none=>rfl
   |some l=>have:=HDD.out l hd;rw[hno]at this;cases this
  have HZ:Hid ((w2.alloc (Z #[] 3)).ownsRow w.heap.size 3 1 (.slice (some ⟨w2.heap.size,0,none⟩) 0 0) 0 []):=zd w2 #[] 0 hsz de rfl;clear hno;go_wp2_with fail;go_ret2;exact ⟨bV HN.out HZ.out rfl,HB.out.alloc hsz _⟩
 have CE:Hid (CB 292 #[v] w2 (H #[L ⟨(b8 (if eU l=true then bJ l else [])).toArray⟩,G (eU l)])):=IA l v w.heap.size w2 om hown;have HOW:Hid (w2.ownsRow w.heap.size 3 1 v l.length (icN l)):=hown;have HAL:Hid (∀l',dB (sN s)=some l'->l'=l):=fun l' h=>by
  have:=HDD.out l' h
  rw[hyes]at this;injection this with this;exact this.symm
 clear hyes HDD;obtain ⟨ao,cp,hu⟩:=iR hown;subst hu;clear hown
 by_cases hok:eU l=true
 .rw[if_pos hok,hok]at CE
  by_cases heq:bJ l=sN s
  .have HY:Hid (dB (sN s)=some l):=(rM _ _).2 ⟨hok,heq⟩
   have hst:=XK ((LI s (bJ l) (fun c hc=>by have:=nM c hc;omega)).2 heq);generalize (⟨(b8 (bJ l)).toArray⟩:ByteArray)=t at CE hst;clear hok heq;go_wp2_with fail;refine CE.out.mono ?_;rintro e w3 ⟨rfl,hb3⟩;have HO3:Hid (w3.ownsRow w.heap.size 3 1 (.slice ao l.length cp) l.length (icN l)):=aN HOW.out hb3;have HB3:Hid (Below w.heap.size w w3):=HB.out.trans (hb3.mono hsz);clear hb3;go_wp2_with fail;go_ret2;exact ⟨mC HY.out HO3.out rfl,HB3.out⟩
  have HN:Hid (dB (sN s)=none):=by
   show _=_
   cases hd:dB (sN s)with
   |none=>rfl
   |some l'=>
    have h1:=HAL.out l' hd;rw[h1]at hd;exact absurd ((rM _ _).1 hd).2 heq
  have hst:=rG (fun h=>heq ((LI s (bJ l) (fun c hc=>by have:=nM c hc;omega)).1 h));generalize (⟨(b8 (bJ l)).toArray⟩:ByteArray)=t at CE hst;clear hok heq;go_wp2_with fail;refine CE.out.mono ?_;rintro e w3 ⟨rfl,hb3⟩;have hsz3:w.heap.size<=w3.heap.size:=zf hsz hb3.size;have HB3:Hid (Below w.heap.size w w3):=HB.out.trans (hb3.mono hsz);have HZ:Hid ((w3.alloc (Z #[] 3)).ownsRow w.heap.size 3 1 (.slice (some ⟨w3.heap.size,0,none⟩) 0 0) 0 []):=zd w3 #[] 0 hsz3 de rfl;clear hb3;go_wp2_with fail;go_ret2;exact ⟨bV HN.out HZ.out rfl,HB3.out.alloc hsz3 _⟩
 have HN:Hid (dB (sN s)=none):=by
  show _=_
  cases hd:dB (sN s)with
  |none=>rfl
  |some l'=>
   have h1:=HAL.out l' hd;rw[h1]at hd;exact absurd ((rM _ _).1 hd).1 hok
 rw[if_neg hok,show eU l=false by simpa using hok]at CE;generalize (⟨(b8 []).toArray⟩:ByteArray)=t at CE;clear hok;go_wp2_with fail;refine CE.out.mono ?_;rintro e w3 ⟨rfl,hb3⟩;have hsz3:w.heap.size<=w3.heap.size:=zf hsz hb3.size;have HB3:Hid (Below w.heap.size w w3):=HB.out.trans (hb3.mono hsz);have HZ:Hid ((w3.alloc (Z #[] 3)).ownsRow w.heap.size 3 1 (.slice (some ⟨w3.heap.size,0,none⟩) 0 0) 0 []):=zd w3 #[] 0 hsz3 de rfl;clear hb3;go_wp2_with fail;go_ret2;exact ⟨bV HN.out HZ.out rfl,HB3.out.alloc hsz3 _⟩
theorem wJ(s:ByteArray)(w:World)(hs:600<(s.size:Int)):Calls prog 295 #[L s] w fun e w'=>lD w w' none e/\Below w.heap.size w w':=by
 go_enter func295,ntmps295;go_wp2;go_ret2;exact ⟨bV rfl (zd w #[] 0 (za _) de rfl) rfl,(zr _ _).alloc (za _) _⟩
