/- PunyDecWalk, PunyLen. -/
import Derived.Test.YtgcbaphbiaimoaaGreatDoorQF08
set_option maxHeartbeats 16000000
set_option maxRecDepth 20000
namespace Go.Proofs.YtgcbaphbiaimoaaGreatDoor
open Go.Value renaming int->I,string->L,tuple->Z,bool->H
open Go.IntKind renaming i64->J
open Go.Obj renaming cells->Y
open _root_.Go.RowKit.Below renaming refl->zm
open _root_.List renaming eq_nil_of_length_eq_zero->ze,getD_eq_getElem?_getD->zf,length_append->zg,length_cons->zk,length_map->zl,length_take->zc,map_congr_left->zj,map_cons->zi,take_succ_eq_append_getElem->zd
open _root_.Nat renaming le_refl->za
open _root_.Go.World renaming ownsRow_lit->zh
open _root_.Go.Proofs.Tryz
open _root_.Go.Proofs.YtgcbaphbiaimoaaGreatDoor.Tryz
section
open Go.RowKit
theorem oB{w:World}{B:Nat}{e:TypeId}{g n cap:Nat}{xs:List Value}(h:w.ownsRow B e 1 (.slice (some ⟨g,0,none⟩) n cap) n xs)(k:Nat)(u:Value):
  (w.setCell ⟨g,k,none⟩ u).ownsRow B e 1 (.slice (some ⟨g,0,none⟩) n cap) n (xs.set k u):=by
 have hl:=h.1;refine ⟨by simpa using hl,?_⟩
 rcases h.2 with ⟨h0,_⟩|⟨g',cap',cur,hv,hb,hg,hnc,hcm,hcs,htake⟩
 .cases h0
 injection hv with h1 h2 h3;injection h1 with h1;injection h1 with h1;subst h1 h3;refine .inr ⟨g,cap,cur.setIfInBounds k u,rfl,hb,heap_setCell_same w g k cur e u hg,hnc,hcm,by simpa using hcs,?_⟩;simp only[Nat.mul_one]at htake⊢;rw[<-htake,Array.toList_setIfInBounds,List.take_set]
theorem fQ{w:World}{B:Nat}{e:TypeId}{g n cap:Nat}{xs:List Value}(h:w.ownsRow B e 1 (.slice (some ⟨g,0,none⟩) n cap) n xs)(k:Nat):w.frozen? ⟨g,k,none⟩=false:=by
 rcases h.2 with ⟨h0,_⟩|⟨g',cap',cur,hv,hb,hg,_⟩
 .cases h0
 injection hv with h1 h2 h3;injection h1 with h1;injection h1 with h1;subst h1;exact frozen_of_row w g k cur e hg
theorem sU{w:World}{B:Nat}{e:TypeId}{g n cap:Nat}{xs:List Value}(h:w.ownsRow B e 1 (.slice (some ⟨g,0,none⟩) n cap) n xs):B<=g:=by
 rcases h.2 with ⟨h0,_⟩|⟨g',cap',cur,hv,hb,_⟩
 .cases h0
 injection hv with h1 h2 h3;injection h1 with h1;injection h1 with h1;subst h1;exact hb
theorem oC(l:List Nat)(k y:Nat):(icN l).set k (I J (y:Int))=icN (l.set k y):=by
 unfold icN aL;rw[List.map_set,List.map_set]
theorem pG(l:List Nat)(y:Nat):icN (l++[y])=icN l++[Value.int .i64 (y:Int)]:=by simp[icN,aL]
theorem iO(a:List Nat)(k x y:Nat)(hk:k<=a.length):(a.take k++x::a.drop k).set k y=a.take k++y::a.drop k:=by
 have hl:(a.take k).length=k:=by rw[zc];omega
 rw[List.set_append_right _ _ om,hl,Nat.sub_self];rfl
theorem qN(a:List Nat)(k:Nat)(hk:k<a.length):a.take (k+1)++a.getD k 0::a.drop (k+1)=a.take k++a.getD k 0::a.drop k:=by
 have e:a.take (k+1)=a.take k++[a.getD k 0]:=by
  rw[zd hk];simp[List.getD,hk]
 rw[e,nH a k hk];simp
theorem vY(a:List Nat)(k x:Nat)(hk:k<a.length):(a.take (k+1)++x::a.drop (k+1)).getD k 0=a.getD k 0:=by
 have hl:k<(a.take (k+1)).length:=by rw[zc];omega
 rw[zf,List.getElem?_append_left hl,List.getElem?_take,if_pos om,zf]
theorem DN(bias:Nat): ∀(ds:List Nat) (k i w m:Nat) (r:List Nat),dA bias k i w ds=some (m,r)->m<=39582418599936
 |[],_,_,_,_,_,h=>by simp[dA]at h
 |d::ds,k,i,w,m,r,h=>by
  unfold dA at h;split at h
  .cases h
  next hc=>
  split at h
  .next hd=>
   injection h with h;injection h with h1 h2
   have:d*w<=35*w:=Nat.mul_le_mul_right w om
   omega
  exact DN bias ds _ _ _ m r h
theorem AS{l:List Nat}:dY l=true↔DK (l.map fun (c:Nat)=>(c:Int)):=by
 unfold DK;simp only[dY,Bool.and_eq_true,decide_eq_true_eq,List.all_eq_true,zl,List.mem_map];refine and_congr_right fun _=>⟨?_,?_⟩
 .rintro h z ⟨c,hc,rfl⟩
  exact vX (h c hc)
 intro h c hc
 have:=h _ ⟨c,hc,rfl⟩
 unfold dH at this;simp[IH];omega
def kA(w w':World)(r:Option (List Nat))(e:Ending):Prop:=
 match r with
 |some l=> ∃v,e=.returned (Z #[v,H true])/\w'.ownsRow w.heap.size 3 1 v l.length (icN l)
 |none=> ∃v,e=.returned (Z #[v,H false])/\w'.ownsRow w.heap.size 3 1 v 0 []
theorem IR(s:ByteArray)(l:List Nat)(h: ∀c∈l,c<256):(⟨(b8 l).toArray⟩:ByteArray)=s↔l=sN s:=by
 constructor
 .rintro rfl
  unfold sN b8;simp only[List.map_map];refine (List.map_id l).symm.trans (zj fun c hc=> ?_)
  have:=h c hc
  simp;omega
 rintro rfl;apply ByteArray.ext;apply Array.ext';unfold b8 sN;simp only[List.map_map];exact (zj (g:=id) fun c _=>by simp).trans (List.map_id _)
theorem bJ{w w':World}{r:Option (List Nat)}{e:Ending}{v:Value}(h:r=none)(ho:w'.ownsRow w.heap.size 3 1 v 0 [])(he:e=.returned (Z #[v,H false])):kA w w' r e:=by
 subst h;exact ⟨v,he,ho⟩
theorem lB{w w':World}{r:Option (List Nat)}{l:List Nat}{e:Ending}{v:Value}(h:r=some l)(ho:w'.ownsRow w.heap.size 3 1 v l.length (icN l))(he:e=.returned (Z #[v,H true])):kA w w' r e:=by
 subst h;exact ⟨v,he,ho⟩
theorem vZ{w:World}{B B':Nat}{e:TypeId}{v:Value}{n:Nat}{xs:List Value}(h:w.ownsRow B e 1 v n xs)(hb:B'<=B):w.ownsRow B' e 1 v n xs:=by
 refine ⟨h.1,?_⟩
 rcases h.2 with h0|⟨g,cap,cur,hv,hB,hr⟩
 .exact .inl h0
 exact .inr ⟨g,cap,cur,hv,om,hr⟩
theorem Tryz.infoI:(prog.info? 3).map (fun i=>(i.zero,i.size,i.bytes))=some (some (I J 0),1,8):=kr
theorem DO(s:ByteArray)(w:World)(hs600:(s.size:Int)<=600):Calls prog 230 #[L s] w fun e w'=>kA w w' (cL (sN s)) e/\Below w.heap.size w w':=by
 obtain ⟨w0,hw0⟩: ∃q,w.alloc (Y #[] 3)=q:=⟨_,rfl⟩;have HZ:Hid (w0.heap.size=w.heap.size+1):=by show _=_;rw[<-hw0];simp
 have HB0:Hid (∀W,Below (w.heap.size+1) w0 W->Below w.heap.size w W):=fun W h=>by
  have h1:Below w.heap.size w w0:=by rw[<-hw0];exact (zm _ _).alloc (za _) _
  exact h1.trans (h.mono om)
 have HNO:Hid (∀W,Below (w.heap.size+1) w0 W->W.ownsRow w.heap.size 3 1 (.slice (some ⟨w.heap.size,0,none⟩) 0 0) 0 []):=fun W h=>by
  have h1:w0.ownsRow w.heap.size 3 1 (.slice (some ⟨w.heap.size,0,none⟩) 0 0) 0 []:=by rw[<-hw0];exact zh w #[] 0 (za _) de rfl
  have h2:Below w0.heap.size w0 W:=by rw[HZ.out];exact h
  exact aH h1 h2
 go_enter func230,ntmps230;go_wp2_with fail;refine (P0 _ _ om).mono ?_;rintro e wz ⟨r,rfl,rfl,hr⟩
 rcases hr with ⟨rfl,hsp⟩|⟨k0,hk0,rfl,hsp⟩
 .have HST:Hid (jR 0 s.size (((sN s).drop 0).map aW) 128 0 72 []=kZ (sN s)):=by
   show _=_;unfold kZ headD vV;rw[hsp,bM];rfl
  have HO1:Hid ((w0.alloc (Y #[] 3)).ownsRow (w.heap.size+1) 3 1 (.slice (some ⟨w0.heap.size,0,none⟩) 0 0) ([]:List Nat).length (icN [])):=zh w0 #[] 0 (by rw[HZ.out];exact za _) de rfl;have HB1:Hid (Below (w.heap.size+1) w0 (w0.alloc (Y #[] 3))):=(zm _ _).alloc (by rw[HZ.out];exact za _) _;clear hsp hw0;obtain ⟨at1,hat1⟩: ∃q:Nat,q=0:=⟨0,rfl⟩;go_wp2_with fail;refine wp_loop_rounds 1 ?_;rw[rounds_succ];go_wp2_with fail
  go_loopw[5,8,9,10,11] (fun v a b c e wr=> ∃(f q n i bi:Nat) (out:List Nat),a=I J q/\b=I J n/\c=I J i/\e=I J bi/\q<=s.size/\s.size<=q+f/\n<=1114111/\i<=out.length/\out.length<=700/\bi<=2400/\jR 0 f (((sN s).drop q).map aW) n i bi out=kZ (sN s)/\wr.ownsRow (w.heap.size+1) 3 1 v out.length (icN out)/\Below (w.heap.size+1) w0 wr)
   (fun _ a _ _ _ _=>s.size-(intOf a).toNat)
  case atStart=>exact ⟨s.size,0,128,0,72,[],rfl,rfl,rfl,rfl,om,om,om,by first|omega|simp,by first|omega|simp,om,HST.out,HO1.out,HB1.out⟩
  clear HO1 HB1 HST;obtain ⟨f,q,n,i,bi,out,rfl,rfl,rfl,rfl,hq,hf,hn,hi,hol,hbi,he,hown,hbel⟩:=hrel;have HOW:Hid (wr.ownsRow (w.heap.size+1) 3 1 u5 out.length (icN out)):=hown;have HBL:Hid (Below (w.heap.size+1) w0 wr):=hbel;have hszr:w.heap.size+1<=wr.heap.size:=by have:=hbel.size;have:=HZ.out;omega
  have HE:Hid (jR 0 f (((sN s).drop q).map aW) n i bi out=kZ (sN s)):=he;obtain ⟨ao,cp0,hu⟩:=gR hown;clear hown hbel he
  by_cases hlt:q<s.size
  .subst hu
   obtain ⟨f',rfl⟩: ∃j,f=j+1:=⟨f-1,om⟩;have crd:=OY s q bi wr hs600 hq om
   cases hrd:dA bi 36 0 1 (((sN s).drop q).map aW)with
   |none=>
    have HDN:Hid (cL (sN s)=none):=by
     have h1:=HE.out;rw[oA s q hlt,zi]at h1 hrd;rw[jR,hrd]at h1;show _=_;unfold cL;rw[<-h1]
    have CRD:Hid (CS 257 #[L s,I J (q:Int),I J (bi:Int)] wr (Z #[I J 0,I J 0,H false])):=crd.mono fun e w' ⟨h1,h2⟩=>⟨by unfold lX at h1;rw[hrd]at h1;exact h1,h2⟩
    clear crd hrd;go_wp2_with fail;refine CRD.out.mono ?_;rintro e wx ⟨rfl,rfl⟩;go_wp2_with fail;go_ret2;exact ⟨bJ HDN.out (HNO.out _ HBL.out) rfl,HB0.out _ HBL.out⟩
   |some mr=>
    obtain ⟨more,rest⟩:=mr;have hmore:=DN bi _ _ _ _ _ _ hrd;have CRD:Hid (Calls prog 257 #[L s,I J (q:Int),I J (bi:Int)] wr fun e w'=>(∃next:Nat,q<next/\next<=s.size/\rest=((sN s).drop next).map aW/\e=.returned (Z #[I J (more:Int),I J (next:Int),H true]))/\wr=w'):=crd.mono fun e w' ⟨h1,h2⟩=>⟨by unfold lX at h1;rw[hrd]at h1;exact h1,h2⟩
    have hc3:((out.length+1:Nat):Int)=(out.length:Int)+1:=om;have hdq1:(i+more)/(out.length+1)<=i+more:=Nat.div_le_self _ _;have hps1:(i+more)%(out.length+1)<out.length+1:=Nat.mod_lt _ om;have hQ:((i:Int)+(more:Int))/((out.length:Int)+1)=(((i+more)/(out.length+1):Nat):Int):=by norm_cast
    have hM:((i:Int)+(more:Int))%((out.length:Int)+1)=(((i+more)%(out.length+1):Nat):Int):=by norm_cast
    have HRAW:Hid ((if 60<out.length+1∨1114111<n+(i+more)/(out.length+1)then none else jR 0 f' rest (n+(i+more)/(out.length+1)) ((i+more)%(out.length+1)+1) (aU more (out.length+1) (out.length==0)) (dF ((i+more)%(out.length+1)) (n+(i+more)/(out.length+1)) out))=kZ (sN s)):=by
     have h1:=HE.out;rw[oA s q hlt,zi]at h1 hrd;rw[jR,hrd]at h1;exact h1
    clear crd hrd hc3;generalize (i+more)/(out.length+1)=dq at hQ HRAW hdq1;generalize (i+more)%(out.length+1)=pos at hM HRAW hps1;have hnz: ¬(out.length:Int)+1=0:=om
    by_cases h60:60<(out.length:Int)+1
    .have HDN:Hid (cL (sN s)=none):=by
      have h1:=HRAW.out;rw[if_pos om]at h1;show _=_;unfold cL;rw[<-h1]
     clear HRAW;go_wp2_with fail;refine CRD.out.mono ?_;rintro e wx ⟨⟨next,hx1,hx2,hx3,rfl⟩,rfl⟩;clear hx3;go_wp2_with fail;go_ret2;exact ⟨bJ HDN.out (HNO.out _ HBL.out) rfl,HB0.out _ HBL.out⟩
    by_cases hfb:out.length=0
    .have CTA:Hid (∀W,CS 229 #[I J (more:Int),I J ((out.length:Int)+1),H true] W (I J (aU more (out.length+1) true:Int))):=fun W=>by
      have h:=sS (more:Int) ((out.length:Int)+1) true W;rw[pF ⟨om,om⟩,show ((out.length:Int)+1).toNat=out.length+1 by omega]at h;exact h
     have hal:=fI more (out.length+1) true;have hfm:((out.length:Int)== -1)=false:=beq_eq_false_iff_ne.2 om;have hf0:((out.length:Int)==0)=true:=beq_iff_eq.2 om;have HFQ:Hid ((out.length==0)=true):=by show _=_;simpa using hfb
     clear hfb;have HRW:Hid (¬1114111<n+dq->jR 0 f' rest (n+dq) (pos+1) (aU more (out.length+1) true) (dF pos (n+dq) out)=kZ (sN s)):=by
      intro hno;have h1:=HRAW.out;rw[if_neg om,HFQ.out]at h1;exact h1
     by_cases hnb:1114111<(n:Int)+(dq:Int)
     .have HDN:Hid (cL (sN s)=none):=by
       have h1:=HRAW.out;rw[if_pos om]at h1;show _=_;unfold cL;rw[<-h1]
      go_wp2_with fail;refine CRD.out.mono ?_;rintro e wx ⟨⟨next,hx1,hx2,hx3,rfl⟩,rfl⟩;have HX3:Hid (rest=((sN s).drop next).map aW):=hx3;clear hx3;go_wp2_with fail;refine (CTA.out _).mono ?_;rintro e wx ⟨rfl,rfl⟩;go_wp2_with fail;go_ret2;exact ⟨bJ HDN.out (HNO.out _ HBL.out) rfl,HB0.out _ HBL.out⟩
     have HRW:Hid (jR 0 f' rest (n+dq) (pos+1) (aU more (out.length+1) true) (dF pos (n+dq) out)=kZ (sN s)):=HRW.out om;go_wp2_with fail;refine CRD.out.mono ?_;rintro e wx ⟨⟨next,hx1,hx2,hx3,rfl⟩,rfl⟩;have HX3:Hid (rest=((sN s).drop next).map aW):=hx3;clear hx3;go_wp2_with fail;refine (CTA.out _).mono ?_;rintro e wx ⟨rfl,rfl⟩;go_wp2_with (at_builtin;refine aB _ rfl _ _ 95 rfl (w.heap.size+1) 3 (I J 0) 8 underlying95 infoI rfl _ _ _ rfl HOW.out #[I J 0] 1 rfl rfl (by intro u hu;simp at hu;subst hu;rfl) om (by unfold maxLen;omega) om ?_);intro v' w1 hown' hb1;have B1:Below (w.heap.size+1) w0 w1:=HBL.out.trans hb1;have O1:w1.ownsRow (w.heap.size+1) 3 1 v' (out.length+1) (icN (out++[0])):=by rw[pG];exact hown'
     clear hown' hb1
     rcases aQ O1 with ⟨hz,_⟩|⟨_,g,cp,rfl⟩
     .omega
     have hDg:=sU O1;go_wp2_with fail
     go_loopw[16] (fun a wi=> ∃(k x:Nat),a=I J k/\pos<=k/\k<=out.length/\wi.ownsRow (w.heap.size+1) 3 1 (.slice (some ⟨g,0,none⟩) (out.length+1) cp) (out.length+1) (icN (out.take k++x::out.drop k))/\Below (w.heap.size+1) w0 wi) (fun a _=>(intOf a).toNat)
     case atStart=>exact ⟨out.length,0,gn,om,za _,by simpa using O1,B1⟩
     clear O1 B1;obtain ⟨k,x,rfl,hk1,hk2,hown,hbel⟩:=hrel
     by_cases hgt:pos<k
     .obtain ⟨k',rfl⟩: ∃j,k=j+1:=⟨k-1,om⟩
      have ca:=jZ hown k' om;rw[vY out k' x om]at ca;have cf:=fQ hown (k'+1);obtain ⟨u,cb⟩:=kT hown (k'+1) om;have hset:=oB hown (k'+1) (I J (out.getD k' 0:Int));rw[oC,iO out (k'+1) x _ om,qN out k' om]at hset;have HSET:Hid ((wr.setCell ⟨g,k'+1,none⟩ (I J (out.getD k' 0:Int))).ownsRow (w.heap.size+1) 3 1 (.slice (some ⟨g,0,none⟩) (out.length+1) cp) (out.length+1) (icN (out.take k'++out.getD k' 0::out.drop k'))):=hset;have HBS:Hid (Below (w.heap.size+1) w0 (wr.setCell ⟨g,k'+1,none⟩ (I J (out.getD k' 0:Int)))):=hbel.setCell hDg _;clear hset hown hbel;generalize hy:out.getD k' 0=y at ca HSET HBS;go_wp2_with fail;go_roundw
      case rel=>exact ⟨k',y,gn,om,om,HSET.out,HBS.out⟩
      case measure=>simp[intOf]
     have hkp2:k=pos:=om;subst hkp2;have cf:=fQ hown k;obtain ⟨u,cb⟩:=kT hown k om;have hset:=oB hown k (I J ((n+dq:Nat):Int));rw[oC,iO out k x _ om]at hset;have hbs:=hbel.setCell hDg (p:=⟨g,k,none⟩) (I J ((n+dq:Nat):Int));rw[show ((n+dq:Nat):Int)=(n:Int)+(dq:Int) by omega]at hset hbs;have HSET:Hid ((wr.setCell ⟨g,k,none⟩ (I J ((n:Int)+(dq:Int)))).ownsRow (w.heap.size+1) 3 1 (.slice (some ⟨g,0,none⟩) (out.length+1) cp) (out.length+1) (icN (out.take k++(n+dq)::out.drop k))):=hset;have HBS:Hid (Below (w.heap.size+1) w0 (wr.setCell ⟨g,k,none⟩ (I J ((n:Int)+(dq:Int))))):=hbs;clear hset hbs hown hbel;go_wp2_with fail;go_roundw
     case rel=>exact ⟨f',next,n+dq,k+1,_,dF k (n+dq) out,rfl,gn,gn,rfl,hx2,om,om,by rw[aP];omega,by rw[aP];omega,hal,by rw[<-HX3.out];exact HRW.out,by rw[aP];exact HSET.out,HBS.out⟩
     case measure=>exact j1
    have CTA:Hid (∀W,CS 229 #[I J (more:Int),I J ((out.length:Int)+1),H false] W (I J (aU more (out.length+1) false:Int))):=fun W=>by
     have h:=sS (more:Int) ((out.length:Int)+1) false W;rw[pF ⟨om,om⟩,show ((out.length:Int)+1).toNat=out.length+1 by omega]at h;exact h
    have hal:=fI more (out.length+1) false;have hfm:((out.length:Int)== -1)=false:=beq_eq_false_iff_ne.2 om;have hf0:((out.length:Int)==0)=false:=beq_eq_false_iff_ne.2 om;have HFQ:Hid ((out.length==0)=false):=by show _=_;simpa using hfb
    clear hfb;have HRW:Hid (¬1114111<n+dq->jR 0 f' rest (n+dq) (pos+1) (aU more (out.length+1) false) (dF pos (n+dq) out)=kZ (sN s)):=by
     intro hno;have h1:=HRAW.out;rw[if_neg om,HFQ.out]at h1;exact h1
    by_cases hnb:1114111<(n:Int)+(dq:Int)
    .have HDN:Hid (cL (sN s)=none):=by
      have h1:=HRAW.out;rw[if_pos om]at h1;show _=_;unfold cL;rw[<-h1]
     go_wp2_with fail;refine CRD.out.mono ?_;rintro e wx ⟨⟨next,hx1,hx2,hx3,rfl⟩,rfl⟩;have HX3:Hid (rest=((sN s).drop next).map aW):=hx3;clear hx3;go_wp2_with fail;refine (CTA.out _).mono ?_;rintro e wx ⟨rfl,rfl⟩;go_wp2_with fail;go_ret2;exact ⟨bJ HDN.out (HNO.out _ HBL.out) rfl,HB0.out _ HBL.out⟩
    have HRW:Hid (jR 0 f' rest (n+dq) (pos+1) (aU more (out.length+1) false) (dF pos (n+dq) out)=kZ (sN s)):=HRW.out om;go_wp2_with fail;refine CRD.out.mono ?_;rintro e wx ⟨⟨next,hx1,hx2,hx3,rfl⟩,rfl⟩;have HX3:Hid (rest=((sN s).drop next).map aW):=hx3;clear hx3;go_wp2_with fail;refine (CTA.out _).mono ?_;rintro e wx ⟨rfl,rfl⟩;go_wp2_with (at_builtin;refine aB _ rfl _ _ 95 rfl (w.heap.size+1) 3 (I J 0) 8 underlying95 infoI rfl _ _ _ rfl HOW.out #[I J 0] 1 rfl rfl (by intro u hu;simp at hu;subst hu;rfl) om (by unfold maxLen;omega) om ?_);intro v' w1 hown' hb1;have B1:Below (w.heap.size+1) w0 w1:=HBL.out.trans hb1;have O1:w1.ownsRow (w.heap.size+1) 3 1 v' (out.length+1) (icN (out++[0])):=by rw[pG];exact hown'
    clear hown' hb1
    rcases aQ O1 with ⟨hz,_⟩|⟨_,g,cp,rfl⟩
    .omega
    have hDg:=sU O1;go_wp2_with fail
    go_loopw[16] (fun a wi=> ∃(k x:Nat),a=I J k/\pos<=k/\k<=out.length/\wi.ownsRow (w.heap.size+1) 3 1 (.slice (some ⟨g,0,none⟩) (out.length+1) cp) (out.length+1) (icN (out.take k++x::out.drop k))/\Below (w.heap.size+1) w0 wi) (fun a _=>(intOf a).toNat)
    case atStart=>exact ⟨out.length,0,gn,om,za _,by simpa using O1,B1⟩
    clear O1 B1;obtain ⟨k,x,rfl,hk1,hk2,hown,hbel⟩:=hrel
    by_cases hgt:pos<k
    .obtain ⟨k',rfl⟩: ∃j,k=j+1:=⟨k-1,om⟩
     have ca:=jZ hown k' om;rw[vY out k' x om]at ca;have cf:=fQ hown (k'+1);obtain ⟨u,cb⟩:=kT hown (k'+1) om;have hset:=oB hown (k'+1) (I J (out.getD k' 0:Int));rw[oC,iO out (k'+1) x _ om,qN out k' om]at hset;have HSET:Hid ((wr.setCell ⟨g,k'+1,none⟩ (I J (out.getD k' 0:Int))).ownsRow (w.heap.size+1) 3 1 (.slice (some ⟨g,0,none⟩) (out.length+1) cp) (out.length+1) (icN (out.take k'++out.getD k' 0::out.drop k'))):=hset;have HBS:Hid (Below (w.heap.size+1) w0 (wr.setCell ⟨g,k'+1,none⟩ (I J (out.getD k' 0:Int)))):=hbel.setCell hDg _;clear hset hown hbel;generalize hy:out.getD k' 0=y at ca HSET HBS;go_wp2_with fail;go_roundw
     case rel=>exact ⟨k',y,gn,om,om,HSET.out,HBS.out⟩
     case measure=>simp[intOf]
    have hkp2:k=pos:=om;subst hkp2;have cf:=fQ hown k;obtain ⟨u,cb⟩:=kT hown k om;have hset:=oB hown k (I J ((n+dq:Nat):Int));rw[oC,iO out k x _ om]at hset;have hbs:=hbel.setCell hDg (p:=⟨g,k,none⟩) (I J ((n+dq:Nat):Int));rw[show ((n+dq:Nat):Int)=(n:Int)+(dq:Int) by omega]at hset hbs;have HSET:Hid ((wr.setCell ⟨g,k,none⟩ (I J ((n:Int)+(dq:Int)))).ownsRow (w.heap.size+1) 3 1 (.slice (some ⟨g,0,none⟩) (out.length+1) cp) (out.length+1) (icN (out.take k++(n+dq)::out.drop k))):=hset;have HBS:Hid (Below (w.heap.size+1) w0 (wr.setCell ⟨g,k,none⟩ (I J ((n:Int)+(dq:Int))))):=hbs;clear hset hbs hown hbel;go_wp2_with fail;go_roundw
    case rel=>exact ⟨f',next,n+dq,k+1,_,dF k (n+dq) out,rfl,gn,gn,rfl,hx2,om,om,by rw[aP];omega,by rw[aP];omega,hal,by rw[<-HX3.out];exact HRW.out,by rw[aP];exact HSET.out,HBS.out⟩
    case measure=>exact j1
  have HRC:Hid (kZ (sN s)=some out):=by
   show _=_;rw[<-HE.out,LN s q om]
   cases f<;>rfl
  have HDY:Hid ((⟨(b8 (bC out)).toArray⟩:ByteArray)=s->dY out=true->cL (sN s)=some out):=by
   intro h1 h2;unfold cL;rw[HRC.out];exact if_pos ⟨h2,(IR s _ (fun c hc=>by have:=mO c hc;omega)).1 h1⟩
  have HDN:Hid (¬((⟨(b8 (bC out)).toArray⟩:ByteArray)=s/\dY out=true)->cL (sN s)=none):=by
   intro h1;unfold cL;rw[HRC.out];exact if_neg (fun h=>h1 ⟨(IR s _ (fun c hc=>by have:=mO c hc;omega)).2 h.2,h.1⟩)
  rcases aQ HOW.out with ⟨hz,hnil,ao2,cp2,hv⟩|⟨hpos,g,cp2,hv⟩
  .have ho:out=[]:=ze hz
   subst ho;have CE:Hid (CB 189 #[u5] wr (Z #[L ⟨#[]⟩,H true])):=by rw[hv];exact iJ ao2 cp2 wr
   have HDY2:Hid ((⟨#[]⟩:ByteArray)=s->cL (sN s)=some []):=fun h=>HDY.out h rfl
   have HDN2:Hid (¬(⟨#[]⟩:ByteArray)=s->cL (sN s)=none):=fun h=>HDN.out (fun h2=>h h2.1)
   clear hv hnil hu HDY HDN;generalize (⟨#[]⟩:ByteArray)=T at CE HDY2 HDN2
   by_cases hse:T=s
   .have HD:Hid (cL (sN s)=some []):=HDY2.out hse
    clear HDY2 HDN2;subst hse;go_wp2_with fail;refine CE.out.mono ?_;rintro e w2 ⟨rfl,b2⟩;have O2:=aH HOW.out b2;have B2:Below (w.heap.size+1) w0 w2:=HBL.out.trans (b2.mono hszr);go_wp2_with fail;go_ret2;exact ⟨lB HD.out (vZ O2 om) rfl,HB0.out _ B2⟩
   have HD:Hid (cL (sN s)=none):=HDN2.out hse;have hneq:(T.toList==s.toList)=false:=mZ hse;clear HDY2 HDN2;go_wp2_with fail;refine CE.out.mono ?_;rintro e w2 ⟨rfl,b2⟩;have B2:Below (w.heap.size+1) w0 w2:=HBL.out.trans (b2.mono hszr);go_wp2_with fail;go_ret2;exact ⟨bJ HD.out (HNO.out _ B2) rfl,HB0.out _ B2⟩
  cases hok:dY out with
  |true=>
   have CE:Hid (CB 189 #[u5] wr (Z #[L ⟨(b8 (bC out)).toArray⟩,H true])):=by
    have h1:=HOW.out;rw[hv]at h1⊢;exact iI out _ g cp2 _ wr hok rfl h1
   have HDY2:Hid ((⟨(b8 (bC out)).toArray⟩:ByteArray)=s->cL (sN s)=some out):=fun h=>HDY.out h hok
   have HDN2:Hid (¬(⟨(b8 (bC out)).toArray⟩:ByteArray)=s->cL (sN s)=none):=fun h=>HDN.out (fun h2=>h h2.1)
   clear hv hu HDY HDN;generalize (⟨(b8 (bC out)).toArray⟩:ByteArray)=T at CE HDY2 HDN2
   by_cases hse:T=s
   .have HD:Hid (cL (sN s)=some out):=HDY2.out hse
    clear HDY2 HDN2;subst hse;go_wp2_with fail;refine CE.out.mono ?_;rintro e w2 ⟨rfl,b2⟩;have O2:=aH HOW.out b2;have B2:Below (w.heap.size+1) w0 w2:=HBL.out.trans (b2.mono hszr);go_wp2_with fail;go_ret2;exact ⟨lB HD.out (vZ O2 om) rfl,HB0.out _ B2⟩
   have HD:Hid (cL (sN s)=none):=HDN2.out hse;have hneq:(T.toList==s.toList)=false:=mZ hse;clear HDY2 HDN2;go_wp2_with fail;refine CE.out.mono ?_;rintro e w2 ⟨rfl,b2⟩;have B2:Below (w.heap.size+1) w0 w2:=HBL.out.trans (b2.mono hszr);go_wp2_with fail;go_ret2;exact ⟨bJ HD.out (HNO.out _ B2) rfl,HB0.out _ B2⟩
  |false=>
   have HD:Hid (cL (sN s)=none):=HDN.out (fun h2=>by rw[hok]at h2;cases h2.2);have CE:Hid (CB 189 #[u5] wr (Z #[L ⟨#[]⟩,H false])):=by
    have h1:=HOW.out;rw[hv]at h1⊢;exact jD (out.map fun (c:Nat)=>(c:Int)) _ g cp2 _ wr (fun h=>by rw[AS.2 h]at hok;cases hok) j2 om h1
   clear hv hu HDY HDN hok;go_wp2_with fail;refine CE.out.mono ?_;rintro e w2 ⟨rfl,b2⟩;have B2:Below (w.heap.size+1) w0 w2:=HBL.out.trans (b2.mono hszr);go_wp2_with fail;go_ret2;exact ⟨bJ HD.out (HNO.out _ B2) rfl,HB0.out _ B2⟩
 have hk0i:(k0:Int)<(s.size:Int):=om;have HST:Hid (jR k0 s.size (((sN s).drop (k0+1)).map aW) 128 0 72 ((sN s).take k0)=kZ (sN s)):=by
  show _=_;unfold kZ headD vV;rw[hsp];simp only;rw[zc,bM,Nat.min_eq_left om]
 have HO0:Hid ((w0.alloc (Y #[] 3)).ownsRow (w.heap.size+1) 3 1 (.slice (some ⟨w0.heap.size,0,none⟩) 0 0) ([]:List Nat).length (icN [])):=zh w0 #[] 0 (by rw[HZ.out];exact za _) de rfl;have HBB:Hid (Below (w.heap.size+1) w0 (w0.alloc (Y #[] 3))):=(zm _ _).alloc (by rw[HZ.out];exact za _) _;clear hsp hw0;go_wp2_with fail
 go_loopw[5,7] (fun v i wr=> ∃j:Nat,j<=k0/\i=I J j/\wr.ownsRow (w.heap.size+1) 3 1 v j (icN ((sN s).take j))/\Below (w.heap.size+1) w0 wr) (fun _ i _=>k0-(intOf i).toNat)
 case atStart=>exact ⟨0,Nat.zero_le _,rfl,HO0.out,HBB.out⟩
 clear HO0 HBB;obtain ⟨j,hj,rfl,hown,hbel⟩:=hrel;have hsz0:w.heap.size+1<=wr.heap.size:=by have:=hbel.size;have:=HZ.out;omega
 by_cases hlt0:j<k0
 .have hjs:j<s.size:=om
  obtain ⟨d,hd⟩: ∃d:Nat,s[j].toNat=d:=⟨_,rfl⟩;have hd1:(d:Int)<=255:=by have:=s[j].toNat_lt;omega
  have HS:Hid ((sN s).take (j+1)=(sN s).take j++[d]):=by
   show _=_;rw[zd (by rw[bM];exact hjs)]
   congr 2
   unfold sN;rw[List.getElem_map];exact hd
  go_wp2_with (at_builtin;refine aB _ rfl _ _ 95 rfl (w.heap.size+1) 3 (I J 0) 8 underlying95 infoI rfl _ _ _ rfl hown #[I J (d:Int)] 1 rfl rfl (by intro u hu;simp at hu;subst hu;rfl) om (by unfold maxLen;omega) om ?_);intro v' w1 hown' hb1;have R:w1.ownsRow (w.heap.size+1) 3 1 v' (j+1) (icN ((sN s).take (j+1))):=by rw[HS.out,pG];exact hown'
  have B1:Below (w.heap.size+1) w0 w1:=hbel.trans hb1;clear hown' hb1 hown hbel;go_wp2_with fail;go_roundw
  case rel=>exact ⟨j+1,om,gn,R,B1⟩
  case measure=>exact j1
 have hjk:j=k0:=om;subst hjk;have HO1:Hid (wr.ownsRow (w.heap.size+1) 3 1 u5 ((sN s).take j).length (icN ((sN s).take j))):=by
  show World.ownsRow _ _ _ _ _ _ _;rw[show ((sN s).take j).length=j by rw[zc,bM];omega];exact hown
 have HB1:Hid (Below (w.heap.size+1) w0 wr):=hbel;have hl1:((sN s).take j).length<=600:=by rw[zc,bM];omega
 clear hown hbel hsz0;generalize (sN s).take j=out1 at HO1 HST hl1;go_wp2_with fail
 go_loopw[5,8,9,10,11] (fun v a b c e wr=> ∃(f q n i bi:Nat) (out:List Nat),a=I J q/\b=I J n/\c=I J i/\e=I J bi/\q<=s.size/\s.size<=q+f/\n<=1114111/\i<=out.length/\out.length<=700/\bi<=2400/\jR j f (((sN s).drop q).map aW) n i bi out=kZ (sN s)/\wr.ownsRow (w.heap.size+1) 3 1 v out.length (icN out)/\Below (w.heap.size+1) w0 wr)
  (fun _ a _ _ _ _=>s.size-(intOf a).toNat)
 case atStart=>exact ⟨s.size,j+1,128,0,72,out1,gn,rfl,rfl,rfl,om,om,om,by first|omega|simp,by first|omega|simp,om,HST.out,HO1.out,HB1.out⟩
 clear HO1 HB1 HST;obtain ⟨f,q,n,i,bi,out,rfl,rfl,rfl,rfl,hq,hf,hn,hi,hol,hbi,he,hown,hbel⟩:=hrel;have HOW:Hid (wr.ownsRow (w.heap.size+1) 3 1 u5 out.length (icN out)):=hown;have HBL:Hid (Below (w.heap.size+1) w0 wr):=hbel;have hszr:w.heap.size+1<=wr.heap.size:=by have:=hbel.size;have:=HZ.out;omega
 have HE:Hid (jR j f (((sN s).drop q).map aW) n i bi out=kZ (sN s)):=he;obtain ⟨ao,cp0,hu⟩:=gR hown;clear hown hbel he
 by_cases hlt:q<s.size
 .subst hu
  obtain ⟨f',rfl⟩: ∃j,f=j+1:=⟨f-1,om⟩;have crd:=OY s q bi wr hs600 hq om
  cases hrd:dA bi 36 0 1 (((sN s).drop q).map aW)with
  |none=>
   have HDN:Hid (cL (sN s)=none):=by
    have h1:=HE.out;rw[oA s q hlt,zi]at h1 hrd;rw[jR,hrd]at h1;show _=_;unfold cL;rw[<-h1]
   have CRD:Hid (CS 257 #[L s,I J (q:Int),I J (bi:Int)] wr (Z #[I J 0,I J 0,H false])):=crd.mono fun e w' ⟨h1,h2⟩=>⟨by unfold lX at h1;rw[hrd]at h1;exact h1,h2⟩
   clear crd hrd;go_wp2_with fail;refine CRD.out.mono ?_;rintro e wx ⟨rfl,rfl⟩;go_wp2_with fail;go_ret2;exact ⟨bJ HDN.out (HNO.out _ HBL.out) rfl,HB0.out _ HBL.out⟩
  |some mr=>
   obtain ⟨more,rest⟩:=mr;have hmore:=DN bi _ _ _ _ _ _ hrd;have CRD:Hid (Calls prog 257 #[L s,I J (q:Int),I J (bi:Int)] wr fun e w'=>(∃next:Nat,q<next/\next<=s.size/\rest=((sN s).drop next).map aW/\e=.returned (Z #[I J (more:Int),I J (next:Int),H true]))/\wr=w'):=crd.mono fun e w' ⟨h1,h2⟩=>⟨by unfold lX at h1;rw[hrd]at h1;exact h1,h2⟩
   have hc3:((out.length+1:Nat):Int)=(out.length:Int)+1:=om;have hdq1:(i+more)/(out.length+1)<=i+more:=Nat.div_le_self _ _;have hps1:(i+more)%(out.length+1)<out.length+1:=Nat.mod_lt _ om;have hQ:((i:Int)+(more:Int))/((out.length:Int)+1)=(((i+more)/(out.length+1):Nat):Int):=by norm_cast
   have hM:((i:Int)+(more:Int))%((out.length:Int)+1)=(((i+more)%(out.length+1):Nat):Int):=by norm_cast
   have HRAW:Hid ((if 60<out.length+1∨1114111<n+(i+more)/(out.length+1)then none else jR j f' rest (n+(i+more)/(out.length+1)) ((i+more)%(out.length+1)+1) (aU more (out.length+1) (out.length==j)) (dF ((i+more)%(out.length+1)) (n+(i+more)/(out.length+1)) out))=kZ (sN s)):=by
    have h1:=HE.out;rw[oA s q hlt,zi]at h1 hrd;rw[jR,hrd]at h1;exact h1
   clear crd hrd hc3;generalize (i+more)/(out.length+1)=dq at hQ HRAW hdq1;generalize (i+more)%(out.length+1)=pos at hM HRAW hps1;have hnz: ¬(out.length:Int)+1=0:=om
   by_cases h60:60<(out.length:Int)+1
   .have HDN:Hid (cL (sN s)=none):=by
     have h1:=HRAW.out;rw[if_pos om]at h1;show _=_;unfold cL;rw[<-h1]
    clear HRAW;go_wp2_with fail;refine CRD.out.mono ?_;rintro e wx ⟨⟨next,hx1,hx2,hx3,rfl⟩,rfl⟩;clear hx3;go_wp2_with fail;go_ret2;exact ⟨bJ HDN.out (HNO.out _ HBL.out) rfl,HB0.out _ HBL.out⟩
   by_cases hfb:out.length=j
   .have CTA:Hid (∀W,CS 229 #[I J (more:Int),I J ((out.length:Int)+1),H true] W (I J (aU more (out.length+1) true:Int))):=fun W=>by
     have h:=sS (more:Int) ((out.length:Int)+1) true W;rw[pF ⟨om,om⟩,show ((out.length:Int)+1).toNat=out.length+1 by omega]at h;exact h
    have hal:=fI more (out.length+1) true;have hf0:((out.length:Int)==(j:Int))=true:=beq_iff_eq.2 om;have HFQ:Hid ((out.length==j)=true):=by show _=_;simpa using hfb
    clear hfb;have HRW:Hid (¬1114111<n+dq->jR j f' rest (n+dq) (pos+1) (aU more (out.length+1) true) (dF pos (n+dq) out)=kZ (sN s)):=by
     intro hno;have h1:=HRAW.out;rw[if_neg om,HFQ.out]at h1;exact h1
    by_cases hnb:1114111<(n:Int)+(dq:Int)
    .have HDN:Hid (cL (sN s)=none):=by
      have h1:=HRAW.out;rw[if_pos om]at h1;show _=_;unfold cL;rw[<-h1]
     go_wp2_with fail;refine CRD.out.mono ?_;rintro e wx ⟨⟨next,hx1,hx2,hx3,rfl⟩,rfl⟩;have HX3:Hid (rest=((sN s).drop next).map aW):=hx3;clear hx3;go_wp2_with fail;refine (CTA.out _).mono ?_;rintro e wx ⟨rfl,rfl⟩;go_wp2_with fail;go_ret2;exact ⟨bJ HDN.out (HNO.out _ HBL.out) rfl,HB0.out _ HBL.out⟩
    have HRW:Hid (jR j f' rest (n+dq) (pos+1) (aU more (out.length+1) true) (dF pos (n+dq) out)=kZ (sN s)):=HRW.out om;go_wp2_with fail;refine CRD.out.mono ?_;rintro e wx ⟨⟨next,hx1,hx2,hx3,rfl⟩,rfl⟩;have HX3:Hid (rest=((sN s).drop next).map aW):=hx3;clear hx3;go_wp2_with fail;refine (CTA.out _).mono ?_;rintro e wx ⟨rfl,rfl⟩;go_wp2_with (at_builtin;refine aB _ rfl _ _ 95 rfl (w.heap.size+1) 3 (I J 0) 8 underlying95 infoI rfl _ _ _ rfl HOW.out #[I J 0] 1 rfl rfl (by intro u hu;simp at hu;subst hu;rfl) om (by unfold maxLen;omega) om ?_);intro v' w1 hown' hb1;have B1:Below (w.heap.size+1) w0 w1:=HBL.out.trans hb1;have O1:w1.ownsRow (w.heap.size+1) 3 1 v' (out.length+1) (icN (out++[0])):=by rw[pG];exact hown'
    clear hown' hb1
    rcases aQ O1 with ⟨hz,_⟩|⟨_,g,cp,rfl⟩
    .omega
    have hDg:=sU O1;go_wp2_with fail
    go_loopw[16] (fun a wi=> ∃(k x:Nat),a=I J k/\pos<=k/\k<=out.length/\wi.ownsRow (w.heap.size+1) 3 1 (.slice (some ⟨g,0,none⟩) (out.length+1) cp) (out.length+1) (icN (out.take k++x::out.drop k))/\Below (w.heap.size+1) w0 wi) (fun a _=>(intOf a).toNat)
    case atStart=>exact ⟨out.length,0,gn,om,za _,by simpa using O1,B1⟩
    clear O1 B1;obtain ⟨k,x,rfl,hk1,hk2,hown,hbel⟩:=hrel
    by_cases hgt:pos<k
    .obtain ⟨k',rfl⟩: ∃j,k=j+1:=⟨k-1,om⟩
     have ca:=jZ hown k' om;rw[vY out k' x om]at ca;have cf:=fQ hown (k'+1);obtain ⟨u,cb⟩:=kT hown (k'+1) om;have hset:=oB hown (k'+1) (I J (out.getD k' 0:Int));rw[oC,iO out (k'+1) x _ om,qN out k' om]at hset;have HSET:Hid ((wr.setCell ⟨g,k'+1,none⟩ (I J (out.getD k' 0:Int))).ownsRow (w.heap.size+1) 3 1 (.slice (some ⟨g,0,none⟩) (out.length+1) cp) (out.length+1) (icN (out.take k'++out.getD k' 0::out.drop k'))):=hset;have HBS:Hid (Below (w.heap.size+1) w0 (wr.setCell ⟨g,k'+1,none⟩ (I J (out.getD k' 0:Int)))):=hbel.setCell hDg _;clear hset hown hbel;generalize hy:out.getD k' 0=y at ca HSET HBS;go_wp2_with fail;go_roundw
     case rel=>exact ⟨k',y,gn,om,om,HSET.out,HBS.out⟩
     case measure=>simp[intOf]
    have hkp2:k=pos:=om;subst hkp2;have cf:=fQ hown k;obtain ⟨u,cb⟩:=kT hown k om;have hset:=oB hown k (I J ((n+dq:Nat):Int));rw[oC,iO out k x _ om]at hset;have hbs:=hbel.setCell hDg (p:=⟨g,k,none⟩) (I J ((n+dq:Nat):Int));rw[show ((n+dq:Nat):Int)=(n:Int)+(dq:Int) by omega]at hset hbs;have HSET:Hid ((wr.setCell ⟨g,k,none⟩ (I J ((n:Int)+(dq:Int)))).ownsRow (w.heap.size+1) 3 1 (.slice (some ⟨g,0,none⟩) (out.length+1) cp) (out.length+1) (icN (out.take k++(n+dq)::out.drop k))):=hset;have HBS:Hid (Below (w.heap.size+1) w0 (wr.setCell ⟨g,k,none⟩ (I J ((n:Int)+(dq:Int))))):=hbs;clear hset hbs hown hbel;go_wp2_with fail;go_roundw
    case rel=>exact ⟨f',next,n+dq,k+1,_,dF k (n+dq) out,rfl,gn,gn,rfl,hx2,om,om,by rw[aP];omega,by rw[aP];omega,hal,by rw[<-HX3.out];exact HRW.out,by rw[aP];exact HSET.out,HBS.out⟩
    case measure=>exact j1
   have CTA:Hid (∀W,CS 229 #[I J (more:Int),I J ((out.length:Int)+1),H false] W (I J (aU more (out.length+1) false:Int))):=fun W=>by
    have h:=sS (more:Int) ((out.length:Int)+1) false W;rw[pF ⟨om,om⟩,show ((out.length:Int)+1).toNat=out.length+1 by omega]at h;exact h
   have hal:=fI more (out.length+1) false;have hf0:((out.length:Int)==(j:Int))=false:=beq_eq_false_iff_ne.2 om;have hkp: ¬(j:Int)<0:=om;have HFQ:Hid ((out.length==j)=false):=by show _=_;simpa using hfb
   clear hfb;have HRW:Hid (¬1114111<n+dq->jR j f' rest (n+dq) (pos+1) (aU more (out.length+1) false) (dF pos (n+dq) out)=kZ (sN s)):=by
    intro hno;have h1:=HRAW.out;rw[if_neg om,HFQ.out]at h1;exact h1
   by_cases hnb:1114111<(n:Int)+(dq:Int)
   .have HDN:Hid (cL (sN s)=none):=by
     have h1:=HRAW.out;rw[if_pos om]at h1;show _=_;unfold cL;rw[<-h1]
    go_wp2_with fail;refine CRD.out.mono ?_;rintro e wx ⟨⟨next,hx1,hx2,hx3,rfl⟩,rfl⟩;have HX3:Hid (rest=((sN s).drop next).map aW):=hx3;clear hx3;go_wp2_with fail;refine (CTA.out _).mono ?_;rintro e wx ⟨rfl,rfl⟩;go_wp2_with fail;go_ret2;exact ⟨bJ HDN.out (HNO.out _ HBL.out) rfl,HB0.out _ HBL.out⟩
   have HRW:Hid (jR j f' rest (n+dq) (pos+1) (aU more (out.length+1) false) (dF pos (n+dq) out)=kZ (sN s)):=HRW.out om;go_wp2_with fail;refine CRD.out.mono ?_;rintro e wx ⟨⟨next,hx1,hx2,hx3,rfl⟩,rfl⟩;have HX3:Hid (rest=((sN s).drop next).map aW):=hx3;clear hx3;go_wp2_with fail;refine (CTA.out _).mono ?_;rintro e wx ⟨rfl,rfl⟩;go_wp2_with (at_builtin;refine aB _ rfl _ _ 95 rfl (w.heap.size+1) 3 (I J 0) 8 underlying95 infoI rfl _ _ _ rfl HOW.out #[I J 0] 1 rfl rfl (by intro u hu;simp at hu;subst hu;rfl) om (by unfold maxLen;omega) om ?_);intro v' w1 hown' hb1;have B1:Below (w.heap.size+1) w0 w1:=HBL.out.trans hb1;have O1:w1.ownsRow (w.heap.size+1) 3 1 v' (out.length+1) (icN (out++[0])):=by rw[pG];exact hown'
   clear hown' hb1
   rcases aQ O1 with ⟨hz,_⟩|⟨_,g,cp,rfl⟩
   .omega
   have hDg:=sU O1;go_wp2_with fail
   go_loopw[16] (fun a wi=> ∃(k x:Nat),a=I J k/\pos<=k/\k<=out.length/\wi.ownsRow (w.heap.size+1) 3 1 (.slice (some ⟨g,0,none⟩) (out.length+1) cp) (out.length+1) (icN (out.take k++x::out.drop k))/\Below (w.heap.size+1) w0 wi) (fun a _=>(intOf a).toNat)
   case atStart=>exact ⟨out.length,0,gn,om,za _,by simpa using O1,B1⟩
   clear O1 B1;obtain ⟨k,x,rfl,hk1,hk2,hown,hbel⟩:=hrel
   by_cases hgt:pos<k
   .obtain ⟨k',rfl⟩: ∃j,k=j+1:=⟨k-1,om⟩
    have ca:=jZ hown k' om;rw[vY out k' x om]at ca;have cf:=fQ hown (k'+1);obtain ⟨u,cb⟩:=kT hown (k'+1) om;have hset:=oB hown (k'+1) (I J (out.getD k' 0:Int));rw[oC,iO out (k'+1) x _ om,qN out k' om]at hset;have HSET:Hid ((wr.setCell ⟨g,k'+1,none⟩ (I J (out.getD k' 0:Int))).ownsRow (w.heap.size+1) 3 1 (.slice (some ⟨g,0,none⟩) (out.length+1) cp) (out.length+1) (icN (out.take k'++out.getD k' 0::out.drop k'))):=hset;have HBS:Hid (Below (w.heap.size+1) w0 (wr.setCell ⟨g,k'+1,none⟩ (I J (out.getD k' 0:Int)))):=hbel.setCell hDg _;clear hset hown hbel;generalize hy:out.getD k' 0=y at ca HSET HBS;go_wp2_with fail;go_roundw
    case rel=>exact ⟨k',y,gn,om,om,HSET.out,HBS.out⟩
    case measure=>simp[intOf]
   have hkp2:k=pos:=om;subst hkp2;have cf:=fQ hown k;obtain ⟨u,cb⟩:=kT hown k om;have hset:=oB hown k (I J ((n+dq:Nat):Int));rw[oC,iO out k x _ om]at hset;have hbs:=hbel.setCell hDg (p:=⟨g,k,none⟩) (I J ((n+dq:Nat):Int));rw[show ((n+dq:Nat):Int)=(n:Int)+(dq:Int) by omega]at hset hbs;have HSET:Hid ((wr.setCell ⟨g,k,none⟩ (I J ((n:Int)+(dq:Int)))).ownsRow (w.heap.size+1) 3 1 (.slice (some ⟨g,0,none⟩) (out.length+1) cp) (out.length+1) (icN (out.take k++(n+dq)::out.drop k))):=hset;have HBS:Hid (Below (w.heap.size+1) w0 (wr.setCell ⟨g,k,none⟩ (I J ((n:Int)+(dq:Int))))):=hbs;clear hset hbs hown hbel;go_wp2_with fail;go_roundw
   case rel=>exact ⟨f',next,n+dq,k+1,_,dF k (n+dq) out,rfl,gn,gn,rfl,hx2,om,om,by rw[aP];omega,by rw[aP];omega,hal,by rw[<-HX3.out];exact HRW.out,by rw[aP];exact HSET.out,HBS.out⟩
   case measure=>exact j1
 have HRC:Hid (kZ (sN s)=some out):=by
  show _=_;rw[<-HE.out,LN s q om]
  cases f<;>rfl
 have HDY:Hid ((⟨(b8 (bC out)).toArray⟩:ByteArray)=s->dY out=true->cL (sN s)=some out):=by
  intro h1 h2;unfold cL;rw[HRC.out];exact if_pos ⟨h2,(IR s _ (fun c hc=>by have:=mO c hc;omega)).1 h1⟩
 have HDN:Hid (¬((⟨(b8 (bC out)).toArray⟩:ByteArray)=s/\dY out=true)->cL (sN s)=none):=by
  intro h1;unfold cL;rw[HRC.out];exact if_neg (fun h=>h1 ⟨(IR s _ (fun c hc=>by have:=mO c hc;omega)).2 h.2,h.1⟩)
 rcases aQ HOW.out with ⟨hz,hnil,ao2,cp2,hv⟩|⟨hpos,g,cp2,hv⟩
 .have ho:out=[]:=ze hz
  subst ho;have CE:Hid (CB 189 #[u5] wr (Z #[L ⟨#[]⟩,H true])):=by rw[hv];exact iJ ao2 cp2 wr
  have HDY2:Hid ((⟨#[]⟩:ByteArray)=s->cL (sN s)=some []):=fun h=>HDY.out h rfl
  have HDN2:Hid (¬(⟨#[]⟩:ByteArray)=s->cL (sN s)=none):=fun h=>HDN.out (fun h2=>h h2.1)
  clear hv hnil hu HDY HDN;generalize (⟨#[]⟩:ByteArray)=T at CE HDY2 HDN2
  by_cases hse:T=s
  .have HD:Hid (cL (sN s)=some []):=HDY2.out hse
   clear HDY2 HDN2;subst hse;go_wp2_with fail;refine CE.out.mono ?_;rintro e w2 ⟨rfl,b2⟩;have O2:=aH HOW.out b2;have B2:Below (w.heap.size+1) w0 w2:=HBL.out.trans (b2.mono hszr);go_wp2_with fail;go_ret2;exact ⟨lB HD.out (vZ O2 om) rfl,HB0.out _ B2⟩
  have HD:Hid (cL (sN s)=none):=HDN2.out hse;have hneq:(T.toList==s.toList)=false:=mZ hse;clear HDY2 HDN2;go_wp2_with fail;refine CE.out.mono ?_;rintro e w2 ⟨rfl,b2⟩;have B2:Below (w.heap.size+1) w0 w2:=HBL.out.trans (b2.mono hszr);go_wp2_with fail;go_ret2;exact ⟨bJ HD.out (HNO.out _ B2) rfl,HB0.out _ B2⟩
 cases hok:dY out with
 |true=>
  have CE:Hid (CB 189 #[u5] wr (Z #[L ⟨(b8 (bC out)).toArray⟩,H true])):=by
   have h1:=HOW.out;rw[hv]at h1⊢;exact iI out _ g cp2 _ wr hok rfl h1
  have HDY2:Hid ((⟨(b8 (bC out)).toArray⟩:ByteArray)=s->cL (sN s)=some out):=fun h=>HDY.out h hok
  have HDN2:Hid (¬(⟨(b8 (bC out)).toArray⟩:ByteArray)=s->cL (sN s)=none):=fun h=>HDN.out (fun h2=>h h2.1)
  clear hv hu HDY HDN;generalize (⟨(b8 (bC out)).toArray⟩:ByteArray)=T at CE HDY2 HDN2
  by_cases hse:T=s
  .have HD:Hid (cL (sN s)=some out):=HDY2.out hse
   clear HDY2 HDN2;subst hse;go_wp2_with fail;refine CE.out.mono ?_;rintro e w2 ⟨rfl,b2⟩;have O2:=aH HOW.out b2;have B2:Below (w.heap.size+1) w0 w2:=HBL.out.trans (b2.mono hszr);go_wp2_with fail;go_ret2;exact ⟨lB HD.out (vZ O2 om) rfl,HB0.out _ B2⟩
  have HD:Hid (cL (sN s)=none):=HDN2.out hse;have hneq:(T.toList==s.toList)=false:=mZ hse;clear HDY2 HDN2;go_wp2_with fail;refine CE.out.mono ?_;rintro e w2 ⟨rfl,b2⟩;have B2:Below (w.heap.size+1) w0 w2:=HBL.out.trans (b2.mono hszr);go_wp2_with fail;go_ret2;exact ⟨bJ HD.out (HNO.out _ B2) rfl,HB0.out _ B2⟩
 |false=>
  have HD:Hid (cL (sN s)=none):=HDN.out (fun h2=>by rw[hok]at h2;cases h2.2);have CE:Hid (CB 189 #[u5] wr (Z #[L ⟨#[]⟩,H false])):=by
   have h1:=HOW.out;rw[hv]at h1⊢;exact jD (out.map fun (c:Nat)=>(c:Int)) _ g cp2 _ wr (fun h=>by rw[AS.2 h]at hok;cases hok) j2 om h1
  clear hv hu HDY HDN hok;go_wp2_with fail;refine CE.out.mono ?_;rintro e w2 ⟨rfl,b2⟩;have B2:Below (w.heap.size+1) w0 w2:=HBL.out.trans (b2.mono hszr);go_wp2_with fail;go_ret2;exact ⟨bJ HD.out (HNO.out _ B2) rfl,HB0.out _ B2⟩
end
section
theorem IS(bias:Nat): ∀(F f k q:Nat),q<10^f->(cY F k bias q).length<=f+1
 |0,f,k,q,_=>by simp[cY]
 |F+1,f,k,q,h=>by
  obtain ⟨l1,l2⟩:=qI k bias;rw[cY];split
  .simp
  next hq=>
  cases f with
  |zero=>simp at h;omega
  |succ f=>
   have h1:(q-bF k bias)/(36-bF k bias)<10^f:=by
    rw[Nat.div_lt_iff_lt_mul om];have h2:10^f*10<=10^f*(36-bF k bias):=Nat.mul_le_mul_left _ om;rw[Nat.pow_succ]at h;omega
   have:=IS bias F f (k+36) _ h1
   rw[zk];omega
theorem DP(basic:Nat): ∀(ds:List Nat) (h bias:Nat),(∀d∈ds,d<=67960831)->(bT basic h bias ds).length<=9*ds.length
 |[],_,_,_=>by simp[bT]
 |d::ds,h,bias,hd=>by
  have h1:=DP basic ds (h+1) (aU d (h+1) (h==basic)) (fun x hx=>hd x (List.mem_cons_of_mem _ hx));have h2:=IS bias 28 8 36 d (by have:=hd d (List.mem_cons_self ..);have:(10:Nat)^8=100000000:=de;omega);show (cY 28 36 bias d++bT basic (h+1) (aU d (h+1) (h==basic)) ds).length<=9*(d::ds).length;rw[zg,zk];omega
theorem wA{l:List Nat}(h:dY l=true):(bC l).length<=600:=by
 obtain ⟨h1,h2⟩:=bI h;have h3:=yD l h2 l.length 128 0;have h4:=DP (l.filter (· <128)).length (dN l l.length 128 0 (l.filter (· <128)).length) (l.filter (· <128)).length 72 (N9 l h1 h2 _ _ _ om);have h5:=List.length_filter_le (fun x=>decide (x<128)) l;unfold bC rS;rw[zg,zg,zl];have h6:(if 0<(l.filter (· <128)).length then [45]else []).length<=1:=by split<;>simp
 have h7:(l.filter (· <128)).length=0->(if 0<(l.filter (· <128)).length then [45]else []).length=0:=fun h=>by rw[if_neg om];rfl
 omega
