/- PunyDecWalk, PunyLen, LabPlain, NamePlain. -/
import Derived.Test.YtgcbaphbiaimoaaGreatDoorQB06
set_option maxHeartbeats 16000000
set_option maxRecDepth 20000
namespace Go.Proofs.YtgcbaphbiaimoaaGreatDoor
open Go.Value renaming int->I,string->L,tuple->H,bool->G
open Go.IntKind renaming i64->J
open Go.Ending renaming returned->Y
open Go.Obj renaming cells->Z
open _root_.Go.RowKit.Below renaming refl->zu
open _root_.Bool renaming and_eq_true->zg,eq_false_iff->zf,or_eq_true->zs
open _root_.Int renaming toNat->zv
open _root_.List renaming all_eq_true->zh,append_nil->zt,eq_nil_of_length_eq_zero->zc,getD_eq_getElem?_getD->zj,getElem?_eq_getElem->zn,length_append->zk,length_cons->zq,length_map->zo,length_take->zd,map_congr_left->zi,map_cons->zm,map_id->zr,take_succ_eq_append_getElem->ze
open _root_.Nat renaming le_refl->za
open _root_.UInt8 renaming toNat_inj->zp
open _root_.Go.World renaming ownsRow_lit->zl
open _root_.Go.Proofs.Tryz
open _root_.Go.Proofs.YtgcbaphbiaimoaaGreatDoor.Tryz
section
open Go.RowKit
theorem oZ{w:World}{B:Nat}{e:TypeId}{g n cap:Nat}{xs:List Value}(h:w.ownsRow B e 1 (.slice (some ⟨g,0,none⟩) n cap) n xs)(k:Nat)(u:Value):
  (w.setCell ⟨g,k,none⟩ u).ownsRow B e 1 (.slice (some ⟨g,0,none⟩) n cap) n (xs.set k u):=by
 have hl:=h.1;refine ⟨by simpa using hl,?_⟩
 rcases h.2 with ⟨h0,_⟩|⟨g',cap',cur,hv,hb,hg,hnc,hcm,hcs,htake⟩
 .cases h0
 injection hv with h1 h2 h3;injection h1 with h1;injection h1 with h1;subst h1 h3;refine .inr ⟨g,cap,cur.setIfInBounds k u,rfl,hb,heap_setCell_same w g k cur e u hg,hnc,hcm,by simpa using hcs,?_⟩;simp only[Nat.mul_one]at htake⊢;rw[<-htake,Array.toList_setIfInBounds,List.take_set]
theorem gP{w:World}{B:Nat}{e:TypeId}{g n cap:Nat}{xs:List Value}(h:w.ownsRow B e 1 (.slice (some ⟨g,0,none⟩) n cap) n xs)(k:Nat):w.frozen? ⟨g,k,none⟩=false:=by
 rcases h.2 with ⟨h0,_⟩|⟨g',cap',cur,hv,hb,hg,_⟩
 .cases h0
 injection hv with h1 h2 h3;injection h1 with h1;injection h1 with h1;subst h1;exact frozen_of_row w g k cur e hg
theorem uA{w:World}{B:Nat}{e:TypeId}{g n cap:Nat}{xs:List Value}(h:w.ownsRow B e 1 (.slice (some ⟨g,0,none⟩) n cap) n xs):B<=g:=by
 rcases h.2 with ⟨h0,_⟩|⟨g',cap',cur,hv,hb,_⟩
 .cases h0
 injection hv with h1 h2 h3;injection h1 with h1;injection h1 with h1;subst h1;exact hb
theorem pA(l:List Nat)(k y:Nat):(icN l).set k (I J (y:Int))=icN (l.set k y):=by
 unfold icN aO;rw[List.map_set,List.map_set]
theorem qG(l:List Nat)(y:Nat):icN (l++[y])=icN l++[Value.int .i64 (y:Int)]:=by simp[icN,aO]
theorem jX(a:List Nat)(k x y:Nat)(hk:k<=a.length):(a.take k++x::a.drop k).set k y=a.take k++y::a.drop k:=by
 have hl:(a.take k).length=k:=by rw[zd];omega
 rw[List.set_append_right _ _ om,hl,Nat.sub_self];rfl
theorem rQ(a:List Nat)(k:Nat)(hk:k<a.length):a.take (k+1)++a.getD k 0::a.drop (k+1)=a.take k++a.getD k 0::a.drop k:=by
 have e:a.take (k+1)=a.take k++[a.getD k 0]:=by
  rw[ze hk];simp[List.getD,hk]
 rw[e,oB a k hk];simp
theorem xR(a:List Nat)(k x:Nat)(hk:k<a.length):(a.take (k+1)++x::a.drop (k+1)).getD k 0=a.getD k 0:=by
 have hl:k<(a.take (k+1)).length:=by rw[zd];omega
 rw[zj,List.getElem?_append_left hl,List.getElem?_take,if_pos om,zj]
theorem FP(bias:Nat): ∀(ds:List Nat) (k i w m:Nat) (r:List Nat),dM bias k i w ds=some (m,r)->m<=39582418599936
 |[],_,_,_,_,_,h=>by simp[dM]at h
 |d::ds,k,i,w,m,r,h=>by
  unfold dM at h;split at h
  .cases h
  next hc=>
  split at h
  .next hd=>
   injection h with h;injection h with h1 h2
   have:d*w<=35*w:=Nat.mul_le_mul_right w om
   omega
  exact FP bias ds _ _ _ m r h
theorem DW{l:List Nat}:eU l=true↔FM (l.map fun (c:Nat)=>(c:Int)):=by
 unfold FM;simp only[eU,zg,decide_eq_true_eq,zh,zo,List.mem_map];refine and_congr_right fun _=>⟨?_,?_⟩
 .rintro h z ⟨c,hc,rfl⟩
  exact xQ (h c hc)
 intro h c hc
 have:=h _ ⟨c,hc,rfl⟩
 unfold dU at this;simp[KZ];omega
def lD(w w':World)(r:Option (List Nat))(e:Ending):Prop:=
 match r with
 |some l=> ∃v,e=Y (H #[v,G true])/\w'.ownsRow w.heap.size 3 1 v l.length (icN l)
 |none=> ∃v,e=Y (H #[v,G false])/\w'.ownsRow w.heap.size 3 1 v 0 []
theorem LI(s:ByteArray)(l:List Nat)(h: ∀c∈l,c<256):(⟨(b8 l).toArray⟩:ByteArray)=s↔l=sN s:=by
 constructor
 .rintro rfl
  unfold sN b8;simp only[List.map_map];refine (zr l).symm.trans (zi fun c hc=> ?_)
  have:=h c hc
  simp;omega
 rintro rfl;apply ByteArray.ext;apply Array.ext';unfold b8 sN;simp only[List.map_map];exact (zi (g:=id) fun c _=>by simp).trans (zr _)
theorem bV{w w':World}{r:Option (List Nat)}{e:Ending}{v:Value}(h:r=none)(ho:w'.ownsRow w.heap.size 3 1 v 0 [])(he:e=Y (H #[v,G false])):lD w w' r e:=by
 subst h;exact ⟨v,he,ho⟩
theorem mC{w w':World}{r:Option (List Nat)}{l:List Nat}{e:Ending}{v:Value}(h:r=some l)(ho:w'.ownsRow w.heap.size 3 1 v l.length (icN l))(he:e=Y (H #[v,G true])):lD w w' r e:=by
 subst h;exact ⟨v,he,ho⟩
theorem xS{w:World}{B B':Nat}{e:TypeId}{v:Value}{n:Nat}{xs:List Value}(h:w.ownsRow B e 1 v n xs)(hb:B'<=B):w.ownsRow B' e 1 v n xs:=by
 refine ⟨h.1,?_⟩
 rcases h.2 with h0|⟨g,cap,cur,hv,hB,hr⟩
 .exact .inl h0
 exact .inr ⟨g,cap,cur,hv,om,hr⟩
theorem Tryz.infoI:(prog.info? 3).map (fun i=>(i.zero,i.size,i.bytes))=some (some (I J 0),1,8):=kr
theorem FQ(s:ByteArray)(w:World)(hs600:(s.size:Int)<=600):Calls prog 230 #[L s] w fun e w'=>lD w w' (dB (sN s)) e/\Below w.heap.size w w':=by
 obtain ⟨w0,hw0⟩: ∃q,w.alloc (Z #[] 3)=q:=⟨_,rfl⟩;have HZ:Hid (w0.heap.size=w.heap.size+1):=by show _=_;rw[<-hw0];simp
 have HB0:Hid (∀W,Below (w.heap.size+1) w0 W->Below w.heap.size w W):=fun W h=>by
  have h1:Below w.heap.size w w0:=by rw[<-hw0];exact (zu _ _).alloc (za _) _
  exact h1.trans (h.mono om)
 have HNO:Hid (∀W,Below (w.heap.size+1) w0 W->W.ownsRow w.heap.size 3 1 (.slice (some ⟨w.heap.size,0,none⟩) 0 0) 0 []):=fun W h=>by
  have h1:w0.ownsRow w.heap.size 3 1 (.slice (some ⟨w.heap.size,0,none⟩) 0 0) 0 []:=by rw[<-hw0];exact zl w #[] 0 (za _) de rfl
  have h2:Below w0.heap.size w0 W:=by rw[HZ.out];exact h
  exact aN h1 h2
 go_enter func230,ntmps230;go_wp2_with fail;refine (Bc _ _ om).mono ?_;rintro e wz ⟨r,rfl,rfl,hr⟩
 rcases hr with ⟨rfl,hsp⟩|⟨k0,hk0,rfl,hsp⟩
 .have HST:Hid (kU 0 s.size (((sN s).drop 0).map bC) 128 0 72 []=lZ (sN s)):=by
   show _=_;unfold lZ headD xO;rw[hsp,cA];rfl
  have HO1:Hid ((w0.alloc (Z #[] 3)).ownsRow (w.heap.size+1) 3 1 (.slice (some ⟨w0.heap.size,0,none⟩) 0 0) ([]:List Nat).length (icN [])):=zl w0 #[] 0 (by rw[HZ.out];exact za _) de rfl;have HB1:Hid (Below (w.heap.size+1) w0 (w0.alloc (Z #[] 3))):=(zu _ _).alloc (by rw[HZ.out];exact za _) _;clear hsp hw0;obtain ⟨at1,hat1⟩: ∃q:Nat,q=0:=⟨0,rfl⟩;go_wp2_with fail;refine wp_loop_rounds 1 ?_;rw[rounds_succ];go_wp2_with fail
  go_loopw[5,8,9,10,11] (fun v a b c e wr=> ∃(f q n i bi:Nat) (out:List Nat),a=I J q/\b=I J n/\c=I J i/\e=I J bi/\q<=s.size/\s.size<=q+f/\n<=1114111/\i<=out.length/\out.length<=700/\bi<=2400/\kU 0 f (((sN s).drop q).map bC) n i bi out=lZ (sN s)/\wr.ownsRow (w.heap.size+1) 3 1 v out.length (icN out)/\Below (w.heap.size+1) w0 wr)
   (fun _ a _ _ _ _=>s.size-(intOf a).toNat)
  case atStart=>exact ⟨s.size,0,128,0,72,[],rfl,rfl,rfl,rfl,om,om,om,by first|omega|simp,by first|omega|simp,om,HST.out,HO1.out,HB1.out⟩
  clear HO1 HB1 HST;obtain ⟨f,q,n,i,bi,out,rfl,rfl,rfl,rfl,hq,hf,hn,hi,hol,hbi,he,hown,hbel⟩:=hrel;have HOW:Hid (wr.ownsRow (w.heap.size+1) 3 1 u5 out.length (icN out)):=hown;have HBL:Hid (Below (w.heap.size+1) w0 wr):=hbel;have hszr:w.heap.size+1<=wr.heap.size:=by have:=hbel.size;have:=HZ.out;omega
  have HE:Hid (kU 0 f (((sN s).drop q).map bC) n i bi out=lZ (sN s)):=he;obtain ⟨ao,cp0,hu⟩:=iR hown;clear hown hbel he
  by_cases hlt:q<s.size
  .subst hu
   obtain ⟨f',rfl⟩: ∃j,f=j+1:=⟨f-1,om⟩;have crd:=SX s q bi wr hs600 hq om
   cases hrd:dM bi 36 0 1 (((sN s).drop q).map bC)with
   |none=>
    have HDN:Hid (dB (sN s)=none):=by
     have h1:=HE.out;rw[oY s q hlt,zm]at h1 hrd;rw[kU,hrd]at h1;show _=_;unfold dB;rw[<-h1]
    have CRD:Hid (CS 257 #[L s,I J (q:Int),I J (bi:Int)] wr (H #[I J 0,I J 0,G false])):=crd.mono fun e w' ⟨h1,h2⟩=>⟨by unfold nB at h1;rw[hrd]at h1;exact h1,h2⟩
    clear crd hrd;go_wp2_with fail;refine CRD.out.mono ?_;rintro e wx ⟨rfl,rfl⟩;go_wp2_with fail;go_ret2;exact ⟨bV HDN.out (HNO.out _ HBL.out) rfl,HB0.out _ HBL.out⟩
   |some mr=>
    obtain ⟨more,rest⟩:=mr;have hmore:=FP bi _ _ _ _ _ _ hrd;have CRD:Hid (Calls prog 257 #[L s,I J (q:Int),I J (bi:Int)] wr fun e w'=>(∃next:Nat,q<next/\next<=s.size/\rest=((sN s).drop next).map bC/\e=Y (H #[I J (more:Int),I J (next:Int),G true]))/\wr=w'):=crd.mono fun e w' ⟨h1,h2⟩=>⟨by unfold nB at h1;rw[hrd]at h1;exact h1,h2⟩
    have hc3:((out.length+1:Nat):Int)=(out.length:Int)+1:=om;have hdq1:(i+more)/(out.length+1)<=i+more:=Nat.div_le_self _ _;have hps1:(i+more)%(out.length+1)<out.length+1:=Nat.mod_lt _ om;have hQ:((i:Int)+(more:Int))/((out.length:Int)+1)=(((i+more)/(out.length+1):Nat):Int):=by norm_cast
    have hM:((i:Int)+(more:Int))%((out.length:Int)+1)=(((i+more)%(out.length+1):Nat):Int):=by norm_cast
    have HRAW:Hid ((if 60<out.length+1∨1114111<n+(i+more)/(out.length+1)then none else kU 0 f' rest (n+(i+more)/(out.length+1)) ((i+more)%(out.length+1)+1) (bB more (out.length+1) (out.length==0)) (dR ((i+more)%(out.length+1)) (n+(i+more)/(out.length+1)) out))=lZ (sN s)):=by
     have h1:=HE.out;rw[oY s q hlt,zm]at h1 hrd;rw[kU,hrd]at h1;exact h1
    clear crd hrd hc3;generalize (i+more)/(out.length+1)=dq at hQ HRAW hdq1;generalize (i+more)%(out.length+1)=pos at hM HRAW hps1;have hnz: ¬(out.length:Int)+1=0:=om
    by_cases h60:60<(out.length:Int)+1
    .have HDN:Hid (dB (sN s)=none):=by
      have h1:=HRAW.out;rw[if_pos om]at h1;show _=_;unfold dB;rw[<-h1]
     clear HRAW;go_wp2_with fail;refine CRD.out.mono ?_;rintro e wx ⟨⟨next,hx1,hx2,hx3,rfl⟩,rfl⟩;clear hx3;go_wp2_with fail;go_ret2;exact ⟨bV HDN.out (HNO.out _ HBL.out) rfl,HB0.out _ HBL.out⟩
    by_cases hfb:out.length=0
    .have CTA:Hid (∀W,CS 229 #[I J (more:Int),I J ((out.length:Int)+1),G true] W (I J (bB more (out.length+1) true:Int))):=fun W=>by
      have h:=tY (more:Int) ((out.length:Int)+1) true W;rw[qF ⟨om,om⟩,show ((out.length:Int)+1).toNat=out.length+1 by omega]at h;exact h
     have hal:=gB more (out.length+1) true;have hfm:((out.length:Int)== -1)=false:=beq_eq_false_iff_ne.2 om;have hf0:((out.length:Int)==0)=true:=beq_iff_eq.2 om;have HFQ:Hid ((out.length==0)=true):=by show _=_;simpa using hfb
     clear hfb;have HRW:Hid (¬1114111<n+dq->kU 0 f' rest (n+dq) (pos+1) (bB more (out.length+1) true) (dR pos (n+dq) out)=lZ (sN s)):=by
      intro hno;have h1:=HRAW.out;rw[if_neg om,HFQ.out]at h1;exact h1
     by_cases hnb:1114111<(n:Int)+(dq:Int)
     .have HDN:Hid (dB (sN s)=none):=by
       have h1:=HRAW.out;rw[if_pos om]at h1;show _=_;unfold dB;rw[<-h1]
      go_wp2_with fail;refine CRD.out.mono ?_;rintro e wx ⟨⟨next,hx1,hx2,hx3,rfl⟩,rfl⟩;have HX3:Hid (rest=((sN s).drop next).map bC):=hx3;clear hx3;go_wp2_with fail;refine (CTA.out _).mono ?_;rintro e wx ⟨rfl,rfl⟩;go_wp2_with fail;go_ret2;exact ⟨bV HDN.out (HNO.out _ HBL.out) rfl,HB0.out _ HBL.out⟩
     have HRW:Hid (kU 0 f' rest (n+dq) (pos+1) (bB more (out.length+1) true) (dR pos (n+dq) out)=lZ (sN s)):=HRW.out om;go_wp2_with fail;refine CRD.out.mono ?_;rintro e wx ⟨⟨next,hx1,hx2,hx3,rfl⟩,rfl⟩;have HX3:Hid (rest=((sN s).drop next).map bC):=hx3;clear hx3;go_wp2_with fail;refine (CTA.out _).mono ?_;rintro e wx ⟨rfl,rfl⟩;go_wp2_with (at_builtin;refine aC _ rfl _ _ 95 rfl (w.heap.size+1) 3 (I J 0) 8 underlying95 infoI rfl _ _ _ rfl HOW.out #[I J 0] 1 rfl rfl (by intro u hu;simp at hu;subst hu;rfl) om (by unfold maxLen;omega) om ?_);intro v' w1 hown' hb1;have B1:Below (w.heap.size+1) w0 w1:=HBL.out.trans hb1;have O1:w1.ownsRow (w.heap.size+1) 3 1 v' (out.length+1) (icN (out++[0])):=by rw[qG];exact hown'
     clear hown' hb1
     rcases aY O1 with ⟨hz,_⟩|⟨_,g,cp,rfl⟩
     .omega
     have hDg:=uA O1;go_wp2_with fail
     go_loopw[16] (fun a wi=> ∃(k x:Nat),a=I J k/\pos<=k/\k<=out.length/\wi.ownsRow (w.heap.size+1) 3 1 (.slice (some ⟨g,0,none⟩) (out.length+1) cp) (out.length+1) (icN (out.take k++x::out.drop k))/\Below (w.heap.size+1) w0 wi) (fun a _=>(intOf a).toNat)
     case atStart=>exact ⟨out.length,0,gn,om,za _,by simpa using O1,B1⟩
     clear O1 B1;obtain ⟨k,x,rfl,hk1,hk2,hown,hbel⟩:=hrel
     by_cases hgt:pos<k
     .obtain ⟨k',rfl⟩: ∃j,k=j+1:=⟨k-1,om⟩
      have ca:=lC hown k' om;rw[xR out k' x om]at ca;have cf:=gP hown (k'+1);obtain ⟨u,cb⟩:=lT hown (k'+1) om;have hset:=oZ hown (k'+1) (I J (out.getD k' 0:Int));rw[pA,jX out (k'+1) x _ om,rQ out k' om]at hset;have HSET:Hid ((wr.setCell ⟨g,k'+1,none⟩ (I J (out.getD k' 0:Int))).ownsRow (w.heap.size+1) 3 1 (.slice (some ⟨g,0,none⟩) (out.length+1) cp) (out.length+1) (icN (out.take k'++out.getD k' 0::out.drop k'))):=hset;have HBS:Hid (Below (w.heap.size+1) w0 (wr.setCell ⟨g,k'+1,none⟩ (I J (out.getD k' 0:Int)))):=hbel.setCell hDg _;clear hset hown hbel;generalize hy:out.getD k' 0=y at ca HSET HBS;go_wp2_with fail;go_roundw
      case rel=>exact ⟨k',y,gn,om,om,HSET.out,HBS.out⟩
      case measure=>simp[intOf]
     have hkp2:k=pos:=om;subst hkp2;have cf:=gP hown k;obtain ⟨u,cb⟩:=lT hown k om;have hset:=oZ hown k (I J ((n+dq:Nat):Int));rw[pA,jX out k x _ om]at hset;have hbs:=hbel.setCell hDg (p:=⟨g,k,none⟩) (I J ((n+dq:Nat):Int));rw[show ((n+dq:Nat):Int)=(n:Int)+(dq:Int) by omega]at hset hbs;have HSET:Hid ((wr.setCell ⟨g,k,none⟩ (I J ((n:Int)+(dq:Int)))).ownsRow (w.heap.size+1) 3 1 (.slice (some ⟨g,0,none⟩) (out.length+1) cp) (out.length+1) (icN (out.take k++(n+dq)::out.drop k))):=hset;have HBS:Hid (Below (w.heap.size+1) w0 (wr.setCell ⟨g,k,none⟩ (I J ((n:Int)+(dq:Int))))):=hbs;clear hset hbs hown hbel;go_wp2_with fail;go_roundw
     case rel=>exact ⟨f',next,n+dq,k+1,_,dR k (n+dq) out,rfl,gn,gn,rfl,hx2,om,om,by rw[aX];omega,by rw[aX];omega,hal,by rw[<-HX3.out];exact HRW.out,by rw[aX];exact HSET.out,HBS.out⟩
     case measure=>exact j1
    have CTA:Hid (∀W,CS 229 #[I J (more:Int),I J ((out.length:Int)+1),G false] W (I J (bB more (out.length+1) false:Int))):=fun W=>by
     have h:=tY (more:Int) ((out.length:Int)+1) false W;rw[qF ⟨om,om⟩,show ((out.length:Int)+1).toNat=out.length+1 by omega]at h;exact h
    have hal:=gB more (out.length+1) false;have hfm:((out.length:Int)== -1)=false:=beq_eq_false_iff_ne.2 om;have hf0:((out.length:Int)==0)=false:=beq_eq_false_iff_ne.2 om;have HFQ:Hid ((out.length==0)=false):=by show _=_;simpa using hfb
    clear hfb;have HRW:Hid (¬1114111<n+dq->kU 0 f' rest (n+dq) (pos+1) (bB more (out.length+1) false) (dR pos (n+dq) out)=lZ (sN s)):=by
     intro hno;have h1:=HRAW.out;rw[if_neg om,HFQ.out]at h1;exact h1
    by_cases hnb:1114111<(n:Int)+(dq:Int)
    .have HDN:Hid (dB (sN s)=none):=by
      have h1:=HRAW.out;rw[if_pos om]at h1;show _=_;unfold dB;rw[<-h1]
     go_wp2_with fail;refine CRD.out.mono ?_;rintro e wx ⟨⟨next,hx1,hx2,hx3,rfl⟩,rfl⟩;have HX3:Hid (rest=((sN s).drop next).map bC):=hx3;clear hx3;go_wp2_with fail;refine (CTA.out _).mono ?_;rintro e wx ⟨rfl,rfl⟩;go_wp2_with fail;go_ret2;exact ⟨bV HDN.out (HNO.out _ HBL.out) rfl,HB0.out _ HBL.out⟩
    have HRW:Hid (kU 0 f' rest (n+dq) (pos+1) (bB more (out.length+1) false) (dR pos (n+dq) out)=lZ (sN s)):=HRW.out om;go_wp2_with fail;refine CRD.out.mono ?_;rintro e wx ⟨⟨next,hx1,hx2,hx3,rfl⟩,rfl⟩;have HX3:Hid (rest=((sN s).drop next).map bC):=hx3;clear hx3;go_wp2_with fail;refine (CTA.out _).mono ?_;rintro e wx ⟨rfl,rfl⟩;go_wp2_with (at_builtin;refine aC _ rfl _ _ 95 rfl (w.heap.size+1) 3 (I J 0) 8 underlying95 infoI rfl _ _ _ rfl HOW.out #[I J 0] 1 rfl rfl (by intro u hu;simp at hu;subst hu;rfl) om (by unfold maxLen;omega) om ?_);intro v' w1 hown' hb1;have B1:Below (w.heap.size+1) w0 w1:=HBL.out.trans hb1;have O1:w1.ownsRow (w.heap.size+1) 3 1 v' (out.length+1) (icN (out++[0])):=by rw[qG];exact hown'
    clear hown' hb1
    rcases aY O1 with ⟨hz,_⟩|⟨_,g,cp,rfl⟩
    .omega
    have hDg:=uA O1;go_wp2_with fail
    go_loopw[16] (fun a wi=> ∃(k x:Nat),a=I J k/\pos<=k/\k<=out.length/\wi.ownsRow (w.heap.size+1) 3 1 (.slice (some ⟨g,0,none⟩) (out.length+1) cp) (out.length+1) (icN (out.take k++x::out.drop k))/\Below (w.heap.size+1) w0 wi) (fun a _=>(intOf a).toNat)
    case atStart=>exact ⟨out.length,0,gn,om,za _,by simpa using O1,B1⟩
    clear O1 B1;obtain ⟨k,x,rfl,hk1,hk2,hown,hbel⟩:=hrel
    by_cases hgt:pos<k
    .obtain ⟨k',rfl⟩: ∃j,k=j+1:=⟨k-1,om⟩
     have ca:=lC hown k' om;rw[xR out k' x om]at ca;have cf:=gP hown (k'+1);obtain ⟨u,cb⟩:=lT hown (k'+1) om;have hset:=oZ hown (k'+1) (I J (out.getD k' 0:Int));rw[pA,jX out (k'+1) x _ om,rQ out k' om]at hset;have HSET:Hid ((wr.setCell ⟨g,k'+1,none⟩ (I J (out.getD k' 0:Int))).ownsRow (w.heap.size+1) 3 1 (.slice (some ⟨g,0,none⟩) (out.length+1) cp) (out.length+1) (icN (out.take k'++out.getD k' 0::out.drop k'))):=hset;have HBS:Hid (Below (w.heap.size+1) w0 (wr.setCell ⟨g,k'+1,none⟩ (I J (out.getD k' 0:Int)))):=hbel.setCell hDg _;clear hset hown hbel;generalize hy:out.getD k' 0=y at ca HSET HBS;go_wp2_with fail;go_roundw
     case rel=>exact ⟨k',y,gn,om,om,HSET.out,HBS.out⟩
     case measure=>simp[intOf]
    have hkp2:k=pos:=om;subst hkp2;have cf:=gP hown k;obtain ⟨u,cb⟩:=lT hown k om;have hset:=oZ hown k (I J ((n+dq:Nat):Int));rw[pA,jX out k x _ om]at hset;have hbs:=hbel.setCell hDg (p:=⟨g,k,none⟩) (I J ((n+dq:Nat):Int));rw[show ((n+dq:Nat):Int)=(n:Int)+(dq:Int) by omega]at hset hbs;have HSET:Hid ((wr.setCell ⟨g,k,none⟩ (I J ((n:Int)+(dq:Int)))).ownsRow (w.heap.size+1) 3 1 (.slice (some ⟨g,0,none⟩) (out.length+1) cp) (out.length+1) (icN (out.take k++(n+dq)::out.drop k))):=hset;have HBS:Hid (Below (w.heap.size+1) w0 (wr.setCell ⟨g,k,none⟩ (I J ((n:Int)+(dq:Int))))):=hbs;clear hset hbs hown hbel;go_wp2_with fail;go_roundw
    case rel=>exact ⟨f',next,n+dq,k+1,_,dR k (n+dq) out,rfl,gn,gn,rfl,hx2,om,om,by rw[aX];omega,by rw[aX];omega,hal,by rw[<-HX3.out];exact HRW.out,by rw[aX];exact HSET.out,HBS.out⟩
    case measure=>exact j1
  have HRC:Hid (lZ (sN s)=some out):=by
   show _=_;rw[<-HE.out,OI s q om]
   cases f<;>rfl
  have HDY:Hid ((⟨(b8 (bJ out)).toArray⟩:ByteArray)=s->eU out=true->dB (sN s)=some out):=by
   intro h1 h2;unfold dB;rw[HRC.out];exact if_pos ⟨h2,(LI s _ (fun c hc=>by have:=nM c hc;omega)).1 h1⟩
  have HDN:Hid (¬((⟨(b8 (bJ out)).toArray⟩:ByteArray)=s/\eU out=true)->dB (sN s)=none):=by
   intro h1;unfold dB;rw[HRC.out];exact if_neg (fun h=>h1 ⟨(LI s _ (fun c hc=>by have:=nM c hc;omega)).2 h.2,h.1⟩)
  rcases aY HOW.out with ⟨hz,hnil,ao2,cp2,hv⟩|⟨hpos,g,cp2,hv⟩
  .have ho:out=[]:=zc hz
   subst ho;have CE:Hid (CB 189 #[u5] wr (H #[L ⟨#[]⟩,G true])):=by rw[hv];exact jR ao2 cp2 wr
   have HDY2:Hid ((⟨#[]⟩:ByteArray)=s->dB (sN s)=some []):=fun h=>HDY.out h rfl
   have HDN2:Hid (¬(⟨#[]⟩:ByteArray)=s->dB (sN s)=none):=fun h=>HDN.out (fun h2=>h h2.1)
   clear hv hnil hu HDY HDN;generalize (⟨#[]⟩:ByteArray)=T at CE HDY2 HDN2
   by_cases hse:T=s
   .have HD:Hid (dB (sN s)=some []):=HDY2.out hse
    clear HDY2 HDN2;subst hse;go_wp2_with fail;refine CE.out.mono ?_;rintro e w2 ⟨rfl,b2⟩;have O2:=aN HOW.out b2;have B2:Below (w.heap.size+1) w0 w2:=HBL.out.trans (b2.mono hszr);go_wp2_with fail;go_ret2;exact ⟨mC HD.out (xS O2 om) rfl,HB0.out _ B2⟩
   have HD:Hid (dB (sN s)=none):=HDN2.out hse;have hneq:(T.toList==s.toList)=false:=rG hse;clear HDY2 HDN2;go_wp2_with fail;refine CE.out.mono ?_;rintro e w2 ⟨rfl,b2⟩;have B2:Below (w.heap.size+1) w0 w2:=HBL.out.trans (b2.mono hszr);go_wp2_with fail;go_ret2;exact ⟨bV HD.out (HNO.out _ B2) rfl,HB0.out _ B2⟩
  cases hok:eU out with
  |true=>
   have CE:Hid (CB 189 #[u5] wr (H #[L ⟨(b8 (bJ out)).toArray⟩,G true])):=by
    have h1:=HOW.out;rw[hv]at h1⊢;exact jQ out _ g cp2 _ wr hok rfl h1
   have HDY2:Hid ((⟨(b8 (bJ out)).toArray⟩:ByteArray)=s->dB (sN s)=some out):=fun h=>HDY.out h hok
   have HDN2:Hid (¬(⟨(b8 (bJ out)).toArray⟩:ByteArray)=s->dB (sN s)=none):=fun h=>HDN.out (fun h2=>h h2.1)
   clear hv hu HDY HDN;generalize (⟨(b8 (bJ out)).toArray⟩:ByteArray)=T at CE HDY2 HDN2
   by_cases hse:T=s
   .have HD:Hid (dB (sN s)=some out):=HDY2.out hse
    clear HDY2 HDN2;subst hse;go_wp2_with fail;refine CE.out.mono ?_;rintro e w2 ⟨rfl,b2⟩;have O2:=aN HOW.out b2;have B2:Below (w.heap.size+1) w0 w2:=HBL.out.trans (b2.mono hszr);go_wp2_with fail;go_ret2;exact ⟨mC HD.out (xS O2 om) rfl,HB0.out _ B2⟩
   have HD:Hid (dB (sN s)=none):=HDN2.out hse;have hneq:(T.toList==s.toList)=false:=rG hse;clear HDY2 HDN2;go_wp2_with fail;refine CE.out.mono ?_;rintro e w2 ⟨rfl,b2⟩;have B2:Below (w.heap.size+1) w0 w2:=HBL.out.trans (b2.mono hszr);go_wp2_with fail;go_ret2;exact ⟨bV HD.out (HNO.out _ B2) rfl,HB0.out _ B2⟩
  |false=>
   have HD:Hid (dB (sN s)=none):=HDN.out (fun h2=>by rw[hok]at h2;cases h2.2);have CE:Hid (CB 189 #[u5] wr (H #[L ⟨#[]⟩,G false])):=by
    have h1:=HOW.out;rw[hv]at h1⊢;exact kI (out.map fun (c:Nat)=>(c:Int)) _ g cp2 _ wr (fun h=>by rw[DW.2 h]at hok;cases hok) j2 om h1
   clear hv hu HDY HDN hok;go_wp2_with fail;refine CE.out.mono ?_;rintro e w2 ⟨rfl,b2⟩;have B2:Below (w.heap.size+1) w0 w2:=HBL.out.trans (b2.mono hszr);go_wp2_with fail;go_ret2;exact ⟨bV HD.out (HNO.out _ B2) rfl,HB0.out _ B2⟩
 have hk0i:(k0:Int)<(s.size:Int):=om;have HST:Hid (kU k0 s.size (((sN s).drop (k0+1)).map bC) 128 0 72 ((sN s).take k0)=lZ (sN s)):=by
  show _=_;unfold lZ headD xO;rw[hsp];simp only;rw[zd,cA,Nat.min_eq_left om]
 have HO0:Hid ((w0.alloc (Z #[] 3)).ownsRow (w.heap.size+1) 3 1 (.slice (some ⟨w0.heap.size,0,none⟩) 0 0) ([]:List Nat).length (icN [])):=zl w0 #[] 0 (by rw[HZ.out];exact za _) de rfl;have HBB:Hid (Below (w.heap.size+1) w0 (w0.alloc (Z #[] 3))):=(zu _ _).alloc (by rw[HZ.out];exact za _) _;clear hsp hw0;go_wp2_with fail
 go_loopw[5,7] (fun v i wr=> ∃j:Nat,j<=k0/\i=I J j/\wr.ownsRow (w.heap.size+1) 3 1 v j (icN ((sN s).take j))/\Below (w.heap.size+1) w0 wr) (fun _ i _=>k0-(intOf i).toNat)
 case atStart=>exact ⟨0,Nat.zero_le _,rfl,HO0.out,HBB.out⟩
 clear HO0 HBB;obtain ⟨j,hj,rfl,hown,hbel⟩:=hrel;have hsz0:w.heap.size+1<=wr.heap.size:=by have:=hbel.size;have:=HZ.out;omega
 by_cases hlt0:j<k0
 .have hjs:j<s.size:=om
  obtain ⟨d,hd⟩: ∃d:Nat,s[j].toNat=d:=⟨_,rfl⟩;have hd1:(d:Int)<=255:=by have:=s[j].toNat_lt;omega
  have HS:Hid ((sN s).take (j+1)=(sN s).take j++[d]):=by
   show _=_;rw[ze (by rw[cA];exact hjs)]
   congr 2
   unfold sN;rw[List.getElem_map];exact hd
  go_wp2_with (at_builtin;refine aC _ rfl _ _ 95 rfl (w.heap.size+1) 3 (I J 0) 8 underlying95 infoI rfl _ _ _ rfl hown #[I J (d:Int)] 1 rfl rfl (by intro u hu;simp at hu;subst hu;rfl) om (by unfold maxLen;omega) om ?_);intro v' w1 hown' hb1;have R:w1.ownsRow (w.heap.size+1) 3 1 v' (j+1) (icN ((sN s).take (j+1))):=by rw[HS.out,qG];exact hown'
  have B1:Below (w.heap.size+1) w0 w1:=hbel.trans hb1;clear hown' hb1 hown hbel;go_wp2_with fail;go_roundw
  case rel=>exact ⟨j+1,om,gn,R,B1⟩
  case measure=>exact j1
 have hjk:j=k0:=om;subst hjk;have HO1:Hid (wr.ownsRow (w.heap.size+1) 3 1 u5 ((sN s).take j).length (icN ((sN s).take j))):=by
  show World.ownsRow _ _ _ _ _ _ _;rw[show ((sN s).take j).length=j by rw[zd,cA];omega];exact hown
 have HB1:Hid (Below (w.heap.size+1) w0 wr):=hbel;have hl1:((sN s).take j).length<=600:=by rw[zd,cA];omega
 clear hown hbel hsz0;generalize (sN s).take j=out1 at HO1 HST hl1;go_wp2_with fail
 go_loopw[5,8,9,10,11] (fun v a b c e wr=> ∃(f q n i bi:Nat) (out:List Nat),a=I J q/\b=I J n/\c=I J i/\e=I J bi/\q<=s.size/\s.size<=q+f/\n<=1114111/\i<=out.length/\out.length<=700/\bi<=2400/\kU j f (((sN s).drop q).map bC) n i bi out=lZ (sN s)/\wr.ownsRow (w.heap.size+1) 3 1 v out.length (icN out)/\Below (w.heap.size+1) w0 wr)
  (fun _ a _ _ _ _=>s.size-(intOf a).toNat)
 case atStart=>exact ⟨s.size,j+1,128,0,72,out1,gn,rfl,rfl,rfl,om,om,om,by first|omega|simp,by first|omega|simp,om,HST.out,HO1.out,HB1.out⟩
 clear HO1 HB1 HST;obtain ⟨f,q,n,i,bi,out,rfl,rfl,rfl,rfl,hq,hf,hn,hi,hol,hbi,he,hown,hbel⟩:=hrel;have HOW:Hid (wr.ownsRow (w.heap.size+1) 3 1 u5 out.length (icN out)):=hown;have HBL:Hid (Below (w.heap.size+1) w0 wr):=hbel;have hszr:w.heap.size+1<=wr.heap.size:=by have:=hbel.size;have:=HZ.out;omega
 have HE:Hid (kU j f (((sN s).drop q).map bC) n i bi out=lZ (sN s)):=he;obtain ⟨ao,cp0,hu⟩:=iR hown;clear hown hbel he
 by_cases hlt:q<s.size
 .subst hu
  obtain ⟨f',rfl⟩: ∃j,f=j+1:=⟨f-1,om⟩;have crd:=SX s q bi wr hs600 hq om
  cases hrd:dM bi 36 0 1 (((sN s).drop q).map bC)with
  |none=>
   have HDN:Hid (dB (sN s)=none):=by
    have h1:=HE.out;rw[oY s q hlt,zm]at h1 hrd;rw[kU,hrd]at h1;show _=_;unfold dB;rw[<-h1]
   have CRD:Hid (CS 257 #[L s,I J (q:Int),I J (bi:Int)] wr (H #[I J 0,I J 0,G false])):=crd.mono fun e w' ⟨h1,h2⟩=>⟨by unfold nB at h1;rw[hrd]at h1;exact h1,h2⟩
   clear crd hrd;go_wp2_with fail;refine CRD.out.mono ?_;rintro e wx ⟨rfl,rfl⟩;go_wp2_with fail;go_ret2;exact ⟨bV HDN.out (HNO.out _ HBL.out) rfl,HB0.out _ HBL.out⟩
  |some mr=>
   obtain ⟨more,rest⟩:=mr;have hmore:=FP bi _ _ _ _ _ _ hrd;have CRD:Hid (Calls prog 257 #[L s,I J (q:Int),I J (bi:Int)] wr fun e w'=>(∃next:Nat,q<next/\next<=s.size/\rest=((sN s).drop next).map bC/\e=Y (H #[I J (more:Int),I J (next:Int),G true]))/\wr=w'):=crd.mono fun e w' ⟨h1,h2⟩=>⟨by unfold nB at h1;rw[hrd]at h1;exact h1,h2⟩
   have hc3:((out.length+1:Nat):Int)=(out.length:Int)+1:=om;have hdq1:(i+more)/(out.length+1)<=i+more:=Nat.div_le_self _ _;have hps1:(i+more)%(out.length+1)<out.length+1:=Nat.mod_lt _ om;have hQ:((i:Int)+(more:Int))/((out.length:Int)+1)=(((i+more)/(out.length+1):Nat):Int):=by norm_cast
   have hM:((i:Int)+(more:Int))%((out.length:Int)+1)=(((i+more)%(out.length+1):Nat):Int):=by norm_cast
   have HRAW:Hid ((if 60<out.length+1∨1114111<n+(i+more)/(out.length+1)then none else kU j f' rest (n+(i+more)/(out.length+1)) ((i+more)%(out.length+1)+1) (bB more (out.length+1) (out.length==j)) (dR ((i+more)%(out.length+1)) (n+(i+more)/(out.length+1)) out))=lZ (sN s)):=by
    have h1:=HE.out;rw[oY s q hlt,zm]at h1 hrd;rw[kU,hrd]at h1;exact h1
   clear crd hrd hc3;generalize (i+more)/(out.length+1)=dq at hQ HRAW hdq1;generalize (i+more)%(out.length+1)=pos at hM HRAW hps1;have hnz: ¬(out.length:Int)+1=0:=om
   by_cases h60:60<(out.length:Int)+1
   .have HDN:Hid (dB (sN s)=none):=by
     have h1:=HRAW.out;rw[if_pos om]at h1;show _=_;unfold dB;rw[<-h1]
    clear HRAW;go_wp2_with fail;refine CRD.out.mono ?_;rintro e wx ⟨⟨next,hx1,hx2,hx3,rfl⟩,rfl⟩;clear hx3;go_wp2_with fail;go_ret2;exact ⟨bV HDN.out (HNO.out _ HBL.out) rfl,HB0.out _ HBL.out⟩
   by_cases hfb:out.length=j
   .have CTA:Hid (∀W,CS 229 #[I J (more:Int),I J ((out.length:Int)+1),G true] W (I J (bB more (out.length+1) true:Int))):=fun W=>by
     have h:=tY (more:Int) ((out.length:Int)+1) true W;rw[qF ⟨om,om⟩,show ((out.length:Int)+1).toNat=out.length+1 by omega]at h;exact h
    have hal:=gB more (out.length+1) true;have hf0:((out.length:Int)==(j:Int))=true:=beq_iff_eq.2 om;have HFQ:Hid ((out.length==j)=true):=by show _=_;simpa using hfb
    clear hfb;have HRW:Hid (¬1114111<n+dq->kU j f' rest (n+dq) (pos+1) (bB more (out.length+1) true) (dR pos (n+dq) out)=lZ (sN s)):=by
     intro hno;have h1:=HRAW.out;rw[if_neg om,HFQ.out]at h1;exact h1
    by_cases hnb:1114111<(n:Int)+(dq:Int)
    .have HDN:Hid (dB (sN s)=none):=by
      have h1:=HRAW.out;rw[if_pos om]at h1;show _=_;unfold dB;rw[<-h1]
     go_wp2_with fail;refine CRD.out.mono ?_;rintro e wx ⟨⟨next,hx1,hx2,hx3,rfl⟩,rfl⟩;have HX3:Hid (rest=((sN s).drop next).map bC):=hx3;clear hx3;go_wp2_with fail;refine (CTA.out _).mono ?_;rintro e wx ⟨rfl,rfl⟩;go_wp2_with fail;go_ret2;exact ⟨bV HDN.out (HNO.out _ HBL.out) rfl,HB0.out _ HBL.out⟩
    have HRW:Hid (kU j f' rest (n+dq) (pos+1) (bB more (out.length+1) true) (dR pos (n+dq) out)=lZ (sN s)):=HRW.out om;go_wp2_with fail;refine CRD.out.mono ?_;rintro e wx ⟨⟨next,hx1,hx2,hx3,rfl⟩,rfl⟩;have HX3:Hid (rest=((sN s).drop next).map bC):=hx3;clear hx3;go_wp2_with fail;refine (CTA.out _).mono ?_;rintro e wx ⟨rfl,rfl⟩;go_wp2_with (at_builtin;refine aC _ rfl _ _ 95 rfl (w.heap.size+1) 3 (I J 0) 8 underlying95 infoI rfl _ _ _ rfl HOW.out #[I J 0] 1 rfl rfl (by intro u hu;simp at hu;subst hu;rfl) om (by unfold maxLen;omega) om ?_);intro v' w1 hown' hb1;have B1:Below (w.heap.size+1) w0 w1:=HBL.out.trans hb1;have O1:w1.ownsRow (w.heap.size+1) 3 1 v' (out.length+1) (icN (out++[0])):=by rw[qG];exact hown'
    clear hown' hb1
    rcases aY O1 with ⟨hz,_⟩|⟨_,g,cp,rfl⟩
    .omega
    have hDg:=uA O1;go_wp2_with fail
    go_loopw[16] (fun a wi=> ∃(k x:Nat),a=I J k/\pos<=k/\k<=out.length/\wi.ownsRow (w.heap.size+1) 3 1 (.slice (some ⟨g,0,none⟩) (out.length+1) cp) (out.length+1) (icN (out.take k++x::out.drop k))/\Below (w.heap.size+1) w0 wi) (fun a _=>(intOf a).toNat)
    case atStart=>exact ⟨out.length,0,gn,om,za _,by simpa using O1,B1⟩
    clear O1 B1;obtain ⟨k,x,rfl,hk1,hk2,hown,hbel⟩:=hrel
    by_cases hgt:pos<k
    .obtain ⟨k',rfl⟩: ∃j,k=j+1:=⟨k-1,om⟩
     have ca:=lC hown k' om;rw[xR out k' x om]at ca;have cf:=gP hown (k'+1);obtain ⟨u,cb⟩:=lT hown (k'+1) om;have hset:=oZ hown (k'+1) (I J (out.getD k' 0:Int));rw[pA,jX out (k'+1) x _ om,rQ out k' om]at hset;have HSET:Hid ((wr.setCell ⟨g,k'+1,none⟩ (I J (out.getD k' 0:Int))).ownsRow (w.heap.size+1) 3 1 (.slice (some ⟨g,0,none⟩) (out.length+1) cp) (out.length+1) (icN (out.take k'++out.getD k' 0::out.drop k'))):=hset;have HBS:Hid (Below (w.heap.size+1) w0 (wr.setCell ⟨g,k'+1,none⟩ (I J (out.getD k' 0:Int)))):=hbel.setCell hDg _;clear hset hown hbel;generalize hy:out.getD k' 0=y at ca HSET HBS;go_wp2_with fail;go_roundw
     case rel=>exact ⟨k',y,gn,om,om,HSET.out,HBS.out⟩
     case measure=>simp[intOf]
    have hkp2:k=pos:=om;subst hkp2;have cf:=gP hown k;obtain ⟨u,cb⟩:=lT hown k om;have hset:=oZ hown k (I J ((n+dq:Nat):Int));rw[pA,jX out k x _ om]at hset;have hbs:=hbel.setCell hDg (p:=⟨g,k,none⟩) (I J ((n+dq:Nat):Int));rw[show ((n+dq:Nat):Int)=(n:Int)+(dq:Int) by omega]at hset hbs;have HSET:Hid ((wr.setCell ⟨g,k,none⟩ (I J ((n:Int)+(dq:Int)))).ownsRow (w.heap.size+1) 3 1 (.slice (some ⟨g,0,none⟩) (out.length+1) cp) (out.length+1) (icN (out.take k++(n+dq)::out.drop k))):=hset;have HBS:Hid (Below (w.heap.size+1) w0 (wr.setCell ⟨g,k,none⟩ (I J ((n:Int)+(dq:Int))))):=hbs;clear hset hbs hown hbel;go_wp2_with fail;go_roundw
    case rel=>exact ⟨f',next,n+dq,k+1,_,dR k (n+dq) out,rfl,gn,gn,rfl,hx2,om,om,by rw[aX];omega,by rw[aX];omega,hal,by rw[<-HX3.out];exact HRW.out,by rw[aX];exact HSET.out,HBS.out⟩
    case measure=>exact j1
   have CTA:Hid (∀W,CS 229 #[I J (more:Int),I J ((out.length:Int)+1),G false] W (I J (bB more (out.length+1) false:Int))):=fun W=>by
    have h:=tY (more:Int) ((out.length:Int)+1) false W;rw[qF ⟨om,om⟩,show ((out.length:Int)+1).toNat=out.length+1 by omega]at h;exact h
   have hal:=gB more (out.length+1) false;have hf0:((out.length:Int)==(j:Int))=false:=beq_eq_false_iff_ne.2 om;have hkp: ¬(j:Int)<0:=om;have HFQ:Hid ((out.length==j)=false):=by show _=_;simpa using hfb
   clear hfb;have HRW:Hid (¬1114111<n+dq->kU j f' rest (n+dq) (pos+1) (bB more (out.length+1) false) (dR pos (n+dq) out)=lZ (sN s)):=by
    intro hno;have h1:=HRAW.out;rw[if_neg om,HFQ.out]at h1;exact h1
   by_cases hnb:1114111<(n:Int)+(dq:Int)
   .have HDN:Hid (dB (sN s)=none):=by
     have h1:=HRAW.out;rw[if_pos om]at h1;show _=_;unfold dB;rw[<-h1]
    go_wp2_with fail;refine CRD.out.mono ?_;rintro e wx ⟨⟨next,hx1,hx2,hx3,rfl⟩,rfl⟩;have HX3:Hid (rest=((sN s).drop next).map bC):=hx3;clear hx3;go_wp2_with fail;refine (CTA.out _).mono ?_;rintro e wx ⟨rfl,rfl⟩;go_wp2_with fail;go_ret2;exact ⟨bV HDN.out (HNO.out _ HBL.out) rfl,HB0.out _ HBL.out⟩
   have HRW:Hid (kU j f' rest (n+dq) (pos+1) (bB more (out.length+1) false) (dR pos (n+dq) out)=lZ (sN s)):=HRW.out om;go_wp2_with fail;refine CRD.out.mono ?_;rintro e wx ⟨⟨next,hx1,hx2,hx3,rfl⟩,rfl⟩;have HX3:Hid (rest=((sN s).drop next).map bC):=hx3;clear hx3;go_wp2_with fail;refine (CTA.out _).mono ?_;rintro e wx ⟨rfl,rfl⟩;go_wp2_with (at_builtin;refine aC _ rfl _ _ 95 rfl (w.heap.size+1) 3 (I J 0) 8 underlying95 infoI rfl _ _ _ rfl HOW.out #[I J 0] 1 rfl rfl (by intro u hu;simp at hu;subst hu;rfl) om (by unfold maxLen;omega) om ?_);intro v' w1 hown' hb1;have B1:Below (w.heap.size+1) w0 w1:=HBL.out.trans hb1;have O1:w1.ownsRow (w.heap.size+1) 3 1 v' (out.length+1) (icN (out++[0])):=by rw[qG];exact hown'
   clear hown' hb1
   rcases aY O1 with ⟨hz,_⟩|⟨_,g,cp,rfl⟩
   .omega
   have hDg:=uA O1;go_wp2_with fail
   go_loopw[16] (fun a wi=> ∃(k x:Nat),a=I J k/\pos<=k/\k<=out.length/\wi.ownsRow (w.heap.size+1) 3 1 (.slice (some ⟨g,0,none⟩) (out.length+1) cp) (out.length+1) (icN (out.take k++x::out.drop k))/\Below (w.heap.size+1) w0 wi) (fun a _=>(intOf a).toNat)
   case atStart=>exact ⟨out.length,0,gn,om,za _,by simpa using O1,B1⟩
   clear O1 B1;obtain ⟨k,x,rfl,hk1,hk2,hown,hbel⟩:=hrel
   by_cases hgt:pos<k
   .obtain ⟨k',rfl⟩: ∃j,k=j+1:=⟨k-1,om⟩
    have ca:=lC hown k' om;rw[xR out k' x om]at ca;have cf:=gP hown (k'+1);obtain ⟨u,cb⟩:=lT hown (k'+1) om;have hset:=oZ hown (k'+1) (I J (out.getD k' 0:Int));rw[pA,jX out (k'+1) x _ om,rQ out k' om]at hset;have HSET:Hid ((wr.setCell ⟨g,k'+1,none⟩ (I J (out.getD k' 0:Int))).ownsRow (w.heap.size+1) 3 1 (.slice (some ⟨g,0,none⟩) (out.length+1) cp) (out.length+1) (icN (out.take k'++out.getD k' 0::out.drop k'))):=hset;have HBS:Hid (Below (w.heap.size+1) w0 (wr.setCell ⟨g,k'+1,none⟩ (I J (out.getD k' 0:Int)))):=hbel.setCell hDg _;clear hset hown hbel;generalize hy:out.getD k' 0=y at ca HSET HBS;go_wp2_with fail;go_roundw
    case rel=>exact ⟨k',y,gn,om,om,HSET.out,HBS.out⟩
    case measure=>simp[intOf]
   have hkp2:k=pos:=om;subst hkp2;have cf:=gP hown k;obtain ⟨u,cb⟩:=lT hown k om;have hset:=oZ hown k (I J ((n+dq:Nat):Int));rw[pA,jX out k x _ om]at hset;have hbs:=hbel.setCell hDg (p:=⟨g,k,none⟩) (I J ((n+dq:Nat):Int));rw[show ((n+dq:Nat):Int)=(n:Int)+(dq:Int) by omega]at hset hbs;have HSET:Hid ((wr.setCell ⟨g,k,none⟩ (I J ((n:Int)+(dq:Int)))).ownsRow (w.heap.size+1) 3 1 (.slice (some ⟨g,0,none⟩) (out.length+1) cp) (out.length+1) (icN (out.take k++(n+dq)::out.drop k))):=hset;have HBS:Hid (Below (w.heap.size+1) w0 (wr.setCell ⟨g,k,none⟩ (I J ((n:Int)+(dq:Int))))):=hbs;clear hset hbs hown hbel;go_wp2_with fail;go_roundw
   case rel=>exact ⟨f',next,n+dq,k+1,_,dR k (n+dq) out,rfl,gn,gn,rfl,hx2,om,om,by rw[aX];omega,by rw[aX];omega,hal,by rw[<-HX3.out];exact HRW.out,by rw[aX];exact HSET.out,HBS.out⟩
   case measure=>exact j1
 have HRC:Hid (lZ (sN s)=some out):=by
  show _=_;rw[<-HE.out,OI s q om]
  cases f<;>rfl
 have HDY:Hid ((⟨(b8 (bJ out)).toArray⟩:ByteArray)=s->eU out=true->dB (sN s)=some out):=by
  intro h1 h2;unfold dB;rw[HRC.out];exact if_pos ⟨h2,(LI s _ (fun c hc=>by have:=nM c hc;omega)).1 h1⟩
 have HDN:Hid (¬((⟨(b8 (bJ out)).toArray⟩:ByteArray)=s/\eU out=true)->dB (sN s)=none):=by
  intro h1;unfold dB;rw[HRC.out];exact if_neg (fun h=>h1 ⟨(LI s _ (fun c hc=>by have:=nM c hc;omega)).2 h.2,h.1⟩)
 rcases aY HOW.out with ⟨hz,hnil,ao2,cp2,hv⟩|⟨hpos,g,cp2,hv⟩
 .have ho:out=[]:=zc hz
  subst ho;have CE:Hid (CB 189 #[u5] wr (H #[L ⟨#[]⟩,G true])):=by rw[hv];exact jR ao2 cp2 wr
  have HDY2:Hid ((⟨#[]⟩:ByteArray)=s->dB (sN s)=some []):=fun h=>HDY.out h rfl
  have HDN2:Hid (¬(⟨#[]⟩:ByteArray)=s->dB (sN s)=none):=fun h=>HDN.out (fun h2=>h h2.1)
  clear hv hnil hu HDY HDN;generalize (⟨#[]⟩:ByteArray)=T at CE HDY2 HDN2
  by_cases hse:T=s
  .have HD:Hid (dB (sN s)=some []):=HDY2.out hse
   clear HDY2 HDN2;subst hse;go_wp2_with fail;refine CE.out.mono ?_;rintro e w2 ⟨rfl,b2⟩;have O2:=aN HOW.out b2;have B2:Below (w.heap.size+1) w0 w2:=HBL.out.trans (b2.mono hszr);go_wp2_with fail;go_ret2;exact ⟨mC HD.out (xS O2 om) rfl,HB0.out _ B2⟩
  have HD:Hid (dB (sN s)=none):=HDN2.out hse;have hneq:(T.toList==s.toList)=false:=rG hse;clear HDY2 HDN2;go_wp2_with fail;refine CE.out.mono ?_;rintro e w2 ⟨rfl,b2⟩;have B2:Below (w.heap.size+1) w0 w2:=HBL.out.trans (b2.mono hszr);go_wp2_with fail;go_ret2;exact ⟨bV HD.out (HNO.out _ B2) rfl,HB0.out _ B2⟩
 cases hok:eU out with
 |true=>
  have CE:Hid (CB 189 #[u5] wr (H #[L ⟨(b8 (bJ out)).toArray⟩,G true])):=by
   have h1:=HOW.out;rw[hv]at h1⊢;exact jQ out _ g cp2 _ wr hok rfl h1
  have HDY2:Hid ((⟨(b8 (bJ out)).toArray⟩:ByteArray)=s->dB (sN s)=some out):=fun h=>HDY.out h hok
  have HDN2:Hid (¬(⟨(b8 (bJ out)).toArray⟩:ByteArray)=s->dB (sN s)=none):=fun h=>HDN.out (fun h2=>h h2.1)
  clear hv hu HDY HDN;generalize (⟨(b8 (bJ out)).toArray⟩:ByteArray)=T at CE HDY2 HDN2
  by_cases hse:T=s
  .have HD:Hid (dB (sN s)=some out):=HDY2.out hse
   clear HDY2 HDN2;subst hse;go_wp2_with fail;refine CE.out.mono ?_;rintro e w2 ⟨rfl,b2⟩;have O2:=aN HOW.out b2;have B2:Below (w.heap.size+1) w0 w2:=HBL.out.trans (b2.mono hszr);go_wp2_with fail;go_ret2;exact ⟨mC HD.out (xS O2 om) rfl,HB0.out _ B2⟩
  have HD:Hid (dB (sN s)=none):=HDN2.out hse;have hneq:(T.toList==s.toList)=false:=rG hse;clear HDY2 HDN2;go_wp2_with fail;refine CE.out.mono ?_;rintro e w2 ⟨rfl,b2⟩;have B2:Below (w.heap.size+1) w0 w2:=HBL.out.trans (b2.mono hszr);go_wp2_with fail;go_ret2;exact ⟨bV HD.out (HNO.out _ B2) rfl,HB0.out _ B2⟩
 |false=>
  have HD:Hid (dB (sN s)=none):=HDN.out (fun h2=>by rw[hok]at h2;cases h2.2);have CE:Hid (CB 189 #[u5] wr (H #[L ⟨#[]⟩,G false])):=by
   have h1:=HOW.out;rw[hv]at h1⊢;exact kI (out.map fun (c:Nat)=>(c:Int)) _ g cp2 _ wr (fun h=>by rw[DW.2 h]at hok;cases hok) j2 om h1
  clear hv hu HDY HDN hok;go_wp2_with fail;refine CE.out.mono ?_;rintro e w2 ⟨rfl,b2⟩;have B2:Below (w.heap.size+1) w0 w2:=HBL.out.trans (b2.mono hszr);go_wp2_with fail;go_ret2;exact ⟨bV HD.out (HNO.out _ B2) rfl,HB0.out _ B2⟩
end
section
theorem LJ(bias:Nat): ∀(F f k q:Nat),q<10^f->(dK F k bias q).length<=f+1
 |0,f,k,q,_=>by simp[dK]
 |F+1,f,k,q,h=>by
  obtain ⟨l1,l2⟩:=rL k bias;rw[dK];split
  .simp
  next hq=>
  cases f with
  |zero=>simp at h;omega
  |succ f=>
   have h1:(q-bQ k bias)/(36-bQ k bias)<10^f:=by
    rw[Nat.div_lt_iff_lt_mul om];have h2:10^f*10<=10^f*(36-bQ k bias):=Nat.mul_le_mul_left _ om;rw[Nat.pow_succ]at h;omega
   have:=LJ bias F f (k+36) _ h1
   rw[zq];omega
theorem FR(basic:Nat): ∀(ds:List Nat) (h bias:Nat),(∀d∈ds,d<=67960831)->(cF basic h bias ds).length<=9*ds.length
 |[],_,_,_=>by simp[cF]
 |d::ds,h,bias,hd=>by
  have h1:=FR basic ds (h+1) (bB d (h+1) (h==basic)) (fun x hx=>hd x (List.mem_cons_of_mem _ hx));have h2:=LJ bias 28 8 36 d (by have:=hd d (List.mem_cons_self ..);have:(10:Nat)^8=100000000:=de;omega);show (dK 28 36 bias d++cF basic (h+1) (bB d (h+1) (h==basic)) ds).length<=9*(d::ds).length;rw[zk,zq];omega
theorem xU{l:List Nat}(h:eU l=true):(bJ l).length<=600:=by
 obtain ⟨h1,h2⟩:=bU h;have h3:=AD l h2 l.length 128 0;have h4:=FR (l.filter (· <128)).length (eG l l.length 128 0 (l.filter (· <128)).length) (l.filter (· <128)).length 72 (Aw l h1 h2 _ _ _ om);have h5:=List.length_filter_le (fun x=>decide (x<128)) l;unfold bJ sR;rw[zk,zk,zo];have h6:(if 0<(l.filter (· <128)).length then [45]else []).length<=1:=by split<;>simp
 have h7:(l.filter (· <128)).length=0->(if 0<(l.filter (· <128)).length then [45]else []).length=0:=fun h=>by rw[if_neg om];rfl
 omega
end
section
open Go.RowKit
def iS(c:UInt8):Bool:=decide (97<=c.toNat/\c.toNat<=122)||decide (48<=c.toNat/\c.toNat<=57)||decide (c.toNat=45)
def eS(l:List UInt8):Bool:=decide (1<=l.length)&&decide (l.length<=63)&&decide (l.head? ≠some 45)&&decide (l.getLast? ≠some 45)&&l.all iS
theorem dO{l:List UInt8}(h:eS l=true):1<=l.length/\l.length<=63/\l.head? ≠some 45/\l.getLast? ≠some 45/\ ∀c∈l,iS c=true:=by
 unfold eS at h;simp only[zg,decide_eq_true_eq,zh]at h;exact ⟨h.1.1.1.1,h.1.1.1.2,h.1.1.2,h.1.2,h.2⟩
theorem Hy{l:List UInt8}(h1:1<=l.length)(h2:l.length<=63)(h3:l.head? ≠some 45)(h4:l.getLast? ≠some 45)(h5: ∀c∈l,iS c=true):eS l=true:=by
 unfold eS;simp only[zg,decide_eq_true_eq,zh];exact ⟨⟨⟨⟨h1,h2⟩,h3⟩,h4⟩,h5⟩
theorem lE{c:UInt8}(h:iS c=true):(97<=c.toNat/\c.toNat<=122)∨(48<=c.toNat/\c.toNat<=57)∨c.toNat=45:=by
 unfold iS at h;simp only[zs,decide_eq_true_eq]at h;omega
theorem Bd{c:UInt8}{d:Nat}(hd:c.toNat=d)(h:(97<=d/\d<=122)∨(48<=d/\d<=57)∨d=45):iS c=true:=by
 unfold iS;simp only[zs,decide_eq_true_eq];omega
theorem F0(s:ByteArray)(h:0<s.size):s.data.toList.head? =some s[0]:=by
 have hk:0<s.data.toList.length:=by simpa using h
 rw[List.head?_eq_getElem?,zn hk];rfl
theorem OK(s:ByteArray)(h:0<s.size):s.data.toList.getLast? =some (s[s.size-1]'om):=by
 have hk:0<s.data.toList.length:=by simpa using h
 rw[List.getLast?_eq_getElem?,zn om];rfl
theorem SY(s:ByteArray)(h: ¬(1<=s.size/\s.size<=63)):eS s.data.toList=false:=by
 refine zf.2 fun hl=>h ?_
 obtain ⟨h1,h2,_⟩:=dO hl;have e:s.data.toList.length=s.size:=by simp
 omega
theorem SZ(s:ByteArray)(h:0<s.size)(h0:s[0].toNat=45):eS s.data.toList=false:=by
 refine zf.2 fun hl=> ?_
 obtain ⟨_,_,h3,_⟩:=dO hl;exact h3 ((F0 s h).trans (congrArg some (zp.1 (by simpa using h0))))
theorem TB(s:ByteArray)(h:0<s.size)(h0:(s[s.size-1]'om).toNat=45):eS s.data.toList=false:=by
 refine zf.2 fun hl=> ?_
 obtain ⟨_,_,_,h3,_⟩:=dO hl;exact h3 ((OK s h).trans (congrArg some (zp.1 (by simpa using h0))))
theorem TC(s:ByteArray)(k:Nat)(h:k<s.size)(h0: ¬((97<=s[k].toNat/\s[k].toNat<=122)∨(48<=s[k].toNat/\s[k].toNat<=57)∨s[k].toNat=45)):eS s.data.toList=false:=by
 refine zf.2 fun hl=> ?_
 obtain ⟨_,_,_,_,h3⟩:=dO hl;have hm:s[k]∈s.data.toList:=by
  have:s[k]∈s.data:=Array.getElem_mem _
  simpa using this
 exact h0 (lE (h3 _ hm))
theorem F1(s:ByteArray)(hr:1<=s.size/\s.size<=63)(h0: ¬(s[0]'om).toNat=45)(h1: ¬(s[s.size-1]'om).toNat=45)(h: ∀c∈s.data.toList.take s.size,iS c=true):eS s.data.toList=true:=by
 have e:s.data.toList.length=s.size:=by simp
 rw[dD s s.size (za _)]at h;refine Hy om om (fun hh=>h0 ?_) (fun hh=>h1 ?_) h
 .rw[F0 s om]at hh
  have:=Option.some.inj hh
  rw[this];rfl
 rw[OK s om]at hh
 have:=Option.some.inj hh
 rw[this];rfl
theorem TD(s:ByteArray)(k:Nat)(h:k<s.size)(d:Nat)(hd:s[k].toNat=d)(hc:(97<=d/\d<=122)∨(48<=d/\d<=57)∨d=45)(h0: ∀c∈s.data.toList.take k,iS c=true): ∀c∈s.data.toList.take (k+1),iS c=true:=by
 intro c hm;rw[eW s k h]at hm
 rcases List.mem_append.1 hm with h2|h2
 .exact h0 c h2
 rw[List.mem_singleton.1 h2];exact Bd hd hc
theorem iT(x a b:Int)(w:World)(h1:a<=x)(h2:x<=b):Calls prog 39 #[I J x,I J a,I J b] w fun e w'=>e=Y (G true)/\w=w':=by
 go_enter func39,ntmps39;go_wp2;go_ret;exact ⟨rfl,rfl⟩
theorem iG(x a b:Int)(w:World)(h:x<a∨b<x):Calls prog 39 #[I J x,I J a,I J b] w fun e w'=>e=Y (G false)/\w=w':=by
 by_cases h1:a<=x
 .have h2: ¬x<=b:=om
  clear h;go_enter func39,ntmps39;go_wp2;go_ret;exact ⟨aF j2,rfl⟩
 have h2:x<a:=om;clear h h1;go_enter func39,ntmps39;go_wp2;go_ret;exact ⟨rfl,rfl⟩
def xn:List UInt8:=[120,110,45,45]
def pO(l:List UInt8):Bool:=xn.isPrefixOf l
def KB(l:List UInt8):List Nat:=l.map UInt8.toNat
def okA(l:List UInt8):Bool:=eS l&&(!(pO l)||(dB (KB (l.drop 4))).isSome)
def P0(s:List UInt8):Option (List UInt8):=
 if fY s=true then some (aE s)
 else if (cS ⟨(aE s).toArray⟩).1=s.length/\(cS ⟨(aE s).toArray⟩).2.length<=60 then some (xn++b8 (bJ ((cS ⟨(aE s).toArray⟩).2.map zv)))
 else none
def fQ(s:List UInt8):Option (List UInt8):=match P0 s with
 |some t=>if okA t=true then some t else none
 |none=>none
theorem P1{l:List UInt8}(h: ∀c∈l,iS c=true):aE l=l:=by
 unfold aE
 conv=>rhs;rw[<-zr l]
 refine zi fun c hc=> ?_
 have:=lE (h c hc)
 unfold dT;rw[if_neg om];rfl
theorem P4{l:List UInt8}(h: ∀c∈l,iS c=true):fY l=true:=by
 unfold fY;rw[zh];intro c hc
 have:=lE (h c hc)
 exact decide_eq_true om
theorem OL{t:List UInt8}(h:okA t=true):eS t=true:=by
 unfold okA at h;simp only[zg]at h;exact h.1
theorem F2{s t:List UInt8}(h:fQ s=some t):okA t=true:=by
 unfold fQ at h;split at h
 .split at h
  .rename_i h1;cases h;exact h1
  cases h
 cases h
theorem FS{t:List UInt8}(h:okA t=true):fQ t=some t:=by
 obtain ⟨_,_,_,_,hb⟩:=dO (OL h);have e:P0 t=some t:=by
  unfold P0;rw[if_pos (P4 hb),P1 hb]
 unfold fQ;rw[e];exact if_pos h
theorem P5{s t:List UInt8}(h:fQ s=some t):fQ t=some t:=FS (F2 h)
theorem Bf{s t:List UInt8}(h:fQ s=some t):eS t=true:=OL (F2 h)
theorem P6(l:List Nat): ∀(f n d:Nat),(l.filter (· <n)).length=l.length->eG l f n d (l.filter (· <n)).length=[]
 |0,n,d,_=>by rw[eG]
 |f+1,n,d,h=>by
  rw[eG,if_neg om]
theorem LK{l:List UInt8}(h:pO l=true):l=xn++l.drop 4:=by
 unfold pO at h;obtain ⟨r,rfl⟩:=List.isPrefixOf_iff_prefix.1 h;simp[xn]
theorem Bg{l:List UInt8}{x:Nat}(h:x∈KB l): ∃c∈l,c.toNat=x:=by
 unfold KB at h;obtain ⟨c,hc,rfl⟩:=List.mem_map.1 h;exact ⟨c,hc,rfl⟩
theorem Hz{t:List UInt8}{l:List Nat}(hx:pO t=true)(hl:eS t=true)(hd:dB (KB (t.drop 4))=some l):
  (∃x∈l,128<=x)/\ ∀x∈l,¬(65<=x/\x<=90):=by
 obtain ⟨_,_,_,hlast,hb⟩:=dO hl;obtain ⟨hok,he⟩:=(rM _ _).1 hd;have ht:=LK hx;constructor
 .apply Classical.byContradiction
  intro hno;have hall: ∀x∈l,x<128:=fun x hx=>by
   apply Classical.byContradiction;intro h;exact hno ⟨x,hx,om⟩
  have hf:l.filter (· <128)=l:=List.filter_eq_self.2 fun x hx=>decide_eq_true (hall x hx)
  have hv:sR l=[]:=by
   unfold sR;rw[P6 l l.length 128 0 (by rw[hf])];rw[cF]
  unfold bJ at he;rw[hf,hv,List.map_nil,zt]at he
  by_cases h0:0<l.length
  .rw[if_pos h0]at he
   apply hlast;have h2:(KB (t.drop 4)).getLast? =some 45:=by rw[<-he];simp
   unfold KB at h2;rw[List.getLast?_map]at h2
   cases h3:(t.drop 4).getLast? with
   |none=>rw[h3]at h2;cases h2
   |some c=>
    rw[h3]at h2;have hc:c.toNat=45:=by simpa using h2
    have hc':c=45:=zp.1 (by simpa using hc);subst hc';rw[ht,List.getLast?_append,h3];rfl
  rw[if_neg h0]at he;have h2:KB (t.drop 4)=[]:=by rw[<-he,zt];exact zc om
  have h3:t.drop 4=[]:=by unfold KB at h2;simpa using h2
  apply hlast;rw[ht,h3];rfl
 intro x hxl hx2;have hm:x∈bJ l:=by
  unfold bJ;rw[List.append_assoc];exact List.mem_append_left _ (List.mem_filter.2 ⟨hxl,decide_eq_true om⟩)
 rw[he]at hm;obtain ⟨c,hc,hcx⟩:=Bg hm
 have:=lE (hb c (List.mem_of_mem_drop hc))
 omega
theorem sS(s:ByteArray):(⟨(aE s.data.toList).toArray⟩:ByteArray).size=s.size:=by
 show (aE s.data.toList).toArray.size=s.data.size;rw[List.size_toArray,aE,zo];rfl
theorem TE(l:List UInt8):fY (aE l)=fY l:=by
 unfold fY aE;rw[List.all_map]
 congr 1
 funext c
 have h:=rB c
 by_cases hc:65<=(c.toNat:Int)/\(c.toNat:Int)<=90
 .rw[if_pos hc]at h
  rw[Function.comp,decide_eq_decide];omega
 rw[if_neg hc]at h;rw[Function.comp,decide_eq_decide];omega
theorem OM{s:List UInt8}(h:fY s=false)(h2: ¬((cS ⟨(aE s).toArray⟩).1=s.length/\(cS ⟨(aE s).toArray⟩).2.length<=60)):fQ s=none:=by
 unfold fQ P0;rw[if_neg (by rw[h];decide),if_neg h2]
theorem TF{s:List UInt8}(h:fY s=false)(h2:(cS ⟨(aE s).toArray⟩).1=s.length/\(cS ⟨(aE s).toArray⟩).2.length<=60):
  fQ s=if okA (xn++b8 (bJ ((cS ⟨(aE s).toArray⟩).2.map zv)))=true then some (xn++b8 (bJ ((cS ⟨(aE s).toArray⟩).2.map zv)))else none:=by
 unfold fQ P0;rw[if_neg (by rw[h];decide),if_pos h2]
theorem FT{s:List UInt8}(h:fY s=true):fQ s=if okA (aE s)=true then some (aE s)else none:=by
 unfold fQ P0;rw[if_pos h]
def dW(r:Option (List UInt8)):Value:=match r with
 |some t=> H #[L ⟨t.toArray⟩,G true]
 |none=> H #[L ⟨#[]⟩,G false]
