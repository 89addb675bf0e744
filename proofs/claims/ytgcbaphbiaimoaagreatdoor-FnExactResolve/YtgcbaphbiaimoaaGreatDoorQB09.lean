/- NamesBack, Loose4Impl, Parse4Walk, Par6Spec, Grp6Spec. -/
import Derived.Test.YtgcbaphbiaimoaaGreatDoorQB08
set_option maxHeartbeats 8000000
set_option maxRecDepth 20000
namespace Go.Proofs.YtgcbaphbiaimoaaGreatDoor
open Go.Value renaming int->I,string->L
open Go.IntKind renaming i64->J
open Go.Ending renaming returned->Y
open _root_.Go.RowKit.Below renaming refl->zs
open _root_.ByteArray renaming empty->za
open _root_.List renaming drop_eq_getElem_cons->zm,drop_of_length_le->zg,eq_nil_of_length_eq_zero->zf,length_append->zc,length_cons->zi,length_take->zq,mem_append->zp,mem_cons_of_mem->zh,mem_cons_self->zd,mem_singleton->zl
open _root_.Nat renaming le_refl->zn,le_trans->zo,lt_of_lt_of_le->ze,pow_succ->zk,zero_le->zr
open _root_.Go.World renaming cell?_of_block->zj
open _root_.Go.Proofs.Tryz
open _root_.Go.Proofs.YtgcbaphbiaimoaaGreatDoor.Tryz
open Go.RowKit
def xZ(l:List UInt8):Prop:= ∀c∈l,c≠46
theorem OS: ∀{a b r q:List UInt8},xZ a->xZ b->(r=[]∨ ∃t,r=46::t)->(q=[]∨ ∃t,q=46::t)->a++r=b++q->a=b/\r=q
 |[],[],r,q,_,_,_,_,h=>⟨rfl,h⟩
 |[],y::b,r,q,_,hb,hr,_,h=>by
  exfalso
  rcases hr with rfl|⟨t,rfl⟩
  .simp at h
  simp at h;exact hb y zd h.1.symm
 |x::a,[],r,q,ha,_,_,hq,h=>by
  exfalso
  rcases hq with rfl|⟨t,rfl⟩
  .simp at h
  simp at h;exact ha x zd h.1
 |x::a,y::b,r,q,ha,hb,hr,hq,h=>by
  simp only[List.cons_append,List.cons.injEq]at h;obtain ⟨h1,h2⟩:=OS (fun c hc=>ha c (zh _ hc)) (fun c hc=>hb c (zh _ hc)) hr hq h.2;exact ⟨by rw[h.1,h1],h2⟩
theorem DZ(x y:ByteArray)(r:List ByteArray):jn 46 (x::y::r)=x.data.toList++46::jn 46 (y::r):=by
 simp[jn]
theorem sV{x y:ByteArray}(h:x.data.toList=y.data.toList):x=y:=by
 apply ByteArray.ext;exact Array.toList_inj.1 h
theorem Bv: ∀{xs ys:List ByteArray},xs≠[]->ys≠[]->(∀x∈xs,xZ x.data.toList)->(∀y∈ys,xZ y.data.toList)->jn 46 xs=jn 46 ys->xs=ys
 |[],_,h,_,_,_,_=>absurd rfl h
 |_::_,[],_,h,_,_,_=>absurd rfl h
 |[x],[y],_,_,_,_,h=>by
  simp only[jn,List.flatMap_nil,List.append_nil]at h;rw[sV h]
 |[x],y::z::r,_,_,hx,hy,h=>by
  exfalso
  rw[DZ]at h;have h':x.data.toList++[]=y.data.toList++46::jn 46 (z::r):=by rw[<-h];simp[jn]
  obtain ⟨_,h2⟩:=OS (hx x zd) (hy y zd) (.inl rfl) (.inr ⟨_,rfl⟩) h'
  cases h2
 |x::z::r,[y],_,_,hx,hy,h=>by
  exfalso
  rw[DZ]at h;have h':x.data.toList++46::jn 46 (z::r)=y.data.toList++[]:=by rw[h];simp[jn]
  obtain ⟨_,h2⟩:=OS (hx x zd) (hy y zd) (.inr ⟨_,rfl⟩) (.inl rfl) h'
  cases h2
 |x::z::r,y::u::q,_,_,hx,hy,h=>by
  rw[DZ,DZ]at h;obtain ⟨h1,h2⟩:=OS (hx x zd) (hy y zd) (.inr ⟨_,rfl⟩) (.inr ⟨_,rfl⟩) h;have h3:jn 46 (z::r)=jn 46 (u::q):=by simpa using h2
  have h4:=Bv j2 j2 (fun a ha=>hx a (zh _ ha)) (fun a ha=>hy a (zh _ ha)) h3;rw[sV h1,h4]
theorem yA(s:ByteArray): ∀k,k<=s.size->(aK s 46 k).2<=k/\(∀x∈(aK s 46 k).1,xZ x.data.toList)/\xZ ((s.data.toList.take k).drop (aK s 46 k).2)
 |0,_=>by simp[aK,xZ]
 |k+1,hk=>by
  obtain ⟨h0,h1,h2⟩:=yA s k om
  by_cases e:(s[k].toNat:Int)=46
  .rw[iO s 46 k om e]
   refine ⟨zn _,fun x hx=> ?_,?_⟩
   .rcases zp.1 hx with h|h
    .exact h1 x h
    rw[zl.1 h,bE];exact h2
   simp only;rw[zg (by rw[zq];omega)];intro c hc;simp at hc
  rw[fX s 46 k om e];refine ⟨om,h1,?_⟩;rw[eW s k om,List.drop_append_of_le_length (by rw[zq];simp;omega)];intro c hc
  rcases zp.1 hc with h|h
  .exact h2 c h
  rw[zl.1 h];intro h3;apply e;rw[h3];rfl
theorem KE(s:ByteArray): ∀x∈aB s 46,xZ x.data.toList:=by
 obtain ⟨_,h1,h2⟩:=yA s s.size (zn _);intro x hx;unfold aB at hx
 rcases zp.1 hx with h|h
 .exact h1 x h
 rw[zl.1 h,bE];exact h2
theorem P9{l:List UInt8}(h:eS l=true):xZ l:=fun c hc he=>by
 have:=lE ((dO h).2.2.2.2 c hc)
 rw[he]at this
 revert this
 decide
theorem LR{ls:List ByteArray}(hne:ls≠[])(h: ∀a∈ls,eS a.data.toList=true):aB ⟨(jn 46 ls).toArray⟩ 46=ls:=by
 refine Bv (by intro h0;have:=BP ⟨(jn 46 ls).toArray⟩ 46;rw[h0]at this;simp at this) hne (KE _) (fun x hx=>P9 (h x hx)) ?_;exact xC ⟨(jn 46 ls).toArray⟩ 46 de de
theorem FZ{ls:List ByteArray}(h: ∀a∈ls,eS a.data.toList=true):eJ ls=ls:=by
 unfold eJ;refine if_neg fun hh=> ?_
 have hl:ls.length-1<ls.length:=om;have hm:ls.getD (ls.length-1) za∈ls:=by
  rw[List.getD_eq_getElem?_getD,List.getElem?_eq_getElem hl];exact List.getElem_mem hl
 have:=(dO (h _ hm)).1
 have e:(ls.getD (ls.length-1) za).data.toList.length=(ls.getD (ls.length-1) za).size:=by simp
 omega
theorem uB{s:ByteArray}{n:List UInt8}(h:cX s=some n): ∃ls:List ByteArray,ls≠[]/\ls.length<=253/\n.length<=253/\(∀a∈ls,eS a.data.toList=true/\a.size<=63)/\n=jn 46 ls/\
  cX ⟨n.toArray⟩=some n/\Bu ⟨n.toArray⟩=ls.reverse/\0<n.length:=by
 unfold cX at h;have hp:=zW (BP s 46);generalize eJ (aB s 46)=fs at h hp;unfold kJ at h
 cases hr:fI fs with
 |none=>rw[hr]at h;cases h
 |some ls=>
  rw[hr]at h;simp only at h;split at h
  .rename_i hle
   cases h
   have hl:=oC hr;have hne:ls≠[]:=by intro h0;rw[h0]at hl;simp at hl;omega
   have hlab:=LL hr;have hlab1: ∀a∈ls,eS a.data.toList=true:=fun a ha=>(hlab a ha).1
   have hf:=LR hne hlab1;have hpos:0<(jn 46 ls).length/\ls.length<=(jn 46 ls).length:=by
    have key: ∀ms:List ByteArray,ms.length<=(ms.flatMap fun y=>(46:UInt8)::y.data.toList).length:=by
     intro ms
     induction ms with
     |nil=>simp
     |cons m ms ih=>rw[List.flatMap_cons,zc,zi,zi];omega
    match ls,hne,hlab1 with
    |x::xs,_,h1=>
     have h2:=(dO (h1 x zd)).1;have h3:=key xs;unfold jn;rw[zc,zi];omega
   refine ⟨ls,hne,om,hle,fun a ha=>⟨hlab1 a ha,LM hlab a ha⟩,rfl,?_,?_,hpos.1⟩
   .unfold cX
    rw[hf,FZ hlab1];exact lF (AG fun a ha=>(hlab a ha).2) hle
   unfold Bu;rw[hf,if_neg];show ¬(jn 46 ls).toArray.size=0;rw[List.size_toArray];omega
  cases h
theorem yB(s:ByteArray)(w:World)(hs:s.size<=1048576):Calls prog 268 #[L s] w fun e w'=>e=Y (fL (loA s))/\Below w.heap.size w w':=by
 have CF:Hid (Calls prog 135 #[L s,.int .u8 46] w fun e w'=> ∃v,e=Y v/\w'.ownsRow w.heap.size 9 1 v (aB s 46).length (aZ (aB s 46))/\Below w.heap.size w w'):=vR s 46 w hs;have hpos:0<(aB s 46).length:=by simp[aB]
 have hlen:(aB s 46).length<=1048577:=by
  have:=(eF s 46 s.size).2
  simp[aB];omega
 have HSZ:Hid (∀x∈eJ (aB s 46),x.size<=1048576):=BL (iF s hs);have HNM:Hid (loA s=lo4 ((eJ (aB s 46)).map toL)):=rfl;have hp2:=zW hpos;have hl2:(eJ (aB s 46)).length<=1048577:=zo (RU _) hlen;have CW:Hid (∀(W:World) (v:Value) (B:Nat),W.ownsRow B 9 1 v (aB s 46).length (aZ (aB s 46))->Calls prog 280 #[v] W fun e w'=> ∃v',e=Y v'/\W.ownsRow B 9 1 v' (eJ (aB s 46)).length (aZ (eJ (aB s 46)))/\W=w'):=
  fun W v B h=>BM _ B v W hpos hlen h
 generalize eJ (aB s 46)=fs at CW HSZ HNM hp2 hl2
 by_cases h5:4<fs.length
 .have HZ:Hid (loA s=none):=by
   show _=_;rw[HNM.out,E4 h5]
  have h5':4<(fs.length:Int):=om;clear h5;go_enter func268,ntmps268;go_wp2_with fail;refine CF.out.mono ?_;rintro e wa ⟨va,rfl,oa,ba⟩;go_wp2_with fail;refine (CW.out _ _ _ oa).mono ?_;rintro e wb ⟨vb,rfl,ob,rfl⟩;clear oa CW CF hpos hlen
  rcases aY ob with ⟨h,_⟩|⟨_,g,cap,rfl⟩
  .omega
  go_wp2_with fail;go_ret2;exact ⟨by rw[HZ.out];rfl,ba⟩
 have HF:Hid (loA s=loF 0 4294967296 (fs.map toL)):=by
  show _=_;rw[HNM.out,RX om]
 have h5': ¬4<(fs.length:Int):=om;go_enter func268,ntmps268;go_wp2_with fail;refine CF.out.mono ?_;rintro e wa ⟨va,rfl,oa,ba⟩;go_wp2_with fail;refine (CW.out _ _ _ oa).mono ?_;rintro e wb ⟨vb,rfl,ob,rfl⟩;clear oa CW CF hpos hlen
 rcases aY ob with ⟨h,_⟩|⟨_,g,cap,rfl⟩
 .omega
 have hcap:=mY ob;have hi:((fs.length:Int)-1)=((fs.length-1:Nat):Int):=om;obtain ⟨m,hm⟩: ∃m,fs.length-1=m:=⟨_,rfl⟩;rw[hm]at hi;have HM:Hid (fs.length=m+1):=by show _=_;omega
 clear hm;go_wp2_with fail
 go_loop[5,6,27] (fun x r i=> ∃(k n ρ:Nat) (a b:Int),k<=m/\i=I J k/\x=I J a/\r=I J b/\ρ=4294967296/256^k/\b=(ρ:Int)/\a=((n*ρ:Nat):Int)/\n<256^k/\loF n ρ ((fs.drop k).map toL)=loF 0 4294967296 (fs.map toL)) (fun _ _ i=>m-(intOf i).toNat)
 case atStart=>exact ⟨0,0,4294967296,0,4294967296,zr _,rfl,rfl,rfl,de,rfl,rfl,de,rfl⟩
 obtain ⟨k,n,ρ,a,b,hk,rfl,rfl,rfl,hρ,hb,ha,hn,hf⟩:=hrel;have HR:Hid (loF n ρ ((fs.drop k).map toL)=loF 0 4294967296 (fs.map toL)):=hf;have HA:Hid (a=((n*ρ:Nat):Int)):=ha;have HP:Hid (ρ=4294967296/256^k):=hρ;have HB:Hid (b=(ρ:Int)):=hb;have HN:Hid (n<256^k):=hn;have hρ1:ρ<=4294967296:=by rw[hρ];exact Nat.div_le_self _ _
 have hab:n*ρ<=4294967296:=by
  rw[hρ];exact zo (Nat.mul_le_mul_right _ (Nat.le_of_lt hn)) (Nat.mul_div_le _ _)
 have hb0:0<=b:=om;have hb1:b<=4294967296:=om;have ha0:0<=a:=om;have ha1:a<=4294967296:=om;have HKM:Hid (k<=m):=hk;clear hf ha hρ hb hn hρ1 hab;have hc:=cO ob k (by have:=HM.out;omega);have hsy:=HSZ.out _ (nX (k:=k) (by have:=HM.out;omega));have CT:Hid (∀W,CS 284 #[L (fs.getD k za)] W (fL (cJ (toL (fs.getD k za))))):=fun W=>N5 _ W hsy
 clear hsy
 by_cases hlt:k<m
 .have HS:Hid (_=_):=DT fs k n ρ (by have:=HM.out;omega)
  generalize fs.getD k za=y at hc CT HS;have hki:(k:Int)<(m:Int):=om
  cases hv:cJ (toL y)with
  |none=>
   rw[hv]at CT HS;have HZ:Hid (loA s=none):=by
    show _=_;rw[HF.out,<-HR.out,HS.out]
   clear hv;go_wp2_with fail;refine (CT.out _).mono ?_;rintro e w' ⟨rfl,rfl⟩;simp only[fL];go_wp2_with fail;go_ret2;exact ⟨by rw[HZ.out];rfl,ba⟩
  |some v=>
   rw[hv]at CT HS;clear hv;obtain ⟨x,hx⟩: ∃x:Int,(v:Int)=x:=⟨_,rfl⟩;have HX:Hid ((v:Int)=x):=hx
   by_cases hvr:v<256
   .have HG:Hid (loF (n*256+v) (ρ/256) ((fs.drop (k+1)).map toL)=loF 0 4294967296 (fs.map toL)):=by
     show _=_;rw[<-HR.out,HS.out];exact (if_pos hvr).symm
    have hx1: ¬256<=x:=om;have hx0:0<=x:=om;obtain ⟨b',hb'⟩: ∃b':Int,b/256=b':=⟨_,rfl⟩;have HB':Hid (b/256=b'):=hb';have hb'0:0<=b':=om;have hb'1:b'<=16777216:=om;obtain ⟨p,hp⟩: ∃p:Int,x*b'=p:=⟨_,rfl⟩;have HPP:Hid (x*b'=p):=hp;have hp0:0<=p:=by rw[<-hp];exact Int.mul_nonneg hx0 hb'0
    have hp1:p<=4294967296:=by
     rw[<-hp];have h1:x*b'<=256*b':=Int.mul_le_mul_of_nonneg_right om hb'0;omega
    have HV:Hid (v<256):=hvr;clear hvr hx;go_wp2_with fail;refine (CT.out _).mono ?_;rintro e w' ⟨rfl,rfl⟩;simp only[fL];rw[HX.out];go_wp2_with fail;go_round
    case rel=>
     have h1:=HN.out;have h2:=HV.out;have h3:=HB.out;have h4:=HB'.out;have h5:b'=((ρ/256:Nat):Int):=by rw[<-h4,h3];omega
     have h6:256*(ρ/256)=ρ:=by
      rw[HP.out];obtain ⟨j,hj⟩: ∃j,k+1+j=4:=⟨4-(k+1),by have:=HM.out;omega⟩;have h7:4294967296=256^k*(256^j*256):=by
       rw[<-zk,<-Nat.pow_add,show k+(j+1)=4 by omega]
      rw[h7,Nat.mul_div_cancel_left _ (Nat.pow_pos de),Nat.mul_div_cancel _ de,Nat.mul_comm]
     refine ⟨k+1,n*256+v,ρ/256,a+p,b',om,gn,gn,gn,?_,h5,?_,?_,HG.out⟩
     .rw[HP.out,zk,<-Nat.div_div_eq_div_mul]
     .rw[HA.out,<-HPP.out,<-HX.out,h5,Nat.add_mul,Nat.mul_assoc,h6,<-Int.natCast_mul,<-Int.natCast_add]
     rw[zk];omega
    case measure=>exact j1
   have HZ:Hid (loA s=none):=by
    show _=_;rw[HF.out,<-HR.out,HS.out];exact if_neg hvr
   have hx1:256<=x:=om;clear hvr hx;go_wp2_with fail;refine (CT.out _).mono ?_;rintro e w' ⟨rfl,rfl⟩;simp only[fL];rw[HX.out];go_wp2_with fail;go_ret2;exact ⟨by rw[HZ.out];rfl,ba⟩
 have HS:Hid (_=_):=xF fs k n ρ (by have:=HM.out;omega);generalize fs.getD k za=y at hc CT HS
 obtain rfl:k=m:=om
 have hki: ¬(k:Int)<(k:Int):=om
 cases hv:cJ (toL y)with
 |none=>
  rw[hv]at CT HS;have HZ:Hid (loA s=none):=by
   show _=_;rw[HF.out,<-HR.out,HS.out]
  clear hv hlt hki;go_wp2_with fail;refine (CT.out _).mono ?_;rintro e w' ⟨rfl,rfl⟩;simp only[fL];go_wp2_with fail;go_ret2;exact ⟨by rw[HZ.out];rfl,ba⟩
 |some v=>
  rw[hv]at CT HS;clear hv hlt hki;obtain ⟨x,hx⟩: ∃x:Int,(v:Int)=x:=⟨_,rfl⟩;have HX:Hid ((v:Int)=x):=hx
  by_cases hvr:v<ρ
  .have HZ:Hid (loA s=some (n*ρ+v)):=by
    show _=_;rw[HF.out,<-HR.out,HS.out];exact if_pos hvr
   have hx1: ¬b<=x:=by have:=HB.out;omega
   have hx0:0<=x:=om;clear hvr hx;go_wp2_with fail;refine (CT.out _).mono ?_;rintro e w' ⟨rfl,rfl⟩;simp only[fL];rw[HX.out];go_wp2_with fail;go_ret2;exact ⟨by rw[HZ.out];have h1:=HA.out;have h2:=HX.out;simp[fL];rw[h1,<-h2];simp,ba⟩
  have HZ:Hid (loA s=none):=by
   show _=_;rw[HF.out,<-HR.out,HS.out];exact if_neg hvr
  have hx1:b<=x:=by have:=HB.out;omega
  clear hvr hx;go_wp2_with fail;refine (CT.out _).mono ?_;rintro e w' ⟨rfl,rfl⟩;simp only[fL];rw[HX.out];go_wp2_with fail;go_ret2;exact ⟨by rw[HZ.out];rfl,ba⟩
theorem Mb(fs:List ByteArray)(k n:Nat)(h: ¬k<fs.length):stF n ((fs.drop k).map toL)=some n:=by
 rw[zg om];rfl
theorem Ic(fs:List ByteArray)(k n:Nat)(h:k<fs.length):stF n ((fs.drop k).map toL)=match wY (toL (fs.getD k za))with
  |none=>none
  |some v=>stF (n*256+v) ((fs.drop (k+1)).map toL):=by
 rw[lA fs k h];rfl
theorem Bw{y:ByteArray}(h:y.size=0):wY (toL y)=none:=by
 have:toL y=[]:=zf (by simpa[toL] using h)
 rw[this];rfl
theorem Ie{y:ByteArray}(h:0<y.size):wY (toL y)=match cU 10 3 (toL y)with
  |none=>none
  |some v=>if 255<v∨1<y.size/\y[0].toNat=48 then none else some v:=by
 have e:=nA y h;unfold wY;rw[show (toL y).isEmpty=false by unfold toL;rw[e];rfl];simp only[Bool.false_eq_true,if_false]
 cases cU 10 3 (toL y)with
 |none=>rfl
 |some v=>
  simp only;have e1:(1<(toL y).length/\(toL y).head? =some 48)↔(1<y.size/\y[0].toNat=48):=by
   have e2:(toL y).head? =some y[0]:=by unfold toL;rw[e];rfl
   have e3:(toL y).length=y.size:=by simp[toL]
   rw[e2,e3];constructor
   .rintro ⟨a,b⟩
    exact ⟨a,by injection b with b;rw[b];rfl⟩
   rintro ⟨a,b⟩;exact ⟨a,by rw[mP (d:=48) b]⟩
  simp only[e1]
theorem OT(s:ByteArray)(w:World)(hs:s.size<=1048576):Calls prog 219 #[L s] w fun e w'=>e=Y (fL (p4 s.data.toList))/\Below w.heap.size w w':=by
 have CF:Hid (Calls prog 93 #[L s,.int .u8 46] w fun e w'=> ∃v,e=Y v/\w'.ownsRow w.heap.size 9 1 v (aB s 46).length (aZ (aB s 46))/\Below w.heap.size w w'):=nU s 46 w hs;have hpos:0<(aB s 46).length:=by simp[aB]
 have hlen:(aB s 46).length<=1048577:=by
  have:=(eF s 46 s.size).2
  simp[aB];omega
 have HSZ:Hid (∀x∈aB s 46,x.size<=1048576):=iF s hs;have HP:Hid (p4 s.data.toList=if (aB s 46).length=4 then stF 0 ((aB s 46).map toL)else none):=by
  show _=_;unfold p4;rw[<-vT,List.length_map]
 generalize aB s 46=fs at CF hpos hlen HSZ HP
 by_cases h4:fs.length=4
 .have HF:Hid (p4 s.data.toList=stF 0 (fs.map toL)):=by
   show _=_;rw[HP.out,if_pos h4]
  have HM:Hid (fs.length=4):=h4;go_enter func219,ntmps219;go_wp2_with fail;refine CF.out.mono ?_;rintro e wa ⟨va,rfl,OV,ba⟩
  rcases aY OV with ⟨h,_⟩|⟨_,g,cap,rfl⟩
  .omega
  rw[h4]at OV⊢;clear h4 hpos hlen CF HP;go_wp2_with fail
  go_loop[5,6] (fun x i=> ∃(k n:Nat) (a:Int),k<=4/\i=I J k/\x=I J a/\a=(n:Int)/\n<256^k/\stF n ((fs.drop k).map toL)=stF 0 (fs.map toL)) (fun _ i=>4-(intOf i).toNat)
  case atStart=>exact ⟨0,0,0,om,rfl,rfl,rfl,de,rfl⟩
  obtain ⟨k,n,a,hk,rfl,rfl,ha,hn,hf⟩:=hrel;have HR:Hid (stF n ((fs.drop k).map toL)=stF 0 (fs.map toL)):=hf;have HN:Hid (n<256^k):=hn;have HA:Hid (a=(n:Int)):=ha;clear hf
  by_cases hlt:k<4
  .have hn2:n<16777216:=ze hn (EX om)
   have ha0:0<=a:=om;have ha1:a<16777216:=om;clear hn hn2 ha;have hc:=cO OV k om;have hsy:=HSZ.out _ (nX (k:=k) (by have:=HM.out;omega));have HS:Hid (_=_):=Ic fs k n (by have:=HM.out;omega);have CN:Hid (∀W,CS 57 #[L (fs.getD k za),I J 10,I J 3] W (I J (eQ (cU 10 3 (toL (fs.getD k za)))))):=fun W=>jU _ 10 3 W om om
   generalize fs.getD k za=y at hc hsy HS CN;have hki:(k:Int)<4:=om
   by_cases he:y.size=0
   .have HZ:Hid (p4 s.data.toList=none):=by
     show _=_;rw[HF.out,<-HR.out,HS.out,Bw he]
    have hem:=aS he;clear he;generalize eQ (cU 10 3 (toL y))=z at CN;go_wp2_with fail;refine (CN.out _).mono ?_;rintro e w' ⟨rfl,rfl⟩;go_wp2_with fail;go_ret2;exact ⟨by rw[HZ.out];rfl,ba⟩
   have hpy:0<y.size:=om;have hem:=aW hpy;have HS1:Hid (_=_):=Ie hpy;clear he
   cases hv:cU 10 3 (toL y)with
   |none=>
    rw[hv]at CN HS1;have HZ:Hid (p4 s.data.toList=none):=by
     show _=_;rw[HF.out,<-HR.out,HS.out,HS1.out]
    clear hv;go_wp2_with fail;refine (CN.out _).mono ?_;rintro e w' ⟨rfl,rfl⟩;simp only[eQ];go_wp2_with fail;refine j5 (aP _ _ _ _ om) ?_;go_wp2_with fail;go_ret2;exact ⟨by rw[HZ.out];rfl,ba⟩
   |some v=>
    rw[hv]at CN HS1;clear hv;obtain ⟨x,hx⟩: ∃x:Int,(v:Int)=x:=⟨_,rfl⟩;have HX:Hid ((v:Int)=x):=hx;have hx0:0<=x:=om
    by_cases hvr:255<v
    .have HZ:Hid (p4 s.data.toList=none):=by
      show _=_;rw[HF.out,<-HR.out,HS.out,HS1.out];simp only;rw[if_pos (.inl hvr)]
     have hx1:255<x:=om;clear hvr hx;go_wp2_with fail;refine (CN.out _).mono ?_;rintro e w' ⟨rfl,rfl⟩;simp only[eQ];rw[HX.out];go_wp2_with fail;refine j5 (aP _ _ _ _ om) ?_;go_wp2_with fail;go_ret2;exact ⟨by rw[HZ.out];rfl,ba⟩
    have hx1:x<=255:=om;have hx2:v<256:=om;have HV:Hid (v<256):=hx2;obtain ⟨d,hd⟩: ∃d:Nat,y[0].toNat=d:=⟨_,rfl⟩
    by_cases hq:1<y.size/\d=48
    .have HZ:Hid (p4 s.data.toList=none):=by
      show _=_;rw[HF.out,<-HR.out,HS.out,HS1.out];simp only;rw[if_pos (.inr ⟨hq.1,hd.trans hq.2⟩)]
     obtain ⟨hq1,rfl⟩:=hq;have hq1':1<(y.size:Int):=om;clear hvr hx hx2;go_wp2_with fail;refine (CN.out _).mono ?_;rintro e w' ⟨rfl,rfl⟩;simp only[eQ];rw[HX.out];go_wp2_with fail;refine j5 (aI _ _ _ _ om om) ?_;go_wp2_with fail;go_ret2;exact ⟨by rw[HZ.out];rfl,ba⟩
    have HG:Hid (stF (n*256+v) ((fs.drop (k+1)).map toL)=stF 0 (fs.map toL)):=by
     show _=_;rw[<-HR.out,HS.out,HS1.out];simp only;rw[if_neg];rintro (h|⟨h,h'⟩)
     .exact hvr h
     exact hq ⟨h,hd.symm.trans h'⟩
    clear hvr hx hx2
    by_cases hq1:1<y.size
    .have hq1':1<(y.size:Int):=om
     have hq2:((d:Int)==48)=false:=by simp;omega
     clear hq;go_wp2_with fail;refine (CN.out _).mono ?_;rintro e w' ⟨rfl,rfl⟩;simp only[eQ];rw[HX.out];go_wp2_with fail;refine j5 (aI _ _ _ _ om om) ?_;go_wp2_with fail;go_round
     case rel=>exact ⟨k+1,n*256+v,a*256+x,om,gn,gn,by have h1:=HA.out;have h2:=HX.out;omega,by have h1:=HN.out;have h2:=HV.out;rw[zk];omega,HG.out⟩
     case measure=>exact j1
    have hq1': ¬1<(y.size:Int):=om;clear hq;go_wp2_with fail;refine (CN.out _).mono ?_;rintro e w' ⟨rfl,rfl⟩;simp only[eQ];rw[HX.out];go_wp2_with fail;refine j5 (aI _ _ _ _ om om) ?_;go_wp2_with fail;go_round
    case rel=>exact ⟨k+1,n*256+v,a*256+x,om,gn,gn,by have h1:=HA.out;have h2:=HX.out;omega,by have h1:=HN.out;have h2:=HV.out;rw[zk];omega,HG.out⟩
    case measure=>exact j1
  have HZ:Hid (p4 s.data.toList=some n):=by
   show _=_;rw[HF.out,<-HR.out];exact Mb fs k n (by have:=HM.out;omega)
  have hki: ¬(k:Int)<4:=om;clear hn ha;go_wp2_with fail;go_ret2;exact ⟨by rw[HZ.out];have h1:=HA.out;simp[fL];exact h1,ba⟩
 have HZ:Hid (p4 s.data.toList=none):=by
  show _=_;rw[HP.out,if_neg h4]
 have h4':((fs.length:Int)==4)=false:=by simp;omega
 clear h4 HP;go_enter func219,ntmps219;go_wp2_with fail;refine CF.out.mono ?_;rintro e wa ⟨va,rfl,OV,ba⟩
 rcases aY OV with ⟨h,_⟩|⟨_,g,cap,rfl⟩
 .omega
 have h0':0<(fs.length:Int):=om;go_wp2_with fail;refine wp_loop_rounds 1 ?_;rw[rounds_succ];go_wp2_with fail;go_ret2;exact ⟨by rw[HZ.out];rfl,ba⟩
theorem OU(s:ByteArray)(w:World)(hs:s.size<=1048576)(hT:Pow w):Calls prog 286 #[L s] w fun e w'=>e=Y (fL (p4 s.data.toList))/\Below w.heap.size w w':=by
 have CL:Hid (CB 268 #[L s] w (fL (loA s))):=yB s w hs;have HT:Hid (Pow w):=hT;clear hT
 cases hl:loA s with
 |none=>
  have HZ:Hid (p4 s.data.toList=none):=XN hl;rw[hl]at CL;clear hl;go_enter func286,ntmps286;go_wp2_with fail;refine CL.out.mono ?_;rintro e wa ⟨rfl,ba⟩;simp only[fL];go_wp2_with fail;go_ret2;exact ⟨by rw[HZ.out];rfl,ba⟩
 |some n=>
  have hn:=XM hl;rw[hl]at CL;have CI:Hid (∀W,Pow W->CB 142 #[I J (n:Int)] W (L (fR n))):=fun W h=>sM n W om om h
  by_cases hq:fR n=s
  .have HZ:Hid (p4 s.data.toList=some n):=N2 hl (by rw[<-hq];simp[fR])
   have hst:=XK hq;clear hl hq hn;generalize fR n=T at CI hst;go_enter func286,ntmps286;go_wp2_with fail;refine CL.out.mono ?_;rintro e wa ⟨rfl,ba⟩;simp only[fL];go_wp2_with fail;refine (CI.out _ (dQ HT.out ba)).mono ?_;rintro e wb ⟨rfl,bb⟩;go_wp2_with fail;go_ret2;exact ⟨by rw[HZ.out];rfl,ba.trans (bb.mono ba.size)⟩
  have HZ:Hid (p4 s.data.toList=none):=Ab hl (fun e=>hq (bL (by show (fR n).data.toList=s.data.toList;rw[<-e];simp[fR])));have hst:=rG hq;clear hl hq hn;generalize fR n=T at CI hst;go_enter func286,ntmps286;go_wp2_with fail;refine CL.out.mono ?_;rintro e wa ⟨rfl,ba⟩;simp only[fL];go_wp2_with fail;refine (CI.out _ (dQ HT.out ba)).mono ?_;rintro e wb ⟨rfl,bb⟩;go_wp2_with fail;go_ret2;exact ⟨by rw[HZ.out];rfl,ba.trans (bb.mono ba.size)⟩
def jG:List UInt8->Option Nat
 |[]=>none
 |c::r=>if c=58/\r.head? =some 58 then some 0 else (jG r).map (· +1)
theorem EA: ∀l,cW l=(jG l).map fun k=>(l.take k,l.drop (k+2))
 |[]=>rfl
 |c::r=>by
  rw[cW,jG,EA r];split
  .cases r<;>simp
  cases jG r<;>simp
theorem Bx: ∀{l:List UInt8} {k:Nat},jG l=some k->k+2<=l.length
 |[],k,h=>by cases h
 |c::r,k,h=>by
  rw[jG]at h;split at h
  .rename_i hc
   cases h
   cases r with
   |nil=>simp at hc
   |cons d q=>simp
  cases hr:jG r with
  |none=>rw[hr]at h;cases h
  |some j=>
   rw[hr]at h
   cases h
   have:=Bx hr
   simp;omega
theorem By(s:ByteArray)(k:Nat)(h:k+1<s.size):jG (s.data.toList.drop k)=if s[k].toNat=58/\s[k+1].toNat=58 then some 0 else (jG (s.data.toList.drop (k+1))).map (· +1):=by
 have h1:s.data.toList.drop k=s[k]::s.data.toList.drop (k+1):=zm (by simp;omega);have h2:s.data.toList.drop (k+1)=s[k+1]::s.data.toList.drop (k+1+1):=zm (by simp;omega);rw[h1,jG];have h3:(s.data.toList.drop (k+1)).head? =some s[k+1]:=by rw[h2];rfl
 rw[h3]
 by_cases hc:s[k].toNat=58/\s[k+1].toNat=58
 .rw[if_pos hc,if_pos ⟨mP hc.1,by rw[mP (d:=58) hc.2]⟩]
 rw[if_neg hc,if_neg];rintro ⟨a,b⟩;apply hc;injection b with b;exact ⟨by rw[a];rfl,by rw[b];rfl⟩
theorem If(s:ByteArray)(k:Nat)(h: ¬k+1<s.size):jG (s.data.toList.drop k)=none:=by
 have hl:(s.data.toList.drop k).length<=1:=by simp;omega
 match hd:s.data.toList.drop k,hl with
 |[],_=>rfl
 |[c],_=>simp[jG]
 |_::_::_,hl=>simp at hl
def KF(r:Option Nat):Int:=match r with
 |none=> -1
 |some k=>k
theorem XY(s:ByteArray)(w:World)(hs:s.size<=1048576):Calls prog 167 #[L s] w fun e w'=>e=Y (I J (KF (jG s.data.toList)))/\Below w.heap.size w w':=by
 go_enter func167,ntmps167;go_wp2
 go_loopw[3] (fun i wr=> ∃k:Nat,k<=s.size/\i=I J k/\jG s.data.toList=(jG (s.data.toList.drop k)).map (· +k)/\Below w.heap.size w wr) (fun i _=>s.size-(intOf i).toNat)
 case atStart=>exact ⟨0,zr _,rfl,by simp,zs _ _⟩
 obtain ⟨k,hk,rfl,hd,hbel⟩:=hrel;have HD:Hid (jG s.data.toList=(jG (s.data.toList.drop k)).map (· +k)):=hd;clear hd
 by_cases hlt:k+1<s.size
 .obtain ⟨c,hc⟩: ∃c:Nat,s[k].toNat=c:=⟨_,rfl⟩
  obtain ⟨d,hd⟩: ∃d:Nat,s[k+1].toNat=d:=⟨_,rfl⟩;have HS:Hid (jG (s.data.toList.drop k)=if c=58/\d=58 then some 0 else (jG (s.data.toList.drop (k+1))).map (· +1)):=by
   show _=_;rw[By s k hlt,hc,hd]
  have hki:(k:Int)+1<(s.size:Int):=om
  by_cases hcd:c=58/\d=58
  .have HZ:Hid (jG s.data.toList=some k):=by
    show _=_;rw[HD.out,HS.out,if_pos hcd];simp
   obtain ⟨rfl,rfl⟩:=hcd;go_wp2_with fail;go_ret;exact ⟨by rw[HZ.out];rfl,hbel⟩
  have HG:Hid (jG s.data.toList=(jG (s.data.toList.drop (k+1))).map (· +(k+1))):=by
   show _=_;rw[HD.out,HS.out,if_neg hcd]
   cases jG (s.data.toList.drop (k+1))<;>simp<;>omega
  by_cases hc5:c=58
  .have hd5:((d:Int)==58)=false:=by simp;omega
   subst hc5;clear hcd;go_wp2_with fail;go_roundw
   case rel=>exact ⟨k+1,om,gn,HG.out,hbel⟩
   case measure=>exact j1
  have hc5':((c:Int)==58)=false:=by simp;omega
  clear hcd hc5;go_wp2_with fail;go_roundw
  case rel=>exact ⟨k+1,om,gn,HG.out,hbel⟩
  case measure=>exact j1
 have HZ:Hid (jG s.data.toList=none):=by
  show _=_;rw[HD.out,If s k hlt];rfl
 have hki: ¬(k:Int)+1<(s.size:Int):=om;go_wp2_with fail;go_ret;exact ⟨by rw[HZ.out];rfl,hbel⟩
theorem Tryz.infoI5:(prog.info? 3).map (fun i=>(i.zero,i.size,i.bytes))=some (some (I J 0),1,8):=kr
def toI(gs:List Nat):List Int:=gs.map (fun n:Nat=>(n:Int))
theorem yC(gs:List Nat)(n:Nat):toI (gs++[n])=toI gs++[(n:Int)]:=by simp[toI]
theorem gQ(gs:List Nat):(toI gs).length=gs.length:=by simp[toI]
def OW(w w':World)(r:Option (List Nat))(e:Ending):Prop:=
 ∃(v:Value) (l:List Nat),e=Y (.tuple #[v,.bool r.isSome])/\w'.ownsRow w.heap.size 3 1 v l.length (aO (toI l))/\l.length<=1048580/\ ∀gs,r=some gs->l=gs
theorem TM(t:Bool)(fs:List ByteArray)(k:Nat)(h:k<fs.length):grp t ((fs.drop k).map toL)=match (if t=true/\k+1=fs.length then p4 (toL (fs.getD k za))else none)with
  |some n=>some [n/65536,n%65536]
  |none=>match g16 (toL (fs.getD k za))with
   |none=>none
   |some v=>(grp t ((fs.drop (k+1)).map toL)).map (v:: ·):=by
 rw[lA fs k h,List.map_cons,grp];have e:(t&&((fs.drop (k+1)).map toL).isEmpty)=decide (t=true/\k+1=fs.length):=by
  have e2:((fs.drop (k+1)).map toL).isEmpty=decide (k+1=fs.length):=by
   by_cases h2:k+1=fs.length
   .rw[decide_eq_true h2,zg om];rfl
   rw[decide_eq_false h2,lA fs (k+1) om];rfl
  rw[e2]
  cases t<;>simp
 rw[e]
 by_cases c:t=true/\k+1=fs.length
 .rw[decide_eq_true c,if_pos c];rfl
 rw[decide_eq_false c,if_neg c];rfl
theorem F6(t:Bool)(fs:List ByteArray)(k:Nat)(h: ¬k<fs.length):grp t ((fs.drop k).map toL)=some []:=by
 rw[zg om];rfl
theorem EB{y:ByteArray}(h:y.size=0):g16 (toL y)=none:=by
 have:toL y=[]:=zf (by simpa[toL] using h)
 rw[this];rfl
theorem EC{y:ByteArray}(h:0<y.size):g16 (toL y)=cU 16 4 (toL y):=by
 unfold g16;rw[show (toL y).isEmpty=false by unfold toL;rw[nA y h];rfl];rfl
theorem GH{l:List UInt8}{v:Nat}(h:cU 16 4 l=some v):v<65536:=by
 have key: ∀(l:List UInt8) (n:Nat) (m v:Nat),n<16^m->fB 16 n l=some v->v<16^(m+l.length):=by
  intro l
  induction l with
  |nil=>intro n m v hn h;cases h;simpa using hn
  |cons c r ih=>
   intro n m v hn h;rw[fB]at h;split at h
   .rename_i hc
    have:=ih _ (m+1) v (ES (base:=16) om om hn) h
    rw[zi,show m+(r.length+1)=m+1+r.length by omega];exact this
   cases h
 unfold cU at h;split at h
 .rename_i hl
  have h1:=key l 0 0 v de h;exact ze h1 (zo (Nat.pow_le_pow_right (n:=16) (j:=4) de om) de)
 cases h
theorem TN{t:Bool}{s:ByteArray}(h:s.size=0):dJ t s.data.toList=some []:=by
 have:s.data.toList=[]:=zf (by simpa using h)
 rw[this];rfl
theorem BQ{t:Bool}{s:ByteArray}(h:0<s.size):dJ t s.data.toList=grp t ((aB s 58).map toL):=by
 unfold dJ;rw[show s.data.toList.isEmpty=false by rw[nA s h];rfl,XL];rfl
theorem sW(s:ByteArray)(hs:s.size<=1048576): ∀x∈aB s 58,x.size<=1048576:=fun x hx=>zo (lK s 58 x hx) hs
theorem wA(s:ByteArray)(t:Bool)(w:World)(hs:s.size<=1048576):Calls prog 168 #[L s,.bool t] w fun e w'=>OW w w' (dJ t s.data.toList) e/\Below w.heap.size w w':=by
 have HO:(w.alloc (.cells #[] 3)).ownsRow w.heap.size 3 1 (.slice (some ⟨w.heap.size,0,none⟩) 0 0) 0 []:=World.ownsRow_lit w #[] 0 (zn _) de rfl
 by_cases h0:s.size=0
 .have hem:=aS h0
  have HZ:Hid (dJ t s.data.toList=some []):=TN h0;clear h0;go_enter func168,ntmps168;go_wp2_with fail;go_ret2;exact ⟨⟨_,[],by rw[HZ.out];rfl,HO,by simp,fun gs h=>by rw[HZ.out]at h;cases h;rfl⟩,(zs _ _).alloc (zn _) _⟩
 have hp:0<s.size:=om;have hem:=aW hp;have HF:Hid (dJ t s.data.toList=grp t ((aB s 58).map toL)):=BQ hp;have hpos:0<(aB s 58).length:=by simp[aB]
 have hlen:(aB s 58).length<=1048577:=by
  have:=(eF s 58 s.size).2
  simp[aB];omega
 have HSZ:Hid (∀x∈aB s 58,x.size<=1048576):=sW s hs;have CF:Hid (∀W,Calls prog 93 #[L s,.int .u8 58] W fun e w'=> ∃v,e=Y v/\w'.ownsRow W.heap.size 9 1 v (aB s 58).length (aZ (aB s 58))/\Below W.heap.size W w'):=fun W=>nU s 58 W hs
 generalize aB s 58=fs at HF hpos hlen HSZ CF;clear h0;go_enter func168,ntmps168;go_wp2_with fail;refine (CF.out _).mono ?_;rintro e wa ⟨va,rfl,oa,ba⟩;have OA:=aN HO ba
 rcases aY oa with ⟨h,_⟩|⟨_,g,cap,rfl⟩
 .omega
 have hg:=(oa.lt g rfl).1;have hg2:=(oa.lt g rfl).2;have B0:Below w.heap.size w wa:=((zs _ w).alloc (zn _) _).trans (ba.mono j2);have HC0:Hid (∀j,j<fs.length->wa.cell? ⟨g,j,none⟩=some (L (fs.getD j za))):=fun j hj=>cO oa j hj
 clear ba HO oa CF;go_wp2_with fail
 go_loopw[6,8] (fun v i wr=> ∃(k:Nat) (acc:List Nat),k<=fs.length/\i=I J k/\acc.length<=k/\grp t (fs.map toL)=(grp t ((fs.drop k).map toL)).map (acc++ ·)/\wr.ownsRow w.heap.size 3 1 v acc.length (aO (toI acc))/\(∀j,j<fs.length->wr.cell? ⟨g,j,none⟩=some (L (fs.getD j za)))/\some g≠v.ownBlock/\g<wr.heap.size/\Below w.heap.size w wr)
  (fun _ i _=>fs.length-(intOf i).toNat)
 case atStart=>
  refine ⟨0,[],zr _,rfl,by simp,by simp,OA,HC0.out,?_,hg2,B0⟩;simp[Value.ownBlock];simp at hg;omega
 obtain ⟨k,acc,hk,rfl,hal,hr,ow,hcell,hne,hgl,hbel⟩:=hrel;have HR:Hid (grp t (fs.map toL)=(grp t ((fs.drop k).map toL)).map (acc++ ·)):=hr;have HCL:Hid (∀j,j<fs.length->wr.cell? ⟨g,j,none⟩=some (L (fs.getD j za))):=hcell;have hsz:=hbel.size;clear hr OA B0 HC0
 by_cases hlt:k<fs.length
 .have hc:=hcell k hlt
  have hsy:=HSZ.out _ (nX (k:=k) hlt);have HS:Hid (_=_):=TM t fs k hlt;have CP:Hid (∀W,CB 219 #[L (fs.getD k za)] W (fL (p4 (toL (fs.getD k za))))):=fun W=>OT _ W hsy
  have CN:Hid (∀W,CS 57 #[L (fs.getD k za),I J 16,I J 4] W (I J (eQ (cU 16 4 (toL (fs.getD k za)))))):=fun W=>jU _ 16 4 W om om
  have HCK:Hid (∀W,Below wr.heap.size wr W->W.cell? ⟨g,k,none⟩=some (L (fs.getD k za))):=fun W hb=>cell_later hb (HCL.out k hlt)
  clear hcell;generalize fs.getD k za=y at hc hsy HS CP CN HCK;have hki:(k:Int)<(fs.length:Int):=om;clear hsy;go_wp2_with fail;refine (CP.out _).mono ?_;rintro e wb ⟨rfl,bb⟩;have hcb:=HCK.out _ bb;have o2:=aN ow bb;have B2:=hbel.trans (bb.mono hsz);have z2:=B2.size;have hgl2:g<wb.heap.size:=ze hgl bb.size;have HC2:Hid (∀j,j<fs.length->wb.cell? ⟨g,j,none⟩=some (L (fs.getD j za))):=fun j hj=>cell_later bb (HCL.out j hj)
  clear hc ow hbel bb HCL HCK
  cases hp4:p4 (toL y)with
  |none=>
   have HN0:Hid ((if t=true/\k+1=fs.length then p4 (toL y)else none)=none):=by
    show _=_;rw[hp4];split<;>rfl
   clear hp4;simp only[fL]
   by_cases he:y.size=0
   .have HZ:Hid (dJ t s.data.toList=none):=by
     show _=_;rw[HF.out,HR.out,HS.out,HN0.out,EB he];rfl
    have hem:=aS he;clear he;generalize eQ (cU 16 4 (toL y))=zz at CN;go_wp2_with fail;refine (CN.out _).mono ?_;rintro e w' ⟨rfl,rfl⟩;go_wp2_with fail;go_ret2;exact ⟨⟨_,acc,by rw[HZ.out];rfl,o2,om,fun gs h=>by rw[HZ.out]at h;cases h⟩,B2⟩
   have hpy:0<y.size:=om;have hem:=aW hpy;have HS1:Hid (g16 (toL y)=cU 16 4 (toL y)):=EC hpy;clear he
   cases hv:cU 16 4 (toL y)with
   |none=>
    rw[hv]at CN HS1;have HZ:Hid (dJ t s.data.toList=none):=by
     show _=_;rw[HF.out,HR.out,HS.out,HN0.out,HS1.out];rfl
    clear hv;go_wp2_with fail;refine (CN.out _).mono ?_;rintro e w' ⟨rfl,rfl⟩;simp only[eQ];go_wp2_with fail;go_ret2;exact ⟨⟨_,acc,by rw[HZ.out];rfl,o2,om,fun gs h=>by rw[HZ.out]at h;cases h⟩,B2⟩
   |some v=>
    have hvl:=GH hv;rw[hv]at CN HS1;have HG:Hid (grp t (fs.map toL)=(grp t ((fs.drop (k+1)).map toL)).map ((acc++[v])++ ·)):=by
     show _=_;rw[HR.out,HS.out,HN0.out,HS1.out];simp only
     cases grp t ((fs.drop (k+1)).map toL)<;>simp
    clear hv;obtain ⟨x,hx⟩: ∃x:Int,(v:Int)=x:=⟨_,rfl⟩;have HX:Hid ((v:Int)=x):=hx;have hx0: ¬x<0:=om;clear hx hvl;go_wp2_with fail;refine (CN.out _).mono ?_;rintro e w' ⟨rfl,rfl⟩;simp only[eQ];rw[HX.out];go_wp2_with (at_builtin;refine eZ _ rfl _ _ 95 rfl w.heap.size 3 (I J 0) 8 underlying95 infoI5 rfl _ _ _ rfl o2 #[I J x] 1 rfl rfl (by intro u hu;simp at hu;subst hu;rfl) om (by unfold maxLen;omega) z2 ?_);intro v' w1 ow' gr hat;have R:w1.ownsRow w.heap.size 3 1 v' (acc++[v]).length (aO (toI (acc++[v]))):=by
     rw[yC,HX.out,lU,zc];exact ow'
    have B3:Below w.heap.size w w1:=B2.grown gr z2 (fun k hk=>(o2.lt k hk).1);have hgw:w1.heap[g]? =wb.heap[g]? :=gr.block g hgl2 hne;have C1:Hid (∀j,j<fs.length->w1.cell? ⟨g,j,none⟩=some (L (fs.getD j za))):=fun j hj=>
     (zj (w:=wb) (a:=⟨g,j,none⟩) hgw).trans (HC2.out j hj)
    have hne1:some g≠v'.ownBlock:=by
     rcases hat with h|h
     .rw[h];exact hne
     rw[h];intro h2;cases h2;omega
    have hgl1:g<w1.heap.size:=ze hgl2 gr.size;clear o2 ow' gr hat B2 hgw HC2;go_wp2_with fail;go_roundw
    case rel=>exact ⟨k+1,acc++[v],om,gn,by rw[zc];simp;omega,HG.out,R,C1.out,hne1,hgl1,B3⟩
    case measure=>exact j1
  |some n=>
   have hn4:=(oV hp4).1
   by_cases hit:t=true/\k+1=fs.length
   .obtain ⟨rfl,hk1⟩:=hit
    have HZ:Hid (dJ true s.data.toList=some (acc++[n/65536,n%65536])):=by
     show _=_;rw[HF.out,HR.out,HS.out,if_pos ⟨rfl,hk1⟩,hp4];rfl
    have hkq:((k:Int)==(fs.length:Int)-1)=true:=by simp;omega
    obtain ⟨x,hx⟩: ∃x:Int,(n:Int)=x:=⟨_,rfl⟩;have HX:Hid ((n:Int)=x):=hx;have hx0:0<=x:=om;have hx1:x<4294967296:=om;have b2:bits .and .i64 x 65535=x%65536:=mZ 16 65535 rfl _ om om de;clear hp4 hn4 hx;simp only[fL];rw[HX.out];go_wp2_with (at_builtin;refine aC _ rfl _ _ 95 rfl w.heap.size 3 (I J 0) 8 underlying95 infoI5 rfl _ _ _ rfl o2 #[I J (x/65536),I J (x%65536)] 2 rfl rfl (by intro u hu;simp at hu;rcases hu with rfl|rfl<;>rfl) om (by unfold maxLen;omega) z2 ?_);intro v' w1 ow' b3;have R:w1.ownsRow w.heap.size 3 1 v' (acc++[n/65536,n%65536]).length (aO (toI (acc++[n/65536,n%65536]))):=by
     have e1:((n/65536:Nat):Int)=x/65536:=by have:=HX.out;omega
     have e2:((n%65536:Nat):Int)=x%65536:=by have:=HX.out;omega
     have e3:aO (toI (acc++[n/65536,n%65536]))=aO (toI acc)++[I J (x/65536),I J (x%65536)]:=by
      simp only[toI,aO,List.map_append,List.map_cons,List.map_nil,e1,e2]
     rw[e3,zc];exact ow'
    have B3:=B2.trans b3;clear ow' b3 o2 B2;go_wp2_with fail;go_ret2;exact ⟨⟨_,_,by rw[HZ.out];rfl,R,by rw[zc];simp;omega,fun gs h=>by rw[HZ.out]at h;cases h;rfl⟩,B3⟩
   have HN0:Hid ((if t=true/\k+1=fs.length then p4 (toL y)else none)=none):=by
    show _=_;rw[if_neg hit]
   clear hp4 hn4;simp only[fL]
   cases t with
   |false=>
    clear hit
    by_cases he:y.size=0
    .have HZ:Hid (dJ false s.data.toList=none):=by
      show _=_;rw[HF.out,HR.out,HS.out,HN0.out,EB he];rfl
     have hem:=aS he;clear he;generalize eQ (cU 16 4 (toL y))=zz at CN;go_wp2_with fail;refine (CN.out _).mono ?_;rintro e w' ⟨rfl,rfl⟩;go_wp2_with fail;go_ret2;exact ⟨⟨_,acc,by rw[HZ.out];rfl,o2,om,fun gs h=>by rw[HZ.out]at h;cases h⟩,B2⟩
    have hpy:0<y.size:=om;have hem:=aW hpy;have HS1:Hid (g16 (toL y)=cU 16 4 (toL y)):=EC hpy;clear he
    cases hv:cU 16 4 (toL y)with
    |none=>
     rw[hv]at CN HS1;have HZ:Hid (dJ false s.data.toList=none):=by
      show _=_;rw[HF.out,HR.out,HS.out,HN0.out,HS1.out];rfl
     clear hv;go_wp2_with fail;refine (CN.out _).mono ?_;rintro e w' ⟨rfl,rfl⟩;simp only[eQ];go_wp2_with fail;go_ret2;exact ⟨⟨_,acc,by rw[HZ.out];rfl,o2,om,fun gs h=>by rw[HZ.out]at h;cases h⟩,B2⟩
    |some v=>
     have hvl:=GH hv;rw[hv]at CN HS1;have HG:Hid (grp false (fs.map toL)=(grp false ((fs.drop (k+1)).map toL)).map ((acc++[v])++ ·)):=by
      show _=_;rw[HR.out,HS.out,HN0.out,HS1.out];simp only
      cases grp false ((fs.drop (k+1)).map toL)<;>simp
     clear hv;obtain ⟨x,hx⟩: ∃x:Int,(v:Int)=x:=⟨_,rfl⟩;have HX:Hid ((v:Int)=x):=hx;have hx0: ¬x<0:=om;clear hx hvl;go_wp2_with fail;refine (CN.out _).mono ?_;rintro e w' ⟨rfl,rfl⟩;simp only[eQ];rw[HX.out];go_wp2_with (at_builtin;refine eZ _ rfl _ _ 95 rfl w.heap.size 3 (I J 0) 8 underlying95 infoI5 rfl _ _ _ rfl o2 #[I J x] 1 rfl rfl (by intro u hu;simp at hu;subst hu;rfl) om (by unfold maxLen;omega) z2 ?_);intro v' w1 ow' gr hat;have R:w1.ownsRow w.heap.size 3 1 v' (acc++[v]).length (aO (toI (acc++[v]))):=by
      rw[yC,HX.out,lU,zc];exact ow'
     have B3:Below w.heap.size w w1:=B2.grown gr z2 (fun k hk=>(o2.lt k hk).1);have hgw:w1.heap[g]? =wb.heap[g]? :=gr.block g hgl2 hne;have C1:Hid (∀j,j<fs.length->w1.cell? ⟨g,j,none⟩=some (L (fs.getD j za))):=fun j hj=>
      (zj (w:=wb) (a:=⟨g,j,none⟩) hgw).trans (HC2.out j hj)
     have hne1:some g≠v'.ownBlock:=by
      rcases hat with h|h
      .rw[h];exact hne
      rw[h];intro h2;cases h2;omega
     have hgl1:g<w1.heap.size:=ze hgl2 gr.size;clear o2 ow' gr hat B2 hgw HC2;go_wp2_with fail;go_roundw
     case rel=>exact ⟨k+1,acc++[v],om,gn,by rw[zc];simp;omega,HG.out,R,C1.out,hne1,hgl1,B3⟩
     case measure=>exact j1
   |true=>
    have hkq:((k:Int)==(fs.length:Int)-1)=false:=by
     have h2: ¬k+1=fs.length:=fun h=>hit ⟨rfl,h⟩
     simp;omega
    clear hit
    by_cases he:y.size=0
    .have HZ:Hid (dJ true s.data.toList=none):=by
      show _=_;rw[HF.out,HR.out,HS.out,HN0.out,EB he];rfl
     have hem:=aS he;clear he;generalize eQ (cU 16 4 (toL y))=zz at CN;go_wp2_with fail;refine (CN.out _).mono ?_;rintro e w' ⟨rfl,rfl⟩;go_wp2_with fail;go_ret2;exact ⟨⟨_,acc,by rw[HZ.out];rfl,o2,om,fun gs h=>by rw[HZ.out]at h;cases h⟩,B2⟩
    have hpy:0<y.size:=om;have hem:=aW hpy;have HS1:Hid (g16 (toL y)=cU 16 4 (toL y)):=EC hpy;clear he
    cases hv:cU 16 4 (toL y)with
    |none=>
     rw[hv]at CN HS1;have HZ:Hid (dJ true s.data.toList=none):=by
      show _=_;rw[HF.out,HR.out,HS.out,HN0.out,HS1.out];rfl
     clear hv;go_wp2_with fail;refine (CN.out _).mono ?_;rintro e w' ⟨rfl,rfl⟩;simp only[eQ];go_wp2_with fail;go_ret2;exact ⟨⟨_,acc,by rw[HZ.out];rfl,o2,om,fun gs h=>by rw[HZ.out]at h;cases h⟩,B2⟩
    |some v=>
     have hvl:=GH hv;rw[hv]at CN HS1;have HG:Hid (grp true (fs.map toL)=(grp true ((fs.drop (k+1)).map toL)).map ((acc++[v])++ ·)):=by
      show _=_;rw[HR.out,HS.out,HN0.out,HS1.out];simp only
      cases grp true ((fs.drop (k+1)).map toL)<;>simp
     clear hv;obtain ⟨x,hx⟩: ∃x:Int,(v:Int)=x:=⟨_,rfl⟩;have HX:Hid ((v:Int)=x):=hx;have hx0: ¬x<0:=om;clear hx hvl;go_wp2_with fail;refine (CN.out _).mono ?_;rintro e w' ⟨rfl,rfl⟩;simp only[eQ];rw[HX.out];go_wp2_with (at_builtin;refine eZ _ rfl _ _ 95 rfl w.heap.size 3 (I J 0) 8 underlying95 infoI5 rfl _ _ _ rfl o2 #[I J x] 1 rfl rfl (by intro u hu;simp at hu;subst hu;rfl) om (by unfold maxLen;omega) z2 ?_);intro v' w1 ow' gr hat;have R:w1.ownsRow w.heap.size 3 1 v' (acc++[v]).length (aO (toI (acc++[v]))):=by
      rw[yC,HX.out,lU,zc];exact ow'
     have B3:Below w.heap.size w w1:=B2.grown gr z2 (fun k hk=>(o2.lt k hk).1);have hgw:w1.heap[g]? =wb.heap[g]? :=gr.block g hgl2 hne;have C1:Hid (∀j,j<fs.length->w1.cell? ⟨g,j,none⟩=some (L (fs.getD j za))):=fun j hj=>
      (zj (w:=wb) (a:=⟨g,j,none⟩) hgw).trans (HC2.out j hj)
     have hne1:some g≠v'.ownBlock:=by
      rcases hat with h|h
      .rw[h];exact hne
      rw[h];intro h2;cases h2;omega
     have hgl1:g<w1.heap.size:=ze hgl2 gr.size;clear o2 ow' gr hat B2 hgw HC2;go_wp2_with fail;go_roundw
     case rel=>exact ⟨k+1,acc++[v],om,gn,by rw[zc];simp;omega,HG.out,R,C1.out,hne1,hgl1,B3⟩
     case measure=>exact j1
 have HZ:Hid (dJ t s.data.toList=some acc):=by
  show _=_;rw[HF.out,HR.out,F6 t fs k hlt];simp
 have hki: ¬(k:Int)<(fs.length:Int):=om;clear hcell HCL;go_wp2_with fail;go_ret2;exact ⟨⟨_,acc,by rw[HZ.out];rfl,ow,om,fun gs h=>by rw[HZ.out]at h;cases h;rfl⟩,hbel⟩
