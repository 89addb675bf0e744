/- UrlBack, ResText, SchWalk, ResBits. -/
import Derived.Test.YtgcbaphbiaimoaaGreatDoorQB28
set_option maxHeartbeats 8000000
set_option maxRecDepth 100000
namespace Go.Proofs.YtgcbaphbiaimoaaGreatDoor
open Go.Value renaming int->I,string->L,bool->D,agg->Q
open Go.IntKind renaming i64->J
open Go.Ending renaming returned->F
open Go.Obj renaming cells->E
open _root_.Go.Act renaming put->yh
open _root_.Go.AllReadyH renaming cons->yd,nil->yf
open _root_.Array renaming eq_empty_of_size_eq_zero->zu,getElem_mem->z4
open _root_.Go.RowKit.Below renaming refl->ye
open _root_.Bool renaming and_eq_true->zn,eq_iff_iff->yb,or_eq_true->z9
open _root_.ByteArray renaming ext->yg
open _root_.Go.ByteArray renaming toList_eq->zp
open _root_.List renaming all_append->yc,all_eq_false->z3,cons_append->zx,dropWhile_cons->zc,drop_zero->zv,filter_eq_self->z1,findIdx?_cons->zj,getD_eq_getElem?_getD->zf,getElem?_eq_getElem->zw,getElem?_eq_none->z0,getElem_cons_succ->zl,getElem_cons_zero->zk,getElem_mem->z5,getElem_toArray->zm,isEmpty_iff_length_eq_zero->zt,length_append->zq,length_cons->z6,length_nil->ya,mem_append->ze,mem_cons->zd,mem_cons_of_mem->zh,nil_append->z8,not_mem_nil->zo,setIfInBounds_toArray->zg,set_cons_succ->zs,set_cons_zero->zr,takeWhile_cons->zi,takeWhile_sublist->zy
open _root_.Nat renaming le_refl->z7,pos_of_ne_zero->z2
open _root_.UInt8 renaming ofNat->za,toNat_inj->zz
open _root_.Go.Proofs.Tryz
open _root_.Go.Proofs.YtgcbaphbiaimoaaGreatDoor.Tryz
section
open Go.RowKit
set_option linter.unusedVariables false
def txC(n:Nat):Bool:=decide (n≠35/\n≠9/\n≠10/\n≠13/\n≠32/\n≠92)
def auC(n:Nat):Bool:=txC n&&decide (n≠47/\n≠63/\n≠64)
theorem QU: ∀n,n<256->(dX 2 n=true∨n=37∨0<=bP n)->txC n=true:=by decide+kernel
theorem Kf: ∀n,n<256->dX 1 n=true->dX 2 n=true/\n≠63:=by decide+kernel
theorem Nd: ∀n,n<256->0<=bP n->n≠63:=by decide+kernel
theorem Nf: ∀n,n<256->iS (za n)=true->auC n=true/\n≠58/\n≠93:=by decide+kernel
theorem uN{c:UInt8}(h:iS c=true):auC c.toNat=true/\c.toNat≠58/\c.toNat≠93:=Nf c.toNat c.toNat_lt (by simpa using h)
theorem au_tx{n:Nat}(h:auC n=true):txC n=true:=by
 unfold auC at h;rw[zn]at h;exact h.1
theorem Fh{l:List UInt8}(h:okL 2 l=true): ∀c∈l,txC c.toNat=true:=fun c hc=>by
 refine QU c.toNat c.toNat_lt ?_
 rcases UL 2 l h c hc with h1|h1|h1
 .exact .inl h1
 .exact .inr (.inl (by rw[h1];rfl))
 exact .inr (.inr h1)
theorem EJ{l:List UInt8}(h:okL 1 l=true): ∀c∈l,txC c.toNat=true/\c.toNat≠63:=fun c hc=>by
 rcases UL 1 l h c hc with h1|h1|h1
 .have h2:=Kf c.toNat c.toNat_lt h1
  exact ⟨QU c.toNat c.toNat_lt (.inl h2.1),h2.2⟩
 .rw[h1];decide
 exact ⟨QU c.toNat c.toNat_lt (.inr (.inr h1)),Nd c.toNat c.toNat_lt h1⟩
theorem EK: ∀i,i<16->iS (hxU i)=true:=by decide+kernel
theorem Fi{n:Nat}(h:n<65536): ∀c∈bM n,iS c=true:=by
 intro c hc;unfold bM at hc;split at hc
 .simp only[zd,zo,or_false]at hc
  rw[hc];exact EK _ om
 split at hc
 .simp only[zd,zo,or_false]at hc
  rcases hc with e|e<;>rw[e]<;>exact EK _ om
 split at hc
 .simp only[zd,zo,or_false]at hc
  rcases hc with e|e|e<;>rw[e]<;>exact EK _ om
 simp only[zd,zo,or_false]at hc
 rcases hc with e|e|e|e<;>rw[e]<;>exact EK _ om
theorem Fj(b:UInt8): ∀{fs:List (List UInt8)} {c:UInt8},c∈jl b fs->c=b∨ ∃x∈fs,c∈x
 |[],c,h=>by simp[jl]at h
 |[x],c,h=> .inr ⟨x,by simp,by simpa[jl] using h⟩
 |x::y::r,c,h=>by
  rw[jl]at h
  rcases ze.1 h with h1|h1
  .exact .inr ⟨x,by simp,h1⟩
  rcases zd.1 h1 with h2|h2
  .exact .inl h2
  rcases Fj b h2 with h3|⟨z,hz,h3⟩
  .exact .inl h3
  exact .inr ⟨z,zh _ hz,h3⟩
theorem ZS{gs:List Nat}(h: ∀g∈gs,g<65536): ∀c∈gtL gs,iS c=true∨c=58:=by
 intro c hc
 rcases Fj 58 hc with h1|⟨x,hx,h1⟩
 .exact .inr h1
 obtain ⟨g,hg,rfl⟩:=List.mem_map.1 hx;exact .inl (Fi (h g hg) c h1)
theorem Kg{w:List Nat}(h: ∀g∈w,g<65536)(f e:Nat): ∀c∈xJ w f e,iS c=true∨c=58:=by
 intro c hc;unfold xJ at hc;split at hc
 .exact ZS h c hc
 rcases ze.1 hc with h1|h1
 .exact ZS (fun g hg=>h g (List.mem_of_mem_take hg)) c h1
 rcases zd.1 h1 with h2|h2
 .exact .inr h2
 rcases zd.1 h2 with h3|h3
 .exact .inr h3
 exact ZS (fun g hg=>h g (List.mem_of_mem_drop hg)) c h3
theorem Fk(z:List Int): ∀c∈fS z,iS c=true∨c=58:=by
 intro c hc;unfold fS at hc;split at hc
 .next h=>
  refine Kg (fun g hg=> ?_) _ _ c hc;obtain ⟨x,hx,rfl⟩:=List.mem_map.1 hg
  have:=OQ h x hx
  omega
 cases hc
theorem JH{h:HV}(ho:hOk h=true)(hn:0<(hTx h).size):(∀c∈toL (hTx h),iS c=true∨c=46)∨(∃m,toL (hTx h)=91::(m++[93])/\ ∀c∈m,iS c=true∨c=58):=by
 unfold hTx;rw[if_pos ho];unfold hOk at ho
 by_cases h1:h.k=1
 .rw[if_pos h1]at ho⊢
  simp only[zn,decide_eq_true_eq]at ho;obtain ⟨ls,_,_,_,hl,hj,_⟩:=uB ho.1.1.1;refine .inl ?_;show ∀c∈h.s.data.toList,_;rw[hj];exact GL fun a ha=>(hl a ha).1
 rw[if_neg h1]at ho⊢
 by_cases h2:h.k=2
 .rw[if_pos h2]at ho⊢
  simp only[zn,decide_eq_true_eq]at ho;have hnm:cX (fR h.n)=some (fR h.n).data.toList:=TY om;obtain ⟨ls,_,_,_,hl,hj,_⟩:=uB hnm;refine .inl ?_;show ∀c∈(fR h.n).data.toList,_;rw[hj];exact GL fun a ha=>(hl a ha).1
 rw[if_neg h2];exact .inr ⟨fS h.z,rfl,Fk h.z⟩
theorem oP{p:UInt8->Bool}{l:List UInt8}(h: ∀c∈l,p c=false):l.dropWhile p=l:=by
 cases l with
 |nil=>rfl
 |cons c r=>rw[zc,h c j2];rfl
theorem pS{p:UInt8->Bool}: ∀{l:List UInt8},(∀c∈l,p c=true)->l.takeWhile p=l/\l.dropWhile p=[]
 |[],_=>⟨rfl,rfl⟩
 |c::r,h=>by
  obtain ⟨h1,h2⟩:=pS (p:=p) (l:=r) fun x hx=>h x (zh _ hx)
  rw[zi,zc,h c j2,if_pos rfl,if_pos rfl,h1,h2];exact ⟨rfl,rfl⟩
theorem nI{p:UInt8->Bool}{c:UInt8}{r:List UInt8}(hc:p c=false): ∀{l:List UInt8},(∀x∈l,p x=true)->(l++c::r).takeWhile p=l/\(l++c::r).dropWhile p=c::r
 |[],_=>by
  rw[z8,zi,zc,hc];exact ⟨rfl,rfl⟩
 |x::l,h=>by
  obtain ⟨h1,h2⟩:=nI (p:=p) (r:=r) hc (l:=l) fun y hy=>h y (zh _ hy)
  rw[zx,zi,zc,h x j2,if_pos rfl,if_pos rfl,h1,h2];exact ⟨rfl,rfl⟩
theorem mL{c:UInt8}(h:txC c.toNat=true):lN.contains c=false/\(c !=35)=true/\(c !=9&&c !=10&&c !=13)=true/\c≠92:=by
 have key: ∀n,n<256->txC n=true->lN.contains (za n)=false/\(za n !=35)=true/\(za n !=9&&za n !=10&&za n !=13)=true/\za n≠92:=by decide+kernel
 have h1:=key c.toNat c.toNat_lt h;simpa using h1
theorem JI{l:List UInt8}(h: ∀c∈l,txC c.toNat=true):cK l=l:=by
 have e:Lib.trimS l lN=l:=by
  unfold Lib.trimS Lib.trimLeftS Lib.trimRightS;rw[oP (l:=l.reverse) fun c hc=>(mL (h c (List.mem_reverse.1 hc))).1,List.reverse_reverse,oP fun c hc=>(mL (h c hc)).1]
 unfold cK;rw[e,(pS fun c hc=>(mL (h c hc)).2.1).1];exact z1.2 fun c hc=>(mL (h c hc)).2.2.1
theorem ZT{l:List UInt8}(h: ∀c∈l,txC c.toNat=true):cK (32::(l++[35,102]))=l:=by
 have e:Lib.trimS (32::(l++[35,102])) lN=l++[35,102]:=by
  unfold Lib.trimS Lib.trimLeftS Lib.trimRightS;have e1:(32::(l++[35,102])).reverse=102::(35::(l.reverse++[32])):=by simp
  have e2:lN.contains 102=false:=de;have e3:lN.contains 32=true:=de;rw[e1,zc,e2];have e4:(102::35::(l.reverse++[32])).reverse=32::(l++[35,102]):=by simp
  rw[if_neg de,e4,zc,e3,if_pos rfl,oP];intro c hc
  rcases ze.1 hc with h1|h1
  .exact (mL (h c h1)).1
  simp only[zd,zo,or_false]at h1
  rcases h1 with rfl|rfl<;>decide
 unfold cK;rw[e,(nI (p:=fun c=>c !=35) (c:=35) (r:=[102]) de fun c hc=>(mL (h c hc)).2.1).1];exact z1.2 fun c hc=>(mL (h c hc)).2.2.1
theorem WT(Y:List UInt8):dS (oG++47::47::Y)=some (1,47::47::Y):=by
 unfold dS;rw[if_pos]
 .rfl
 refine ⟨by simp[oG],?_,rfl,rfl⟩;show [dT 104,dT 116,dT 116,dT 112,dT 58]=oG
 decide
theorem QV(Y:List UInt8):dS (jS++47::47::Y)=some (2,47::47::Y):=by
 unfold dS;rw[if_neg,if_pos]
 .rfl
 .refine ⟨by simp[jS],?_,rfl,rfl⟩
  show [dT 104,dT 116,dT 116,dT 112,dT 115,dT 58]=jS
  decide
 rintro ⟨_,h,_⟩;have h2:[dT 104,dT 116,dT 116,dT 112,dT 115]=oG:=h;exact absurd h2 de
theorem JJ{c:UInt8}(h:auC c.toNat=true):cL c=true/\slB c=false/\c≠64:=by
 have key: ∀n,n<256->auC n=true->cL (za n)=true/\slB (za n)=false/\za n≠64:=by decide+kernel
 have h1:=key c.toNat c.toNat_lt h;simpa using h1
theorem Fl(s:Int){auth rest:List UInt8}(h: ∀c∈auth,auC c.toNat=true)(hn:auth≠[]):oI s (47::47::(auth++47::rest))=yI s auth (47::rest):=by
 have e:(47::47::(auth++47::rest)).dropWhile slB=auth++47::rest:=by
  rw[zc,if_pos de,zc,if_pos de]
  cases auth with
  |nil=>exact absurd rfl hn
  |cons c r=>rw[zx,zc,(JJ (h c j2)).2.1];rfl
 obtain ⟨e1,e2⟩:=nI (p:=cL) (c:=47) (r:=rest) de fun c hc=>(JJ (h c hc)).1
 unfold oI;rw[e,e1,e2];unfold tA;rw[if_neg];intro h64;rw[List.contains_iff_mem]at h64;exact (JJ (h 64 h64)).2.2 rfl
theorem wP{l:List UInt8}(h: ∀c∈l,c≠93): ∀k,gD l k=0
 |0=>rfl
 |k+1=>by
  unfold gD;rw[if_neg,wP h k];intro e
  by_cases hk:k<l.length
  .rw[zf,zw hk]at e
   exact h _ (z5 hk) e
  rw[zf,z0 om]at e;exact absurd e de
theorem JK{a b:List UInt8}(h: ∀c∈b,c≠93): ∀j,gD (a++93::b) (a.length+1+j)=a.length
 |0=>by
  show gD (a++93::b) (a.length+1)=_;unfold gD;rw[if_pos];simp[zf]
 |j+1=>by
  show gD (a++93::b) (a.length+1+j+1)=_;unfold gD;rw[if_neg,JK h j];intro e;rw[zf,List.getElem?_append_right om,show a.length+1+j-a.length=j+1 by omega,List.getElem?_cons_succ]at e
  by_cases hk:j<b.length
  .rw[zw hk]at e
   exact h _ (z5 hk) e
  rw[z0 om]at e;exact absurd e de
theorem NI: ∀{l:List UInt8},(∀c∈l,c≠58)->l.findIdx? (fun c=>c==58)=none
 |[],_=>rfl
 |c::r,h=>by
  rw[zj,if_neg (by simpa using h c j2),NI fun x hx=>h x (zh _ hx)];rfl
theorem M3{y:List UInt8}: ∀{l:List UInt8},(∀c∈l,c≠58)->(l++58::y).findIdx? (fun c=>c==58)=some l.length
 |[],_=>by rw[z8,zj,if_pos de];rfl
 |c::r,h=>by
  rw[zx,zj,if_neg (by simpa using h c j2),M3 fun x hx=>h x (zh _ hx)];rfl
theorem Fm{H d:List UInt8}(h: ∀c∈H,c≠58/\c≠93)(hd: ∀c∈d,c≠93):kV H=none/\kV (H++58::d)=some H.length:=by
 constructor
 .unfold kV
  rw[wP (fun c hc=>(h c hc).2),zv,NI fun c hc=>(h c hc).1];rfl
 have hall: ∀c∈H++58::d,c≠93:=fun c hc=>by
  rcases ze.1 hc with h1|h1
  .exact (h c h1).2
  rcases zd.1 h1 with h2|h2
  .rw[h2];decide
  exact hd c h2
 unfold kV;rw[wP hall,zv,M3 fun c hc=>(h c hc).1];rfl
theorem Kh{m d:List UInt8}(hd: ∀c∈d,c≠93):kV (91::(m++[93]))=none/\kV (91::(m++[93])++58::d)=some (91::(m++[93])).length:=by
 have e1:91::(m++[93])=(91::m)++93::[]:=by simp
 have e2:91::(m++[93])++58::d=(91::m)++93::(58::d):=by simp
 have hd2: ∀c∈(58::d:List UInt8),c≠93:=fun c hc=>by
  rcases zd.1 hc with h2|h2
  .rw[h2];decide
  exact hd c h2
 constructor
 .have h1:=JK (a:=91::m) (b:=[]) (fun c hc=>by cases hc) 0
  have hl:((91::m)++93::([]:List UInt8)).length=(91::m).length+1+0:=by simp
  unfold kV;rw[e1,hl,h1,List.drop_left];rfl
 have h1:=JK (a:=91::m) (b:=58::d) hd2 (58::d).length;have hl:((91::m)++93::(58::d)).length=(91::m).length+1+(58::d).length:=by simp;omega
 unfold kV;rw[e2,hl,h1,List.drop_left];rw[zj,if_neg de,zj,if_pos de];simp;omega
theorem Ki{l:List UInt8}(h: ∀c∈l,c≠92):eO l=l:=by
 unfold eO
 conv=>rhs;rw[<-List.map_id l]
 exact List.map_congr_left fun c hc=>if_neg (h c hc)
theorem ZU(a:ByteArray):(⟨(toL a).toArray⟩:ByteArray)=a:=bL rfl
theorem gG{u:UV}(h:uOk u=true):bS u.s≠0/\hOk u.h=true/\(1<=u.p/\u.p<=65535)/\PN u.a/\(u.q=true∨u.r.size=0)/\okL 2 (toL u.r)=true/\plL 2 (toL u.r)=toL u.r:=by
 unfold uOk at h;simp only[zn,z9,decide_eq_true_eq]at h;obtain ⟨⟨⟨⟨⟨⟨⟨⟨⟨h1,h2⟩,h3⟩,h4⟩,h5⟩,h6⟩,h7⟩,h8⟩,h9⟩,h10⟩:=h;exact ⟨h1,h2,h3,⟨h4,h6,h7,bL h8⟩,h5,h9,h10⟩
theorem Fo{u:UV}(h1:bS u.s≠0)(h2:hOk u.h=true)(h3:1<=u.p/\u.p<=65535)(h4:PN u.a)(h5:u.q=true∨u.r.size=0)(h6:okL 2 (toL u.r)=true)(h7:plL 2 (toL u.r)=toL u.r):uOk u=true:=by
 unfold uOk;simp only[zn,z9,decide_eq_true_eq];exact ⟨⟨⟨⟨⟨⟨⟨⟨⟨h1,h2⟩,h3⟩,h4.1⟩,h5⟩,h4.2.1⟩,h4.2.2.1⟩,by rw[h4.2.2.2]⟩,h6⟩,h7⟩
theorem W4{u:UV}(h:uOk u=true):oH u.s u.h u.p (lH u)=u:=by
 obtain ⟨_,_,_,ha,hq,ho,hp⟩:=gG h;obtain ⟨hr,hao,hap,had⟩:=ha;have hax:=EJ hao;have hne:toL u.a≠[]:=by
  obtain ⟨r,e⟩:=jZ hr;rw[show toL u.a=_ from e];simp
 have hA:cD (plB 1 ⟨(eO (AN (toL u.a))).toArray⟩)=u.a:=by
  unfold AN;rw[if_neg hne,Ki fun c hc=>(mL (hax c hc).1).2.2.2,ZU];have e:plB 1 u.a=u.a:=by
   apply bL;rw[pB];exact hap
  rw[e,had]
 have hR:plB 2 ⟨(toL u.r).toArray⟩=u.r:=by
  rw[ZU];apply bL;rw[pB];exact hp
 have h63: ∀c∈toL u.a,(c !=63)=true:=fun c hc=>by
  rw[bne_iff_ne];intro e;exact (hax c hc).2 (by rw[e];rfl)
 unfold oH lH
 cases hqq:u.q with
 |true=>
  rw[if_pos rfl];obtain ⟨e1,e2⟩:=nI (p:=fun c=>c !=63) (c:=63) (r:=toL u.r) de h63;rw[e1,e2];simp only[List.drop_succ_cons,zv,List.isEmpty_cons,Bool.not_false];rw[hA,hR,<-hqq]
 |false=>
  rw[if_neg de];obtain ⟨e1,e2⟩:=pS (p:=fun c=>c !=63) h63;rw[e1,e2];have hr0:u.r=ByteArray.empty:=by
   rcases hq with h1|h1
   .rw[hqq]at h1;cases h1
   apply bL;exact List.eq_nil_of_length_eq_zero (by simpa[toL] using h1)
  simp only[List.drop_nil,List.isEmpty_nil,Bool.not_true];have e3:plB 2 ⟨([]:List UInt8).toArray⟩=u.r:=by rw[hr0];rfl
  rw[hA,e3,<-hqq]
theorem wQ{u:UV}(h:uOk u=true)(hb:0<(hTx u.h).size): ∃rest:List UInt8,lH u=47::rest/\uTx u=gH u.s++47::47::((toL (hTx u.h)++gC u.s u.p)++47::rest)/\
  (∀c∈toL (hTx u.h)++gC u.s u.p,auC c.toNat=true)/\toL (hTx u.h)++gC u.s u.p≠[]/\(∀c∈uTx u,txC c.toNat=true):=by
 obtain ⟨hs,hh,hp,ha,hq,ho,hpl⟩:=gG h;obtain ⟨r,hr⟩:=jZ ha.1;have hrs: ∃rest:List UInt8,lH u=47::rest:=by
  unfold lH;rw[show toL u.a=_ from hr];split
  .exact ⟨r++63::toL u.r,rfl⟩
  exact ⟨r,rfl⟩
 obtain ⟨rest,hrest⟩:=hrs;have hx:uTx u=gH u.s++47::47::((toL (hTx u.h)++gC u.s u.p)++47::rest):=by
  unfold uTx;rw[if_pos h,hrest];unfold wD;simp
 have hau: ∀c∈toL (hTx u.h)++gC u.s u.p,auC c.toNat=true:=by
  intro c hc
  rcases ze.1 hc with h1|h1
  .rcases JH hh hb with h2|⟨m,h2,h3⟩
   .rcases h2 c h1 with h4|h4
    .exact (uN h4).1
    rw[h4];decide
   rw[h2]at h1
   rcases zd.1 h1 with h4|h4
   .rw[h4];decide
   rcases ze.1 h4 with h5|h5
   .rcases h3 c h5 with h6|h6
    .exact (uN h6).1
    rw[h6];decide
   rw[List.mem_singleton.1 h5];decide
  unfold gC at h1;split at h1
  .cases h1
  rcases zd.1 h1 with h4|h4
  .rw[h4];decide
  exact (uN ((UM om).1 c h4)).1
 have hne:toL (hTx u.h)++gC u.s u.p≠[]:=by
  intro e;have h1:=congrArg List.length e;have h2:(toL (hTx u.h)).length=(hTx u.h).size:=by simp[toL]
  rw[zq,h2,ya]at h1;omega
 have hrt: ∀c∈lH u,txC c.toNat=true:=by
  intro c hc;unfold lH at hc;split at hc
  .rcases ze.1 hc with h1|h1
   .exact (EJ ha.2.1 c h1).1
   rcases zd.1 h1 with h2|h2
   .rw[h2];decide
   exact Fh ho c h2
  exact (EJ ha.2.1 c hc).1
 refine ⟨rest,hrest,hx,hau,hne,?_⟩;rw[hx];intro c hc
 rcases ze.1 hc with h1|h1
 .clear hc
  unfold gH at h1;split at h1
  .revert c;decide
  revert c;decide
 rcases zd.1 h1 with h2|h2
 .rw[h2];decide
 rcases zd.1 h2 with h3|h3
 .rw[h3];decide
 rcases ze.1 h3 with h4|h4
 .exact au_tx (hau c h4)
 rw[<-hrest]at h4;exact hrt c h4
theorem Fp{u:UV}(h:uOk u=true)(hb:0<(hTx u.h).size)(hv:rV (aR (hTx u.h))=u.h)(hc:rC (aR (hTx u.h))=0)(hl:(wD u).length+(lH u).length<=2000):yI u.s (toL (hTx u.h)++gC u.s u.p) (lH u)=(0,u):=by
 obtain ⟨hs,hh,hp,ha,hq,ho,hpl⟩:=gG h;have hhost:pC u.s u.p (toL (hTx u.h)) (lH u)=(0,u):=by
  unfold pC;rw[ZU,hc,if_pos rfl,hv,W4 h];unfold wE;rw[if_pos hl]
 have hd5:=UM (n:=u.p.toNat) om;have hd93: ∀c∈iZ u.p.toNat,c≠93:=fun c hc e=>(uN (hd5.1 c hc)).2.2 (by rw[e];rfl)
 have hcol:kV (toL (hTx u.h))=none/\kV (toL (hTx u.h)++58::iZ u.p.toNat)=some (toL (hTx u.h)).length:=by
  rcases JH hh hb with h2|⟨m,h2,h3⟩
  .refine Fm (fun c hc=> ?_) hd93
   rcases h2 c hc with h4|h4
   .exact ⟨fun e=>(uN h4).2.1 (by rw[e];rfl),fun e=>(uN h4).2.2 (by rw[e];rfl)⟩
   rw[h4];decide
  rw[h2];exact Kh hd93
 unfold gC
 by_cases hd:u.p=bS u.s
 .rw[if_pos hd,List.append_nil]
  unfold yI;rw[hcol.1];simp only;rw[<-hd];exact hhost
 rw[if_neg hd];have hpn:eP u.s (iZ u.p.toNat)=u.p:=by
  unfold eP;rw[if_neg hd5.2,Cr om];simp only;omega
 unfold yI;rw[hcol.2];simp only;have e1:(toL (hTx u.h)++58::iZ u.p.toNat).drop ((toL (hTx u.h)).length+1)=iZ u.p.toNat:=by
  rw[List.drop_append,List.drop_of_length_le om];simp
 have e2:(toL (hTx u.h)++58::iZ u.p.toNat).take (toL (hTx u.h)).length=toL (hTx u.h):=List.take_left;rw[e1,e2,hpn,if_pos hp];exact hhost
theorem W5{u:UV}(h:uOk u=true)(hb:0<(hTx u.h).size)(hv:rV (aR (hTx u.h))=u.h)(hc:rC (aR (hTx u.h))=0)(hl:(wD u).length+(lH u).length<=2000):qN (uTx u)=(0,u):=by
 obtain ⟨rest,hr,hx,hau,hne,_⟩:=wQ h hb;have hcut:=Fp h hb hv hc hl;rw[hr]at hcut;have hs:=(gG h).1;have hs12:u.s=1∨u.s=2:=by
  unfold bS at hs
  by_cases h1:u.s=1
  .exact .inl h1
  rw[if_neg h1]at hs
  by_cases h2:u.s=2
  .exact .inr h2
  rw[if_neg h2]at hs;exact absurd rfl hs
 unfold qN;rw[hx];have hgo:=Fl u.s (rest:=rest) hau hne
 rcases hs12 with h1|h1
 .have e:gH u.s=oG:=by unfold gH;rw[if_pos h1]
  rw[e,WT];simp only;rw[<-h1,hgo,hcut]
 have e:gH u.s=jS:=by unfold gH;rw[if_neg om]
 rw[e,QV];simp only;rw[<-h1,hgo,hcut]
theorem zN{u:UV}(h:uOk u=true):(uTx u).length=(wD u).length+(lH u).length:=by
 unfold uTx;rw[if_pos h,zq]
theorem Fq{u:UV}(h:uOk u=true)(hb:0<(hTx u.h).size)(hv:rV (aR (hTx u.h))=u.h)(hc:rC (aR (hTx u.h))=0)(hl:(uTx u).length<=2000):aU (uTx u)=(0,u)/\((uTx u).length<=1997->aU (32::(uTx u++[35,102]))=(0,u)):=by
 obtain ⟨_,_,_,_,_,htx⟩:=wQ h hb;have hr:=W5 h hb hv hc (by rw[<-zN h];exact hl);constructor
 .unfold aU
  rw[if_neg om,JI htx,hr]
 intro h3;unfold aU;rw[if_neg (by simp only[z6,zq,ya];omega),ZT htx,hr]
def wR(r:Int×UV):Prop:=(1<=r.1/\r.1<=5/\r.2=cP)∨(r.1=0/\uOk r.2=true/\(wD r.2).length+(lH r.2).length<=2000)
theorem kP{c:Int}(h:1<=c/\c<=5):wR (c,cP):=.inl ⟨h.1,h.2,rfl⟩
theorem wS{s p:Int}{h:HV}{l:List UInt8}(hs:bS s≠0)(hh:hOk h=true)(hp:1<=p/\p<=65535)(hl: ∀c r,l=c::r->cL c=false):uOk (oH s h p l)=true:=by
 have hroot:bZ ⟨(eO (AN (l.takeWhile fun c=>c !=63))).toArray⟩=true:=by
  cases l with
  |nil=>rfl
  |cons c r=>
   have hc:=hl c r rfl;have key: ∀n,n<256->cL (za n)=false->n=47∨n=92∨n=63:=by decide+kernel
   have h1:=key c.toNat c.toNat_lt (by simpa using hc)
   by_cases h63:c.toNat=63
   .have e:c=63:=zz.1 h63
    rw[e,zi,if_neg de];rfl
   have e:(c !=63)=true:=by
    rw[bne_iff_ne];intro e;exact h63 (by rw[e];rfl)
   rw[zi,e,if_pos rfl];have h47:c=47∨c=92:=by
    rcases h1 with h2|h2|h2
    .exact .inl (zz.1 h2)
    .exact .inr (zz.1 h2)
    exact absurd h2 h63
   apply LY (r:=eO (r.takeWhile fun c=>c !=63))
   rcases h47 with rfl|rfl<;>rfl
 refine Fo hs hh hp (S4 hroot) ?_ ?_ ?_
 .unfold oH
  simp only
  cases hm:l.dropWhile fun c=>c !=63 with
  |nil=>exact .inr rfl
  |cons _ _=>exact .inl rfl
 .show okL 2 (plL 2 _)=true
  exact RS 2 de _
 show plL 2 (plL 2 _)=plL 2 _;exact Z4 2 de _
theorem JL{s p:Int}{auth rest:List UInt8}(hs:bS s≠0)(hp:1<=p/\p<=65535)(hl: ∀c r,rest=c::r->cL c=false):wR (pC s p auth rest):=by
 unfold pC;split
 .next hc=>
  have hh:hOk (rV (aR ⟨auth.toArray⟩))=true:=by
   rcases PH ⟨auth.toArray⟩with ⟨c,h1,h2,_⟩|h1
   .rw[h1]at hc
    have:c=0:=hc
    omega
   exact h1.1
  unfold wE;split
  .next h2=>exact .inr ⟨rfl,wS hs hh hp hl,h2⟩
  exact kP de
 exact kP de
theorem Fr{s:Int}(hs:bS s≠0):1<=bS s/\bS s<=65535:=by
 unfold bS at hs⊢;split
 .decide
 next h=>
 rw[if_neg h]at hs;split
 .decide
 next h2=>rw[if_neg h2]at hs;exact absurd rfl hs
theorem WU{s:Int}{t:List UInt8}(hs:bS s≠0):wR (oI s t):=by
 have hl: ∀c r,(t.dropWhile slB).dropWhile cL=c::r->cL c=false:=by
  intro c r e;have h:=List.head?_dropWhile_not cL (t.dropWhile slB);rw[e]at h;simpa using h
 unfold oI tA;split
 .exact kP de
 unfold yI;split
 .exact JL hs (Fr hs) hl
 split
 .next h=>exact JL hs h hl
 exact kP de
theorem uO(l:List UInt8):wR (aU l):=by
 unfold aU;split
 .exact kP de
 unfold qN;split
 .exact kP de
 next s t h=>
 apply WU;unfold dS at h;split at h
 .cases h;decide
 split at h
 .cases h;decide
 cases h
end
section
open Go.RowKit
set_option linter.unusedVariables false
set_option linter.unusedSimpArgs false
theorem Fs{s k n p:Int}{nm a r:ByteArray}{q:Bool}{x0 x1 x2 x3 x4 x5 x6 x7:Int}(h:uOk ⟨s,⟨k,nm,n,[x0,x1,x2,x3,x4,x5,x6,x7]⟩,p,a,q,r⟩=true):
  (⟨(fA s (hTx ⟨k,nm,n,[x0,x1,x2,x3,x4,x5,x6,x7]⟩) p).toArray⟩:ByteArray)++⟨(iB a q r).toArray⟩=⟨(uTx ⟨s,⟨k,nm,n,[x0,x1,x2,x3,x4,x5,x6,x7]⟩,p,a,q,r⟩).toArray⟩:=by
 rw[M2 h];apply bL;show toL _=wD _++lH _;rw[QR];unfold lH iB;simp[toL]
theorem Ft(a r:ByteArray)(q:Bool)(ha:a.size<=4194304)(hr:r.size<=4194304):(⟨(iB a q r).toArray⟩:ByteArray).size<=8388609:=by
 rw[cR];unfold iB;have h1:(toL a).length=a.size:=by simp[toL]
 have h2:(toL r).length=r.size:=by simp[toL]
 split
 .rw[zq,z6];omega
 omega
theorem tI(s k n p:Int)(nm a r:ByteArray)(q:Bool)(x0 x1 x2 x3 x4 x5 x6 x7:Int)(w:World)(hs:nm.size<=1048576)(ha:a.size<=4194304)(hr:r.size<=4194304):Calls prog 68 #[Q #[I J s,I J k,L nm,I J n,I J x0,I J x1,I J x2,I J x3,I J x4,I J x5,I J x6,I J x7,I J p,L a,D q,L r]] w fun e w'=>e=F (L ⟨(uTx ⟨s,⟨k,nm,n,[x0,x1,x2,x3,x4,x5,x6,x7]⟩,p,a,q,r⟩).toArray⟩)/\Below w.heap.size w w':=by
 have CO:Hid (∀W,CB 14 #[Q (aA s k nm n x0 x1 x2 x3 x4 x5 x6 x7 p a q r).toArray] W (D (uOk ⟨s,⟨k,nm,n,[x0,x1,x2,x3,x4,x5,x6,x7]⟩,p,a,q,r⟩))):=fun W=>NH s k n p nm a r q x0 x1 x2 x3 x4 x5 x6 x7 W hs ha hr
 have CR:Hid (∀W,CB 61 #[Q #[I J s,I J k,L nm,I J n,I J x0,I J x1,I J x2,I J x3,I J x4,I J x5,I J x6,I J x7,I J p,L a,D q,L r]] W (L ⟨(iB a q r).toArray⟩)):=fun W=>VZ s k n p nm a r q x0 x1 x2 x3 x4 x5 x6 x7 W ha hr
 have HN:Hid (uOk ⟨s,⟨k,nm,n,[x0,x1,x2,x3,x4,x5,x6,x7]⟩,p,a,q,r⟩=false->(⟨#[]⟩:ByteArray)=⟨(uTx ⟨s,⟨k,nm,n,[x0,x1,x2,x3,x4,x5,x6,x7]⟩,p,a,q,r⟩).toArray⟩):=fun h=>by rw[Fg h]
 have HY:Hid (uOk ⟨s,⟨k,nm,n,[x0,x1,x2,x3,x4,x5,x6,x7]⟩,p,a,q,r⟩=true->(⟨(fA s (hTx ⟨k,nm,n,[x0,x1,x2,x3,x4,x5,x6,x7]⟩) p).toArray⟩:ByteArray)++⟨(iB a q r).toArray⟩=⟨(uTx ⟨s,⟨k,nm,n,[x0,x1,x2,x3,x4,x5,x6,x7]⟩,p,a,q,r⟩).toArray⟩):=fun h=>Fs h
 have HG:Hid (uOk ⟨s,⟨k,nm,n,[x0,x1,x2,x3,x4,x5,x6,x7]⟩,p,a,q,r⟩=true-> ∀W,CB 60 #[Q #[I J s,I J k,L nm,I J n,I J x0,I J x1,I J x2,I J x3,I J x4,I J x5,I J x6,I J x7,I J p,L a,D q,L r]] W (L ⟨(fA s (hTx ⟨k,nm,n,[x0,x1,x2,x3,x4,x5,x6,x7]⟩) p).toArray⟩)):=fun h W=>by
  have hp:=(gG h).2.2.1;have h1:1<=p:=hp.1;have h2:p<=65535:=hp.2;exact IS s k n p nm a r q x0 x1 x2 x3 x4 x5 x6 x7 W hs om om
 have hol:=QS (k:=k) (n:=n) (nm:=nm) (x0:=x0) (x1:=x1) (x2:=x2) (x3:=x3) (x4:=x4) (x5:=x5) (x6:=x6) (x7:=x7) s p hs;have hos:(⟨(fA s (hTx ⟨k,nm,n,[x0,x1,x2,x3,x4,x5,x6,x7]⟩) p).toArray⟩:ByteArray).size<=1048600:=by rw[cR];exact hol
 have hrs:=Ft a r q om hr;clear hol;generalize (⟨(uTx ⟨s,⟨k,nm,n,[x0,x1,x2,x3,x4,x5,x6,x7]⟩,p,a,q,r⟩).toArray⟩:ByteArray)=Z at HN HY⊢;generalize uOk ⟨s,⟨k,nm,n,[x0,x1,x2,x3,x4,x5,x6,x7]⟩,p,a,q,r⟩=b at CO HG HN HY;generalize (⟨(iB a q r).toArray⟩:ByteArray)=RR at CR HY hrs;generalize (⟨(fA s (hTx ⟨k,nm,n,[x0,x1,x2,x3,x4,x5,x6,x7]⟩) p).toArray⟩:ByteArray)=G at HG HY hos;obtain ⟨O,hO⟩: ∃O,O=w.alloc (E #[I J s,I J k,L nm,I J n,I J x0,I J x1,I J x2,I J x3,I J x4,I J x5,I J x6,I J x7,I J p,L a,D q,L r] 28):=⟨_,rfl⟩;have HU:Hid (PU w (aA s k nm n x0 x1 x2 x3 x4 x5 x6 x7 p a q r) O):=by
  rw[hO];exact PU.new w _ _
 go_enter func68,ntmps68
 go_upto_region 1 with fail
 rw[<-hO];clear hO;go_wp2_with (refine bA HU.out.1 rfl rfl _ rfl rfl ?_);refine (CO.out _).mono ?_;rintro e w1 ⟨rfl,hb1⟩;have HU1:Hid (PU w (aA s k nm n x0 x1 x2 x3 x4 x5 x6 x7 p a q r) w1):=HU.out.later hb1;clear hb1 HU CO
 cases b with
 |false=>
  have HZ:Hid ((⟨#[]⟩:ByteArray)=Z):=HN.out rfl;clear HN HY HG CR;go_wp2;go_ret;exact ⟨bH HZ.out,HU1.out.2⟩
 |true=>
  have HZ:Hid (G++RR=Z):=HY.out rfl;have CG:Hid (∀W,CB 60 #[Q #[I J s,I J k,L nm,I J n,I J x0,I J x1,I J x2,I J x3,I J x4,I J x5,I J x6,I J x7,I J p,L a,D q,L r]] W (L G)):=HG.out rfl;clear HN HY HG
  go_upto_region 3 with fail
  refine wp_region_held_drew (S:=PU w (aA s k nm n x0 x1 x2 x3 x4 x5 x6 x7 p a q r)) kr HU1.out.drew (fun h0=> ?_);clear HU1;refine wpAnyH_take (i:=0) (v:=Q (aA s k nm n x0 x1 x2 x3 x4 x5 x6 x7 p a q r).toArray) rfl kr kr kr (fun _ _ _ h=>h) (yieldsIf_load_mid (by rfl) _ _ rfl w.heap.size 0 rfl (aA s k nm n x0 x1 x2 x3 x4 x5 x6 x7 p a q r) _ (fun W hW=>hW.1.range 0 _ (fun j v hv=>by rw[Nat.zero_add];exact hv)) underlying28 rfl infoUrl) h0 ?_;simp only[yh,zm,zk,zl,zg,zr,zs];refine wpAnyH_take (i:=2) (v:=Q (aA s k nm n x0 x1 x2 x3 x4 x5 x6 x7 p a q r).toArray) rfl kr kr kr (fun _ _ _ h=>h) (yieldsIf_load_mid (by rfl) _ _ rfl w.heap.size 0 rfl (aA s k nm n x0 x1 x2 x3 x4 x5 x6 x7 p a q r) _ (fun W hW=>hW.1.range 0 _ (fun j v hv=>by rw[Nat.zero_add];exact hv)) underlying28 rfl infoUrl) h0 ?_;simp only[yh,zm,zk,zl,zg,zr,zs];refine wpAnyH_ready (rs:=[1]) kr j2 (yd rfl (fun K hK=> ?_) yf);go_simp;go_wp2_with (go_at_call 60;refine (CG.out _).mono ?_;rintro e wq1 ⟨rfl,hb1⟩);refine hK.out _ _ (PU.later h0 hb1) (fun h1=> ?_);clear hK K h0;refine wpAnyH_ready (rs:=[3]) kr j2 (yd rfl (fun K hK=> ?_) yf);go_simp;go_wp2_with (go_at_call 61;refine (CR.out _).mono ?_;rintro e wq2 ⟨rfl,hb2⟩);refine hK.out _ _ (PU.later h1 hb2) (fun h2=> ?_);clear hK K h1;refine wpAnyH_take (i:=4) (v:=L (G++RR)) rfl kr kr kr (fun _ _ _ h=>h) (Or.inl ⟨by rfl,fun W hW=> ?_⟩) h2 ?_
  .clear hW
   go_simp;omega
  simp only[yh,zm,zk,zl,zg,zr,zs];refine wpAnyH_take (i:=5) (v:=L (G++RR)) rfl kr kr kr (fun _ _ _ h=>h) (Or.inl ⟨by rfl,fun W hW=> ?_⟩) h2 ?_
  .kernel_rfl
  refine wpAnyH_done kr ?_ _;simp only[yh,zm,zk,zl,zg,zr,zs];go_wp2_with fail;go_ret;exact ⟨bH HZ.out,h2.2⟩
end
section
open Go.RowKit
def tJ(n:Nat):Bool:=bI n||(fK n||(decide (n=43)||decide (n=45)||decide (n=46)))
def kQ(l:List UInt8):Bool:=bI (l.headD 0).toNat&&l.all fun c=>tJ c.toNat
def jA(l:List UInt8):List UInt8:=if l.contains 58=true/\kQ (upB 58 l)=true then aE (upB 58 l)else []
theorem W6: ∀n:Nat,n<256->eA [43,45,46] (n:Int)=(decide (n=43)||decide (n=45)||decide (n=46)):=by decide+kernel
theorem W7(c:UInt8):eA (⟨#[58]⟩:ByteArray).data.toList (c.toNat:Int)= !(c !=58):=by
 have h: ∀n:Nat,n<256->eA [58] (n:Int)= !(za n !=58):=by decide+kernel
 have:=h c.toNat c.toNat_lt
 simpa using this
theorem Fu{l:List UInt8}(h:l.contains 58=false):jA l=[]:=by unfold jA;rw[if_neg (fun x=>by rw[h]at x;exact absurd x.1 de)]
theorem QW{l:List UInt8}(h:kQ (upB 58 l)=false):jA l=[]:=by unfold jA;rw[if_neg (fun x=>by rw[h]at x;exact absurd x.2 de)]
theorem JM{l:List UInt8}(h1:l.contains 58=true)(h:kQ (upB 58 l)=true):jA l=aE (upB 58 l):=by unfold jA;rw[if_pos ⟨h1,h⟩]
theorem ZV(l:List UInt8):(l.dropWhile fun x=>x !=58).isEmpty= !l.contains 58:=by
 induction l with
 |nil=>rfl
 |cons b l ih=>
  by_cases h:b=58
  .subst h;simp
  have h3:(b !=58)=true:=bne_iff_ne.2 h;have h2:(b::l).contains 58=l.contains 58:=by simp[Ne.symm h]
  rw[h2,zc,h3,if_pos rfl,ih]
theorem tK(l:List UInt8):(⟨l.toArray⟩:ByteArray).toList.isEmpty=l.isEmpty:=by rw[zp]
theorem JN{H:ByteArray}(h:0<H.size):H.data.toList.headD 0=H[0]:=by
 have:=fO H 0 h
 rw[zv]at this;rw[this];rfl
theorem QX(s:ByteArray)(w:World)(hs:s.size<=1048576):Calls prog 65 #[L s] w fun e w'=>e=F (L ⟨(jA s.data.toList).toArray⟩)/\Below w.heap.size w w':=by
 obtain ⟨H,hH⟩: ∃H:ByteArray,H=⟨(upB 58 s.data.toList).toArray⟩:=⟨_,rfl⟩;obtain ⟨R,hR⟩: ∃R:ByteArray,R=⟨(s.data.toList.dropWhile fun x=>x !=58).toArray⟩:=⟨_,rfl⟩;have CU:Hid (∀W,CB 54 #[L s,L ⟨#[58]⟩] W (.tuple #[L H,L R])):=fun W=>by
  rw[hH,hR];exact AP (fun c=>c !=58) ⟨#[58]⟩ s W de W7 om
 have eH:H.data.toList=upB 58 s.data.toList:=by rw[hH]
 have hsz:H.size<=1048576:=by
  have h1:H.data.toList.length<=s.data.toList.length:=by rw[eH];exact (zy _).length_le
  have h2:H.data.toList.length=H.size:=by simp
  have h3:s.data.toList.length=s.size:=by simp
  omega
 have eR:R.toList.isEmpty= !s.data.toList.contains 58:=by rw[hR,tK,ZV]
 have CLo:Hid (∀W,CB 52 #[L H] W (L ⟨(aE H.data.toList).toArray⟩)):=fun W=>zS H W hsz
 have HEH:Hid (H.data.toList=upB 58 s.data.toList):=eH;clear hH hR eH
 cases hc:s.data.toList.contains 58 with
 |false=>
  have HV:Hid (jA s.data.toList=[]):=Fu hc;rw[hc]at eR;clear hc;go_enter func65,ntmps65;go_wp2_with fail;refine (CU.out _).mono ?_;rintro e w1 ⟨rfl,b1⟩;go_wp2;go_ret;exact ⟨by rw[HV.out];rfl,b1⟩
 |true=>
  have HC:Hid (s.data.toList.contains 58=true):=hc;rw[hc]at eR;clear hc
  by_cases hz:H=⟨#[]⟩
  .have HV:Hid (jA s.data.toList=[]):=QW (by rw[<-HEH.out,hz];rfl)
   have eE:H.toList.isEmpty=true:=by rw[hz,zp];rfl
   clear hz;go_enter func65,ntmps65;go_wp2_with fail;refine (CU.out _).mono ?_;rintro e w1 ⟨rfl,b1⟩;go_wp2;go_ret;exact ⟨by rw[HV.out];rfl,b1⟩
  have hr1:0<H.size:=by
   apply z2;intro h;exact hz (yg (zu h))
  have eE:H.toList.isEmpty=false:=by
   cases he:H.toList.isEmpty with
   |false=>rfl
   |true=>
    rw[zp,zt]at he
    have:H.size=0:=by simpa using he
    omega
  have hh:=JN hr1;clear hz;obtain ⟨d,hd⟩: ∃d:Nat,H[0].toNat=d:=⟨_,rfl⟩;have hd1:(d:Int)<=255:=by have:=H[0].toNat_lt;omega
  have CT:Hid (∀W,CS 125 #[I J (d:Int)] W (D (bI d))):=fun W=>by
   have h:=vW (d:Int) W;have e:iA (d:Int)=bI d:=by unfold iA bI;rw[yb];simp;omega
   rw[e]at h;exact h
  cases hl:bI d with
  |false=>
   have HV:Hid (jA s.data.toList=[]):=QW (by rw[<-HEH.out];unfold kQ;rw[hh,hd,hl];rfl);rw[hl]at CT;clear hl hh;go_enter func65,ntmps65;go_wp2_with fail;refine (CU.out _).mono ?_;rintro e w1 ⟨rfl,b1⟩;go_wp2_with fail;refine (CT.out _).mono ?_;rintro e w' ⟨rfl,rfl⟩;go_wp2;go_ret;exact ⟨by rw[HV.out];rfl,b1⟩
  |true=>
   have HL:Hid (bI (H.data.toList.headD 0).toNat=true):=by show _=_;rw[hh,hd,hl]
   rw[hl]at CT;clear hl hh;go_enter func65,ntmps65;go_wp2_with fail;refine (CU.out _).mono ?_;rintro e w1 ⟨rfl,b1⟩;go_wp2_with fail;refine (CT.out _).mono ?_;rintro e w' ⟨rfl,rfl⟩;clear CT CU eR eE hd hd1;go_wp2_with fail
   go_loop[5] (fun i=> ∃k:Nat,k<=H.size/\i=I J k/\(H.data.toList.take k).all (fun c=>tJ c.toNat)=true) (fun i=>H.size-(intOf i).toNat)
   case atStart=>exact ⟨0,Nat.zero_le _,rfl,rfl⟩
   obtain ⟨k,hk,rfl,hall⟩:=hrel;have HA:Hid ((H.data.toList.take k).all (fun c=>tJ c.toNat)=true):=hall;clear hall
   by_cases hlt:k<H.size
   .have htk:=eW H k hlt
    obtain ⟨y,hy⟩: ∃y:Nat,H[k].toNat=y:=⟨_,rfl⟩;have hy1:(y:Int)<=255:=by have:=H[k].toNat_lt;omega
    have C1:Hid (∀W,CS 125 #[I J (y:Int)] W (D (bI y))):=fun W=>by
     have h:=vW (y:Int) W;have e:iA (y:Int)=bI y:=by unfold iA bI;rw[yb];simp;omega
     rw[e]at h;exact h
    have C2:Hid (∀W,CS 39 #[I J (y:Int),I J 48,I J 57] W (D (fK y))):=fun W=>by
     have h:=ER (y:Int) 48 57 W;have e:decide (48<=(y:Int)/\(y:Int)<=57)=fK y:=by unfold fK;exact decide_eq_decide.2 om
     rw[e]at h;exact h
    have C3:Hid (∀W,CS 55 #[L ⟨#[43,45,46]⟩,I J (y:Int)] W (D (decide (y=43)||decide (y=45)||decide (y=46)))):=fun W=>by
     have h:=qB ⟨#[43,45,46]⟩ (y:Int) W de;rw[show (⟨#[43,45,46]⟩:ByteArray).data.toList=[43,45,46] from rfl,W6 y om]at h;exact h
    have HX:Hid (tJ y=true->(H.data.toList.take (k+1)).all (fun c=>tJ c.toNat)=true):=fun h=>by rw[htk,yc,HA.out];simp[hy,h]
    have HB:Hid (tJ y=false->jA s.data.toList=[]):=fun h=>QW (by
     rw[<-HEH.out];unfold kQ
     have:H.data.toList.all (fun c=>tJ c.toNat)=false:=by
      rw[z3];refine ⟨H[k],?_,by rw[hy,h];decide⟩
      have:H[k]∈H.data:=z4 _
      simpa using this
     rw[this,Bool.and_false])
    clear htk;have HS:Hid (tJ y=(bI y||(fK y||(decide (y=43)||decide (y=45)||decide (y=46))))):=rfl;generalize bI y=t1 at C1 HS;generalize fK y=t2 at C2 HS;generalize (decide (y=43)||decide (y=45)||decide (y=46))=t3 at C3 HS
    cases t1 with
    |true=>
     go_wp2_with fail;refine (C1.out _).mono ?_;rintro e w' ⟨rfl,rfl⟩;go_wp2_with fail;go_round
     case rel=>exact ⟨k+1,om,gn,HX.out HS.out⟩
     case measure=>exact j1
    |false=>
     cases t2 with
     |true=>
      go_wp2_with fail;refine (C1.out _).mono ?_;rintro e w' ⟨rfl,rfl⟩;go_wp2_with fail;refine (C2.out _).mono ?_;rintro e w' ⟨rfl,rfl⟩;go_wp2_with fail;go_round
      case rel=>exact ⟨k+1,om,gn,HX.out HS.out⟩
      case measure=>exact j1
     |false=>
      cases t3 with
      |true=>
       go_wp2_with fail;refine (C1.out _).mono ?_;rintro e w' ⟨rfl,rfl⟩;go_wp2_with fail;refine (C2.out _).mono ?_;rintro e w' ⟨rfl,rfl⟩;go_wp2_with fail;refine (C3.out _).mono ?_;rintro e w' ⟨rfl,rfl⟩;go_wp2_with fail;go_round
       case rel=>exact ⟨k+1,om,gn,HX.out HS.out⟩
       case measure=>exact j1
      |false=>
       go_wp2_with fail;refine (C1.out _).mono ?_;rintro e w' ⟨rfl,rfl⟩;go_wp2_with fail;refine (C2.out _).mono ?_;rintro e w' ⟨rfl,rfl⟩;go_wp2_with fail;refine (C3.out _).mono ?_;rintro e w' ⟨rfl,rfl⟩;go_wp2_with fail;go_ret;exact ⟨by rw[HB.out HS.out];rfl,b1⟩
   have HV:Hid (jA s.data.toList=aE H.data.toList):=by
    show _=_;rw[HEH.out];refine JM HC.out ?_;rw[<-HEH.out];unfold kQ;have h:=HA.out;rw[dD H k om]at h;rw[HL.out,h];rfl
   go_wp2_with fail;refine (CLo.out _).mono ?_;rintro e w2 ⟨rfl,b2⟩;go_wp2_with fail;go_ret;exact ⟨by rw[HV.out];rfl,b1.trans (b2.mono b1.size)⟩
theorem Ng: ∀n:Nat,n<256->((0<=Lib.indexByte [43,45,46] (za n))↔(decide (n=43)||decide (n=45)||decide (n=46))=true):=by decide+kernel
theorem BF(d:Nat)(w:World)(hd:(d:Int)<=255):Calls prog 220 #[.int .u8 (d:Int)] w fun e w'=>e=F (D (tJ d))/\w=w':=by
 have C1:Hid (∀W,CS 217 #[.int .u8 (d:Int)] W (D (bI d))):=fun W=>iQ d W hd
 have C2:Hid (∀W,CS 218 #[.int .u8 (d:Int)] W (D (fK d))):=fun W=>by
  have h:=fG d W om;have e:decide (48<=(d:Int)/\(d:Int)<=57)=fK d:=by unfold fK;exact decide_eq_decide.2 om
  rw[e]at h;exact h
 have C3:Hid (∀W,CS 204 #[L ⟨#[43,45,46]⟩,.int .u8 (d:Int)] W (I J (Lib.indexByte [43,45,46] (za d)))):=fun W=>by
  have h:=strings_IndexByte ⟨#[43,45,46]⟩ (d:Int) W;rw[show ((d:Int)).toNat.toUInt8=za d by simp]at h;exact h.mono fun e w' h=>⟨h.1,h.2.symm⟩
 have HS:Hid (tJ d=(bI d||(fK d||(decide (d=43)||decide (d=45)||decide (d=46))))):=rfl;have HX:=Ng d om;generalize bI d=t1 at C1 HS;generalize fK d=t2 at C2 HS;generalize (decide (d=43)||decide (d=45)||decide (d=46))=t3 at HS HX;generalize Lib.indexByte [43,45,46] (za d)=z at C3 HX
 cases t1 with
 |true=>
  go_enter func220,ntmps220;go_wp2_with fail;refine (C1.out _).mono ?_;rintro e w' ⟨rfl,rfl⟩;go_wp2_with fail;go_ret;exact ⟨aF (by rw[HS.out];rfl),rfl⟩
 |false=>
  cases t2 with
  |true=>
   go_enter func220,ntmps220;go_wp2_with fail;refine (C1.out _).mono ?_;rintro e w' ⟨rfl,rfl⟩;go_wp2_with fail;refine (C2.out _).mono ?_;rintro e w' ⟨rfl,rfl⟩;go_wp2_with fail;go_ret;exact ⟨aF (by rw[HS.out];rfl),rfl⟩
  |false=>
   have HZ:Hid (decide (0<=z)=tJ d):=by
    show _=_;rw[HS.out]
    cases t3 with
    |true=>simpa using HX
    |false=>simpa using HX
   clear HX HS;go_enter func220,ntmps220;go_wp2_with fail;refine (C1.out _).mono ?_;rintro e w' ⟨rfl,rfl⟩;go_wp2_with fail;refine (C2.out _).mono ?_;rintro e w' ⟨rfl,rfl⟩;go_wp2_with fail;refine (C3.out _).mono ?_;rintro e w' ⟨rfl,rfl⟩;go_wp2_with fail;go_ret;exact ⟨aF HZ.out,rfl⟩
theorem QY(s:ByteArray)(w:World)(hs:s.size<=1048576):Calls prog 171 #[L s] w fun e w'=>e=F (D (kQ s.data.toList))/\w=w':=by
 have HV:Hid (∀b:Bool,kQ s.data.toList=b->(F (D b):Ending)=F (D (kQ s.data.toList))):=fun b h=>by rw[h]
 by_cases hz:s=⟨#[]⟩
 .have HF:Hid (kQ s.data.toList=false):=by subst hz;show _=_;rfl
  subst hz;go_enter func171,ntmps171;go_wp2_with fail;go_ret;exact ⟨HV.out _ HF.out,rfl⟩
 have hr1:0<s.size:=by
  apply z2;intro h;exact hz (yg (zu h))
 have eE:s.toList.isEmpty=false:=by
  cases he:s.toList.isEmpty with
  |false=>rfl
  |true=>
   rw[zp,zt]at he
   have:s.size=0:=by simpa using he
   omega
 have hh:=JN hr1;clear hz;obtain ⟨d,hd⟩: ∃d:Nat,s[0].toNat=d:=⟨_,rfl⟩;have hd1:(d:Int)<=255:=by have:=s[0].toNat_lt;omega
 have CT:Hid (∀W,CS 217 #[.int .u8 (d:Int)] W (D (bI d))):=fun W=>iQ d W hd1
 cases hl:bI d with
 |false=>
  have HF:Hid (kQ s.data.toList=false):=by show _=_;unfold kQ;rw[hh,hd,hl];rfl
  rw[hl]at CT;clear hl hh;go_enter func171,ntmps171;go_wp2_with fail;refine (CT.out _).mono ?_;rintro e w' ⟨rfl,rfl⟩;go_wp2_with fail;go_ret;exact ⟨HV.out _ HF.out,rfl⟩
 |true=>
  have HL:Hid (bI (s.data.toList.headD 0).toNat=true):=by show _=_;rw[hh,hd,hl]
  rw[hl]at CT;clear hl hh;go_enter func171,ntmps171;go_wp2_with fail;refine (CT.out _).mono ?_;rintro e w' ⟨rfl,rfl⟩;clear CT eE hd hd1;go_wp2_with fail
  go_loop[14] (fun i=> ∃k:Nat,k<=s.size/\i=I J k/\(s.data.toList.take k).all (fun c=>tJ c.toNat)=true) (fun i=>s.size-(intOf i).toNat)
  case atStart=>exact ⟨0,Nat.zero_le _,rfl,rfl⟩
  obtain ⟨k,hk,rfl,hall⟩:=hrel;have HA:Hid ((s.data.toList.take k).all (fun c=>tJ c.toNat)=true):=hall;clear hall
  by_cases hlt:k<s.size
  .have htk:=eW s k hlt
   obtain ⟨y,hy⟩: ∃y:Nat,s[k].toNat=y:=⟨_,rfl⟩;have hy1:(y:Int)<=255:=by have:=s[k].toNat_lt;omega
   have CB:Hid (∀W,CS 220 #[.int .u8 (y:Int)] W (D (tJ y))):=fun W=>BF y W hy1
   cases hc:tJ y with
   |true=>
    have HX:Hid ((s.data.toList.take (k+1)).all (fun c=>tJ c.toNat)=true):=by show _=_;rw[htk,yc,HA.out];simp[hy,hc]
    rw[hc]at CB;clear hc htk;go_wp2_with fail;refine (CB.out _).mono ?_;rintro e w' ⟨rfl,rfl⟩;go_wp2_with fail;go_round
    case rel=>exact ⟨k+1,om,gn,HX.out⟩
    case measure=>exact j1
   |false=>
    have HF:Hid (kQ s.data.toList=false):=by
     show _=_;unfold kQ
     have:s.data.toList.all (fun c=>tJ c.toNat)=false:=by
      rw[z3];refine ⟨s[k],?_,by rw[hy,hc];decide⟩
      have:s[k]∈s.data:=z4 _
      simpa using this
     rw[this,Bool.and_false]
    rw[hc]at CB;clear hc htk;go_wp2_with fail;refine (CB.out _).mono ?_;rintro e w' ⟨rfl,rfl⟩;go_wp2_with fail;go_ret;exact ⟨HV.out _ HF.out,rfl⟩
  have HT:Hid (kQ s.data.toList=true):=by
   show _=_;unfold kQ;have h:=HA.out;rw[dD s k om]at h;rw[HL.out,h];rfl
  go_wp2_with fail;go_ret;exact ⟨HV.out _ HT.out,rfl⟩
theorem QZ(s:ByteArray)(w:World)(hs:s.size<=1048576):Calls prog 120 #[L s] w fun e w'=>e=F (L ⟨(jA s.data.toList).toArray⟩)/\Below w.heap.size w w':=by
 have CC:Hid (CB 102 #[L s,L ⟨#[58]⟩] w (.tuple #[L ⟨(upB 58 s.data.toList).toArray⟩,L ⟨(dL 58 s.data.toList).toArray⟩,D (s.data.toList.contains 58)])):=kB 58 s w om;obtain ⟨H,hH⟩: ∃H:ByteArray,H=⟨(upB 58 s.data.toList).toArray⟩:=⟨_,rfl⟩;rw[<-hH]at CC;have eH:H.data.toList=upB 58 s.data.toList:=by rw[hH]
 have hsz:H.size<=1048576:=by
  have h1:H.data.toList.length<=s.data.toList.length:=by rw[eH];exact (zy _).length_le
  have h2:H.data.toList.length=H.size:=by simp
  have h3:s.data.toList.length=s.size:=by simp
  omega
 have CO:Hid (∀W,CS 171 #[L H] W (D (kQ H.data.toList))):=fun W=>QY H W hsz
 have CLo:Hid (∀W,CB 172 #[L H] W (L ⟨(aE H.data.toList).toArray⟩)):=fun W=>zT H W hsz
 have HEH:Hid (H.data.toList=upB 58 s.data.toList):=eH;have HV:Hid (jA s.data.toList=if s.data.toList.contains 58=true/\kQ H.data.toList=true then aE H.data.toList else []):=by show _=_;rw[eH];rfl
 clear hH eH;generalize dL 58 s.data.toList=bb at CC;generalize s.data.toList.contains 58=t1 at CC HV;generalize kQ H.data.toList=t2 at CO HV
 cases t1 with
 |false=>
  go_enter func120,ntmps120;go_wp2_with fail;refine CC.out.mono ?_;rintro e w1 ⟨rfl,b1⟩;go_wp2_with fail;go_ret;exact ⟨by rw[HV.out];rfl,b1⟩
 |true=>
  cases t2 with
  |false=>
   go_enter func120,ntmps120;go_wp2_with fail;refine CC.out.mono ?_;rintro e w1 ⟨rfl,b1⟩;go_wp2_with fail;refine (CO.out _).mono ?_;rintro e w' ⟨rfl,rfl⟩;go_wp2_with fail;go_ret;exact ⟨by rw[HV.out];rfl,b1⟩
  |true=>
   go_enter func120,ntmps120;go_wp2_with fail;refine CC.out.mono ?_;rintro e w1 ⟨rfl,b1⟩;go_wp2_with fail;refine (CO.out _).mono ?_;rintro e w' ⟨rfl,rfl⟩;go_wp2_with fail;refine (CLo.out _).mono ?_;rintro e w2 ⟨rfl,b2⟩;go_wp2_with fail;go_ret;exact ⟨by rw[HV.out];rfl,b1.trans (b2.mono b1.size)⟩
end
section
open Go.RowKit
set_option linter.unusedVariables false
def qY(l:List UInt8):Bool:=decide (1<l.length)&&(slB (l.getD 0 0)&&slB (l.getD 1 0))
def mW(a path:ByteArray):ByteArray:=if slB (path.data.toList.headD 0)=true then path else upT a++path
theorem sl_ix: ∀n:Nat,n<256->((0<=Lib.indexByte [47,92] (za n))↔slB (za n)=true):=by decide+kernel
theorem Fv{t:ByteArray}(h: ¬1<t.size):qY t.data.toList=false:=by
 unfold qY;have e:t.data.toList.length=t.size:=by simp
 rw[decide_eq_false om];rfl
theorem Fw{t:ByteArray}(h:1<t.size):qY t.data.toList=(slB t[0]&&slB t[1]):=by
 unfold qY;have e:t.data.toList.length=t.size:=by simp
 rw[decide_eq_true om,jL t 0 om,jL t 1 h];rfl
def PA(w:World)(row:List Value)(W:World):Prop:=UAt W w.heap.size row/\UAt W (w.heap.size+1) aM/\Below w.heap.size w W
theorem PA.later{w:World}{row:List Value}{W W':World}(h:PA w row W)(hb:Below W.heap.size W W'):PA w row W':=⟨h.1.below hb,h.2.1.below hb,h.2.2.trans (hb.mono h.2.2.size)⟩
theorem PA.drew{w:World}{row:List Value}{W:World}(h:PA w row W):PA w row W.drew:=⟨h.1,h.2.1,h.2.2.drew⟩
theorem PA.set{w:World}{row:List Value}{W:World}(h:PA w row W)(j:Nat)(hj:j<row.length)(v:Value):PA w (row.set j v) (W.setCell ⟨w.heap.size,j,none⟩ v):=
 ⟨h.1.set j hj v,h.2.1.other om _ _,h.2.2.setCell (p:=⟨w.heap.size,j,none⟩) (z7 _) v⟩
theorem PA.new(w:World)(s k n p:Int)(nm a r:ByteArray)(q:Bool)(x0 x1 x2 x3 x4 x5 x6 x7:Int):PA w (aA s k nm n x0 x1 x2 x3 x4 x5 x6 x7 p a q r) ((w.alloc (E #[I J s,I J k,L nm,I J n,I J x0,I J x1,I J x2,I J x3,I J x4,I J x5,I J x6,I J x7,I J p,L a,D q,L r] 28)).alloc (E #[I J 0,I J 0,L ⟨#[]⟩,I J 0,I J 0,I J 0,I J 0,I J 0,I J 0,I J 0,I J 0,I J 0,I J 0,L ⟨#[]⟩,D false,L ⟨#[]⟩] 28)):=by
 refine ⟨(UAt.new w _ _).below ((ye _ _).alloc (z7 _) _),?_,((ye _ w).alloc (z7 _) _).alloc j2 _⟩;have h:=UAt.new (w.alloc (E #[I J s,I J k,L nm,I J n,I J x0,I J x1,I J x2,I J x3,I J x4,I J x5,I J x6,I J x7,I J p,L a,D q,L r] 28)) #[I J 0,I J 0,L ⟨#[]⟩,I J 0,I J 0,I J 0,I J 0,I J 0,I J 0,I J 0,I J 0,I J 0,I J 0,L ⟨#[]⟩,D false,L ⟨#[]⟩] 28;rw[World.size_alloc]at h;exact h
theorem tL(c:UInt8)(d:Nat)(hd:c.toNat=d)(w:World):Calls prog 174 #[.int .u8 (d:Int)] w fun e w'=>e=F (D (slB c))/\w=w':=by
 have hc:c=za d:=by rw[<-hd];simp
 have hd2:d<256:=by rw[<-hd];exact c.toNat_lt
 have C3:Hid (∀W,CS 204 #[L ⟨#[47,92]⟩,.int .u8 (d:Int)] W (I J (Lib.indexByte [47,92] (za d)))):=fun W=>by
  have h:=strings_IndexByte ⟨#[47,92]⟩ (d:Int) W;rw[show ((d:Int)).toNat.toUInt8=za d by simp]at h;exact h.mono fun e w' h=>⟨h.1,h.2.symm⟩
 have HX:=sl_ix d hd2;generalize Lib.indexByte [47,92] (za d)=z at C3 HX;have HZ:Hid (decide (0<=z)=slB c):=by
  show _=_;rw[hc]
  cases hb:slB (za d)with
  |true=>rw[hb]at HX;simpa using HX
  |false=>rw[hb]at HX;simpa using HX
 clear HX hc hd;go_enter func174,ntmps174;go_wp2_with fail;refine (C3.out _).mono ?_;rintro e w' ⟨rfl,rfl⟩;go_wp2_with fail;go_ret;exact ⟨aF HZ.out,rfl⟩
theorem JO(t:ByteArray)(w:World)(hs:t.size<=1048576):Calls prog 122 #[L t] w fun e w'=>e=F (D (qY t.data.toList))/\w=w':=by
 by_cases h2:2<=(t.size:Int)
 .have HV:Hid (qY t.data.toList=(slB t[0]&&slB t[1])):=Fw om
  obtain ⟨d,hd⟩: ∃d:Nat,t[0].toNat=d:=⟨_,rfl⟩;obtain ⟨y,hy⟩: ∃y:Nat,t[1].toNat=y:=⟨_,rfl⟩;have hd1:(d:Int)<=255:=by have:=t[0].toNat_lt;omega
  have hy1:(y:Int)<=255:=by have:=t[1].toNat_lt;omega
  have C0:Hid (∀W,CS 174 #[.int .u8 (d:Int)] W (D (slB t[0]))):=fun W=>tL _ d hd W
  have C1:Hid (∀W,CS 174 #[.int .u8 (y:Int)] W (D (slB t[1]))):=fun W=>tL _ y hy W
  have h1:1<t.size:=om;generalize slB t[0]=b0 at HV C0;generalize slB t[1]=b1 at HV C1
  cases b0 with
  |false=>
   go_enter func122,ntmps122;go_wp2_with fail;refine (C0.out _).mono ?_;rintro e w' ⟨rfl,rfl⟩;go_wp2_with fail;go_ret;exact ⟨aF (by rw[HV.out];rfl),rfl⟩
  |true=>
   go_enter func122,ntmps122;go_wp2_with fail;refine (C0.out _).mono ?_;rintro e w' ⟨rfl,rfl⟩;go_wp2_with fail;refine (C1.out _).mono ?_;rintro e w' ⟨rfl,rfl⟩;go_wp2_with fail;go_ret;exact ⟨aF (by rw[HV.out];rfl),rfl⟩
 have HV:Hid (qY t.data.toList=false):=Fv om;go_enter func122,ntmps122;go_wp2_with fail;go_ret;exact ⟨aF (by rw[HV.out]),rfl⟩
theorem JP(a t:ByteArray)(w:World)(h0:0<t.size)(ha:a.size<=4194304)(ht:t.size<=1048576):Calls prog 176 #[L a,L t] w fun e w'=>e=F (L (mW a t))/\Below w.heap.size w w':=by
 have hh:t.data.toList.headD 0=t[0]:=JN h0;obtain ⟨d,hd⟩: ∃d:Nat,t[0].toNat=d:=⟨_,rfl⟩;have C0:Hid (∀W,CS 174 #[.int .u8 (d:Int)] W (D (slB t[0]))):=fun W=>tL _ d hd W
 have CU:Hid (∀W,CB 221 #[L a] W (L (upT a))):=fun W=>U5 a W om
 have HV:Hid (mW a t=if slB t[0]=true then t else upT a++t):=by show _=_;unfold mW;rw[hh]
 have hus:(upT a).size<=4194304:=by
  unfold upT;rw[ByteArray.size_extract];omega
 have hd1:(d:Int)<=255:=by have:=t[0].toNat_lt;omega
 clear hh;generalize slB t[0]=b at C0 HV
 cases b with
 |true=>
  have HZ:Hid (t=mW a t):=by show _=_;rw[HV.out,if_pos rfl]
  go_enter func176,ntmps176;go_wp2_with fail;refine (C0.out _).mono ?_;rintro e w' ⟨rfl,rfl⟩;go_wp2_with fail;go_ret;exact ⟨bH HZ.out,ye _ _⟩
 |false=>
  have HZ:Hid (upT a++t=mW a t):=by show _=_;rw[HV.out,if_neg de]
  generalize upT a=U at CU hus HZ;go_enter func176,ntmps176;go_wp2_with fail;refine (C0.out _).mono ?_;rintro e w' ⟨rfl,rfl⟩;go_wp2_with fail;refine (CU.out _).mono ?_;rintro e w1 ⟨rfl,b1⟩;go_wp2_with fail;go_ret;exact ⟨bH HZ.out,b1⟩
theorem Fx(s k n p:Int)(nm a r:ByteArray)(q:Bool)(x0 x1 x2 x3 x4 x5 x6 x7:Int)(w:World)(hs:nm.size<=4194304)(ha:a.size<=4194304)(hr:r.size<=4194304):Calls prog 175 #[Q #[I J s,I J k,L nm,I J n,I J x0,I J x1,I J x2,I J x3,I J x4,I J x5,I J x6,I J x7,I J p,L a,D q,L r]] w fun e w'=>e=F (Q (aA s k nm n x0 x1 x2 x3 x4 x5 x6 x7 p a q r).toArray)/\Below w.heap.size w w':=by
 have hn:=PA.new w s k n p nm a r q x0 x1 x2 x3 x4 x5 x6 x7;obtain ⟨O,hO⟩: ∃O,O=(w.alloc (E #[I J s,I J k,L nm,I J n,I J x0,I J x1,I J x2,I J x3,I J x4,I J x5,I J x6,I J x7,I J p,L a,D q,L r] 28)).alloc (E #[I J 0,I J 0,L ⟨#[]⟩,I J 0,I J 0,I J 0,I J 0,I J 0,I J 0,I J 0,I J 0,I J 0,I J 0,L ⟨#[]⟩,D false,L ⟨#[]⟩] 28):=⟨_,rfl⟩;rw[<-hO]at hn;have H0:Hid (PA w (aA s k nm n x0 x1 x2 x3 x4 x5 x6 x7 p a q r) O):=hn;clear hn;go_enter func175,ntmps175
 go_upto_region 1 with fail
 rw[<-hO];clear hO;have CA:=H0.out.1.1 2 _ rfl;go_wp2_with fail;refine j6 (kF _ _ om) fun w1 b1=>?_
 have hn:=H0.out.later b1;have cb:=hn.1.1 2 _ rfl;have fb:=hn.1.2.1 2;have H1:Hid (PA w (aA s k nm n x0 x1 x2 x3 x4 x5 x6 x7 p a q r) (w1.setCell ⟨w.heap.size,2,none⟩ (L nm))):=hn.set 2 (by simp[aA]) _;clear b1 hn CA H0
 go_upto_region 2 with fail
 generalize (w1.setCell ⟨w.heap.size,2,none⟩ (L nm))=w2 at H1⊢;clear cb fb;have CA:=H1.out.1.1 13 _ rfl;go_wp2_with fail;refine j6 (kF _ _ om) fun w3 b2=>?_
 have hn:=H1.out.later b2;have cb:=hn.1.1 13 _ rfl;have fb:=hn.1.2.1 13;have H2:Hid (PA w (aA s k nm n x0 x1 x2 x3 x4 x5 x6 x7 p a q r) (w3.setCell ⟨w.heap.size,13,none⟩ (L a))):=hn.set 13 (by simp[aA]) _;clear b2 hn CA H1
 go_upto_region 3 with fail
 generalize (w3.setCell ⟨w.heap.size,13,none⟩ (L a))=w4 at H2⊢;clear cb fb;have CA:=H2.out.1.1 15 _ rfl;go_wp2_with fail;refine j6 (kF _ _ om) fun w5 b3=>?_
 have hn:=H2.out.later b3;have cb:=hn.1.1 15 _ rfl;have fb:=hn.1.2.1 15;have H3:Hid (PA w (aA s k nm n x0 x1 x2 x3 x4 x5 x6 x7 p a q r) (w5.setCell ⟨w.heap.size,15,none⟩ (L r))):=hn.set 15 (by simp[aA]) _;clear b3 hn CA H2
 go_upto_region 4 with fail
 generalize (w5.setCell ⟨w.heap.size,15,none⟩ (L r))=w6 at H3⊢;clear cb fb;go_wp2_with (first|(refine bA H3.out.1 rfl rfl _ rfl rfl ?_)|(refine aT H3.out.2.1 rfl (us:=aA s k nm n x0 x1 x2 x3 x4 x5 x6 x7 p a q r) rfl (aG ..) rfl _ _ rfl rfl rfl ?_;intro w9 HU9 HM9));refine bodyPost_ret (bX rfl _ _ (w.heap.size+1) _ rfl rfl HU9) rfl ⟨rfl,HM9.2 _ _ (Nat.le_succ _) H3.out.2.2⟩
