/- HostBack, DotPlain, UrlPath, DportWalk, UrlBits, UrlPlain, HostKinds, UrlKinds. -/
import Derived.Test.YtgcbaphbiaimoaaGreatDoorQB11
import Derived.Lib.SlTrimSet
import Derived.Handy
import Derived.RangeFuncBox
set_option maxHeartbeats 1000000
set_option maxRecDepth 100000
namespace Go.Proofs.YtgcbaphbiaimoaaGreatDoor
open Go.Value renaming int->I,string->Y,tuple->H,bool->G,agg->F,iface->E
open Go.IntKind renaming i64->J
open Go.Ending renaming returned->Z
open _root_.Go.RowKit.Below renaming refl->z4
open _root_.Bool renaming and_eq_true->zo
open _root_.ByteArray renaming empty->zh
open _root_.Int renaming toNat->ya
open _root_.List renaming all_append->zz,all_eq_true->z7,append_assoc->zq,concat_eq_append->zl,dropLast_concat->z0,eq_nil_of_length_eq_zero->zj,eq_nil_or_concat->zk,flatMap_cons->zw,getElem?_eq_getElem->zx,length->z8,length_append->zt,length_cons->z5,map_congr_left->z3,map_cons->zr,mem_append->zc,mem_cons->za,mem_cons_of_mem->zm,mem_cons_self->zs,mem_map->zy,mem_reverse->z6,mem_singleton->zi,not_mem_nil->zd,replicate->ze,replicate_succ'->z1,reverse_cons->zp,reverse_reverse->zn
open _root_.Nat renaming div_div_eq_div_mul->zf,le_refl->zg,lt_of_lt_of_le->zu
open _root_.UInt8 renaming toNat_inj->z9
open _root_.Go.World renaming cell?_alloc_at->z2,cell?_setCell_other->zv
open _root_.Go.Proofs.Tryz
open _root_.Go.Proofs.YtgcbaphbiaimoaaGreatDoor.Tryz
section
open Go.RowKit
set_option linter.unusedVariables false
theorem Lf: ∀{l:List UInt8},(∀c∈l,c.toNat≠37)->unL l=l
 |[],_=>rfl
 |c::r,h=>by
  rw[C9 c r (RO c r (h c zs)),Lf fun x hx=>h x (zm _ hx)]
theorem GL: ∀{ls:List ByteArray},(∀a∈ls,eS a.data.toList=true)-> ∀c∈jn 46 ls,iS c=true∨c=46:=by
 intro ls h c hc
 cases ls with
 |nil=>simp[jn]at hc
 |cons x xs=>
  unfold jn at hc
  rcases zc.1 hc with h1|h1
  .exact .inl ((dO (h x zs)).2.2.2.2 c h1)
  obtain ⟨y,hy,h2⟩:=List.mem_flatMap.1 h1
  rcases za.1 h2 with h3|h3
  .exact .inr h3
  exact .inl ((dO (h y (zm _ hy))).2.2.2.2 c h3)
theorem G4{c:UInt8}(h:iS c=true∨c=46):c.toNat≠37/\c≠91:=by
 rcases h with h|rfl
 .rcases lE h with h1|h1|h1
  .exact ⟨om,fun e=>by rw[e]at h1;simp at h1⟩
  .exact ⟨om,fun e=>by rw[e]at h1;simp at h1⟩
  exact ⟨om,fun e=>by rw[e]at h1;simp at h1⟩
 exact ⟨de,de⟩
theorem GM{s:ByteArray}(h:cX s=some s.data.toList):aR s=jY s.data.toList/\0<s.size:=by
 obtain ⟨ls,hne,_,_,hl,hj,_,_,hp⟩:=uB h;have hch: ∀c∈s.data.toList,iS c=true∨c=46:=by
  rw[hj];exact GL fun a ha=>(hl a ha).1
 have hp':0<s.size:=by simpa using hp
 refine ⟨?_,hp'⟩;have h0:s[0]∈s.data.toList:=by
  rw[nA s hp'];exact zs
 rw[vZ hp' (fun e=>(G4 (hch _ h0)).2 (mP e))];unfold gW unB;rw[Lf fun c hc=>(G4 (hch c hc)).1,sU,h]
theorem G5: ∀v,v<256->okA (bR v)=true:=by decide+kernel
theorem Ch: ∀v,v<256->xW ⟨(bR v).toArray⟩=true:=by decide+kernel
theorem Me(n:Nat):jn 46 [⟨(bR (n/16777216)).toArray⟩,⟨(bR (n/65536%256)).toArray⟩,⟨(bR (n/256%256)).toArray⟩,⟨(bR (n%256)).toArray⟩]=iE n:=by
 simp[jn,iE]
theorem TY{n:Nat}(hn:n<4294967296):cX ⟨(iE n).toArray⟩=some (iE n):=by
 have hv: ∀a∈([⟨(bR (n/16777216)).toArray⟩,⟨(bR (n/65536%256)).toArray⟩,⟨(bR (n/256%256)).toArray⟩,⟨(bR (n%256)).toArray⟩]:List ByteArray),∃v,v<256/\a=⟨(bR v).toArray⟩:=by
  intro a ha;simp only[za,zd,or_false]at ha
  rcases ha with rfl|rfl|rfl|rfl
  .exact ⟨_,om,rfl⟩
  .exact ⟨_,om,rfl⟩
  .exact ⟨_,om,rfl⟩
  exact ⟨_,om,rfl⟩
 have hj:=Me n;generalize ([⟨(bR (n/16777216)).toArray⟩,⟨(bR (n/65536%256)).toArray⟩,⟨(bR (n/256%256)).toArray⟩,⟨(bR (n%256)).toArray⟩]:List ByteArray)=ls at hv hj;have hlab: ∀a∈ls,eS a.data.toList=true:=by
  intro a ha;obtain ⟨v,hv1,rfl⟩:=hv a ha;exact OL (G5 v hv1)
 have hasc: ∀a∈ls,oQ a=some a:=by
  intro a ha;obtain ⟨v,hv1,rfl⟩:=hv a ha;unfold oQ;rw[show (⟨(bR v).toArray⟩:ByteArray).data.toList=bR v from rfl,FS (G5 v hv1)]
 have hne:ls≠[]:=by
  intro h0;rw[h0]at hj
  have:=congrArg z8 hj
  simp[jn,iE]at this
 rw[<-hj];unfold cX;rw[LR hne hlab,FZ hlab];refine lF (AG hasc) ?_;rw[hj]
 have:=R6 (n:Int)
 unfold fR at this;have e:(iE n).length=(⟨(iE ((n:Int).toNat)).toArray⟩:ByteArray).size:=by
  show _=(iE ((n:Int).toNat)).toArray.size;rw[List.size_toArray];rfl
 omega
theorem Ci{n:Nat}(hn:n<4294967296):nD ⟨(iE n).toArray⟩=true:=by
 have h:=LN ⟨(iE n).toArray⟩ (bR (n/16777216)++46::(bR (n/65536%256)++46::(bR (n/256%256)++[46]))) (bR (n%256)) (by simp[iE])
  (.inr ⟨bR (n/16777216)++46::(bR (n/65536%256)++46::bR (n/256%256)),by simp⟩) (D9 om)
 unfold nD;have e:qI ⟨(iE n).toArray⟩=⟨(bR (n%256)).toArray⟩:=sV h;rw[e];exact Ch _ om
theorem R7{n:Nat}(hn:n<4294967296):jY (iE n)=.fo n:=by
 unfold jY;rw[if_pos (Ci hn),NQ hn rfl]
theorem Cj(t:Bool): ∀{fs:List (List UInt8)} {g:List Nat},grp t fs=some g-> ∀x∈g,x<65536
 |[],g,h,x,hx=>by cases h;simp at hx
 |y::r,g,h,x,hx=>by
  rw[grp]at h;split at h
  .rename_i n hn
   cases h
   have hn4:n<4294967296:=by
    split at hn
    .exact (oV hn).1
    cases hn
   simp only[za,zd,or_false]at hx;omega
  split at h
  .cases h
  rename_i v hv
  cases hr:grp t r with
  |none=>rw[hr]at h;cases h
  |some q=>
   rw[hr]at h
   cases h
   rcases za.1 hx with rfl|h2
   .unfold g16 at hv
    split at hv
    .cases hv
    exact GH hv
   exact Cj t hr x h2
theorem PG(t:Bool){l:List UInt8}{g:List Nat}(h:dJ t l=some g): ∀x∈g,x<65536:=by
 unfold dJ at h;split at h
 .cases h
  intro x hx;simp at hx
 exact Cj t h
theorem Il{l:List UInt8}{g:List Nat}(h:eK l=some g): ∀x∈g,x<65536:=by
 unfold eK at h;split at h
 .split at h
  .cases h
  rename_i q hq;split at h
  .cases h
   exact PG true hq
  cases h
 split at h
 .rename_i a b ha hb
  split at h
  .cases h
   intro x hx;unfold jE at hx
   rcases zc.1 hx with h1|h1
   .rcases zc.1 h1 with h2|h2
    .exact PG false ha x h2
    rw[(List.mem_replicate.1 h2).2]
    decide
   exact PG true hb x h1
  cases h
 cases h
theorem Im{g:List Nat}(h: ∀x∈g,x<65536):okG (g.map fun (x:Nat)=>(x:Int))=true:=by
 refine DX ?_;intro x hx;obtain ⟨y,hy,rfl⟩:=zy.1 hx
 have:=h y hy
 omega
theorem PH(s:ByteArray):(∃c,aR s=.bad c/\1<=c/\c<=4)∨(hOk (rV (aR s))=true/\rC (aR s)=0):=by
 have key: ∀l,(∃c,jY l=.bad c/\1<=c/\c<=4)∨cX ⟨l.toArray⟩=some l->(∃c,jY l=.bad c/\1<=c/\c<=4)∨(hOk (rV (jY l))=true/\rC (jY l)=0):=by
  intro l hl
  rcases hl with hl|hl
  .exact .inl hl
  unfold jY;split
  .cases h:loA ⟨l.toArray⟩with
   |none=>exact .inl ⟨4,rfl,de,de⟩
   |some v=>
    have:=XM h
    refine .inr ⟨?_,rfl⟩;show hOk ⟨2,⟨#[]⟩,v,gI⟩=true;unfold hOk;rw[if_neg (show ¬(2:Int)=1 by decide),if_pos rfl];simp only[zo,decide_eq_true_eq];exact ⟨⟨rfl,om,om⟩,trivial⟩
  rename_i he;refine .inr ⟨?_,rfl⟩;show hOk ⟨1,⟨l.toArray⟩,0,gI⟩=true;unfold hOk;rw[if_pos rfl];have he':nD ⟨l.toArray⟩=false:=by simpa using he
  simp[hl,he']
 unfold aR;split
 .exact .inl ⟨1,rfl,de,de⟩
 rename_i c r hl;split
 .unfold iI
  split
  .cases h:eK r.dropLast with
   |none=>exact .inl ⟨2,rfl,de,de⟩
   |some g=>
    refine .inr ⟨?_,rfl⟩;show hOk ⟨3,⟨#[]⟩,0,g.map fun (x:Nat)=>(x:Int)⟩=true;unfold hOk;rw[if_neg (show ¬(3:Int)=1 by decide),if_neg (show ¬(3:Int)=2 by decide),if_pos rfl];simp only[Im (Il h)];rfl
  exact .inl ⟨2,rfl,de,de⟩
 unfold gW;split
 .exact .inl ⟨3,rfl,de,de⟩
 rename_i n hn;obtain ⟨_,_,_,_,_,_,hb,_,_⟩:=uB hn;exact key n (.inr hb)
theorem YF{s:ByteArray}{c:UInt8}{r:List UInt8}(h:s.data.toList=c::r):aR s=if c=91 then iI r else gW s:=by
 unfold aR;rw[h]
theorem R8{k n:Int}{s:ByteArray}{x0 x1 x2 x3 x4 x5 x6 x7:Int}(h:hOk ⟨k,s,n,[x0,x1,x2,x3,x4,x5,x6,x7]⟩=true):0<(hTx ⟨k,s,n,[x0,x1,x2,x3,x4,x5,x6,x7]⟩).size/\rV (aR (hTx ⟨k,s,n,[x0,x1,x2,x3,x4,x5,x6,x7]⟩))=⟨k,s,n,[x0,x1,x2,x3,x4,x5,x6,x7]⟩/\rC (aR (hTx ⟨k,s,n,[x0,x1,x2,x3,x4,x5,x6,x7]⟩))=0:=by
 unfold hTx;rw[if_pos h];unfold hOk at h;simp only at h⊢
 by_cases h1:k=1
 .subst h1
  rw[if_pos rfl]at h⊢;simp only[zo,decide_eq_true_eq,Bool.not_eq_true']at h;obtain ⟨⟨⟨h1,h2⟩,h3⟩,h4⟩:=h;obtain ⟨h5,h6⟩:=GM h1;have h7:jY s.data.toList=.nm s.data.toList:=by
   unfold jY;rw[sU,if_neg (by rw[h2];decide)]
  rw[h5,h7];refine ⟨h6,?_,rfl⟩;show HV.mk 1 ⟨s.data.toList.toArray⟩ 0 gI=_;rw[sU,h3,h4]
 rw[if_neg h1]at h⊢
 by_cases h2:k=2
 .subst h2
  rw[if_pos rfl]at h⊢;simp only[zo,decide_eq_true_eq]at h;obtain ⟨⟨h3,h4,h5⟩,h6⟩:=h;have hn:n.toNat<4294967296:=om;have hs:s=⟨#[]⟩:=sV (zj (by simpa using h3));have hr:aR (fR n)=.fo n.toNat/\0<(fR n).size:=by
   have hnm:cX (fR n)=some (fR n).data.toList:=TY hn;obtain ⟨a,b⟩:=GM hnm;refine ⟨?_,b⟩;rw[a];exact R7 hn
  rw[hr.1];refine ⟨hr.2,?_,rfl⟩;show HV.mk 2 ⟨#[]⟩ ((n.toNat:Nat):Int) gI=_;rw[Int.toNat_of_nonneg h4,hs,h6]
 rw[if_neg h2]at h⊢
 by_cases h3:k=3
 .subst h3
  rw[if_pos rfl]at h;simp only[zo,decide_eq_true_eq]at h;obtain ⟨⟨h4,h5⟩,h6⟩:=h;have h8:=OQ h6;have hsix:LU [x0,x1,x2,x3,x4,x5,x6,x7]:=⟨rfl,h8⟩;have hs:s=⟨#[]⟩:=sV (zj (by simpa using h4));have hr:aR ⟨(91::(fS [x0,x1,x2,x3,x4,x5,x6,x7]++[93])).toArray⟩=.si ([x0,x1,x2,x3,x4,x5,x6,x7].map ya):=by
   rw[YF (c:=91) (r:=fS [x0,x1,x2,x3,x4,x5,x6,x7]++[93]) rfl,if_pos rfl];unfold iI;rw[List.getLast?_concat,if_pos rfl,z0,Cg hsix];rfl
  rw[hr];refine ⟨?_,?_,rfl⟩
  .show 0<(91::(fS [x0,x1,x2,x3,x4,x5,x6,x7]++[93])).toArray.size
   simp
  show HV.mk 3 ⟨#[]⟩ 0 (([x0,x1,x2,x3,x4,x5,x6,x7].map ya).map fun (y:Nat)=>(y:Int))=_;have e:([x0,x1,x2,x3,x4,x5,x6,x7].map ya).map (fun (y:Nat)=>(y:Int))=[x0,x1,x2,x3,x4,x5,x6,x7]:=by
   rw[List.map_map]
   conv=>rhs;rw[<-List.map_id [x0,x1,x2,x3,x4,x5,x6,x7]]
   refine z3 ?_;intro y hy
   have:=(h8 y hy).1
   simp only[Function.comp,id];omega
  rw[e,hs,h5]
 rw[if_neg h3]at h
 cases h
end
section
open Go.RowKit
def isd(l:List UInt8):Nat:=if unL l=[46]then 1 else if unL l=[46,46]then 2 else 0
theorem YG(l:List UInt8):isd l<=2:=by unfold isd;split;omega;split<;>omega
theorem ED:isd []=0:=de
theorem Ck{l:List UInt8}{n:Nat}(h:unL l=ze n 46):isd l=if 1<=n/\n<=2 then n else 0:=by
 unfold isd;rw[h]
 match n with
 |0=>decide
 |1=>decide
 |2=>decide
 |n+3=>
  have h1: ¬(ze (n+3) (46:UInt8)=[46]):=fun e=>by have:=congrArg z8 e;simp at this
  have h2: ¬(ze (n+3) (46:UInt8)=[46,46]):=fun e=>by have:=congrArg z8 e;simp at this
  rw[if_neg h1,if_neg h2,if_neg om]
theorem LV{l:List UInt8}{n:Nat}{c:UInt8}{r:List UInt8}(h:unL l=ze n 46++c::r)(hc:c≠46):isd l=0:=by
 have hm:c∈unL l:=by rw[h];simp
 unfold isd;rw[if_neg,if_neg]
 .intro e;rw[e]at hm;simp at hm;exact hc hm
 intro e;rw[e]at hm;simp at hm;exact hc hm
def fM(out:List ByteArray)(x:ByteArray):List ByteArray:=if isd (toL x)=0 then out++[x]else if isd (toL x)=2 then out.dropLast else out
def eV(l:List ByteArray):List ByteArray:=l.foldl fM []
def sE(l:List ByteArray):ByteArray:=l.getD (l.length-1) zh
def dN(l:List ByteArray):List ByteArray:=if isd (toL (sE l))=0 then eV l else eV l++[zh]
def slL(l:List ByteArray):List UInt8:=l.flatMap fun x=>47::toL x
def bN(p:ByteArray):List ByteArray:=(aB p 47).drop 1
def bZ(p:ByteArray):Bool:=p.data.toList.head? ==some 47
def cD(p:ByteArray):ByteArray:=if bZ p then ⟨(slL (dN (bN p))).toArray⟩else p
theorem sY{a b:List ByteArray}(h:a.map toL=b.map toL):a=b:=by
 induction a generalizing b with
 |nil=>cases b with
  |nil=>rfl
  |cons _ _=>simp at h
 |cons x a ih=>cases b with
  |nil=>simp at h
  |cons y b=>
   simp only[zr,List.cons.injEq]at h;rw[bL h.1,ih h.2]
theorem rT(s:ByteArray):(aB s 47).map toL=spl 47 s.data.toList:=sL s 47
theorem PI(b:UInt8)(l:List UInt8):spl b (b::l)=[]::spl b l:=by
 simp[spl]
theorem Mf(b:UInt8): ∀l,∀x∈spl b l,∀c∈x,c≠b:=by
 intro l
 have: ∀r:List UInt8,∀x∈spl b r.reverse,∀c∈x,c≠b:=by
  intro r
  induction r with
  |nil=>intro x hx c hc;simp[spl]at hx;subst hx;cases hc
  |cons a r ih=>
   obtain ⟨xs,y,h,hn⟩:=sJ b r.reverse;rw[h]at ih;rw[zp,hn a];intro x hx c hc;split at hx
   .simp only[zc,za,zd,or_false]at hx
    rcases hx with h1|h1|h1
    .exact ih x (by simp[h1]) c hc
    .exact ih x (by simp[h1]) c hc
    subst h1;cases hc
   next hne=>
   simp only[zc,zi]at hx
   rcases hx with h1|h1
   .exact ih x (by simp[h1]) c hc
   subst h1
   rcases zc.1 hc with h2|h2
   .exact ih y j2 c h2
   rw[zi.1 h2];exact hne
 have h:=this l.reverse
 rwa[zn]at h
theorem jZ{p:ByteArray}(h:bZ p=true): ∃r,p.data.toList=47::r:=by
 unfold bZ at h
 cases hp:p.data.toList with
 |nil=>rw[hp]at h;simp at h
 |cons a r=>rw[hp]at h;simp at h;exact ⟨r,by rw[h]⟩
theorem uY{p:ByteArray}(h:bZ p=true):aB p 47=zh::aB (p.extract 1 p.size) 47:=by
 obtain ⟨r,hr⟩:=jZ h;apply sY;have hx:(p.extract 1 p.size).data.toList=r:=by rw[bE,dD p p.size (zg _),hr];rfl
 rw[zr,rT,rT,hx,hr,PI];rfl
theorem rU{p:ByteArray}(h:bZ p=true):bN p=aB (p.extract 1 p.size) 47:=by
 unfold bN;rw[uY h];rfl
theorem yE{p:ByteArray}(h:bZ p=true):aB p 47=zh::bN p:=by
 rw[rU h,uY h]
theorem yF{p:ByteArray}(h:bZ p=true):slL (bN p)=p.data.toList:=by
 have h1:=xC p 47 de de;rw[yE h]at h1;exact h1
theorem AK{p:ByteArray}(h:bZ p=true):0<(bN p).length:=by
 rw[rU h];simp[aB]
def rW(f:ByteArray->Nat)(l:List ByteArray):Nat:=(l.map f).sum
theorem qL(f:ByteArray->Nat)(l:List ByteArray)(x:ByteArray):rW f (l++[x])=rW f l+f x:=by simp[rW]
theorem LW(f:ByteArray->Nat)(l:List ByteArray):rW f l.dropLast<=rW f l:=by
 rcases zk l with h|⟨m,x,h⟩
 .rw[h];exact zg _
 rw[h,zl,z0,qL];omega
theorem R9(f:ByteArray->Nat)(out:List ByteArray)(x:ByteArray):rW f (fM out x)<=rW f out+f x:=by
 unfold fM;split
 .rw[qL];exact zg _
 split
 .have:=LW f out;omega
 omega
theorem Cl(f:ByteArray->Nat)(out:List ByteArray)(x:ByteArray)(h:isd (toL x)≠0):rW f (fM out x)<=rW f out:=by
 unfold fM;rw[if_neg h];split
 .exact LW f out
 exact zg _
theorem lG(l:List ByteArray)(x:ByteArray):eV (l++[x])=fM (eV l) x:=by simp[eV]
theorem LX(f:ByteArray->Nat): ∀r:List ByteArray,rW f (eV r.reverse)<=rW f r.reverse
 |[]=>zg _
 |x::r=>by
  rw[zp,lG,qL];have h1:=R9 f (eV r.reverse) x;have h2:=LX f r;omega
theorem GN(f:ByteArray->Nat)(l:List ByteArray):rW f (eV l)<=rW f l:=by
 have h:=LX f l.reverse
 rwa[zn]at h
theorem wC(l:List ByteArray)(x:ByteArray):sE (l++[x])=x:=by
 unfold sE;simp[List.getD_eq_getElem?_getD]
theorem TZ(f:ByteArray->Nat)(hf: ∀x,f zh<=f x)(l:List ByteArray):rW f (dN l)<=rW f l:=by
 unfold dN;split
 .exact GN f l
 next h=>
 rcases zk l with e|⟨m,x,e⟩
 .rw[e]at h
  exact absurd ED h
 rw[zl]at e;rw[e,wC]at h;rw[e,lG,qL,qL];have h1:=Cl f (eV m) x h;have h2:=GN f m;have h3:=hf x;omega
theorem EE(l:List ByteArray):rW (fun _=>1) l=l.length:=by
 induction l with
 |nil=>rfl
 |cons x l ih=>simp only[rW,zr,List.sum_cons,z5]at ih⊢;omega
theorem UB(l:List ByteArray):rW (fun x=>x.size+1) l=(slL l).length:=by
 induction l with
 |nil=>rfl
 |cons x l ih=>
  simp only[rW,zr,List.sum_cons,slL,zw,zt,z5]at ih⊢;rw[ih];simp[toL]
theorem sZ(l:List ByteArray):(dN l).length<=l.length:=by
 have h:=TZ (fun _=>1) (fun _=>zg _) l
 rwa[EE,EE]at h
theorem AL(l:List ByteArray):(slL (dN l)).length<=(slL l).length:=by
 have h:=TZ (fun x=>x.size+1) (fun x=>Nat.add_le_add_right (Nat.zero_le _) 1) l
 rwa[UB,UB]at h
theorem BR(l:List ByteArray):(eV l).length<=l.length:=by
 have h:=GN (fun _=>1) l
 rwa[EE,EE]at h
theorem Cm{out:List ByteArray}{x y:ByteArray}(h:y∈fM out x):y∈out∨(y=x/\isd (toL x)=0):=by
 unfold fM at h;split at h
 .next e=>
  rcases zc.1 h with h1|h1
  .exact .inl h1
  exact .inr ⟨zi.1 h1,e⟩
 split at h
 .exact .inl (List.dropLast_subset _ h)
 exact .inl h
theorem UC: ∀(r:List ByteArray) (y:ByteArray),y∈eV r.reverse->y∈r/\isd (toL y)=0
 |[],y,h=>by simp[eV]at h
 |x::r,y,h=>by
  rw[zp,lG]at h
  rcases Cm h with h1|⟨h1,h2⟩
  .have h3:=UC r y h1
   exact ⟨zm _ h3.1,h3.2⟩
  subst h1;exact ⟨by simp,h2⟩
theorem GO{l:List ByteArray}{y:ByteArray}(h:y∈dN l):(y∈l∨y=zh)/\isd (toL y)=0:=by
 have hf: ∀y,y∈eV l->y∈l/\isd (toL y)=0:=fun y hy=>by
  have:=UC l.reverse y (by rwa[zn])
  exact ⟨z6.1 this.1,this.2⟩
 unfold dN at h;split at h
 .exact ⟨.inl (hf y h).1,(hf y h).2⟩
 rcases zc.1 h with h1|h1
 .exact ⟨.inl (hf y h1).1,(hf y h1).2⟩
 rw[zi.1 h1];exact ⟨.inr rfl,ED⟩
theorem PK{l:List ByteArray}(h:0<l.length):dN l≠[]:=by
 unfold dN;split
 .next e=>
  rcases zk l with e1|⟨m,x,e1⟩
  .rw[e1]at h;simp at h
  rw[zl]at e1;rw[e1,wC]at e;rw[e1,lG];unfold fM;rw[if_pos e];simp
 simp
theorem G6: ∀r:List ByteArray,(∀x∈r,isd (toL x)=0)->eV r.reverse=r.reverse
 |[],_=>rfl
 |x::r,h=>by
  rw[zp,lG,G6 r fun y hy=>h y (zm _ hy)];unfold fM;rw[if_pos (h x j2)]
theorem In{l:List ByteArray}(h: ∀x∈l,isd (toL x)=0):dN l=l:=by
 have h1:=G6 l.reverse fun x hx=>h x (z6.1 hx)
 rw[zn]at h1;unfold dN;rw[if_pos]
 .exact h1
 rcases zk l with e|⟨m,x,e⟩
 .rw[e];exact ED
 rw[zl]at e;rw[e,wC];exact h x (by rw[e];simp)
theorem UD(p:ByteArray): ∀x∈bN p,∀c∈toL x,c≠47:=by
 intro x hx c hc;have h1:toL x∈spl 47 p.data.toList:=by
  rw[<-rT];exact List.mem_map_of_mem (List.mem_of_mem_drop hx)
 exact Mf 47 _ _ h1 c hc
theorem Lg(l:List ByteArray):slL l=jl 47 ([]::l.map toL):=by
 have h1: ∀l:List ByteArray,jl 47 ([]::l.map toL)=slL l:=by
  intro l;have h2: ∀(z:List UInt8) (l:List ByteArray),jl 47 (z::l.map toL)=z++slL l:=by
   intro z l
   induction l generalizing z with
   |nil=>simp[jl,slL]
   |cons x l ih=>rw[zr,jl,ih];simp[slL]
  exact h2 [] l
 exact (h1 l).symm
theorem yG{p:ByteArray}(h:bZ p=true):bZ (cD p)=true:=by
 unfold cD;rw[if_pos h]
 cases hk:dN (bN p)with
 |nil=>exact absurd hk (PK (AK h))
 |cons x l=>simp[bZ,slL]
theorem oF{p:ByteArray}(h:bZ p=true):(cD p).data.toList=slL (dN (bN p)):=by
 unfold cD;rw[if_pos h]
theorem PL{p:ByteArray}(h:bZ p=true):aB (cD p) 47=zh::dN (bN p):=by
 apply sY;rw[rT,oF h,Lg _,zV 47 j2]
 .rfl
 intro x hx c hc
 rcases za.1 hx with h1|h1
 .subst h1;cases hc
 obtain ⟨y,hy,e⟩:=zy.1 h1;subst e
 rcases (GO hy).1 with h2|h2
 .exact UD p y h2 c hc
 subst h2;cases hc
theorem UE{p:ByteArray}(h:bZ p=true):bN (cD p)=dN (bN p):=by
 unfold bN;rw[PL h];rfl
theorem UF{p:ByteArray}(h:bZ p=true):cD (cD p)=cD p:=by
 apply bL;show (cD (cD p)).data.toList=(cD p).data.toList;rw[oF (yG h),UE h,oF h,In fun x hx=>(GO hx).2]
theorem rX(p:ByteArray):(cD p).size<=p.size:=by
 by_cases h:bZ p=true
 .have h1:=AL (bN p)
  rw[<-oF h,yF h]at h1;simpa using h1
 unfold cD;rw[if_neg h];exact zg _
def upN(p:ByteArray):Nat->Nat
 |0=>0
 |k+1=>if p.data.toList.getD k 0=47 then k+1 else upN p k
theorem Cn(p:ByteArray): ∀k,upN p k<=k
 |0=>zg _
 |k+1=>by
  have:=Cn p k
  unfold upN;split<;>omega
theorem G7{p:ByteArray}(h:bZ p=true): ∀k,0<k->0<upN p k
 |0,hk=>by omega
 |k+1,_=>by
  unfold upN;split
  .omega
  next hn=>
  by_cases h0:k=0
  .obtain ⟨r,hr⟩:=jZ h
   rw[h0,hr]at hn;exact absurd rfl hn
  exact G7 h k om
def upT(p:ByteArray):ByteArray:=p.extract 0 (upN p p.size)
theorem Io{s:ByteArray}{k n:Nat}(hk:k<s.size)(h:s[k].toNat=46)(he:unL s.data.toList=ze n 46++unL (s.data.toList.drop k)):
  unL s.data.toList=ze (n+1) 46++unL (s.data.toList.drop (k+1)):=by
 have hp:cI s k<0:=by
  by_cases h2:k+2<s.size
  .rw[nR s k h2];unfold iY;rw[if_neg om];omega
  rw[pX s k om];omega
 have hc:s[k]=46:=z9.1 h;rw[he];unfold unL;rw[sI _ _ s k hk hp,hc,z1];simp
theorem G8{s:ByteArray}{k n:Nat}(hk:k+2<s.size)(h:s[k].toNat=37)(h1:s[k+1].toNat=50)(h2:s[k+2].toNat=101∨s[k+2].toNat=69)(he:unL s.data.toList=ze n 46++unL (s.data.toList.drop k)):
  unL s.data.toList=ze (n+1) 46++unL (s.data.toList.drop (k+3)):=by
 have hp:cI s k=46:=by
  rw[nR s k hk,h,h1]
  rcases h2 with h2|h2<;>rw[h2]<;>decide
 rw[he];unfold unL;rw[wX _ _ s k om,hp,z1];simp
theorem Mg: ∀x,x<256-> ∀y,y<256->bP x*16+bP y=46->0<=bP x->0<=bP y->x=50/\(y=101∨y=69):=by
 intro x _ y _ h hx hy;have h1:=iN x;have h2:=iN y;have hx2:bP x=2:=om;have hy2:bP y=14:=om;unfold bP at hx2 hy2;refine ⟨?_,?_⟩
 .split at hx2
  .omega
  split at hx2
  .omega
  split at hx2<;>omega
 split at hy2
 .omega
 split at hy2
 .omega
 split at hy2<;>omega
theorem EF{s:ByteArray}{k n:Nat}(hk:k<s.size)(h:s[k].toNat≠46)(h2: ∀_:k+2<s.size,¬(s[k].toNat=37/\s[k+1].toNat=50/\(s[k+2].toNat=101∨s[k+2].toNat=69)))
  (he:unL s.data.toList=ze n 46++unL (s.data.toList.drop k)):isd s.data.toList=0:=by
 by_cases hp:0<=cI s k
 .have hk2:=nS hp
  have hin:=nR s k hk2;have hne:cI s k≠46:=by
   intro e;rw[hin]at e;unfold iY at e;split at e
   .next hc=>
    have:=Mg _ s[k+1].toNat_lt _ s[k+2].toNat_lt e hc.2.1 hc.2.2
    exact h2 hk2 ⟨hc.1,this.1,this.2⟩
   omega
  have hle:=pY s k;refine LV (n:=n) (c:=UInt8.ofNat (cI s k).toNat) (r:=unL (s.data.toList.drop (k+3))) ?_ ?_
  .rw[he]
   conv=>lhs;rw[show unL (s.data.toList.drop k)=_ from wX _ _ s k hp]
   rfl
  intro e;have e2:=congrArg UInt8.toNat e;have e3:(UInt8.ofNat (cI s k).toNat).toNat=(cI s k).toNat%256:=by simp
  rw[e3]at e2;have e4:(cI s k).toNat%256=46:=e2;omega
 refine LV (n:=n) (c:=s[k]) (r:=unL (s.data.toList.drop (k+1))) ?_ fun e=>h (by rw[e];rfl)
 rw[he]
 conv=>lhs;rw[show unL (s.data.toList.drop k)=_ from sI _ _ s k hk om]
 rfl
theorem Ip{s:ByteArray}{k n:Nat}(hk:s.size<=k)(he:unL s.data.toList=ze n 46++unL (s.data.toList.drop k)):isd s.data.toList=if 1<=n/\n<=2 then n else 0:=by
 apply Ck;rw[he,List.drop_of_length_le (by simpa using hk)];simp[unL,gM]
theorem uD{out:List ByteArray}{x:ByteArray}(h:isd (toL x)=0):fM out x=out++[x]:=by unfold fM;rw[if_pos h]
theorem UG{out:List ByteArray}{x:ByteArray}(h:isd (toL x)=1):fM out x=out:=by unfold fM;rw[if_neg om,if_neg om]
theorem UH{out:List ByteArray}{x:ByteArray}(h:isd (toL x)=2):fM out x=out.take (out.length-1):=by unfold fM;rw[if_neg om,if_pos h,List.dropLast_eq_take]
theorem AM(l:List ByteArray)(k:Nat)(h:k<l.length):eV (l.take (k+1))=fM (eV (l.take k)) (l.getD k zh):=by
 rw[vS l k h,lG]
theorem Iq(l:List ByteArray)(x:ByteArray):slL (l++[x])=slL l++47::toL x:=by simp[slL]
theorem Ir(l:List ByteArray)(k:Nat):(slL (l.take k)).length<=(slL l).length:=by
 conv=>rhs;rw[<-List.take_append_drop k l]
 unfold slL;rw[List.flatMap_append,zt];omega
theorem sl_jn(l:List ByteArray)(h:l≠[]):slL l=47::jn 47 l:=by
 cases l with
 |nil=>exact absurd rfl h
 |cons x l=>simp[slL,jn,toL]
theorem Lh:bP 47= -1:=de
theorem Co(a:UInt8)(r y:List UInt8)(h:oU (a::r)<0):oU (a::(r++47::y))<0:=by
 match r,h with
 |[],_=>
  match y with
  |[]=>show (-1:Int)<0;decide
  |c::_=>
   show iY a.toNat 47 c.toNat<0;unfold iY;rw[if_neg (fun h=>by have:=h.2.1;rw[Lh]at this;omega)]
   decide
 |[b],_=>
  show iY a.toNat b.toNat 47<0;unfold iY;rw[if_neg (fun h=>by have:=h.2.2;rw[Lh]at this;omega)]
  decide
 |b::c::r,h=>exact h
theorem S0{α:Type}(f g:UInt8->List α)(y x:List UInt8):gM f g (x++47::y)=gM f g x++(g 47++gM f g y):=by
 induction x using mX with
 |h0=>exact kE f g 47 y (RO 47 y de)
 |h1 a b c r h ih=>
  show gM f g (a::b::c::(r++47::y))=_;rw[rD f g a b c _ h,rD f g a b c _ h,ih,zq]
 |h2 a r h ih=>
  show gM f g (a::(r++47::y))=_;rw[kE f g a _ (Co a r y h),kE f g a r h,ih,zq]
theorem G9{α:Type}(f g:UInt8->List α): ∀(K:List ByteArray) (z:List UInt8),gM f g (z++slL K)=gM f g z++K.flatMap fun x=>g 47++gM f g (toL x)
 |[],z=>by simp[slL]
 |x::K,z=>by
  have e:z++slL (x::K)=z++47::(toL x++slL K):=by simp[slL]
  rw[e,S0,G9 f g K (toL x)];simp
theorem Cp{α:Type}(f g:UInt8->List α)(K:List ByteArray):gM f g (slL K)=K.flatMap fun x=>g 47++gM f g (toL x):=G9 f g K []
theorem Cq:gA 1 47=[47]:=de
theorem Li(K:List ByteArray):okL 1 (slL K)=K.all fun x=>okL 1 (toL x):=by
 unfold okL okT;rw[Cp]
 induction K with
 |nil=>rfl
 |cons x K ih=>rw[zw,zz,ih,List.all_cons,zz];rfl
def plB(set:Int)(x:ByteArray):ByteArray:=⟨(plL set (toL x)).toArray⟩
theorem pB(set:Int)(x:ByteArray):toL (plB set x)=plL set (toL x):=rfl
theorem Lj(K:List ByteArray):plL 1 (slL K)=slL (K.map (plB 1)):=by
 unfold plL;rw[Cp]
 induction K with
 |nil=>rfl
 |cons x K ih=>
  rw[zw,ih];have e:gA 1 (47:UInt8)=[47]:=Cq;rw[e];simp[slL,pB,plL]
theorem UI: ∀n,n<16->pM n≠47:=by decide+kernel
theorem UJ(c:UInt8): ∀b∈pW c,b≠47:=by
 intro b hb;have hc:=c.toNat_lt;unfold pW at hb;simp only[za,zd,or_false]at hb
 rcases hb with rfl|rfl|rfl
 .decide
 .exact UI _ om
 exact UI _ om
theorem S1(c:UInt8): ∀b∈jC c,b≠47:=by
 intro b hb;unfold jC at hb;split at hb
 .next h=>
  rw[zi.1 hb];intro e;rw[e]at h;exact absurd h de
 exact UJ c b hb
theorem S3(set:Int)(c:UInt8)(h:c≠47): ∀b∈gA set c,b≠47:=by
 intro b hb;unfold gA at hb;split at hb
 .rw[zi.1 hb];exact h
 exact UJ c b hb
theorem Is(set:Int)(l:List UInt8):(∀c∈l,c≠47)-> ∀b∈plL set l,b≠47:=by
 induction l using mX with
 |h0=>intro _ b hb;simp[plL,gM]at hb
 |h1 a b c r h ih=>
  intro hl x hx;rw[NO set a b c r h]at hx
  rcases zc.1 hx with h1|h1
  .exact S1 _ x h1
  exact ih (fun y hy=>hl y (by simp[hy])) x h1
 |h2 a r h ih=>
  intro hl x hx;rw[wW set a r h]at hx
  rcases zc.1 hx with h1|h1
  .exact S3 set a (hl a j2) x h1
  exact ih (fun y hy=>hl y (by simp[hy])) x h1
theorem Mh{K M:List ByteArray}(hK: ∀x∈K,∀c∈toL x,c≠47)(hM: ∀x∈M,∀c∈toL x,c≠47)(h:slL K=slL M):K=M:=by
 have key: ∀{L:List ByteArray},(∀x∈L,∀c∈toL x,c≠47)->spl 47 (slL L)=[]::L.map toL:=fun {L} hL=>by
  rw[Lg,zV 47 j2];intro x hx c hc
  rcases za.1 hx with h1|h1
  .subst h1;cases hc
  obtain ⟨y,hy,rfl⟩:=zy.1 h1;exact hL y hy c hc
 have h1:=key hK;rw[h,key hM]at h1;simp only[List.cons.injEq,true_and]at h1;exact (sY h1).symm
def PN(p:ByteArray):Prop:=bZ p=true/\okL 1 (toL p)=true/\plL 1 (toL p)=toL p/\cD p=p
theorem UK{p:ByteArray}(hr:bZ p=true)(ho:okL 1 (toL p)=true)(hp:plL 1 (toL p)=toL p): ∀x∈bN p,okL 1 (toL x)=true/\plL 1 (toL x)=toL x:=by
 have hs:=yF hr;have hno:=UD p;have h1:slL ((bN p).map (plB 1))=slL (bN p):=by
  rw[<-Lj,hs];exact hp
 have h2:(bN p).map (plB 1)=bN p:=by
  refine Mh ?_ hno h1;intro x hx c hc;obtain ⟨y,hy,rfl⟩:=zy.1 hx;exact Is 1 (toL y) (hno y hy) c hc
 have h3:((bN p).all fun x=>okL 1 (toL x))=true:=by
  rw[<-Li,hs];exact ho
 intro x hx;refine ⟨z7.1 h3 x hx,?_⟩;obtain ⟨i,hi,rfl⟩:=List.getElem_of_mem hx;have h4:=congrArg (fun l=>l[i]?) h2;simp only[List.getElem?_map,zx hi,Option.map_some,Option.some.injEq]at h4;rw[<-pB,h4]
theorem YH{p:ByteArray}(hr:bZ p=true)(ho:okL 1 (toL p)=true)(hp:plL 1 (toL p)=toL p):PN (cD p):=by
 have hk: ∀x∈dN (bN p),okL 1 (toL x)=true/\plL 1 (toL x)=toL x:=fun x hx=>by
  rcases (GO hx).1 with h|h
  .exact UK hr ho hp x h
  rw[h];exact ⟨rfl,rfl⟩
 have hd:toL (cD p)=slL (dN (bN p)):=oF hr;refine ⟨yG hr,?_,?_,UF hr⟩
 .rw[hd,Li]
  exact z7.2 fun x hx=>(hk x hx).1
 rw[hd,Lj]
 congr 1
 conv=>rhs;rw[<-List.map_id (dN (bN p))]
 refine z3 fun x hx=> ?_
 apply bL;exact (hk x hx).2
theorem LY{p:ByteArray}{r:List UInt8}(h:toL p=47::r):bZ p=true:=by
 unfold bZ;rw[show p.data.toList=_ from h];rfl
theorem S4{q:ByteArray}(h:bZ q=true):PN (cD (plB 1 q)):=by
 obtain ⟨r,hr⟩:=jZ h;have hq:toL (plB 1 q)=47::plL 1 r:=by
  rw[pB,show toL q=_ from hr,wW 1 47 r (RO 47 r de),Cq];rfl
 refine YH (LY hq) ?_ ?_
 .rw[pB];exact RS 1 de _
 rw[pB];exact Z4 1 de _
theorem UL(set:Int)(l:List UInt8):okL set l=true-> ∀b∈l,dX set b.toNat=true∨b=37∨0<=bP b.toNat:=by
 induction l using mX with
 |h0=>intro _ b hb;cases hb
 |h1 a b c r h ih=>
  intro ho x hx;have ho2:okL set r=true:=by
   unfold okL okT at ho⊢;rw[rD _ _ a b c r h]at ho;exact ho
  have hp:a.toNat=37/\0<=bP b.toNat/\0<=bP c.toNat:=by
   unfold iY at h;split at h
   .next hc=>exact hc
   omega
  simp only[za]at hx
  rcases hx with rfl|rfl|rfl|hx
  .exact .inr (.inl (z9.1 hp.1))
  .exact .inr (.inr hp.2.1)
  .exact .inr (.inr hp.2.2)
  exact ih ho2 x hx
 |h2 a r h ih=>
  intro ho x hx;unfold okL okT at ho;rw[kE _ _ a r h,zz,zo]at ho
  rcases za.1 hx with rfl|hx
  .refine .inl ?_
   have h1:=ho.1;simpa using h1
  exact ih ho.2 x hx
def bS(s:Int):Int:=if s=1 then 80 else if s=2 then 443 else 0
theorem jM(s:Int)(w:World):Calls prog 37 #[I J s] w fun e w'=>e=Z (I J (bS s))/\w=w':=by
 by_cases h1:s=1
 .subst h1
  go_enter func37,ntmps37;go_wp2;go_ret;exact ⟨rfl,rfl⟩
 have q1:(s==1)=false:=beq_eq_false_iff_ne.2 h1
 by_cases h2:s=2
 .subst h2
  go_enter func37,ntmps37;go_wp2;go_ret;exact ⟨rfl,rfl⟩
 have q2:(s==2)=false:=beq_eq_false_iff_ne.2 h2;have HD:Hid (bS s=0):=by show _=_;unfold bS;rw[if_neg h1,if_neg h2]
 clear h1 h2;go_enter func37,ntmps37;go_wp2;go_ret;exact ⟨aV (by rw[HD.out]),rfl⟩
theorem sF(s:Int)(w:World):Calls prog 17 #[I J s] w fun e w'=>e=Z (I J (bS s))/\w=w':=by
 by_cases h1:s=1
 .subst h1
  go_enter func17,ntmps17;go_wp2;go_ret;exact ⟨rfl,rfl⟩
 have q1:(s==1)=false:=beq_eq_false_iff_ne.2 h1
 by_cases h2:s=2
 .subst h2
  go_enter func17,ntmps17;go_wp2;go_ret;exact ⟨rfl,rfl⟩
 have q2:(s==2)=false:=beq_eq_false_iff_ne.2 h2;have HD:Hid (bS s=0):=by show _=_;unfold bS;rw[if_neg h1,if_neg h2]
 clear h1 h2;go_enter func17,ntmps17;go_wp2;go_ret;exact ⟨aV (by rw[HD.out]),rfl⟩
end
section
open Go.RowKit
set_option linter.unusedVariables false
def lN:List UInt8:=[32,9,10,13]
def oG:List UInt8:=[104,116,116,112,58]
def jS:List UInt8:=[104,116,116,112,115,58]
def gH(s:Int):List UInt8:=if s=1 then oG else jS
def iZ(n:Nat):List UInt8:=if n<10 then [dgU n]else if n<100 then [dgU (n/10),dgU (n%10)]else if n<1000 then [dgU (n/100),dgU (n/10%10),dgU (n%10)]
 else if n<10000 then [dgU (n/1000),dgU (n/100%10),dgU (n/10%10),dgU (n%10)]else [dgU (n/10000),dgU (n/1000%10),dgU (n/100%10),dgU (n/10%10),dgU (n%10)]
def gC(s p:Int):List UInt8:=if p=bS s then []else 58::iZ p.toNat
def cK(l:List UInt8):List UInt8:=((Lib.trimS l lN).takeWhile fun c=>c !=35).filter fun c=>c !=9&&c !=10&&c !=13
def slB(c:UInt8):Bool:=c==47||c==92
def dS(t:List UInt8):Option (Int×List UInt8):=
 if 6<t.length/\(aE t).take 5=oG/\slB (t.getD 5 0)=true/\slB (t.getD 6 0)=true then some (1,t.drop 5)
 else if 7<t.length/\(aE t).take 6=jS/\slB (t.getD 6 0)=true/\slB (t.getD 7 0)=true then some (2,t.drop 6)else none
def cL(c:UInt8):Bool:= !(slB c||c==63)
def gD(l:List UInt8):Nat->Nat
 |0=>0
 |k+1=>if l.getD k 0=93 then k else gD l k
def kV(l:List UInt8):Option Nat:=((l.drop (gD l l.length)).findIdx? fun c=>c==58).map fun k=>k+gD l l.length
def eO(l:List UInt8):List UInt8:=l.map fun c=>if c=92 then 47 else c
def AN(l:List UInt8):List UInt8:=if l=[]then [47]else l
def eP(s:Int)(p:List UInt8):Int:=if p=[]then bS s else match cU 10 5 p with
 |none=> -1
 |some n=>(n:Int)
theorem qM{n:Nat}(h0:10<=n)(h:n<100000):iZ n=iZ (n/10)++[dgU (n%10)]:=by
 unfold iZ
 by_cases h1:n<100
 .rw[if_neg om,if_pos h1,if_pos om];rfl
 rw[if_neg om,if_neg h1,if_neg (by omega: ¬n/10<10)]
 by_cases h2:n<1000
 .rw[if_pos h2,if_pos om,zf];rfl
 rw[if_neg h2,if_neg (by omega: ¬n/10<100)]
 by_cases h3:n<10000
 .rw[if_pos h3,if_pos om,zf,zf];rfl
 rw[if_neg h3,if_neg (by omega: ¬n/10<1000),if_pos om,zf,zf,zf];rfl
theorem It: ∀i,i<10->bP (dgU i).toNat=(i:Int):=by decide+kernel
theorem gR{i n:Nat}(h:i<10)(r:List UInt8):fB 10 n (dgU i::r)=fB 10 (n*10+i) r:=by
 rw[fB,It i h,if_pos om]
 congr 1
theorem Cr{n:Nat}(h:n<100000):cU 10 5 (iZ n)=some n:=by
 unfold iZ cU;split
 .rw[if_pos j2,gR om,fB];congr 1;omega
 split
 .rw[if_pos j2,gR om,gR om,fB];congr 1;omega
 split
 .rw[if_pos j2,gR om,gR om,gR om,fB];congr 1;omega
 split
 .rw[if_pos j2,gR om,gR om,gR om,gR om,fB];congr 1;omega
 rw[if_pos j2,gR om,gR om,gR om,gR om,gR om,fB];congr 1;omega
theorem yH: ∀i,i<10->iS (dgU i)=true:=by decide+kernel
theorem UM{n:Nat}(h:n<100000):(∀c∈iZ n,iS c=true)/\iZ n≠[]:=by
 unfold iZ;split
 .exact ⟨fun c hc=>by simp only[za,zd,or_false]at hc;rw[hc];exact yH _ om,by simp⟩
 split
 .exact ⟨fun c hc=>by simp only[za,zd,or_false]at hc;rcases hc with e|e<;>rw[e]<;>exact yH _ om,by simp⟩
 split
 .exact ⟨fun c hc=>by simp only[za,zd,or_false]at hc;rcases hc with e|e|e<;>rw[e]<;>exact yH _ om,by simp⟩
 split
 .exact ⟨fun c hc=>by simp only[za,zd,or_false]at hc;rcases hc with e|e|e|e<;>rw[e]<;>exact yH _ om,by simp⟩
 exact ⟨fun c hc=>by simp only[za,zd,or_false]at hc;rcases hc with e|e|e|e|e<;>rw[e]<;>exact yH _ om,by simp⟩
structure UV where
 s:Int
 h:HV
 p:Int
 a:ByteArray
 q:Bool
 r:ByteArray
def wD(u:UV):List UInt8:=gH u.s++47::47::(toL (hTx u.h)++gC u.s u.p)
def lH(u:UV):List UInt8:=if u.q then toL u.a++63::toL u.r else toL u.a
def uOk(u:UV):Bool:=decide (bS u.s≠0)&&hOk u.h&&decide (1<=u.p/\u.p<=65535)&&bZ u.a&&(u.q||decide (u.r.size=0))&&
 okL 1 (toL u.a)&&decide (plL 1 (toL u.a)=toL u.a)&&decide (toL (cD u.a)=toL u.a)&&okL 2 (toL u.r)&&decide (plL 2 (toL u.r)=toL u.r)
def uTx(u:UV):List UInt8:=if uOk u=true then wD u++lH u else []
def oH(s:Int)(h:HV)(p:Int)(l:List UInt8):UV:=
 ⟨s,h,p,cD (plB 1 ⟨(eO (AN (l.takeWhile fun c=>c !=63))).toArray⟩),!(l.dropWhile fun c=>c !=63).isEmpty,plB 2 ⟨((l.dropWhile fun c=>c !=63).drop 1).toArray⟩⟩
def cP:UV:=⟨0,⟨0,⟨#[]⟩,0,gI⟩,0,⟨#[]⟩,false,⟨#[]⟩⟩
def wE(u:UV):Int×UV:=if (wD u).length+(lH u).length<=2000 then (0,u)else (1,cP)
def pC(s p:Int)(auth rest:List UInt8):Int×UV:=if rC (aR ⟨auth.toArray⟩)=0 then wE (oH s (rV (aR ⟨auth.toArray⟩)) p rest)else (4,cP)
def yI(s:Int)(auth rest:List UInt8):Int×UV:=match kV auth with
 |none=>pC s (bS s) auth rest
 |some k=>if 1<=eP s (auth.drop (k+1))/\eP s (auth.drop (k+1))<=65535 then pC s (eP s (auth.drop (k+1))) (auth.take k) rest else (5,cP)
def tA(s:Int)(auth rest:List UInt8):Int×UV:=if auth.contains 64=true then (3,cP)else yI s auth rest
def oI(s:Int)(t:List UInt8):Int×UV:=tA s ((t.dropWhile slB).takeWhile cL) ((t.dropWhile slB).dropWhile cL)
def qN(t:List UInt8):Int×UV:=match dS t with
 |none=>(2,cP)
 |some (s,t)=>oI s t
def aU(l:List UInt8):Int×UV:=if 2000<l.length then (1,cP)else qN (cK l)
end
section
open Go.RowKit
def fJ(w W:World)(k:Int)(s:ByteArray)(n:Int)(x0 x1 x2 x3 x4 x5 x6 x7:Int):Prop:=
 W.cell? ⟨w.heap.size,0,none⟩=some (I J k)/\W.cell? ⟨w.heap.size,1,none⟩=some (Y s)/\W.cell? ⟨w.heap.size,2,none⟩=some (I J n)/\
 W.cell? ⟨w.heap.size,3,none⟩=some (I J x0)/\W.cell? ⟨w.heap.size,4,none⟩=some (I J x1)/\W.cell? ⟨w.heap.size,5,none⟩=some (I J x2)/\W.cell? ⟨w.heap.size,6,none⟩=some (I J x3)/\
 W.cell? ⟨w.heap.size,7,none⟩=some (I J x4)/\W.cell? ⟨w.heap.size,8,none⟩=some (I J x5)/\W.cell? ⟨w.heap.size,9,none⟩=some (I J x6)/\W.cell? ⟨w.heap.size,10,none⟩=some (I J x7)
theorem eB(w W:World)(k:Int)(s:ByteArray)(n:Int)(x0 x1 x2 x3 x4 x5 x6 x7:Int)(t:TypeId)(hb:Below (w.alloc (.cells #[I J k,Y s,I J n,I J x0,I J x1,I J x2,I J x3,I J x4,I J x5,I J x6,I J x7] t)).heap.size (w.alloc (.cells #[I J k,Y s,I J n,I J x0,I J x1,I J x2,I J x3,I J x4,I J x5,I J x6,I J x7] t)) W):
  fJ w W k s n x0 x1 x2 x3 x4 x5 x6 x7:=by
 have key: ∀j v,(#[I J k,Y s,I J n,I J x0,I J x1,I J x2,I J x3,I J x4,I J x5,I J x6,I J x7]:Array Value)[j]? =some v->W.cell? ⟨w.heap.size,j,none⟩=some v:=fun j v h=>cell_later hb (by rw[z2 _ _ _ _ rfl];simpa using h)
 exact ⟨key 0 _ rfl,key 1 _ rfl,key 2 _ rfl,key 3 _ rfl,key 4 _ rfl,key 5 _ rfl,key 6 _ rfl,key 7 _ rfl,key 8 _ rfl,key 9 _ rfl,key 10 _ rfl⟩
theorem BS(w W:World)(cs:Array Value)(t:TypeId)(hb:Below (w.alloc (.cells cs t)).heap.size (w.alloc (.cells cs t)) W): ∀j,W.frozen? ⟨w.heap.size,j,none⟩=false:=
 fun j=>frozen_of_row W _ j _ t ((hb.block _ j2).trans (heap_alloc_new w _))
def eX(W:World)(B:Nat)(vs:List Value):Prop:= ∀j v,vs[j]? =some v->W.cell? ⟨B,j,none⟩=some v
theorem eX.set{W:World}{B:Nat}{vs:List Value}(h:eX W B vs)(j:Nat)(hj:j<vs.length)(x:Value):eX (W.setCell ⟨B,j,none⟩ x) B (vs.set j x):=by
 intro i v hv
 by_cases e:j=i
 .subst e
  rw[World.cell?_setCell_same' _ _ _ (by rw[h j _ (zx hj)];rfl)];rw[List.getElem?_set_self hj]at hv;exact hv
 rw[zv _ _ _ _ (fun h=>e (by injection h)),h i v]
 rwa[List.getElem?_set_ne e]at hv
theorem eX.other{W:World}{B:Nat}{vs:List Value}(h:eX W B vs){C:Nat}(hne:B≠C)(j:Nat)(x:Value):eX (W.setCell ⟨C,j,none⟩ x) B vs:=by
 intro i v hv;rw[zv _ _ _ _ (fun h=>hne (by injection h with h1 _;exact h1.symm))];exact h i v hv
def bD(k:Int)(s:ByteArray)(n:Int)(x0 x1 x2 x3 x4 x5 x6 x7:Int):List Value:=[I J k,Y s,I J n,I J x0,I J x1,I J x2,I J x3,I J x4,I J x5,I J x6,I J x7]
theorem PO{w W:World}{k n:Int}{s:ByteArray}{x0 x1 x2 x3 x4 x5 x6 x7:Int}(h:fJ w W k s n x0 x1 x2 x3 x4 x5 x6 x7):eX W w.heap.size (bD k s n x0 x1 x2 x3 x4 x5 x6 x7):=by
 obtain ⟨c0,c1,c2,c3,c4,c5,c6,c7,c8,c9,c10⟩:=h;intro j v hv
 match j,hv with
 |0,hv=>cases hv;exact c0
 |1,hv=>cases hv;exact c1
 |2,hv=>cases hv;exact c2
 |3,hv=>cases hv;exact c3
 |4,hv=>cases hv;exact c4
 |5,hv=>cases hv;exact c5
 |6,hv=>cases hv;exact c6
 |7,hv=>cases hv;exact c7
 |8,hv=>cases hv;exact c8
 |9,hv=>cases hv;exact c9
 |10,hv=>cases hv;exact c10
 |j+11,hv=>simp[bD]at hv
theorem bO{W:World}{B:Nat}{k' n':Int}{s':ByteArray}{y0 y1 y2 y3 y4 y5 y6 y7:Int}(h:eX W B (bD k' s' n' y0 y1 y2 y3 y4 y5 y6 y7))(k n:Int)(s:ByteArray)(x0 x1 x2 x3 x4 x5 x6 x7:Int):eX (((((((((((W.setCell ⟨B,0,none⟩ (I J k)).setCell ⟨B,1,none⟩ (Y s)).setCell ⟨B,2,none⟩ (I J n)).setCell ⟨B,3,none⟩ (I J x0)).setCell ⟨B,4,none⟩ (I J x1)).setCell ⟨B,5,none⟩ (I J x2)).setCell ⟨B,6,none⟩ (I J x3)).setCell ⟨B,7,none⟩ (I J x4)).setCell ⟨B,8,none⟩ (I J x5)).setCell ⟨B,9,none⟩ (I J x6)).setCell ⟨B,10,none⟩ (I J x7)) B (bD k s n x0 x1 x2 x3 x4 x5 x6 x7):=
 ((((((((((h.set 0 (by simp[bD]) (I J k)).set 1 (by simp[bD]) (Y s)).set 2 (by simp[bD]) (I J n)).set 3 (by simp[bD]) (I J x0)).set 4 (by simp[bD]) (I J x1)).set 5 (by simp[bD]) (I J x2)).set 6 (by simp[bD]) (I J x3)).set 7 (by simp[bD]) (I J x4)).set 8 (by simp[bD]) (I J x5)).set 9 (by simp[bD]) (I J x6)).set 10 (by simp[bD]) (I J x7)
theorem gS{m:Nat}{w W:World}(h:Below m w W){B:Nat}(hB:m<=B)(k n:Int)(s:ByteArray)(x0 x1 x2 x3 x4 x5 x6 x7:Int):Below m w (((((((((((W.setCell ⟨B,0,none⟩ (I J k)).setCell ⟨B,1,none⟩ (Y s)).setCell ⟨B,2,none⟩ (I J n)).setCell ⟨B,3,none⟩ (I J x0)).setCell ⟨B,4,none⟩ (I J x1)).setCell ⟨B,5,none⟩ (I J x2)).setCell ⟨B,6,none⟩ (I J x3)).setCell ⟨B,7,none⟩ (I J x4)).setCell ⟨B,8,none⟩ (I J x5)).setCell ⟨B,9,none⟩ (I J x6)).setCell ⟨B,10,none⟩ (I J x7)):=by
 have st: ∀(U:World) (j:Nat) (x:Value),Below m w U->Below m w (U.setCell ⟨B,j,none⟩ x):=fun U j x hU=>hU.setCell (p:=⟨B,j,none⟩) hB _
 exact st _ _ _ (st _ _ _ (st _ _ _ (st _ _ _ (st _ _ _ (st _ _ _ (st _ _ _ (st _ _ _ (st _ _ _ (st _ _ _ (st _ _ _ h))))))))))
theorem cE{fn:Func}{p:Tmp}(h:fn.results= #[.cell p 26])(tmps:Array Value)(W:World)(B:Nat)(k n:Int)(s:ByteArray)(x0 x1 x2 x3 x4 x5 x6 x7:Int)
  (hp:tmps[p]?.getD undef=.pointer (some ⟨B,0,none⟩)) (ha:eX W B (bD k s n x0 x1 x2 x3 x4 x5 x6 x7)):
  (results fn tmps).run prog W=.ok (F #[I J k,Y s,I J n,I J x0,I J x1,I J x2,I J x3,I J x4,I J x5,I J x6,I J x7]) W:=by
 have c0:=ha 0 _ rfl;have c1:=ha 1 _ rfl;have c2:=ha 2 _ rfl;have c3:=ha 3 _ rfl;have c4:=ha 4 _ rfl;have c5:=ha 5 _ rfl;have c6:=ha 6 _ rfl;have c7:=ha 7 _ rfl;have c8:=ha 8 _ rfl;have c9:=ha 9 _ rfl;have c10:=ha 10 _ rfl;simp[results,h,hp,asAddr,go_sem,c0,c1,c2,c3,c4,c5,c6,c7,c8,c9,c10,Addr.add_lit]
theorem gT{fn:Func}{p q:Tmp}(h:fn.results= #[.cell p 26,.tmp q])(tmps:Array Value)(W:World)(B:Nat)(v:Value)(k n:Int)(s:ByteArray)(x0 x1 x2 x3 x4 x5 x6 x7:Int)
  (hp:tmps[p]?.getD undef=.pointer (some ⟨B,0,none⟩)) (hq:tmps[q]?.getD undef=v) (ha:eX W B (bD k s n x0 x1 x2 x3 x4 x5 x6 x7)):
  (results fn tmps).run prog W=.ok (H #[F #[I J k,Y s,I J n,I J x0,I J x1,I J x2,I J x3,I J x4,I J x5,I J x6,I J x7],v]) W:=by
 have c0:=ha 0 _ rfl;have c1:=ha 1 _ rfl;have c2:=ha 2 _ rfl;have c3:=ha 3 _ rfl;have c4:=ha 4 _ rfl;have c5:=ha 5 _ rfl;have c6:=ha 6 _ rfl;have c7:=ha 7 _ rfl;have c8:=ha 8 _ rfl;have c9:=ha 9 _ rfl;have c10:=ha 10 _ rfl;simp[results,h,hp,hq,asAddr,go_sem,c0,c1,c2,c3,c4,c5,c6,c7,c8,c9,c10,Addr.add_lit]
theorem BT(n:Int)(s:ByteArray)(x0 x1 x2 x3 x4 x5 x6 x7:Int)(w:World):Calls prog 81 #[F #[I J 1,Y s,I J n,I J x0,I J x1,I J x2,I J x3,I J x4,I J x5,I J x6,I J x7]] w fun e w'=>e=Z (E 142 (Y s))/\Below w.heap.size w w':=by
 go_enter func81,ntmps81;go_wp2;go_ret;exact ⟨rfl,(z4 _ _).alloc (zg _) _⟩
theorem BU(n:Int)(s:ByteArray)(x0 x1 x2 x3 x4 x5 x6 x7:Int)(w:World):Calls prog 81 #[F #[I J 2,Y s,I J n,I J x0,I J x1,I J x2,I J x3,I J x4,I J x5,I J x6,I J x7]] w fun e w'=>e=Z (E 143 (I J n))/\Below w.heap.size w w':=by
 go_enter func81,ntmps81;go_wp2;go_ret;exact ⟨rfl,(z4 _ _).alloc (zg _) _⟩
theorem BV(n:Int)(s:ByteArray)(x0 x1 x2 x3 x4 x5 x6 x7:Int)(w:World):Calls prog 81 #[F #[I J 3,Y s,I J n,I J x0,I J x1,I J x2,I J x3,I J x4,I J x5,I J x6,I J x7]] w fun e w'=>e=Z (E 144 (F #[I J x0,I J x1,I J x2,I J x3,I J x4,I J x5,I J x6,I J x7]))/\Below w.heap.size w w':=by
 go_enter func81,ntmps81;go_wp2;go_ret;exact ⟨rfl,(z4 _ _).alloc (zg _) _⟩
theorem UN(k n:Int)(s:ByteArray)(x0 x1 x2 x3 x4 x5 x6 x7:Int)(w:World)(h1: ¬k=1)(h2: ¬k=2)(h3: ¬k=3):Calls prog 81 #[F #[I J k,Y s,I J n,I J x0,I J x1,I J x2,I J x3,I J x4,I J x5,I J x6,I J x7]] w fun e w'=>e=.returned .nilIface/\Below w.heap.size w w':=by
 have q1:(k==1)=false:=beq_eq_false_iff_ne.2 h1;have q2:(k==2)=false:=beq_eq_false_iff_ne.2 h2;have q3:(k==3)=false:=beq_eq_false_iff_ne.2 h3;clear h1 h2 h3;go_enter func81,ntmps81;go_wp2;go_ret;exact ⟨rfl,(z4 _ _).alloc (zg _) _⟩
theorem ta11(s:ByteArray)(W:World):(Instr.typeAssert (E 142 (Y s)) 99 142 true).run prog W=.ok (H #[Y s,G true]) W:=kr
theorem ta21(n:Int)(W:World):(Instr.typeAssert (E 143 (I J n)) 99 142 true).run prog W=.ok (H #[Y ⟨#[]⟩,G false]) W:=kr
theorem ta22(n:Int)(W:World):(Instr.typeAssert (E 143 (I J n)) 99 143 true).run prog W=.ok (H #[I J n,G true]) W:=kr
theorem ta31(v:Value)(W:World):(Instr.typeAssert (E 144 v) 99 142 true).run prog W=.ok (H #[Y ⟨#[]⟩,G false]) W:=kr
theorem ta32(v:Value)(W:World):(Instr.typeAssert (E 144 v) 99 143 true).run prog W=.ok (H #[I J 0,G false]) W:=kr
theorem ta33(v:Value)(W:World):(Instr.typeAssert (E 144 v) 99 144 true).run prog W=.ok (H #[v,G true]) W:=kr
theorem ta01(W:World):(Instr.typeAssert .nilIface 99 142 true).run prog W=.ok (H #[Y ⟨#[]⟩,G false]) W:=kr
theorem ta02(W:World):(Instr.typeAssert .nilIface 99 143 true).run prog W=.ok (H #[I J 0,G false]) W:=kr
theorem ta03(W:World):(Instr.typeAssert .nilIface 99 144 true).run prog W=.ok (H #[F #[I J 0,I J 0,I J 0,I J 0,I J 0,I J 0,I J 0,I J 0],G false]) W:=kr
theorem yJ(s:ByteArray)(w:World):Calls prog 82 #[E 142 (Y s)] w fun e w'=>e=Z (F #[I J 1,Y s,I J 0,I J 0,I J 0,I J 0,I J 0,I J 0,I J 0,I J 0,I J 0])/\Below w.heap.size w w':=by
 have t1:=ta11 s;go_enter func82,ntmps82;go_wp2;go_returns;exact ⟨rfl,by go_grown⟩
theorem yK(n:Int)(w:World):Calls prog 82 #[E 143 (I J n)] w fun e w'=>e=Z (F #[I J 2,Y ⟨#[]⟩,I J n,I J 0,I J 0,I J 0,I J 0,I J 0,I J 0,I J 0,I J 0])/\Below w.heap.size w w':=by
 have t1:=ta21 n;have t2:=ta22 n;go_enter func82,ntmps82;go_wp2;go_returns;exact ⟨rfl,by go_grown⟩
theorem yL(x0 x1 x2 x3 x4 x5 x6 x7:Int)(w:World):Calls prog 82 #[E 144 (F #[I J x0,I J x1,I J x2,I J x3,I J x4,I J x5,I J x6,I J x7])] w fun e w'=>e=Z (F #[I J 3,Y ⟨#[]⟩,I J 0,I J x0,I J x1,I J x2,I J x3,I J x4,I J x5,I J x6,I J x7])/\Below w.heap.size w w':=by
 have t1:=ta31 (F #[I J x0,I J x1,I J x2,I J x3,I J x4,I J x5,I J x6,I J x7]);have t2:=ta32 (F #[I J x0,I J x1,I J x2,I J x3,I J x4,I J x5,I J x6,I J x7]);have t3:=ta33 (F #[I J x0,I J x1,I J x2,I J x3,I J x4,I J x5,I J x6,I J x7]);go_enter func82,ntmps82;go_wp2;go_returns;exact ⟨rfl,by go_grown⟩
theorem PW(w:World):Calls prog 82 #[.nilIface] w fun e w'=>e=Z (F #[I J 0,Y ⟨#[]⟩,I J 0,I J 0,I J 0,I J 0,I J 0,I J 0,I J 0,I J 0,I J 0])/\Below w.heap.size w w':=by
 have t1:=ta01;have t2:=ta02;have t3:=ta03;go_enter func82,ntmps82;go_wp2;go_returns;exact ⟨rfl,by go_grown⟩
def UAt(W:World)(B:Nat)(vs:List Value):Prop:=eX W B vs/\(∀j,W.frozen? ⟨B,j,none⟩=false)/\B<W.heap.size
theorem UAt.new(w:World)(vs:Array Value)(t:TypeId):UAt (w.alloc (.cells vs t)) w.heap.size vs.toList:=by
 refine ⟨fun j v h=> ?_,fun j=>frozen_of_row _ _ j _ t (heap_alloc_new w _),by simp⟩;rw[z2 _ _ _ _ rfl];simpa using h
theorem UAt.below{W W':World}{B:Nat}{vs:List Value}(h:UAt W B vs)(hb:Below W.heap.size W W'):UAt W' B vs:=by
 have hs:=hb.block B h.2.2;refine ⟨fun j v hv=>cell_later hb (h.1 j v hv),fun j=> ?_,zu h.2.2 hb.size⟩;have hf:=h.2.1 j;unfold World.frozen? at hf⊢;rw[hs];exact hf
theorem GP(W:World)(B C j i:Nat)(v:Value)(h:W.frozen? ⟨B,i,none⟩=false):(W.setCell ⟨C,j,none⟩ v).frozen? ⟨B,i,none⟩=false:=by
 simpa[go_sem] using h
theorem UAt.set{W:World}{B:Nat}{vs:List Value}(h:UAt W B vs)(j:Nat)(hj:j<vs.length)(v:Value):UAt (W.setCell ⟨B,j,none⟩ v) B (vs.set j v):=
 ⟨h.1.set j hj v,fun i=>GP W B B j i v (h.2.1 i),zu h.2.2 (KeepsWalks.setCell W _ v).size⟩
theorem UAt.other{W:World}{B C:Nat}{vs:List Value}(h:UAt W B vs)(hne:B≠C)(j:Nat)(v:Value):UAt (W.setCell ⟨C,j,none⟩ v) B vs:=
 ⟨h.1.other hne j v,fun i=>GP W B C j i v (h.2.1 i),zu h.2.2 (KeepsWalks.setCell W _ v).size⟩
def YI(W:World)(C:Nat):Nat->List Value->World
 |_,[]=>W
 |j,v::vs=>YI (W.setCell ⟨C,j,none⟩ v) C (j+1) vs
theorem UAt.row: ∀{vs:List Value} {W:World} {C:Nat} {pre old:List Value},UAt W C (pre++old)->old.length=vs.length->UAt (YI W C pre.length vs) C (pre++vs)
 |[],W,C,pre,old,h,hl=>by
  have:old=[]:=zj hl
  subst this;exact h
 |v::vs,W,C,pre,[],h,hl=>by simp at hl
 |v::vs,W,C,pre,o::old,h,hl=>by
  have h1:=h.set pre.length j2 v;rw[List.set_append_right _ _ (zg _),Nat.sub_self,List.set_cons_zero]at h1;have h2:UAt (W.setCell ⟨C,pre.length,none⟩ v) C ((pre++[v])++old):=by rw[zq];exact h1
  have h3:=UAt.row (vs:=vs) h2 (by simpa using hl);rw[zt,List.length_singleton,zq]at h3;exact h3
theorem UAt.whole{vs old:List Value}{W:World}{C:Nat}(h:UAt W C old)(hl:old.length=vs.length):UAt (YI W C 0 vs) C vs:=UAt.row (pre:=[]) h hl
def aA(s k:Int)(nm:ByteArray)(n:Int)(x0 x1 x2 x3 x4 x5 x6 x7:Int)(p:Int)(a:ByteArray)(q:Bool)(r:ByteArray):List Value:=[I J s,I J k,Y nm,I J n,I J x0,I J x1,I J x2,I J x3,I J x4,I J x5,I J x6,I J x7,I J p,Y a,G q,Y r]
def aM:List Value:=aA 0 0 ⟨#[]⟩ 0 0 0 0 0 0 0 0 0 0 ⟨#[]⟩ false ⟨#[]⟩
