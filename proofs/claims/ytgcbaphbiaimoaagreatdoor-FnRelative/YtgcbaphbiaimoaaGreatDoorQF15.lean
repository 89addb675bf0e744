/- HostBack, DotPlain, UrlPath, DportWalk, UrlBits, UrlPlain, CutWay. -/
import Derived.Test.YtgcbaphbiaimoaaGreatDoorQF14
import Derived.Lib.SlTrimSet
import Derived.Lib.IndexMore
set_option maxHeartbeats 1000000
namespace Go.Proofs.YtgcbaphbiaimoaaGreatDoor
open _root_.Bool renaming and_eq_true->zn
open _root_.ByteArray renaming empty->zg
open _root_.Int renaming toNat->z6
open _root_.List renaming all_append->zu,all_eq_true->z3,append_assoc->z0,concat_eq_append->zj,cons->z7,dropLast_concat->zv,eq_nil_of_length_eq_zero->zq,eq_nil_or_concat->zi,flatMap_cons->zs,length->z4,length_append->zz,length_cons->z1,map_congr_left->zx,map_cons->zp,mem_append->zc,mem_cons->za,mem_cons_of_mem->zk,mem_cons_self->zr,mem_map->zt,mem_reverse->z2,mem_singleton->zh,not_mem_nil->zd,replicate->ze,replicate_succ'->zw,reverse_cons->zo,reverse_reverse->zl,takeWhile_cons->zy
open _root_.Nat renaming div_div_eq_div_mul->zf,le_refl->zm
open _root_.UInt8 renaming toNat_inj->z5
open _root_.Go.Proofs.Tryz
open _root_.Go.Proofs.YtgcbaphbiaimoaaGreatDoor.Tryz
section
open Go.RowKit
set_option linter.unusedVariables false
theorem Fv: ∀{l:List UInt8},(∀c∈l,c.toNat≠37)->unL l=l
 |[],_=>rfl
 |c::r,h=>by
  rw[WP c r (NR c r (h c zr)),Fv fun x hx=>h x (zk _ hx)]
theorem EA: ∀{ls:List ByteArray},(∀a∈ls,dX a.data.toList=true)-> ∀c∈jn 46 ls,gS c=true∨c=46:=by
 intro ls h c hc
 cases ls with
 |nil=>simp[jn]at hc
 |cons x xs=>
  unfold jn at hc
  rcases zc.1 hc with h1|h1
  .exact .inl ((dC (h x zr)).2.2.2.2 c h1)
  obtain ⟨y,hy,h2⟩:=List.mem_flatMap.1 h1
  rcases za.1 h2 with h3|h3
  .exact .inr h3
  exact .inl ((dC (h y (zk _ hy))).2.2.2.2 c h3)
theorem XP{c:UInt8}(h:gS c=true∨c=46):c.toNat≠37/\c≠91:=by
 rcases h with h|rfl
 .rcases kB h with h1|h1|h1
  .exact ⟨om,fun e=>by rw[e]at h1;simp at h1⟩
  .exact ⟨om,fun e=>by rw[e]at h1;simp at h1⟩
  exact ⟨om,fun e=>by rw[e]at h1;simp at h1⟩
 exact ⟨de,de⟩
theorem EB{s:ByteArray}(h:cV s=some s.data.toList):aO s=iQ s.data.toList/\0<s.size:=by
 obtain ⟨ls,hne,_,_,hl,hj,_,_,hp⟩:=sV h;have hch: ∀c∈s.data.toList,gS c=true∨c=46:=by
  rw[hj];exact EA fun a ha=>(hl a ha).1
 have hp':0<s.size:=by simpa using hp
 refine ⟨?_,hp'⟩;have h0:s[0]∈s.data.toList:=by
  rw[lW s hp'];exact zr
 rw[uL hp' (fun e=>(XP (hch _ h0)).2 (lN e))];unfold fX unB;rw[Fv fun c hc=>(XP (hch c hc)).1,wE,h]
theorem XQ: ∀v,v<256->okA (bP v)=true:=by decide+kernel
theorem T7: ∀v,v<256->wC ⟨(bP v).toArray⟩=true:=by decide+kernel
theorem Gy(n:Nat):jn 46 [⟨(bP (n/16777216)).toArray⟩,⟨(bP (n/65536%256)).toArray⟩,⟨(bP (n/256%256)).toArray⟩,⟨(bP (n%256)).toArray⟩]=hF n:=by
 simp[jn,hF]
theorem QF{n:Nat}(hn:n<4294967296):cV ⟨(hF n).toArray⟩=some (hF n):=by
 have hv: ∀a∈([⟨(bP (n/16777216)).toArray⟩,⟨(bP (n/65536%256)).toArray⟩,⟨(bP (n/256%256)).toArray⟩,⟨(bP (n%256)).toArray⟩]:List ByteArray),∃v,v<256/\a=⟨(bP v).toArray⟩:=by
  intro a ha;simp only[za,zd,or_false]at ha
  rcases ha with rfl|rfl|rfl|rfl
  .exact ⟨_,om,rfl⟩
  .exact ⟨_,om,rfl⟩
  .exact ⟨_,om,rfl⟩
  exact ⟨_,om,rfl⟩
 have hj:=Gy n;generalize ([⟨(bP (n/16777216)).toArray⟩,⟨(bP (n/65536%256)).toArray⟩,⟨(bP (n/256%256)).toArray⟩,⟨(bP (n%256)).toArray⟩]:List ByteArray)=ls at hv hj;have hlab: ∀a∈ls,dX a.data.toList=true:=by
  intro a ha;obtain ⟨v,hv1,rfl⟩:=hv a ha;exact LQ (XQ v hv1)
 have hasc: ∀a∈ls,nT a=some a:=by
  intro a ha;obtain ⟨v,hv1,rfl⟩:=hv a ha;unfold nT;rw[show (⟨(bP v).toArray⟩:ByteArray).data.toList=bP v from rfl,DQ (XQ v hv1)]
 have hne:ls≠[]:=by
  intro h0;rw[h0]at hj
  have:=congrArg z4 hj
  simp[jn,hF]at this
 rw[<-hj];unfold cV;rw[JB hne hlab,DW hlab];refine kC (yG hasc) ?_;rw[hj]
 have:=D7 (n:Int)
 unfold gP at this;have e:(hF n).length=(⟨(hF ((n:Int).toNat)).toArray⟩:ByteArray).size:=by
  show _=(hF ((n:Int).toNat)).toArray.size;rw[List.size_toArray];rfl
 omega
theorem T8{n:Nat}(hn:n<4294967296):qO ⟨(hF n).toArray⟩=true:=by
 have h:=IW ⟨(hF n).toArray⟩ (bP (n/16777216)++46::(bP (n/65536%256)++46::(bP (n/256%256)++[46]))) (bP (n%256)) (by simp[hF])
  (.inr ⟨bP (n/16777216)++46::(bP (n/65536%256)++46::bP (n/256%256)),by simp⟩) (WV om)
 unfold qO;have e:pI ⟨(hF n).toArray⟩=⟨(bP (n%256)).toArray⟩:=rW h;rw[e];exact T7 _ om
theorem D8{n:Nat}(hn:n<4294967296):iQ (hF n)=.fo n:=by
 unfold iQ;rw[if_pos (T8 hn),KW hn rfl]
theorem T9(t:Bool): ∀{fs:List (List UInt8)} {g:List Nat},grp t fs=some g-> ∀x∈g,x<65536
 |[],g,h,x,hx=>by cases h;simp at hx
 |y::r,g,h,x,hx=>by
  rw[grp]at h;split at h
  .rename_i n hn
   cases h
   have hn4:n<4294967296:=by
    split at hn
    .exact (nX hn).1
    cases hn
   simp only[za,zd,or_false]at hx;omega
  split at h
  .cases h
  rename_i v hv
  cases hr:grp t r with
  |none=>rw[hr]at h;cases h
  |some q=>
   rw[hr]at h
   cases h
   rcases za.1 hx with rfl|h2
   .unfold g16 at hv
    split at hv
    .cases hv
    exact DX hv
   exact T9 t hr x h2
theorem MC(t:Bool){l:List UInt8}{g:List Nat}(h:cX t l=some g): ∀x∈g,x<65536:=by
 unfold cX at h;split at h
 .cases h
  intro x hx;simp at hx
 exact T9 t h
theorem Dk{l:List UInt8}{g:List Nat}(h:dQ l=some g): ∀x∈g,x<65536:=by
 unfold dQ at h;split at h
 .split at h
  .cases h
  rename_i q hq;split at h
  .cases h
   exact MC true hq
  cases h
 split at h
 .rename_i a b ha hb
  split at h
  .cases h
   intro x hx;unfold iA at hx
   rcases zc.1 hx with h1|h1
   .rcases zc.1 h1 with h2|h2
    .exact MC false ha x h2
    rw[(List.mem_replicate.1 h2).2]
    decide
   exact MC true hb x h1
  cases h
 cases h
theorem Dl{g:List Nat}(h: ∀x∈g,x<65536):okG (g.map fun (x:Nat)=>(x:Int))=true:=by
 refine AT ?_;intro x hx;obtain ⟨y,hy,rfl⟩:=zt.1 hx
 have:=h y hy
 omega
theorem MD(s:ByteArray):(∃c,aO s=.bad c/\1<=c/\c<=4)∨(hOk (rV (aO s))=true/\rC (aO s)=0):=by
 have key: ∀l,(∃c,iQ l=.bad c/\1<=c/\c<=4)∨cV ⟨l.toArray⟩=some l->(∃c,iQ l=.bad c/\1<=c/\c<=4)∨(hOk (rV (iQ l))=true/\rC (iQ l)=0):=by
  intro l hl
  rcases hl with hl|hl
  .exact .inl hl
  unfold iQ;split
  .cases h:loA ⟨l.toArray⟩with
   |none=>exact .inl ⟨4,rfl,de,de⟩
   |some v=>
    have:=TS h
    refine .inr ⟨?_,rfl⟩;show hOk ⟨2,⟨#[]⟩,v,jF⟩=true;unfold hOk;rw[if_neg (show ¬(2:Int)=1 by decide),if_pos rfl];simp only[zn,decide_eq_true_eq];exact ⟨⟨rfl,om,om⟩,trivial⟩
  rename_i he;refine .inr ⟨?_,rfl⟩;show hOk ⟨1,⟨l.toArray⟩,0,jF⟩=true;unfold hOk;rw[if_pos rfl];have he':qO ⟨l.toArray⟩=false:=by simpa using he
  simp[hl,he']
 unfold aO;split
 .exact .inl ⟨1,rfl,de,de⟩
 rename_i c r hl;split
 .unfold gI
  split
  .cases h:dQ r.dropLast with
   |none=>exact .inl ⟨2,rfl,de,de⟩
   |some g=>
    refine .inr ⟨?_,rfl⟩;show hOk ⟨3,⟨#[]⟩,0,g.map fun (x:Nat)=>(x:Int)⟩=true;unfold hOk;rw[if_neg (show ¬(3:Int)=1 by decide),if_neg (show ¬(3:Int)=2 by decide),if_pos rfl];simp only[Dl (Dk h)];rfl
  exact .inl ⟨2,rfl,de,de⟩
 unfold fX;split
 .exact .inl ⟨3,rfl,de,de⟩
 rename_i n hn;obtain ⟨_,_,_,_,_,_,hb,_,_⟩:=sV hn;exact key n (.inr hb)
theorem US{s:ByteArray}{c:UInt8}{r:List UInt8}(h:s.data.toList=c::r):aO s=if c=91 then gI r else fX s:=by
 unfold aO;rw[h]
theorem D9{k n:Int}{s:ByteArray}{x0 x1 x2 x3 x4 x5 x6 x7:Int}(h:hOk ⟨k,s,n,[x0,x1,x2,x3,x4,x5,x6,x7]⟩=true):0<(hTx ⟨k,s,n,[x0,x1,x2,x3,x4,x5,x6,x7]⟩).size/\rV (aO (hTx ⟨k,s,n,[x0,x1,x2,x3,x4,x5,x6,x7]⟩))=⟨k,s,n,[x0,x1,x2,x3,x4,x5,x6,x7]⟩/\rC (aO (hTx ⟨k,s,n,[x0,x1,x2,x3,x4,x5,x6,x7]⟩))=0:=by
 unfold hTx;rw[if_pos h];unfold hOk at h;simp only at h⊢
 by_cases h1:k=1
 .subst h1
  rw[if_pos rfl]at h⊢;simp only[zn,decide_eq_true_eq,Bool.not_eq_true']at h;obtain ⟨⟨⟨h1,h2⟩,h3⟩,h4⟩:=h;obtain ⟨h5,h6⟩:=EB h1;have h7:iQ s.data.toList=.nm s.data.toList:=by
   unfold iQ;rw[wE,if_neg (by rw[h2];decide)]
  rw[h5,h7];refine ⟨h6,?_,rfl⟩;show HV.mk 1 ⟨s.data.toList.toArray⟩ 0 jF=_;rw[wE,h3,h4]
 rw[if_neg h1]at h⊢
 by_cases h2:k=2
 .subst h2
  rw[if_pos rfl]at h⊢;simp only[zn,decide_eq_true_eq]at h;obtain ⟨⟨h3,h4,h5⟩,h6⟩:=h;have hn:n.toNat<4294967296:=om;have hs:s=⟨#[]⟩:=rW (zq (by simpa using h3));have hr:aO (gP n)=.fo n.toNat/\0<(gP n).size:=by
   have hnm:cV (gP n)=some (gP n).data.toList:=QF hn;obtain ⟨a,b⟩:=EB hnm;refine ⟨?_,b⟩;rw[a];exact D8 hn
  rw[hr.1];refine ⟨hr.2,?_,rfl⟩;show HV.mk 2 ⟨#[]⟩ ((n.toNat:Nat):Int) jF=_;rw[Int.toNat_of_nonneg h4,hs,h6]
 rw[if_neg h2]at h⊢
 by_cases h3:k=3
 .subst h3
  rw[if_pos rfl]at h;simp only[zn,decide_eq_true_eq]at h;obtain ⟨⟨h4,h5⟩,h6⟩:=h;have h8:=LS h6;have hsix:zL [x0,x1,x2,x3,x4,x5,x6,x7]:=⟨rfl,h8⟩;have hs:s=⟨#[]⟩:=rW (zq (by simpa using h4));have hr:aO ⟨(91::(lC [x0,x1,x2,x3,x4,x5,x6,x7]++[93])).toArray⟩=.si ([x0,x1,x2,x3,x4,x5,x6,x7].map z6):=by
   rw[US (c:=91) (r:=lC [x0,x1,x2,x3,x4,x5,x6,x7]++[93]) rfl,if_pos rfl];unfold gI;rw[List.getLast?_concat,if_pos rfl,zv,T6 hsix];rfl
  rw[hr];refine ⟨?_,?_,rfl⟩
  .show 0<(91::(lC [x0,x1,x2,x3,x4,x5,x6,x7]++[93])).toArray.size
   simp
  show HV.mk 3 ⟨#[]⟩ 0 (([x0,x1,x2,x3,x4,x5,x6,x7].map z6).map fun (y:Nat)=>(y:Int))=_;have e:([x0,x1,x2,x3,x4,x5,x6,x7].map z6).map (fun (y:Nat)=>(y:Int))=[x0,x1,x2,x3,x4,x5,x6,x7]:=by
   rw[List.map_map]
   conv=>rhs;rw[<-List.map_id [x0,x1,x2,x3,x4,x5,x6,x7]]
   refine zx ?_;intro y hy
   have:=(h8 y hy).1
   simp only[Function.comp,id];omega
  rw[e,hs,h5]
 rw[if_neg h3]at h
 cases h
end
section
open Go.RowKit
def isd(l:List UInt8):Nat:=if unL l=[46]then 1 else if unL l=[46,46]then 2 else 0
theorem UT(l:List UInt8):isd l<=2:=by unfold isd;split;omega;split<;>omega
theorem AY:isd []=0:=de
theorem U0{l:List UInt8}{n:Nat}(h:unL l=ze n 46):isd l=if 1<=n/\n<=2 then n else 0:=by
 unfold isd;rw[h]
 match n with
 |0=>decide
 |1=>decide
 |2=>decide
 |n+3=>
  have h1: ¬(ze (n+3) (46:UInt8)=[46]):=fun e=>by have:=congrArg z4 e;simp at this
  have h2: ¬(ze (n+3) (46:UInt8)=[46,46]):=fun e=>by have:=congrArg z4 e;simp at this
  rw[if_neg h1,if_neg h2,if_neg om]
theorem JE{l:List UInt8}{n:Nat}{c:UInt8}{r:List UInt8}(h:unL l=ze n 46++c::r)(hc:c≠46):isd l=0:=by
 have hm:c∈unL l:=by rw[h];simp
 unfold isd;rw[if_neg,if_neg]
 .intro e;rw[e]at hm;simp at hm;exact hc hm
 intro e;rw[e]at hm;simp at hm;exact hc hm
def eO(out:List ByteArray)(x:ByteArray):List ByteArray:=if isd (toL x)=0 then out++[x]else if isd (toL x)=2 then out.dropLast else out
def dZ(l:List ByteArray):List ByteArray:=l.foldl eO []
def rF(l:List ByteArray):ByteArray:=l.getD (l.length-1) zg
def dB(l:List ByteArray):List ByteArray:=if isd (toL (rF l))=0 then dZ l else dZ l++[zg]
def slL(l:List ByteArray):List UInt8:=l.flatMap fun x=>47::toL x
def bD(p:ByteArray):List ByteArray:=(aA p 47).drop 1
def bR(p:ByteArray):Bool:=p.data.toList.head? ==some 47
def cE(p:ByteArray):ByteArray:=if bR p then ⟨(slL (dB (bD p))).toArray⟩else p
theorem rZ{a b:List ByteArray}(h:a.map toL=b.map toL):a=b:=by
 induction a generalizing b with
 |nil=>cases b with
  |nil=>rfl
  |cons _ _=>simp at h
 |cons x a ih=>cases b with
  |nil=>simp at h
  |cons y b=>
   simp only[zp,z7.injEq]at h;rw[bX h.1,ih h.2]
theorem qR(s:ByteArray):(aA s 47).map toL=spl 47 s.data.toList:=rM s 47
theorem ME(b:UInt8)(l:List UInt8):spl b (b::l)=[]::spl b l:=by
 simp[spl]
theorem Gz(b:UInt8): ∀l,∀x∈spl b l,∀c∈x,c≠b:=by
 intro l
 have: ∀r:List UInt8,∀x∈spl b r.reverse,∀c∈x,c≠b:=by
  intro r
  induction r with
  |nil=>intro x hx c hc;simp[spl]at hx;subst hx;cases hc
  |cons a r ih=>
   obtain ⟨xs,y,h,hn⟩:=rK b r.reverse;rw[h]at ih;rw[zo,hn a];intro x hx c hc;split at hx
   .simp only[zc,za,zd,or_false]at hx
    rcases hx with h1|h1|h1
    .exact ih x (by simp[h1]) c hc
    .exact ih x (by simp[h1]) c hc
    subst h1;cases hc
   next hne=>
   simp only[zc,zh]at hx
   rcases hx with h1|h1
   .exact ih x (by simp[h1]) c hc
   subst h1
   rcases zc.1 hc with h2|h2
   .exact ih y j2 c h2
   rw[zh.1 h2];exact hne
 have h:=this l.reverse
 rwa[zl]at h
theorem iR{p:ByteArray}(h:bR p=true): ∃r,p.data.toList=47::r:=by
 unfold bR at h
 cases hp:p.data.toList with
 |nil=>rw[hp]at h;simp at h
 |cons a r=>rw[hp]at h;simp at h;exact ⟨r,by rw[h]⟩
theorem tJ{p:ByteArray}(h:bR p=true):aA p 47=zg::aA (p.extract 1 p.size) 47:=by
 obtain ⟨r,hr⟩:=iR h;apply rZ;have hx:(p.extract 1 p.size).data.toList=r:=by rw[aZ,cS p p.size (zm _),hr];rfl
 rw[zp,qR,qR,hx,hr,ME];rfl
theorem qS{p:ByteArray}(h:bR p=true):bD p=aA (p.extract 1 p.size) 47:=by
 unfold bD;rw[tJ h];rfl
theorem wL{p:ByteArray}(h:bR p=true):aA p 47=zg::bD p:=by
 rw[qS h,tJ h]
theorem wM{p:ByteArray}(h:bR p=true):slL (bD p)=p.data.toList:=by
 have h1:=vK p 47 de de;rw[wL h]at h1;exact h1
theorem yK{p:ByteArray}(h:bR p=true):0<(bD p).length:=by
 rw[qS h];simp[aA]
def qT(f:ByteArray->Nat)(l:List ByteArray):Nat:=(l.map f).sum
theorem pK(f:ByteArray->Nat)(l:List ByteArray)(x:ByteArray):qT f (l++[x])=qT f l+f x:=by simp[qT]
theorem JF(f:ByteArray->Nat)(l:List ByteArray):qT f l.dropLast<=qT f l:=by
 rcases zi l with h|⟨m,x,h⟩
 .rw[h];exact zm _
 rw[h,zj,zv,pK];omega
theorem E0(f:ByteArray->Nat)(out:List ByteArray)(x:ByteArray):qT f (eO out x)<=qT f out+f x:=by
 unfold eO;split
 .rw[pK];exact zm _
 split
 .have:=JF f out;omega
 omega
theorem U1(f:ByteArray->Nat)(out:List ByteArray)(x:ByteArray)(h:isd (toL x)≠0):qT f (eO out x)<=qT f out:=by
 unfold eO;rw[if_neg h];split
 .exact JF f out
 exact zm _
theorem kD(l:List ByteArray)(x:ByteArray):dZ (l++[x])=eO (dZ l) x:=by simp[dZ]
theorem JG(f:ByteArray->Nat): ∀r:List ByteArray,qT f (dZ r.reverse)<=qT f r.reverse
 |[]=>zm _
 |x::r=>by
  rw[zo,kD,pK];have h1:=E0 f (dZ r.reverse) x;have h2:=JG f r;omega
theorem EC(f:ByteArray->Nat)(l:List ByteArray):qT f (dZ l)<=qT f l:=by
 have h:=JG f l.reverse
 rwa[zl]at h
theorem uN(l:List ByteArray)(x:ByteArray):rF (l++[x])=x:=by
 unfold rF;simp[List.getD_eq_getElem?_getD]
theorem QG(f:ByteArray->Nat)(hf: ∀x,f zg<=f x)(l:List ByteArray):qT f (dB l)<=qT f l:=by
 unfold dB;split
 .exact EC f l
 next h=>
 rcases zi l with e|⟨m,x,e⟩
 .rw[e]at h
  exact absurd AY h
 rw[zj]at e;rw[e,uN]at h;rw[e,kD,pK,pK];have h1:=U1 f (dZ m) x h;have h2:=EC f m;have h3:=hf x;omega
theorem AZ(l:List ByteArray):qT (fun _=>1) l=l.length:=by
 induction l with
 |nil=>rfl
 |cons x l ih=>simp only[qT,zp,List.sum_cons,z1]at ih⊢;omega
theorem QH(l:List ByteArray):qT (fun x=>x.size+1) l=(slL l).length:=by
 induction l with
 |nil=>rfl
 |cons x l ih=>
  simp only[qT,zp,List.sum_cons,slL,zs,zz,z1]at ih⊢;rw[ih];simp[toL]
theorem sA(l:List ByteArray):(dB l).length<=l.length:=by
 have h:=QG (fun _=>1) (fun _=>zm _) l
 rwa[AZ,AZ]at h
theorem yL(l:List ByteArray):(slL (dB l)).length<=(slL l).length:=by
 have h:=QG (fun x=>x.size+1) (fun x=>Nat.add_le_add_right (Nat.zero_le _) 1) l
 rwa[QH,QH]at h
theorem zM(l:List ByteArray):(dZ l).length<=l.length:=by
 have h:=EC (fun _=>1) l
 rwa[AZ,AZ]at h
theorem U2{out:List ByteArray}{x y:ByteArray}(h:y∈eO out x):y∈out∨(y=x/\isd (toL x)=0):=by
 unfold eO at h;split at h
 .next e=>
  rcases zc.1 h with h1|h1
  .exact .inl h1
  exact .inr ⟨zh.1 h1,e⟩
 split at h
 .exact .inl (List.dropLast_subset _ h)
 exact .inl h
theorem QI: ∀(r:List ByteArray) (y:ByteArray),y∈dZ r.reverse->y∈r/\isd (toL y)=0
 |[],y,h=>by simp[dZ]at h
 |x::r,y,h=>by
  rw[zo,kD]at h
  rcases U2 h with h1|⟨h1,h2⟩
  .have h3:=QI r y h1
   exact ⟨zk _ h3.1,h3.2⟩
  subst h1;exact ⟨by simp,h2⟩
theorem ED{l:List ByteArray}{y:ByteArray}(h:y∈dB l):(y∈l∨y=zg)/\isd (toL y)=0:=by
 have hf: ∀y,y∈dZ l->y∈l/\isd (toL y)=0:=fun y hy=>by
  have:=QI l.reverse y (by rwa[zl])
  exact ⟨z2.1 this.1,this.2⟩
 unfold dB at h;split at h
 .exact ⟨.inl (hf y h).1,(hf y h).2⟩
 rcases zc.1 h with h1|h1
 .exact ⟨.inl (hf y h1).1,(hf y h1).2⟩
 rw[zh.1 h1];exact ⟨.inr rfl,AY⟩
theorem MF{l:List ByteArray}(h:0<l.length):dB l≠[]:=by
 unfold dB;split
 .next e=>
  rcases zi l with e1|⟨m,x,e1⟩
  .rw[e1]at h;simp at h
  rw[zj]at e1;rw[e1,uN]at e;rw[e1,kD];unfold eO;rw[if_pos e];simp
 simp
theorem XR: ∀r:List ByteArray,(∀x∈r,isd (toL x)=0)->dZ r.reverse=r.reverse
 |[],_=>rfl
 |x::r,h=>by
  rw[zo,kD,XR r fun y hy=>h y (zk _ hy)];unfold eO;rw[if_pos (h x j2)]
theorem Dm{l:List ByteArray}(h: ∀x∈l,isd (toL x)=0):dB l=l:=by
 have h1:=XR l.reverse fun x hx=>h x (z2.1 hx)
 rw[zl]at h1;unfold dB;rw[if_pos]
 .exact h1
 rcases zi l with e|⟨m,x,e⟩
 .rw[e];exact AY
 rw[zj]at e;rw[e,uN];exact h x (by rw[e];simp)
theorem QJ(p:ByteArray): ∀x∈bD p,∀c∈toL x,c≠47:=by
 intro x hx c hc;have h1:toL x∈spl 47 p.data.toList:=by
  rw[<-qR];exact List.mem_map_of_mem (List.mem_of_mem_drop hx)
 exact Gz 47 _ _ h1 c hc
theorem Fw(l:List ByteArray):slL l=jl 47 ([]::l.map toL):=by
 have h1: ∀l:List ByteArray,jl 47 ([]::l.map toL)=slL l:=by
  intro l;have h2: ∀(z:List UInt8) (l:List ByteArray),jl 47 (z::l.map toL)=z++slL l:=by
   intro z l
   induction l generalizing z with
   |nil=>simp[jl,slL]
   |cons x l ih=>rw[zp,jl,ih];simp[slL]
  exact h2 [] l
 exact (h1 l).symm
theorem wN{p:ByteArray}(h:bR p=true):bR (cE p)=true:=by
 unfold cE;rw[if_pos h]
 cases hk:dB (bD p)with
 |nil=>exact absurd hk (MF (yK h))
 |cons x l=>simp[bR,slL]
theorem nK{p:ByteArray}(h:bR p=true):(cE p).data.toList=slL (dB (bD p)):=by
 unfold cE;rw[if_pos h]
theorem MG{p:ByteArray}(h:bR p=true):aA (cE p) 47=zg::dB (bD p):=by
 apply rZ;rw[qR,nK h,Fw _,xS 47 j2]
 .rfl
 intro x hx c hc
 rcases za.1 hx with h1|h1
 .subst h1;cases hc
 obtain ⟨y,hy,e⟩:=zt.1 h1;subst e
 rcases (ED hy).1 with h2|h2
 .exact QJ p y h2 c hc
 subst h2;cases hc
theorem QK{p:ByteArray}(h:bR p=true):bD (cE p)=dB (bD p):=by
 unfold bD;rw[MG h];rfl
theorem QL{p:ByteArray}(h:bR p=true):cE (cE p)=cE p:=by
 apply bX;show (cE (cE p)).data.toList=(cE p).data.toList;rw[nK (wN h),QK h,nK h,Dm fun x hx=>(ED hx).2]
theorem uO(p:ByteArray):(cE p).size<=p.size:=by
 by_cases h:bR p=true
 .have h1:=yL (bD p)
  rw[<-nK h,wM h]at h1;simpa using h1
 unfold cE;rw[if_neg h];exact zm _
def upN(p:ByteArray):Nat->Nat
 |0=>0
 |k+1=>if p.data.toList.getD k 0=47 then k+1 else upN p k
theorem U3(p:ByteArray): ∀k,upN p k<=k
 |0=>zm _
 |k+1=>by
  have:=U3 p k
  unfold upN;split<;>omega
theorem XS{p:ByteArray}(h:bR p=true): ∀k,0<k->0<upN p k
 |0,hk=>by omega
 |k+1,_=>by
  unfold upN;split
  .omega
  next hn=>
  by_cases h0:k=0
  .obtain ⟨r,hr⟩:=iR h
   rw[h0,hr]at hn;exact absurd rfl hn
  exact XS h k om
def upT(p:ByteArray):ByteArray:=p.extract 0 (upN p p.size)
theorem Dn{s:ByteArray}{k n:Nat}(hk:k<s.size)(h:s[k].toNat=46)(he:unL s.data.toList=ze n 46++unL (s.data.toList.drop k)):
  unL s.data.toList=ze (n+1) 46++unL (s.data.toList.drop (k+1)):=by
 have hp:cM s k<0:=by
  by_cases h2:k+2<s.size
  .rw[mT s k h2];unfold gX;rw[if_neg om];omega
  rw[pA s k om];omega
 have hc:s[k]=46:=z5.1 h;rw[he];unfold unL;rw[vF _ _ s k hk hp,hc,zw];simp
theorem XT{s:ByteArray}{k n:Nat}(hk:k+2<s.size)(h:s[k].toNat=37)(h1:s[k+1].toNat=50)(h2:s[k+2].toNat=101∨s[k+2].toNat=69)(he:unL s.data.toList=ze n 46++unL (s.data.toList.drop k)):
  unL s.data.toList=ze (n+1) 46++unL (s.data.toList.drop (k+3)):=by
 have hp:cM s k=46:=by
  rw[mT s k hk,h,h1]
  rcases h2 with h2|h2<;>rw[h2]<;>decide
 rw[he];unfold unL;rw[AJ _ _ s k om,hp,zw];simp
theorem Ha: ∀x,x<256-> ∀y,y<256->bE x*16+bE y=46->0<=bE x->0<=bE y->x=50/\(y=101∨y=69):=by
 intro x _ y _ h hx hy;have h1:=gM x;have h2:=gM y;have hx2:bE x=2:=om;have hy2:bE y=14:=om;unfold bE at hx2 hy2;refine ⟨?_,?_⟩
 .split at hx2
  .omega
  split at hx2
  .omega
  split at hx2<;>omega
 split at hy2
 .omega
 split at hy2
 .omega
 split at hy2<;>omega
theorem BA{s:ByteArray}{k n:Nat}(hk:k<s.size)(h:s[k].toNat≠46)(h2: ∀_:k+2<s.size,¬(s[k].toNat=37/\s[k+1].toNat=50/\(s[k+2].toNat=101∨s[k+2].toNat=69)))
  (he:unL s.data.toList=ze n 46++unL (s.data.toList.drop k)):isd s.data.toList=0:=by
 by_cases hp:0<=cM s k
 .have hk2:=pB hp
  have hin:=mT s k hk2;have hne:cM s k≠46:=by
   intro e;rw[hin]at e;unfold gX at e;split at e
   .next hc=>
    have:=Ha _ s[k+1].toNat_lt _ s[k+2].toNat_lt e hc.2.1 hc.2.2
    exact h2 hk2 ⟨hc.1,this.1,this.2⟩
   omega
  have hle:=rJ s k;refine JE (n:=n) (c:=UInt8.ofNat (cM s k).toNat) (r:=unL (s.data.toList.drop (k+3))) ?_ ?_
  .rw[he]
   conv=>lhs;rw[show unL (s.data.toList.drop k)=_ from AJ _ _ s k hp]
   rfl
  intro e;have e2:=congrArg UInt8.toNat e;have e3:(UInt8.ofNat (cM s k).toNat).toNat=(cM s k).toNat%256:=by simp
  rw[e3]at e2;have e4:(cM s k).toNat%256=46:=e2;omega
 refine JE (n:=n) (c:=s[k]) (r:=unL (s.data.toList.drop (k+1))) ?_ fun e=>h (by rw[e];rfl)
 rw[he]
 conv=>lhs;rw[show unL (s.data.toList.drop k)=_ from vF _ _ s k hk om]
 rfl
theorem Do{s:ByteArray}{k n:Nat}(hk:s.size<=k)(he:unL s.data.toList=ze n 46++unL (s.data.toList.drop k)):isd s.data.toList=if 1<=n/\n<=2 then n else 0:=by
 apply U0;rw[he,List.drop_of_length_le (by simpa using hk)];simp[unL,fN]
theorem sX{out:List ByteArray}{x:ByteArray}(h:isd (toL x)=0):eO out x=out++[x]:=by unfold eO;rw[if_pos h]
theorem QM{out:List ByteArray}{x:ByteArray}(h:isd (toL x)=1):eO out x=out:=by unfold eO;rw[if_neg om,if_neg om]
theorem QN{out:List ByteArray}{x:ByteArray}(h:isd (toL x)=2):eO out x=out.take (out.length-1):=by unfold eO;rw[if_neg om,if_pos h,List.dropLast_eq_take]
theorem yM(l:List ByteArray)(k:Nat)(h:k<l.length):dZ (l.take (k+1))=eO (dZ (l.take k)) (l.getD k zg):=by
 rw[uF l k h,kD]
theorem Dp(l:List ByteArray)(x:ByteArray):slL (l++[x])=slL l++47::toL x:=by simp[slL]
theorem Dq(l:List ByteArray)(k:Nat):(slL (l.take k)).length<=(slL l).length:=by
 conv=>rhs;rw[<-List.take_append_drop k l]
 unfold slL;rw[List.flatMap_append,zz];omega
theorem sl_jn(l:List ByteArray)(h:l≠[]):slL l=47::jn 47 l:=by
 cases l with
 |nil=>exact absurd rfl h
 |cons x l=>simp[slL,jn,toL]
theorem Fx:bE 47= -1:=de
theorem U4(a:UInt8)(r y:List UInt8)(h:nV (a::r)<0):nV (a::(r++47::y))<0:=by
 match r,h with
 |[],_=>
  match y with
  |[]=>show (-1:Int)<0;decide
  |c::_=>
   show gX a.toNat 47 c.toNat<0;unfold gX;rw[if_neg (fun h=>by have:=h.2.1;rw[Fx]at this;omega)]
   decide
 |[b],_=>
  show gX a.toNat b.toNat 47<0;unfold gX;rw[if_neg (fun h=>by have:=h.2.2;rw[Fx]at this;omega)]
  decide
 |b::c::r,h=>exact h
theorem E1{α:Type}(f g:UInt8->List α)(y x:List UInt8):fN f g (x++47::y)=fN f g x++(g 47++fN f g y):=by
 induction x using lU with
 |h0=>exact jA f g 47 y (NR 47 y de)
 |h1 a b c r h ih=>
  show fN f g (a::b::c::(r++47::y))=_;rw[qA f g a b c _ h,qA f g a b c _ h,ih,z0]
 |h2 a r h ih=>
  show fN f g (a::(r++47::y))=_;rw[jA f g a _ (U4 a r y h),jA f g a r h,ih,z0]
theorem XU{α:Type}(f g:UInt8->List α): ∀(K:List ByteArray) (z:List UInt8),fN f g (z++slL K)=fN f g z++K.flatMap fun x=>g 47++fN f g (toL x)
 |[],z=>by simp[slL]
 |x::K,z=>by
  have e:z++slL (x::K)=z++47::(toL x++slL K):=by simp[slL]
  rw[e,E1,XU f g K (toL x)];simp
theorem U5{α:Type}(f g:UInt8->List α)(K:List ByteArray):fN f g (slL K)=K.flatMap fun x=>g 47++fN f g (toL x):=XU f g K []
theorem U6:fH 1 47=[47]:=de
theorem Fy(K:List ByteArray):okL 1 (slL K)=K.all fun x=>okL 1 (toL x):=by
 unfold okL okT;rw[U5]
 induction K with
 |nil=>rfl
 |cons x K ih=>rw[zs,zu,ih,List.all_cons,zu];rfl
def plB(set:Int)(x:ByteArray):ByteArray:=⟨(plL set (toL x)).toArray⟩
theorem oD(set:Int)(x:ByteArray):toL (plB set x)=plL set (toL x):=rfl
theorem Fz(K:List ByteArray):plL 1 (slL K)=slL (K.map (plB 1)):=by
 unfold plL;rw[U5]
 induction K with
 |nil=>rfl
 |cons x K ih=>
  rw[zs,ih];have e:fH 1 (47:UInt8)=[47]:=U6;rw[e];simp[slL,oD,plL]
theorem QO: ∀n,n<16->oS n≠47:=by decide+kernel
theorem QP(c:UInt8): ∀b∈oZ c,b≠47:=by
 intro b hb;have hc:=c.toNat_lt;unfold oZ at hb;simp only[za,zd,or_false]at hb
 rcases hb with rfl|rfl|rfl
 .decide
 .exact QO _ om
 exact QO _ om
theorem E2(c:UInt8): ∀b∈gZ c,b≠47:=by
 intro b hb;unfold gZ at hb;split at hb
 .next h=>
  rw[zh.1 hb];intro e;rw[e]at h;exact absurd h de
 exact QP c b hb
theorem E3(set:Int)(c:UInt8)(h:c≠47): ∀b∈fH set c,b≠47:=by
 intro b hb;unfold fH at hb;split at hb
 .rw[zh.1 hb];exact h
 exact QP c b hb
theorem Ds(set:Int)(l:List UInt8):(∀c∈l,c≠47)-> ∀b∈plL set l,b≠47:=by
 induction l using lU with
 |h0=>intro _ b hb;simp[plL,fN]at hb
 |h1 a b c r h ih=>
  intro hl x hx;rw[KV set a b c r h]at hx
  rcases zc.1 hx with h1|h1
  .exact E2 _ x h1
  exact ih (fun y hy=>hl y (by simp[hy])) x h1
 |h2 a r h ih=>
  intro hl x hx;rw[vD set a r h]at hx
  rcases zc.1 hx with h1|h1
  .exact E3 set a (hl a j2) x h1
  exact ih (fun y hy=>hl y (by simp[hy])) x h1
theorem Hb{K M:List ByteArray}(hK: ∀x∈K,∀c∈toL x,c≠47)(hM: ∀x∈M,∀c∈toL x,c≠47)(h:slL K=slL M):K=M:=by
 have key: ∀{L:List ByteArray},(∀x∈L,∀c∈toL x,c≠47)->spl 47 (slL L)=[]::L.map toL:=fun {L} hL=>by
  rw[Fw,xS 47 j2];intro x hx c hc
  rcases za.1 hx with h1|h1
  .subst h1;cases hc
  obtain ⟨y,hy,rfl⟩:=zt.1 h1;exact hL y hy c hc
 have h1:=key hK;rw[h,key hM]at h1;simp only[z7.injEq,true_and]at h1;exact (rZ h1).symm
def MH(p:ByteArray):Prop:=bR p=true/\okL 1 (toL p)=true/\plL 1 (toL p)=toL p/\cE p=p
theorem QQ{p:ByteArray}(hr:bR p=true)(ho:okL 1 (toL p)=true)(hp:plL 1 (toL p)=toL p): ∀x∈bD p,okL 1 (toL x)=true/\plL 1 (toL x)=toL x:=by
 have hs:=wM hr;have hno:=QJ p;have h1:slL ((bD p).map (plB 1))=slL (bD p):=by
  rw[<-Fz,hs];exact hp
 have h2:(bD p).map (plB 1)=bD p:=by
  refine Hb ?_ hno h1;intro x hx c hc;obtain ⟨y,hy,rfl⟩:=zt.1 hx;exact Ds 1 (toL y) (hno y hy) c hc
 have h3:((bD p).all fun x=>okL 1 (toL x))=true:=by
  rw[<-Fy,hs];exact ho
 intro x hx;refine ⟨z3.1 h3 x hx,?_⟩;obtain ⟨i,hi,rfl⟩:=List.getElem_of_mem hx;have h4:=congrArg (fun l=>l[i]?) h2;simp only[List.getElem?_map,List.getElem?_eq_getElem hi,Option.map_some,Option.some.injEq]at h4;rw[<-oD,h4]
theorem UU{p:ByteArray}(hr:bR p=true)(ho:okL 1 (toL p)=true)(hp:plL 1 (toL p)=toL p):MH (cE p):=by
 have hk: ∀x∈dB (bD p),okL 1 (toL x)=true/\plL 1 (toL x)=toL x:=fun x hx=>by
  rcases (ED hx).1 with h|h
  .exact QQ hr ho hp x h
  rw[h];exact ⟨rfl,rfl⟩
 have hd:toL (cE p)=slL (dB (bD p)):=nK hr;refine ⟨wN hr,?_,?_,QL hr⟩
 .rw[hd,Fy]
  exact z3.2 fun x hx=>(hk x hx).1
 rw[hd,Fz]
 congr 1
 conv=>rhs;rw[<-List.map_id (dB (bD p))]
 refine zx fun x hx=> ?_
 apply bX;exact (hk x hx).2
theorem JH{p:ByteArray}{r:List UInt8}(h:toL p=47::r):bR p=true:=by
 unfold bR;rw[show p.data.toList=_ from h];rfl
theorem E4{q:ByteArray}(h:bR q=true):MH (cE (plB 1 q)):=by
 obtain ⟨r,hr⟩:=iR h;have hq:toL (plB 1 q)=47::plL 1 r:=by
  rw[oD,show toL q=_ from hr,vD 1 47 r (NR 47 r de),U6];rfl
 refine UU (JH hq) ?_ ?_
 .rw[oD];exact NU 1 de _
 rw[oD];exact J7 1 de _
theorem QR(set:Int)(l:List UInt8):okL set l=true-> ∀b∈l,dV set b.toNat=true∨b=37∨0<=bE b.toNat:=by
 induction l using lU with
 |h0=>intro _ b hb;cases hb
 |h1 a b c r h ih=>
  intro ho x hx;have ho2:okL set r=true:=by
   unfold okL okT at ho⊢;rw[qA _ _ a b c r h]at ho;exact ho
  have hp:a.toNat=37/\0<=bE b.toNat/\0<=bE c.toNat:=by
   unfold gX at h;split at h
   .next hc=>exact hc
   omega
  simp only[za]at hx
  rcases hx with rfl|rfl|rfl|hx
  .exact .inr (.inl (z5.1 hp.1))
  .exact .inr (.inr hp.2.1)
  .exact .inr (.inr hp.2.2)
  exact ih ho2 x hx
 |h2 a r h ih=>
  intro ho x hx;unfold okL okT at ho;rw[jA _ _ a r h,zu,zn]at ho
  rcases za.1 hx with rfl|hx
  .refine .inl ?_
   have h1:=ho.1;simpa using h1
  exact ih ho.2 x hx
def cJ(s:Int):Int:=if s=1 then 80 else if s=2 then 443 else 0
theorem AE(s:Int)(w:World):Calls prog 37 #[.int .i64 s] w fun e w'=>e=.returned (.int .i64 (cJ s))/\w=w':=by
 by_cases h1:s=1
 .subst h1
  go_enter func37,ntmps37;go_wp2;go_ret;exact ⟨rfl,rfl⟩
 have q1:(s==1)=false:=beq_eq_false_iff_ne.2 h1
 by_cases h2:s=2
 .subst h2
  go_enter func37,ntmps37;go_wp2;go_ret;exact ⟨rfl,rfl⟩
 have q2:(s==2)=false:=beq_eq_false_iff_ne.2 h2;have HD:Hid (cJ s=0):=by show _=_;unfold cJ;rw[if_neg h1,if_neg h2]
 clear h1 h2;go_enter func37,ntmps37;go_wp2;go_ret;exact ⟨aR (by rw[HD.out]),rfl⟩
theorem rG(s:Int)(w:World):Calls prog 17 #[.int .i64 s] w fun e w'=>e=.returned (.int .i64 (cJ s))/\w=w':=by
 by_cases h1:s=1
 .subst h1
  go_enter func17,ntmps17;go_wp2;go_ret;exact ⟨rfl,rfl⟩
 have q1:(s==1)=false:=beq_eq_false_iff_ne.2 h1
 by_cases h2:s=2
 .subst h2
  go_enter func17,ntmps17;go_wp2;go_ret;exact ⟨rfl,rfl⟩
 have q2:(s==2)=false:=beq_eq_false_iff_ne.2 h2;have HD:Hid (cJ s=0):=by show _=_;unfold cJ;rw[if_neg h1,if_neg h2]
 clear h1 h2;go_enter func17,ntmps17;go_wp2;go_ret;exact ⟨aR (by rw[HD.out]),rfl⟩
end
section
open Go.RowKit
set_option linter.unusedVariables false
def kN:List UInt8:=[32,9,10,13]
def pL:List UInt8:=[104,116,116,112,58]
def kE:List UInt8:=[104,116,116,112,115,58]
def iX(s:Int):List UInt8:=if s=1 then pL else kE
def jS(n:Nat):List UInt8:=if n<10 then [dgU n]else if n<100 then [dgU (n/10),dgU (n%10)]else if n<1000 then [dgU (n/100),dgU (n/10%10),dgU (n%10)]
 else if n<10000 then [dgU (n/1000),dgU (n/100%10),dgU (n/10%10),dgU (n%10)]else [dgU (n/10000),dgU (n/1000%10),dgU (n/100%10),dgU (n/10%10),dgU (n%10)]
def jH(s p:Int):List UInt8:=if p=cJ s then []else 58::jS p.toNat
def eC(l:List UInt8):List UInt8:=((Lib.trimS l kN).takeWhile fun c=>c !=35).filter fun c=>c !=9&&c !=10&&c !=13
def slB(c:UInt8):Bool:=c==47||c==92
def eT(t:List UInt8):Option (Int×List UInt8):=
 if 6<t.length/\(aF t).take 5=pL/\slB (t.getD 5 0)=true/\slB (t.getD 6 0)=true then some (1,t.drop 5)
 else if 7<t.length/\(aF t).take 6=kE/\slB (t.getD 6 0)=true/\slB (t.getD 7 0)=true then some (2,t.drop 6)else none
def dJ(c:UInt8):Bool:= !(slB c||c==63)
def pM(l:List UInt8):Nat->Nat
 |0=>0
 |k+1=>if l.getD k 0=93 then k else pM l k
def yN(l:List UInt8):Option Nat:=((l.drop (pM l l.length)).findIdx? fun c=>c==58).map fun k=>k+pM l l.length
def eA(l:List UInt8):List UInt8:=l.map fun c=>if c=92 then 47 else c
def yO(l:List UInt8):List UInt8:=if l=[]then [47]else l
def eP(s:Int)(p:List UInt8):Int:=if p=[]then cJ s else match cU 10 5 p with
 |none=> -1
 |some n=>(n:Int)
theorem sY{n:Nat}(h0:10<=n)(h:n<100000):jS n=jS (n/10)++[dgU (n%10)]:=by
 unfold jS
 by_cases h1:n<100
 .rw[if_neg om,if_pos h1,if_pos om];rfl
 rw[if_neg om,if_neg h1,if_neg (by omega: ¬n/10<10)]
 by_cases h2:n<1000
 .rw[if_pos h2,if_pos om,zf];rfl
 rw[if_neg h2,if_neg (by omega: ¬n/10<100)]
 by_cases h3:n<10000
 .rw[if_pos h3,if_pos om,zf,zf];rfl
 rw[if_neg h3,if_neg (by omega: ¬n/10<1000),if_pos om,zf,zf,zf];rfl
theorem Dt: ∀i,i<10->bE (dgU i).toNat=(i:Int):=by decide+kernel
theorem fS{i n:Nat}(h:i<10)(r:List UInt8):eU 10 n (dgU i::r)=eU 10 (n*10+i) r:=by
 rw[eU,Dt i h,if_pos om]
 congr 1
theorem U7{n:Nat}(h:n<100000):cU 10 5 (jS n)=some n:=by
 unfold jS cU;split
 .rw[if_pos j2,fS om,eU];congr 1;omega
 split
 .rw[if_pos j2,fS om,fS om,eU];congr 1;omega
 split
 .rw[if_pos j2,fS om,fS om,fS om,eU];congr 1;omega
 split
 .rw[if_pos j2,fS om,fS om,fS om,fS om,eU];congr 1;omega
 rw[if_pos j2,fS om,fS om,fS om,fS om,fS om,eU];congr 1;omega
theorem wO: ∀i,i<10->gS (dgU i)=true:=by decide+kernel
theorem QS{n:Nat}(h:n<100000):(∀c∈jS n,gS c=true)/\jS n≠[]:=by
 unfold jS;split
 .exact ⟨fun c hc=>by simp only[za,zd,or_false]at hc;rw[hc];exact wO _ om,by simp⟩
 split
 .exact ⟨fun c hc=>by simp only[za,zd,or_false]at hc;rcases hc with e|e<;>rw[e]<;>exact wO _ om,by simp⟩
 split
 .exact ⟨fun c hc=>by simp only[za,zd,or_false]at hc;rcases hc with e|e|e<;>rw[e]<;>exact wO _ om,by simp⟩
 split
 .exact ⟨fun c hc=>by simp only[za,zd,or_false]at hc;rcases hc with e|e|e|e<;>rw[e]<;>exact wO _ om,by simp⟩
 exact ⟨fun c hc=>by simp only[za,zd,or_false]at hc;rcases hc with e|e|e|e|e<;>rw[e]<;>exact wO _ om,by simp⟩
structure UV where
 s:Int
 h:HV
 p:Int
 a:ByteArray
 q:Bool
 r:ByteArray
def fF(u:UV):List UInt8:=iX u.s++47::47::(toL (hTx u.h)++jH u.s u.p)
def dD(u:UV):List UInt8:=if u.q then toL u.a++63::toL u.r else toL u.a
def uOk(u:UV):Bool:=decide (cJ u.s≠0)&&hOk u.h&&decide (1<=u.p/\u.p<=65535)&&bR u.a&&(u.q||decide (u.r.size=0))&&
 okL 1 (toL u.a)&&decide (plL 1 (toL u.a)=toL u.a)&&decide (toL (cE u.a)=toL u.a)&&okL 2 (toL u.r)&&decide (plL 2 (toL u.r)=toL u.r)
def uTx(u:UV):List UInt8:=if uOk u=true then fF u++dD u else []
def oE(s:Int)(h:HV)(p:Int)(l:List UInt8):UV:=
 ⟨s,h,p,cE (plB 1 ⟨(eA (yO (l.takeWhile fun c=>c !=63))).toArray⟩),!(l.dropWhile fun c=>c !=63).isEmpty,plB 2 ⟨((l.dropWhile fun c=>c !=63).drop 1).toArray⟩⟩
def fJ:UV:=⟨0,⟨0,⟨#[]⟩,0,jF⟩,0,⟨#[]⟩,false,⟨#[]⟩⟩
def MI(u:UV):Int×UV:=if (fF u).length+(dD u).length<=2000 then (0,u)else (1,fJ)
def tK(s p:Int)(auth rest:List UInt8):Int×UV:=if rC (aO ⟨auth.toArray⟩)=0 then MI (oE s (rV (aO ⟨auth.toArray⟩)) p rest)else (4,fJ)
def MJ(s:Int)(auth rest:List UInt8):Int×UV:=match yN auth with
 |none=>tK s (cJ s) auth rest
 |some k=>if 1<=eP s (auth.drop (k+1))/\eP s (auth.drop (k+1))<=65535 then tK s (eP s (auth.drop (k+1))) (auth.take k) rest else (5,fJ)
def zN(s:Int)(auth rest:List UInt8):Int×UV:=if auth.contains 64=true then (3,fJ)else MJ s auth rest
def uP(s:Int)(t:List UInt8):Int×UV:=zN s ((t.dropWhile slB).takeWhile dJ) ((t.dropWhile slB).dropWhile dJ)
def sB(t:List UInt8):Int×UV:=match eT t with
 |none=>(2,fJ)
 |some (s,t)=>uP s t
def cG(l:List UInt8):Int×UV:=if 2000<l.length then (1,fJ)else sB (eC l)
end
section
open Go.RowKit
def upB(c:UInt8)(l:List UInt8):List UInt8:=l.takeWhile fun x=>x !=c
def cZ(c:UInt8)(l:List UInt8):List UInt8:=(l.dropWhile fun x=>x !=c).drop 1
theorem lF(c:UInt8): ∀l:List UInt8,Lib.index l [c]=if l.contains c then ((upB c l).length:Int)else-1
 |[]=>rfl
 |b::l=>by
  have ih:=lF c l;unfold upB at ih⊢;unfold Lib.index
  by_cases h:b=c
  .subst h
   simp
  have h1:([c].isPrefixOf (b::l))=false:=by
   simp[List.isPrefixOf,Ne.symm h]
  have h2:(b::l).contains c=l.contains c:=by
   simp[Ne.symm h]
  have h3:(b !=c)=true:=bne_iff_ne.2 h;rw[h1,h2,ih,zy,h3]
  cases hc:l.contains c
  .simp
  have h4:(((List.takeWhile (fun x=>x !=c) l).length:Int)== -1)=false:=beq_eq_false_iff_ne.2 om;simp[h4]
theorem yP(c:UInt8)(l:List UInt8):(l.contains c=true->l=upB c l++c::cZ c l)/\(l.contains c=false->upB c l=l/\cZ c l=[])/\c∉upB c l:=by
 unfold upB cZ
 induction l with
 |nil=>simp
 |cons b l ih=>
  by_cases h:b=c
  .subst h;simp
  have h3:(b !=c)=true:=bne_iff_ne.2 h;have h2:(b::l).contains c=l.contains c:=by simp[Ne.symm h]
  rw[h2,zy,List.dropWhile_cons,h3];refine ⟨fun hc=> ?_,fun hc=> ?_,?_⟩
  .have:=ih.1 hc
   simp only[if_true,List.cons_append,z7.injEq,true_and];exact this
  .have:=ih.2.1 hc
   simp only[if_true,this.1,this.2,and_self]
  simp only[if_true,za,not_or];exact ⟨Ne.symm h,ih.2.2⟩
