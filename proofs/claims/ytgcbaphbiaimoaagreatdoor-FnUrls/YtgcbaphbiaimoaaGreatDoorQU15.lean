/- AddrBack, HostBack, DotPlain, UrlPath, DportWalk, UrlBits, UrlPlain. -/
import Derived.Test.YtgcbaphbiaimoaaGreatDoorQU14
import Derived.Lib.SlTrimSet
set_option maxHeartbeats 1000000
namespace Go.Proofs.YtgcbaphbiaimoaaGreatDoor
open Go.RowKit
theorem znHz(n:Int):(xPz n).size≤100:=by
 unfold xPz
 show (xYz n.toNat).toArray.size≤100
 rw[List.size_toArray]
 unfold xYz
 have h1:=xbz (n.toNat/16777216)
 have h2:=xbz (n.toNat/65536%256)
 have h3:=xbz (n.toNat/256%256)
 have h4:=xbz (n.toNat%256)
 simp
 omega
theorem zmvz{z:List Int}(h:zhez z): ∀g∈z.map Int.toNat,g<65536:=by
 intro g hg
 obtain ⟨x,hx,rfl⟩:=List.mem_map.1 hg
 have:=h.2 x hx
 omega
theorem zsGz{z:List Int}(h:zhez z):okG z=true:=zeKz h.2
theorem zpvz{x0 x1 x2 x3 x4 x5 x6 x7:Int}(h:zhez [x0,x1,x2,x3,x4,x5,x6,x7]):yAz (xhz [x0,x1,x2,x3,x4,x5,x6,x7])=some ([x0,x1,x2,x3,x4,x5,x6,x7].map Int.toNat):=by
 unfold xhz
 rw[if_pos (zsGz h)]
 have hr:=zdWz x0 x1 x2 x3 x4 x5 x6 x7
 have hle:=zifz hr
 unfold zcpz at hr
 have hz: ∀i,i<8→(zb [x0,x1,x2,x3,x4,x5,x6,x7]).getD i false=true→([x0,x1,x2,x3,x4,x5,x6,x7].map Int.toNat).getD i 0=0:=by
  intro i hi hb
  have h8:i=0∨i=1∨i=2∨i=3∨i=4∨i=5∨i=6∨i=7:=by omega
  rcases h8 with rfl|rfl|rfl|rfl|rfl|rfl|rfl|rfl<;>simp[zb]at hb⊢ <;>omega
 generalize vfz 0 (0,0,0) (zb [x0,x1,x2,x3,x4,x5,x6,x7])=p at hr hle⊢
 simp only[Bool.and_eq_true,decide_eq_true_eq]at hr
 by_cases c:p.2.1-p.1<2
 ·unfold ip6T
  rw[if_pos c]
  exact zmhz rfl (zmvz h)
 have h3:=hr.2
 rw[if_neg c]at h3
 simp only[Bool.and_eq_true,decide_eq_true_eq,List.all_eq_true,List.mem_range,Bool.or_eq_true,Bool.not_eq_true',Bool.and_eq_false_iff,decide_eq_false_iff_not]at h3
 refine zncz rfl (zmvz h) hle.2 ?_
 intro i h1 h2
 refine hz i (by omega) ?_
 rcases h3.2 i (by omega)with h4|h4
 ·omega
 exact h4
end Go.Proofs.YtgcbaphbiaimoaaGreatDoor
namespace Go.Proofs.YtgcbaphbiaimoaaGreatDoor
open Go.RowKit
set_option linter.unusedVariables false
theorem zshz: ∀{l:List UInt8},(∀c∈l,c.toNat≠37)→unL l=l
 |[],_=>rfl
 |c::r,h=>by
  rw[zl4z c r (ziYz c r (h c List.mem_cons_self)),zshz fun x hx=>h x (List.mem_cons_of_mem _ hx)]
theorem zfCz: ∀{ls:List ByteArray},(∀a∈ls,yFz a.data.toList=true)→ ∀c∈jn 46 ls,xRz c=true∨c=46:=by
 intro ls h c hc
 cases ls with
 |nil=>simp[jn]at hc
 |cons x xs=>
  unfold jn at hc
  rcases List.mem_append.1 hc with h1|h1
  ·exact .inl ((ymz (h x List.mem_cons_self)).2.2.2.2 c h1)
  obtain ⟨y,hy,h2⟩:=List.mem_flatMap.1 h1
  rcases List.mem_cons.1 h2 with h3|h3
  ·exact .inr h3
  exact .inl ((ymz (h y (List.mem_cons_of_mem _ hy))).2.2.2.2 c h3)
theorem zmwz{c:UInt8}(h:xRz c=true∨c=46):c.toNat≠37∧c≠91:=by
 rcases h with h|rfl
 ·rcases vDz h with h1|h1|h1
  ·exact ⟨by omega,fun e=>by rw[e]at h1;simp at h1⟩
  ·exact ⟨by omega,fun e=>by rw[e]at h1;simp at h1⟩
  exact ⟨by omega,fun e=>by rw[e]at h1;simp at h1⟩
 exact ⟨by decide,by decide⟩
theorem zfDz{s:ByteArray}(h:z7z s=some s.data.toList):znz s=vaz s.data.toList∧0<s.size:=by
 obtain ⟨ls,hne,_,_,hl,hj,_,_,hp⟩:=zbRz h
 have hch: ∀c∈s.data.toList,xRz c=true∨c=46:=by
  rw[hj]
  exact zfCz fun a ha=>(hl a ha).1
 have hp':0<s.size:=by simpa using hp
 refine ⟨?_,hp'⟩
 have h0:s[0]∈s.data.toList:=by
  rw[jmz s hp']
  exact List.mem_cons_self
 rw[zcsz hp' (fun e=>(zmwz (hch _ h0)).2 (jgz e))]
 unfold xyz unB
 rw[zshz fun c hc=>(zmwz (hch c hc)).1,zbqz,h]
theorem zmxz: ∀v,v<256→okA (zPz v)=true:=by decide+kernel
theorem zpwz: ∀v,v<256→endT ⟨(zPz v).toArray⟩=true:=by decide+kernel
theorem zsHz(n:Nat):jn 46 [⟨(zPz (n/16777216)).toArray⟩,⟨(zPz (n/65536%256)).toArray⟩,⟨(zPz (n/256%256)).toArray⟩,⟨(zPz (n%256)).toArray⟩]=xYz n:=by
 simp[jn,xYz]
theorem zjMz{n:Nat}(hn:n<4294967296):z7z ⟨(xYz n).toArray⟩=some (xYz n):=by
 have hv: ∀a∈([⟨(zPz (n/16777216)).toArray⟩,⟨(zPz (n/65536%256)).toArray⟩,⟨(zPz (n/256%256)).toArray⟩,⟨(zPz (n%256)).toArray⟩]:List ByteArray),∃v,v<256∧a=⟨(zPz v).toArray⟩:=by
  intro a ha
  simp only[List.mem_cons,List.not_mem_nil,or_false]at ha
  rcases ha with rfl|rfl|rfl|rfl
  ·exact ⟨_,by omega,rfl⟩
  ·exact ⟨_,by omega,rfl⟩
  ·exact ⟨_,by omega,rfl⟩
  exact ⟨_,by omega,rfl⟩
 have hj:=zsHz n
 generalize ([⟨(zPz (n/16777216)).toArray⟩,⟨(zPz (n/65536%256)).toArray⟩,⟨(zPz (n/256%256)).toArray⟩,⟨(zPz (n%256)).toArray⟩]:List ByteArray)=ls at hv hj
 have hlab: ∀a∈ls,yFz a.data.toList=true:=by
  intro a ha
  obtain ⟨v,hv1,rfl⟩:=hv a ha
  exact ziaz (zmxz v hv1)
 have hasc: ∀a∈ls,jTz a=some a:=by
  intro a ha
  obtain ⟨v,hv1,rfl⟩:=hv a ha
  unfold jTz
  rw[show (⟨(zPz v).toArray⟩:ByteArray).data.toList=zPz v from rfl,zfrz (zmxz v hv1)]
 have hne:ls≠[]:=by
  intro h0
  rw[h0]at hj
  have:=congrArg List.length hj
  simp[jn,xYz]at this
 rw[←hj]
 unfold z7z
 rw[zhbz hne hlab,zfxz hlab]
 refine vEz (zdVz hasc) ?_
 rw[hj]
 have:=znHz (n:Int)
 unfold xPz at this
 have e:(xYz n).length=(⟨(xYz ((n:Int).toNat)).toArray⟩:ByteArray).size:=by
  show _=(xYz ((n:Int).toNat)).toArray.size
  rw[List.size_toArray]
  rfl
 omega
theorem zpxz{n:Nat}(hn:n<4294967296):jqz ⟨(xYz n).toArray⟩=true:=by
 have h:=zg7z ⟨(xYz n).toArray⟩ (zPz (n/16777216)++46::(zPz (n/65536%256)++46::(zPz (n/256%256)++[46]))) (zPz (n%256)) (by simp[xYz])
  (.inr ⟨zPz (n/16777216)++46::(zPz (n/65536%256)++46::zPz (n/256%256)),by simp⟩) (zmaz (by omega))
 unfold jqz
 have e:zaxz ⟨(xYz n).toArray⟩=⟨(zPz (n%256)).toArray⟩:=zbrz h
 rw[e]
 exact zpwz _ (by omega)
theorem znIz{n:Nat}(hn:n<4294967296):vaz (xYz n)=.fo n:=by
 unfold vaz
 rw[if_pos (zpxz hn),zhRz hn rfl]
theorem zpyz(t:Bool): ∀{fs:List (List UInt8)} {g:List Nat},grp t fs=some g→ ∀x∈g,x<65536
 |[],g,h,x,hx=>by cases h;simp at hx
 |y::r,g,h,x,hx=>by
  rw[grp]at h
  split at h
  ·rename_i n hn
   cases h
   have hn4:n<4294967296:=by
    split at hn
    ·exact (jXz hn).1
    cases hn
   simp only[List.mem_cons,List.not_mem_nil,or_false]at hx
   omega
  split at h
  ·cases h
  rename_i v hv
  cases hr:grp t r with
  |none=>rw[hr]at h;cases h
  |some q=>
   rw[hr]at h
   cases h
   rcases List.mem_cons.1 hx with rfl|h2
   ·unfold g16 at hv
    split at hv
    ·cases hv
    exact zfyz hv
   exact zpyz t hr x h2
theorem ziqz(t:Bool){l:List UInt8}{g:List Nat}(h:yiz t l=some g): ∀x∈g,x<65536:=by
 unfold yiz at h
 split at h
 ·cases h
  intro x hx
  simp at hx
 exact zpyz t h
theorem zrvz{l:List UInt8}{g:List Nat}(h:yAz l=some g): ∀x∈g,x<65536:=by
 unfold yAz at h
 split at h
 ·split at h
  ·cases h
  rename_i q hq
  split at h
  ·cases h
   exact ziqz true hq
  cases h
 split at h
 ·rename_i a b ha hb
  split at h
  ·cases h
   intro x hx
   unfold x0z at hx
   rcases List.mem_append.1 hx with h1|h1
   ·rcases List.mem_append.1 h1 with h2|h2
    ·exact ziqz false ha x h2
    rw[(List.mem_replicate.1 h2).2]
    decide
   exact ziqz true hb x h1
  cases h
 cases h
theorem zrwz{g:List Nat}(h: ∀x∈g,x<65536):okG (g.map fun (x:Nat)=>(x:Int))=true:=by
 refine zeKz ?_
 intro x hx
 obtain ⟨y,hy,rfl⟩:=List.mem_map.1 hx
 have:=h y hy
 omega
theorem zmyz(s:ByteArray):(∃c,znz s=.bad c∧1≤c∧c≤4)∨(hOk (rV (znz s))=true∧rC (znz s)=0):=by
 have key: ∀l,(∃c,vaz l=.bad c∧1≤c∧c≤4)∨z7z ⟨l.toArray⟩=some l→(∃c,vaz l=.bad c∧1≤c∧c≤4)∨(hOk (rV (vaz l))=true∧rC (vaz l)=0):=by
  intro l hl
  rcases hl with hl|hl
  ·exact .inl hl
  unfold vaz
  split
  ·cases h:loA ⟨l.toArray⟩with
   |none=>exact .inl ⟨4,rfl,by decide,by decide⟩
   |some v=>
    have:=zk0z h
    refine .inr ⟨?_,rfl⟩
    show hOk ⟨2,⟨#[]⟩,v,xmz⟩=true
    unfold hOk
    rw[if_neg (show ¬(2:Int)=1 by decide),if_pos rfl]
    simp only[Bool.and_eq_true,decide_eq_true_eq]
    exact ⟨⟨rfl,by omega,by omega⟩,trivial⟩
  rename_i he
  refine .inr ⟨?_,rfl⟩
  show hOk ⟨1,⟨l.toArray⟩,0,xmz⟩=true
  unfold hOk
  rw[if_pos rfl]
  have he':jqz ⟨l.toArray⟩=false:=by simpa using he
  simp[hl,he']
 unfold znz
 split
 ·exact .inl ⟨1,rfl,by decide,by decide⟩
 rename_i c r hl
 split
 ·unfold xIz
  split
  ·cases h:yAz r.dropLast with
   |none=>exact .inl ⟨2,rfl,by decide,by decide⟩
   |some g=>
    refine .inr ⟨?_,rfl⟩
    show hOk ⟨3,⟨#[]⟩,0,g.map fun (x:Nat)=>(x:Int)⟩=true
    unfold hOk
    rw[if_neg (show ¬(3:Int)=1 by decide),if_neg (show ¬(3:Int)=2 by decide),if_pos rfl]
    simp only[zrwz (zrvz h)]
    rfl
  exact .inl ⟨2,rfl,by decide,by decide⟩
 unfold xyz
 split
 ·exact .inl ⟨3,rfl,by decide,by decide⟩
 rename_i n hn
 obtain ⟨_,_,_,_,_,_,hb,_,_⟩:=zbRz hn
 exact key n (.inr hb)
theorem zlmz{s:ByteArray}{c:UInt8}{r:List UInt8}(h:s.data.toList=c::r):znz s=if c=91 then xIz r else xyz s:=by
 unfold znz
 rw[h]
theorem znJz{k n:Int}{s:ByteArray}{x0 x1 x2 x3 x4 x5 x6 x7:Int}(h:hOk ⟨k,s,n,[x0,x1,x2,x3,x4,x5,x6,x7]⟩=true):0<(hTx ⟨k,s,n,[x0,x1,x2,x3,x4,x5,x6,x7]⟩).size∧rV (znz (hTx ⟨k,s,n,[x0,x1,x2,x3,x4,x5,x6,x7]⟩))=⟨k,s,n,[x0,x1,x2,x3,x4,x5,x6,x7]⟩∧rC (znz (hTx ⟨k,s,n,[x0,x1,x2,x3,x4,x5,x6,x7]⟩))=0:=by
 unfold hTx
 rw[if_pos h]
 unfold hOk at h
 simp only at h⊢
 by_cases h1:k=1
 ·subst h1
  rw[if_pos rfl]at h⊢
  simp only[Bool.and_eq_true,decide_eq_true_eq,Bool.not_eq_true']at h
  obtain ⟨⟨⟨h1,h2⟩,h3⟩,h4⟩:=h
  obtain ⟨h5,h6⟩:=zfDz h1
  have h7:vaz s.data.toList=.nm s.data.toList:=by
   unfold vaz
   rw[zbqz,if_neg (by rw[h2];decide)]
  rw[h5,h7]
  refine ⟨h6,?_,rfl⟩
  show HV.mk 1 ⟨s.data.toList.toArray⟩ 0 xmz=_
  rw[zbqz,h3,h4]
 rw[if_neg h1]at h⊢
 by_cases h2:k=2
 ·subst h2
  rw[if_pos rfl]at h⊢
  simp only[Bool.and_eq_true,decide_eq_true_eq]at h
  obtain ⟨⟨h3,h4,h5⟩,h6⟩:=h
  have hn:n.toNat<4294967296:=by omega
  have hs:s=⟨#[]⟩:=zbrz (List.eq_nil_of_length_eq_zero (by simpa using h3))
  have hr:znz (xPz n)=.fo n.toNat∧0<(xPz n).size:=by
   have hnm:z7z (xPz n)=some (xPz n).data.toList:=zjMz hn
   obtain ⟨a,b⟩:=zfDz hnm
   refine ⟨?_,b⟩
   rw[a]
   exact znIz hn
  rw[hr.1]
  refine ⟨hr.2,?_,rfl⟩
  show HV.mk 2 ⟨#[]⟩ ((n.toNat:Nat):Int) xmz=_
  rw[Int.toNat_of_nonneg h4,hs,h6]
 rw[if_neg h2]at h⊢
 by_cases h3:k=3
 ·subst h3
  rw[if_pos rfl]at h
  simp only[Bool.and_eq_true,decide_eq_true_eq]at h
  obtain ⟨⟨h4,h5⟩,h6⟩:=h
  have h8:=ziez h6
  have hsix:zhez [x0,x1,x2,x3,x4,x5,x6,x7]:=⟨rfl,h8⟩
  have hs:s=⟨#[]⟩:=zbrz (List.eq_nil_of_length_eq_zero (by simpa using h4))
  have hr:znz ⟨(91::(xhz [x0,x1,x2,x3,x4,x5,x6,x7]++[93])).toArray⟩=.si ([x0,x1,x2,x3,x4,x5,x6,x7].map Int.toNat):=by
   rw[zlmz (c:=91) (r:=xhz [x0,x1,x2,x3,x4,x5,x6,x7]++[93]) rfl,if_pos rfl]
   unfold xIz
   rw[List.getLast?_concat,if_pos rfl,List.dropLast_concat,zpvz hsix]
   rfl
  rw[hr]
  refine ⟨?_,?_,rfl⟩
  ·show 0<(91::(xhz [x0,x1,x2,x3,x4,x5,x6,x7]++[93])).toArray.size
   simp
  show HV.mk 3 ⟨#[]⟩ 0 (([x0,x1,x2,x3,x4,x5,x6,x7].map Int.toNat).map fun (y:Nat)=>(y:Int))=_
  have e:([x0,x1,x2,x3,x4,x5,x6,x7].map Int.toNat).map (fun (y:Nat)=>(y:Int))=[x0,x1,x2,x3,x4,x5,x6,x7]:=by
   rw[List.map_map]
   conv=>rhs;rw[←List.map_id [x0,x1,x2,x3,x4,x5,x6,x7]]
   refine List.map_congr_left ?_
   intro y hy
   have:=(h8 y hy).1
   simp only[Function.comp,id]
   omega
  rw[e,hs,h5]
 rw[if_neg h3]at h
 cases h
end Go.Proofs.YtgcbaphbiaimoaaGreatDoor
namespace Go.Proofs.YtgcbaphbiaimoaaGreatDoor
open Go.RowKit
def isd(l:List UInt8):Nat:=if unL l=[46]then 1 else if unL l=[46,46]then 2 else 0
theorem zlnz(l:List UInt8):isd l≤2:=by unfold isd;split;omega;split<;>omega
theorem zeQz:isd []=0:=by decide
theorem zpzz{l:List UInt8}{n:Nat}(h:unL l=List.replicate n 46):isd l=if 1≤n∧n≤2 then n else 0:=by
 unfold isd
 rw[h]
 match n with
 |0=>decide
 |1=>decide
 |2=>decide
 |n+3=>
  have h1: ¬(List.replicate (n+3) (46:UInt8)=[46]):=fun e=>by have:=congrArg List.length e;simp at this
  have h2: ¬(List.replicate (n+3) (46:UInt8)=[46,46]):=fun e=>by have:=congrArg List.length e;simp at this
  rw[if_neg h1,if_neg h2,if_neg (by omega)]
theorem zhfz{l:List UInt8}{n:Nat}{c:UInt8}{r:List UInt8}(h:unL l=List.replicate n 46++c::r)(hc:c≠46):isd l=0:=by
 have hm:c∈unL l:=by rw[h];simp
 unfold isd
 rw[if_neg,if_neg]
 ·intro e;rw[e]at hm;simp at hm;exact hc hm
 intro e;rw[e]at hm;simp at hm;exact hc hm
def yXz(out:List ByteArray)(x:ByteArray):List ByteArray:=if isd (toL x)=0 then out++[x]else if isd (toL x)=2 then out.dropLast else out
def yHz(l:List ByteArray):List ByteArray:=l.foldl yXz []
def zbaz(l:List ByteArray):ByteArray:=l.getD (l.length-1) ByteArray.empty
def ylz(l:List ByteArray):List ByteArray:=if isd (toL (zbaz l))=0 then yHz l else yHz l++[ByteArray.empty]
def slL(l:List ByteArray):List UInt8:=l.flatMap fun x=>47::toL x
def zCz(p:ByteArray):List ByteArray:=(zaz p 47).drop 1
def zSz(p:ByteArray):Bool:=p.data.toList.head? ==some 47
def zLz(p:ByteArray):ByteArray:=if zSz p then ⟨(slL (ylz (zCz p))).toArray⟩else p
theorem zbuz{a b:List ByteArray}(h:a.map toL=b.map toL):a=b:=by
 induction a generalizing b with
 |nil=>cases b with
  |nil=>rfl
  |cons _ _=>simp at h
 |cons x a ih=>cases b with
  |nil=>simp at h
  |cons y b=>
   simp only[List.map_cons,List.cons.injEq]at h
   rw[z3z h.1,ih h.2]
theorem za2z(s:ByteArray):(zaz s 47).map toL=spl 47 s.data.toList:=zbhz s 47
theorem zirz(b:UInt8)(l:List UInt8):spl b (b::l)=[]::spl b l:=by
 simp[spl]
theorem zsIz(b:UInt8): ∀l,∀x∈spl b l,∀c∈x,c≠b:=by
 intro l
 have: ∀r:List UInt8,∀x∈spl b r.reverse,∀c∈x,c≠b:=by
  intro r
  induction r with
  |nil=>intro x hx c hc;simp[spl]at hx;subst hx;cases hc
  |cons a r ih=>
   obtain ⟨xs,y,h,hn⟩:=zbez b r.reverse
   rw[h]at ih
   rw[List.reverse_cons,hn a]
   intro x hx c hc
   split at hx
   ·simp only[List.mem_append,List.mem_cons,List.not_mem_nil,or_false]at hx
    rcases hx with h1|h1|h1
    ·exact ih x (by simp[h1]) c hc
    ·exact ih x (by simp[h1]) c hc
    subst h1;cases hc
   next hne=>
   simp only[List.mem_append,List.mem_singleton]at hx
   rcases hx with h1|h1
   ·exact ih x (by simp[h1]) c hc
   subst h1
   rcases List.mem_append.1 hc with h2|h2
   ·exact ih y (by simp) c h2
   rw[List.mem_singleton.1 h2];exact hne
 have h:=this l.reverse
 rwa[List.reverse_reverse]at h
theorem v5z{p:ByteArray}(h:zSz p=true): ∃r,p.data.toList=47::r:=by
 unfold zSz at h
 cases hp:p.data.toList with
 |nil=>rw[hp]at h;simp at h
 |cons a r=>rw[hp]at h;simp at h;exact ⟨r,by rw[h]⟩
theorem zb4z{p:ByteArray}(h:zSz p=true):zaz p 47=ByteArray.empty::zaz (p.extract 1 p.size) 47:=by
 obtain ⟨r,hr⟩:=v5z h
 apply zbuz
 have hx:(p.extract 1 p.size).data.toList=r:=by rw[zyz,ynz p p.size (Nat.le_refl _),hr];rfl
 rw[List.map_cons,za2z,za2z,hx,hr,zirz]
 rfl
theorem za3z{p:ByteArray}(h:zSz p=true):zCz p=zaz (p.extract 1 p.size) 47:=by
 unfold zCz
 rw[zb4z h]
 rfl
theorem zdhz{p:ByteArray}(h:zSz p=true):zaz p 47=ByteArray.empty::zCz p:=by
 rw[za3z h,zb4z h]
theorem zdiz{p:ByteArray}(h:zSz p=true):slL (zCz p)=p.data.toList:=by
 have h1:=zcQz p 47 (by decide) (by decide)
 rw[zdhz h]at h1
 exact h1
theorem zdZz{p:ByteArray}(h:zSz p=true):0<(zCz p).length:=by
 rw[za3z h]
 simp[zaz]
def sumD(f:ByteArray→Nat)(l:List ByteArray):Nat:=(l.map f).sum
theorem zaAz(f:ByteArray→Nat)(l:List ByteArray)(x:ByteArray):sumD f (l++[x])=sumD f l+f x:=by simp[sumD]
theorem zhgz(f:ByteArray→Nat)(l:List ByteArray):sumD f l.dropLast≤sumD f l:=by
 rcases List.eq_nil_or_concat l with h|⟨m,x,h⟩
 ·rw[h];exact Nat.le_refl _
 rw[h,List.concat_eq_append,List.dropLast_concat,zaAz];omega
theorem znKz(f:ByteArray→Nat)(out:List ByteArray)(x:ByteArray):sumD f (yXz out x)≤sumD f out+f x:=by
 unfold yXz
 split
 ·rw[zaAz];exact Nat.le_refl _
 split
 ·have:=zhgz f out;omega
 omega
theorem zpAz(f:ByteArray→Nat)(out:List ByteArray)(x:ByteArray)(h:isd (toL x)≠0):sumD f (yXz out x)≤sumD f out:=by
 unfold yXz
 rw[if_neg h]
 split
 ·exact zhgz f out
 exact Nat.le_refl _
theorem vFz(l:List ByteArray)(x:ByteArray):yHz (l++[x])=yXz (yHz l) x:=by simp[yHz]
theorem zhhz(f:ByteArray→Nat): ∀r:List ByteArray,sumD f (yHz r.reverse)≤sumD f r.reverse
 |[]=>Nat.le_refl _
 |x::r=>by
  rw[List.reverse_cons,vFz,zaAz]
  have h1:=znKz f (yHz r.reverse) x
  have h2:=zhhz f r
  omega
theorem zfEz(f:ByteArray→Nat)(l:List ByteArray):sumD f (yHz l)≤sumD f l:=by
 have h:=zhhz f l.reverse
 rwa[List.reverse_reverse]at h
theorem zcuz(l:List ByteArray)(x:ByteArray):zbaz (l++[x])=x:=by
 unfold zbaz
 simp[List.getD_eq_getElem?_getD]
theorem zjNz(f:ByteArray→Nat)(hf: ∀x,f ByteArray.empty≤f x)(l:List ByteArray):sumD f (ylz l)≤sumD f l:=by
 unfold ylz
 split
 ·exact zfEz f l
 next h=>
 rcases List.eq_nil_or_concat l with e|⟨m,x,e⟩
 ·rw[e]at h
  exact absurd zeQz h
 rw[List.concat_eq_append]at e
 rw[e,zcuz]at h
 rw[e,vFz,zaAz,zaAz]
 have h1:=zpAz f (yHz m) x h
 have h2:=zfEz f m
 have h3:=hf x
 omega
theorem zeRz(l:List ByteArray):sumD (fun _=>1) l=l.length:=by
 induction l with
 |nil=>rfl
 |cons x l ih=>simp only[sumD,List.map_cons,List.sum_cons,List.length_cons]at ih⊢;omega
theorem zjOz(l:List ByteArray):sumD (fun x=>x.size+1) l=(slL l).length:=by
 induction l with
 |nil=>rfl
 |cons x l ih=>
  simp only[sumD,List.map_cons,List.sum_cons,slL,List.flatMap_cons,List.length_append,List.length_cons]at ih⊢
  rw[ih]
  simp[toL]
theorem zbvz(l:List ByteArray):(ylz l).length≤l.length:=by
 have h:=zjNz (fun _=>1) (fun _=>Nat.le_refl _) l
 rwa[zeRz,zeRz]at h
theorem zd0z(l:List ByteArray):(slL (ylz l)).length≤(slL l).length:=by
 have h:=zjNz (fun x=>x.size+1) (fun x=>Nat.add_le_add_right (Nat.zero_le _) 1) l
 rwa[zjOz,zjOz]at h
theorem zekz(l:List ByteArray):(yHz l).length≤l.length:=by
 have h:=zfEz (fun _=>1) l
 rwa[zeRz,zeRz]at h
theorem zpBz{out:List ByteArray}{x y:ByteArray}(h:y∈yXz out x):y∈out∨(y=x∧isd (toL x)=0):=by
 unfold yXz at h
 split at h
 ·next e=>
  rcases List.mem_append.1 h with h1|h1
  ·exact .inl h1
  exact .inr ⟨List.mem_singleton.1 h1,e⟩
 split at h
 ·exact .inl (List.dropLast_subset _ h)
 exact .inl h
theorem zjPz: ∀(r:List ByteArray) (y:ByteArray),y∈yHz r.reverse→y∈r∧isd (toL y)=0
 |[],y,h=>by simp[yHz]at h
 |x::r,y,h=>by
  rw[List.reverse_cons,vFz]at h
  rcases zpBz h with h1|⟨h1,h2⟩
  ·have h3:=zjPz r y h1
   exact ⟨List.mem_cons_of_mem _ h3.1,h3.2⟩
  subst h1;exact ⟨by simp,h2⟩
theorem zfFz{l:List ByteArray}{y:ByteArray}(h:y∈ylz l):(y∈l∨y=ByteArray.empty)∧isd (toL y)=0:=by
 have hf: ∀y,y∈yHz l→y∈l∧isd (toL y)=0:=fun y hy=>by
  have:=zjPz l.reverse y (by rwa[List.reverse_reverse])
  exact ⟨List.mem_reverse.1 this.1,this.2⟩
 unfold ylz at h
 split at h
 ·exact ⟨.inl (hf y h).1,(hf y h).2⟩
 rcases List.mem_append.1 h with h1|h1
 ·exact ⟨.inl (hf y h1).1,(hf y h1).2⟩
 rw[List.mem_singleton.1 h1];exact ⟨.inr rfl,zeQz⟩
theorem zisz{l:List ByteArray}(h:0<l.length):ylz l≠[]:=by
 unfold ylz
 split
 ·next e=>
  rcases List.eq_nil_or_concat l with e1|⟨m,x,e1⟩
  ·rw[e1]at h;simp at h
  rw[List.concat_eq_append]at e1
  rw[e1,zcuz]at e
  rw[e1,vFz]
  unfold yXz
  rw[if_pos e]
  simp
 simp
theorem zmzz: ∀r:List ByteArray,(∀x∈r,isd (toL x)=0)→yHz r.reverse=r.reverse
 |[],_=>rfl
 |x::r,h=>by
  rw[List.reverse_cons,vFz,zmzz r fun y hy=>h y (List.mem_cons_of_mem _ hy)]
  unfold yXz
  rw[if_pos (h x (by simp))]
theorem zrxz{l:List ByteArray}(h: ∀x∈l,isd (toL x)=0):ylz l=l:=by
 have h1:=zmzz l.reverse fun x hx=>h x (List.mem_reverse.1 hx)
 rw[List.reverse_reverse]at h1
 unfold ylz
 rw[if_pos]
 ·exact h1
 rcases List.eq_nil_or_concat l with e|⟨m,x,e⟩
 ·rw[e];exact zeQz
 rw[List.concat_eq_append]at e
 rw[e,zcuz]
 exact h x (by rw[e];simp)
theorem zjQz(p:ByteArray): ∀x∈zCz p,∀c∈toL x,c≠47:=by
 intro x hx c hc
 have h1:toL x∈spl 47 p.data.toList:=by
  rw[←za2z]
  exact List.mem_map_of_mem (List.mem_of_mem_drop hx)
 exact zsIz 47 _ _ h1 c hc
theorem zsiz(l:List ByteArray):slL l=jl 47 ([]::l.map toL):=by
 have h1: ∀l:List ByteArray,jl 47 ([]::l.map toL)=slL l:=by
  intro l
  have h2: ∀(z:List UInt8) (l:List ByteArray),jl 47 (z::l.map toL)=z++slL l:=by
   intro z l
   induction l generalizing z with
   |nil=>simp[jl,slL]
   |cons x l ih=>rw[List.map_cons,jl,ih];simp[slL]
  exact h2 [] l
 exact (h1 l).symm
theorem zdjz{p:ByteArray}(h:zSz p=true):zSz (zLz p)=true:=by
 unfold zLz
 rw[if_pos h]
 cases hk:ylz (zCz p)with
 |nil=>exact absurd hk (zisz (zdZz h))
 |cons x l=>simp[zSz,slL]
theorem jOz{p:ByteArray}(h:zSz p=true):(zLz p).data.toList=slL (ylz (zCz p)):=by
 unfold zLz
 rw[if_pos h]
theorem zitz{p:ByteArray}(h:zSz p=true):zaz (zLz p) 47=ByteArray.empty::ylz (zCz p):=by
 apply zbuz
 rw[za2z,jOz h,zsiz _,zdKz 47 (by simp)]
 ·rfl
 intro x hx c hc
 rcases List.mem_cons.1 hx with h1|h1
 ·subst h1;cases hc
 obtain ⟨y,hy,e⟩:=List.mem_map.1 h1
 subst e
 rcases (zfFz hy).1 with h2|h2
 ·exact zjQz p y h2 c hc
 subst h2;cases hc
theorem zjRz{p:ByteArray}(h:zSz p=true):zCz (zLz p)=ylz (zCz p):=by
 unfold zCz
 rw[zitz h]
 rfl
theorem zjSz{p:ByteArray}(h:zSz p=true):zLz (zLz p)=zLz p:=by
 apply z3z
 show (zLz (zLz p)).data.toList=(zLz p).data.toList
 rw[jOz (zdjz h),zjRz h,jOz h,zrxz fun x hx=>(zfFz hx).2]
theorem zfGz(p:ByteArray):(zLz p).size≤p.size:=by
 by_cases h:zSz p=true
 ·have h1:=zd0z (zCz p)
  rw[←jOz h,zdiz h]at h1
  simpa using h1
 unfold zLz
 rw[if_neg h]
 exact Nat.le_refl _
theorem zryz{s:ByteArray}{k n:Nat}(hk:k<s.size)(h:s[k].toNat=46)(he:unL s.data.toList=List.replicate n 46++unL (s.data.toList.drop k)):
  unL s.data.toList=List.replicate (n+1) 46++unL (s.data.toList.drop (k+1)):=by
 have hp:zXz s k<0:=by
  by_cases h2:k+2<s.size
  ·rw[jCz s k h2];unfold xVz;rw[if_neg (by omega)];omega
  rw[zanz s k (by omega)];omega
 have hc:s[k]=46:=UInt8.toNat_inj.1 h
 rw[he]
 unfold unL
 rw[zbdz _ _ s k hk hp,hc,List.replicate_succ']
 simp
theorem zmAz{s:ByteArray}{k n:Nat}(hk:k+2<s.size)(h:s[k].toNat=37)(h1:s[k+1].toNat=50)(h2:s[k+2].toNat=101∨s[k+2].toNat=69)(he:unL s.data.toList=List.replicate n 46++unL (s.data.toList.drop k)):
  unL s.data.toList=List.replicate (n+1) 46++unL (s.data.toList.drop (k+3)):=by
 have hp:zXz s k=46:=by
  rw[jCz s k hk,h,h1]
  rcases h2 with h2|h2<;>rw[h2]<;>decide
 rw[he]
 unfold unL
 rw[zcKz _ _ s k (by omega),hp,List.replicate_succ']
 simp
theorem zsJz: ∀x,x<256→ ∀y,y<256→zEz x*16+zEz y=46→0≤zEz x→0≤zEz y→x=50∧(y=101∨y=69):=by
 intro x _ y _ h hx hy
 have h1:=xMz x
 have h2:=xMz y
 have hx2:zEz x=2:=by omega
 have hy2:zEz y=14:=by omega
 unfold zEz at hx2 hy2
 refine ⟨?_,?_⟩
 ·split at hx2
  ·omega
  split at hx2
  ·omega
  split at hx2<;>omega
 split at hy2
 ·omega
 split at hy2
 ·omega
 split at hy2<;>omega
theorem zeSz{s:ByteArray}{k n:Nat}(hk:k<s.size)(h:s[k].toNat≠46)(h2: ∀_:k+2<s.size,¬(s[k].toNat=37∧s[k+1].toNat=50∧(s[k+2].toNat=101∨s[k+2].toNat=69)))
  (he:unL s.data.toList=List.replicate n 46++unL (s.data.toList.drop k)):isd s.data.toList=0:=by
 by_cases hp:0≤zXz s k
 ·have hk2:=jDz hp
  have hin:=jCz s k hk2
  have hne:zXz s k≠46:=by
   intro e
   rw[hin]at e
   unfold xVz at e
   split at e
   ·next hc=>
    have:=zsJz _ s[k+1].toNat_lt _ s[k+2].toNat_lt e hc.2.1 hc.2.2
    exact h2 hk2 ⟨hc.1,this.1,this.2⟩
   omega
  have hle:=zaoz s k
  refine zhfz (n:=n) (c:=UInt8.ofNat (zXz s k).toNat) (r:=unL (s.data.toList.drop (k+3))) ?_ ?_
  ·rw[he]
   conv=>lhs;rw[show unL (s.data.toList.drop k)=_ from zcKz _ _ s k hp]
   rfl
  intro e
  have e2:=congrArg UInt8.toNat e
  have e3:(UInt8.ofNat (zXz s k).toNat).toNat=(zXz s k).toNat%256:=by simp
  rw[e3]at e2
  have e4:(zXz s k).toNat%256=46:=e2
  omega
 refine zhfz (n:=n) (c:=s[k]) (r:=unL (s.data.toList.drop (k+1))) ?_ fun e=>h (by rw[e];rfl)
 rw[he]
 conv=>lhs;rw[show unL (s.data.toList.drop k)=_ from zbdz _ _ s k hk (by omega)]
 rfl
theorem zrzz{s:ByteArray}{k n:Nat}(hk:s.size≤k)(he:unL s.data.toList=List.replicate n 46++unL (s.data.toList.drop k)):isd s.data.toList=if 1≤n∧n≤2 then n else 0:=by
 apply zpzz
 rw[he,List.drop_of_length_le (by simpa using hk)]
 simp[unL,xoz]
theorem zbTz{out:List ByteArray}{x:ByteArray}(h:isd (toL x)=0):yXz out x=out++[x]:=by unfold yXz;rw[if_pos h]
theorem zjTz{out:List ByteArray}{x:ByteArray}(h:isd (toL x)=1):yXz out x=out:=by unfold yXz;rw[if_neg (by omega),if_neg (by omega)]
theorem zjUz{out:List ByteArray}{x:ByteArray}(h:isd (toL x)=2):yXz out x=out.take (out.length-1):=by unfold yXz;rw[if_neg (by omega),if_pos h,List.dropLast_eq_take]
theorem zd1z(l:List ByteArray)(k:Nat)(h:k<l.length):yHz (l.take (k+1))=yXz (yHz (l.take k)) (l.getD k ByteArray.empty):=by
 rw[zcmz l k h,vFz]
theorem zrAz(l:List ByteArray)(x:ByteArray):slL (l++[x])=slL l++47::toL x:=by simp[slL]
theorem zrBz(l:List ByteArray)(k:Nat):(slL (l.take k)).length≤(slL l).length:=by
 conv=>rhs;rw[←List.take_append_drop k l]
 unfold slL
 rw[List.flatMap_append,List.length_append]
 omega
theorem sl_jn(l:List ByteArray)(h:l≠[]):slL l=47::jn 47 l:=by
 cases l with
 |nil=>exact absurd rfl h
 |cons x l=>simp[slL,jn,toL]
theorem zsjz:zEz 47= -1:=by decide
theorem zpCz(a:UInt8)(r y:List UInt8)(h:jWz (a::r)<0):jWz (a::(r++47::y))<0:=by
 match r,h with
 |[],_=>
  match y with
  |[]=>show (-1:Int)<0;decide
  |c::_=>
   show xVz a.toNat 47 c.toNat<0
   unfold xVz
   rw[if_neg (fun h=>by have:=h.2.1;rw[zsjz]at this;omega)]
   decide
 |[b],_=>
  show xVz a.toNat b.toNat 47<0
  unfold xVz
  rw[if_neg (fun h=>by have:=h.2.2;rw[zsjz]at this;omega)]
  decide
 |b::c::r,h=>exact h
theorem znLz{α:Type}(f g:UInt8→List α)(y x:List UInt8):xoz f g (x++47::y)=xoz f g x++(g 47++xoz f g y):=by
 induction x using jkz with
 |h0=>exact vez f g 47 y (ziYz 47 y (by decide))
 |h1 a b c r h ih=>
  show xoz f g (a::b::c::(r++47::y))=_
  rw[zaNz f g a b c _ h,zaNz f g a b c _ h,ih,List.append_assoc]
 |h2 a r h ih=>
  show xoz f g (a::(r++47::y))=_
  rw[vez f g a _ (zpCz a r y h),vez f g a r h,ih,List.append_assoc]
theorem zmBz{α:Type}(f g:UInt8→List α): ∀(K:List ByteArray) (z:List UInt8),xoz f g (z++slL K)=xoz f g z++K.flatMap fun x=>g 47++xoz f g (toL x)
 |[],z=>by simp[slL]
 |x::K,z=>by
  have e:z++slL (x::K)=z++47::(toL x++slL K):=by simp[slL]
  rw[e,znLz,zmBz f g K (toL x)]
  simp
theorem zpDz{α:Type}(f g:UInt8→List α)(K:List ByteArray):xoz f g (slL K)=K.flatMap fun x=>g 47++xoz f g (toL x):=zmBz f g K []
theorem zpEz:xiz 1 47=[47]:=by decide
theorem zskz(K:List ByteArray):okL 1 (slL K)=K.all fun x=>okL 1 (toL x):=by
 unfold okL okT
 rw[zpDz]
 induction K with
 |nil=>rfl
 |cons x K ih=>rw[List.flatMap_cons,List.all_append,ih,List.all_cons,List.all_append];rfl
def plB(set:Int)(x:ByteArray):ByteArray:=⟨(plL set (toL x)).toArray⟩
theorem j3z(set:Int)(x:ByteArray):toL (plB set x)=plL set (toL x):=rfl
theorem zslz(K:List ByteArray):plL 1 (slL K)=slL (K.map (plB 1)):=by
 unfold plL
 rw[zpDz]
 induction K with
 |nil=>rfl
 |cons x K ih=>
  rw[List.flatMap_cons,ih]
  have e:xiz 1 (47:UInt8)=[47]:=zpEz
  rw[e]
  simp[slL,j3z,plL]
theorem zjVz: ∀n,n<16→digU n≠47:=by decide+kernel
theorem zjWz(c:UInt8): ∀b∈putB c,b≠47:=by
 intro b hb
 have hc:=c.toNat_lt
 unfold putB at hb
 simp only[List.mem_cons,List.not_mem_nil,or_false]at hb
 rcases hb with rfl|rfl|rfl
 ·decide
 ·exact zjVz _ (by omega)
 exact zjVz _ (by omega)
theorem znMz(c:UInt8): ∀b∈xXz c,b≠47:=by
 intro b hb
 unfold xXz at hb
 split at hb
 ·next h=>
  rw[List.mem_singleton.1 hb]
  intro e
  rw[e]at h
  exact absurd h (by decide)
 exact zjWz c b hb
theorem znNz(set:Int)(c:UInt8)(h:c≠47): ∀b∈xiz set c,b≠47:=by
 intro b hb
 unfold xiz at hb
 split at hb
 ·rw[List.mem_singleton.1 hb];exact h
 exact zjWz c b hb
theorem zrCz(set:Int)(l:List UInt8):(∀c∈l,c≠47)→ ∀b∈plL set l,b≠47:=by
 induction l using jkz with
 |h0=>intro _ b hb;simp[plL,xoz]at hb
 |h1 a b c r h ih=>
  intro hl x hx
  rw[zhPz set a b c r h]at hx
  rcases List.mem_append.1 hx with h1|h1
  ·exact znMz _ x h1
  exact ih (fun y hy=>hl y (by simp[hy])) x h1
 |h2 a r h ih=>
  intro hl x hx
  rw[zcJz set a r h]at hx
  rcases List.mem_append.1 hx with h1|h1
  ·exact znNz set a (hl a (by simp)) x h1
  exact ih (fun y hy=>hl y (by simp[hy])) x h1
theorem zsKz{K M:List ByteArray}(hK: ∀x∈K,∀c∈toL x,c≠47)(hM: ∀x∈M,∀c∈toL x,c≠47)(h:slL K=slL M):K=M:=by
 have key: ∀{L:List ByteArray},(∀x∈L,∀c∈toL x,c≠47)→spl 47 (slL L)=[]::L.map toL:=fun {L} hL=>by
  rw[zsiz,zdKz 47 (by simp)]
  intro x hx c hc
  rcases List.mem_cons.1 hx with h1|h1
  ·subst h1;cases hc
  obtain ⟨y,hy,rfl⟩:=List.mem_map.1 h1
  exact hL y hy c hc
 have h1:=key hK
 rw[h,key hM]at h1
 simp only[List.cons.injEq,true_and]at h1
 exact (zbuz h1).symm
def ziuz(p:ByteArray):Prop:=zSz p=true∧okL 1 (toL p)=true∧plL 1 (toL p)=toL p∧zLz p=p
theorem zjXz{p:ByteArray}(hr:zSz p=true)(ho:okL 1 (toL p)=true)(hp:plL 1 (toL p)=toL p): ∀x∈zCz p,okL 1 (toL x)=true∧plL 1 (toL x)=toL x:=by
 have hs:=zdiz hr
 have hno:=zjQz p
 have h1:slL ((zCz p).map (plB 1))=slL (zCz p):=by
  rw[←zslz,hs]
  exact hp
 have h2:(zCz p).map (plB 1)=zCz p:=by
  refine zsKz ?_ hno h1
  intro x hx c hc
  obtain ⟨y,hy,rfl⟩:=List.mem_map.1 hx
  exact zrCz 1 (toL y) (hno y hy) c hc
 have h3:((zCz p).all fun x=>okL 1 (toL x))=true:=by
  rw[←zskz,hs]
  exact ho
 intro x hx
 refine ⟨List.all_eq_true.1 h3 x hx,?_⟩
 obtain ⟨i,hi,rfl⟩:=List.getElem_of_mem hx
 have h4:=congrArg (fun l=>l[i]?) h2
 simp only[List.getElem?_map,List.getElem?_eq_getElem hi,Option.map_some,Option.some.injEq]at h4
 rw[←j3z,h4]
theorem zloz{p:ByteArray}(hr:zSz p=true)(ho:okL 1 (toL p)=true)(hp:plL 1 (toL p)=toL p):ziuz (zLz p):=by
 have hk: ∀x∈ylz (zCz p),okL 1 (toL x)=true∧plL 1 (toL x)=toL x:=fun x hx=>by
  rcases (zfFz hx).1 with h|h
  ·exact zjXz hr ho hp x h
  rw[h];exact ⟨rfl,rfl⟩
 have hd:toL (zLz p)=slL (ylz (zCz p)):=jOz hr
 refine ⟨zdjz hr,?_,?_,zjSz hr⟩
 ·rw[hd,zskz]
  exact List.all_eq_true.2 fun x hx=>(hk x hx).1
 rw[hd,zslz]
 congr 1
 conv=>rhs;rw[←List.map_id (ylz (zCz p))]
 refine List.map_congr_left fun x hx=> ?_
 apply z3z
 exact (hk x hx).2
theorem zhiz{p:ByteArray}{r:List UInt8}(h:toL p=47::r):zSz p=true:=by
 unfold zSz
 rw[show p.data.toList=_ from h]
 rfl
theorem znOz{q:ByteArray}(h:zSz q=true):ziuz (zLz (plB 1 q)):=by
 obtain ⟨r,hr⟩:=v5z h
 have hq:toL (plB 1 q)=47::plL 1 r:=by
  rw[j3z,show toL q=_ from hr,zcJz 1 47 r (ziYz 47 r (by decide)),zpEz]
  rfl
 refine zloz (zhiz hq) ?_ ?_
 ·rw[j3z];exact zl5z 1 (by decide) _
 rw[j3z];exact zsfz 1 (by decide) _
theorem zjYz(set:Int)(l:List UInt8):okL set l=true→ ∀b∈l,ytz set b.toNat=true∨b=37∨0≤zEz b.toNat:=by
 induction l using jkz with
 |h0=>intro _ b hb;cases hb
 |h1 a b c r h ih=>
  intro ho x hx
  have ho2:okL set r=true:=by
   unfold okL okT at ho⊢
   rw[zaNz _ _ a b c r h]at ho
   exact ho
  have hp:a.toNat=37∧0≤zEz b.toNat∧0≤zEz c.toNat:=by
   unfold xVz at h
   split at h
   ·next hc=>exact hc
   omega
  simp only[List.mem_cons]at hx
  rcases hx with rfl|rfl|rfl|hx
  ·exact .inr (.inl (UInt8.toNat_inj.1 hp.1))
  ·exact .inr (.inr hp.2.1)
  ·exact .inr (.inr hp.2.2)
  exact ih ho2 x hx
 |h2 a r h ih=>
  intro ho x hx
  unfold okL okT at ho
  rw[vez _ _ a r h,List.all_append,Bool.and_eq_true]at ho
  rcases List.mem_cons.1 hx with rfl|hx
  ·refine .inl ?_
   have h1:=ho.1
   simpa using h1
  exact ih ho.2 x hx
def z4z(s:Int):Int:=if s=1 then 80 else if s=2 then 443 else 0
theorem zbbz(s:Int)(w:World):
  Calls Tryz.prog 37 #[.int .i64 s] w fun e w'=>e=.returned (.int .i64 (z4z s))∧w=w':=by
 by_cases h1:s=1
 ·subst h1
  go_enter Tryz.func37,Tryz.ntmps37
  go_wp2
  go_ret
  exact ⟨rfl,rfl⟩
 have q1:(s==1)=false:=beq_eq_false_iff_ne.2 h1
 by_cases h2:s=2
 ·subst h2
  go_enter Tryz.func37,Tryz.ntmps37
  go_wp2
  go_ret
  exact ⟨rfl,rfl⟩
 have q2:(s==2)=false:=beq_eq_false_iff_ne.2 h2
 have HD:Hid (z4z s=0):=by show _=_;unfold z4z;rw[if_neg h1,if_neg h2]
 clear h1 h2
 go_enter Tryz.func37,Tryz.ntmps37
 go_wp2
 go_ret
 exact ⟨zqz (by rw[HD.out]),rfl⟩
theorem jfz(s:Int)(w:World):
  Calls Tryz.prog 17 #[.int .i64 s] w fun e w'=>e=.returned (.int .i64 (z4z s))∧w=w':=by
 by_cases h1:s=1
 ·subst h1
  go_enter Tryz.func17,Tryz.ntmps17
  go_wp2
  go_ret
  exact ⟨rfl,rfl⟩
 have q1:(s==1)=false:=beq_eq_false_iff_ne.2 h1
 by_cases h2:s=2
 ·subst h2
  go_enter Tryz.func17,Tryz.ntmps17
  go_wp2
  go_ret
  exact ⟨rfl,rfl⟩
 have q2:(s==2)=false:=beq_eq_false_iff_ne.2 h2
 have HD:Hid (z4z s=0):=by show _=_;unfold z4z;rw[if_neg h1,if_neg h2]
 clear h1 h2
 go_enter Tryz.func17,Tryz.ntmps17
 go_wp2
 go_ret
 exact ⟨zqz (by rw[HD.out]),rfl⟩
end Go.Proofs.YtgcbaphbiaimoaaGreatDoor
namespace Go.Proofs.YtgcbaphbiaimoaaGreatDoor
open Go.RowKit
set_option linter.unusedVariables false
def vPz:List UInt8:=[32,9,10,13]
def zdkz:List UInt8:=[104,116,116,112,58]
def za5z:List UInt8:=[104,116,116,112,115,58]
def jUz(s:Int):List UInt8:=if s=1 then zdkz else za5z
def vvz(n:Nat):List UInt8:=if n<10 then [dgU n]else if n<100 then [dgU (n/10),dgU (n%10)]else if n<1000 then [dgU (n/100),dgU (n/10%10),dgU (n%10)]
 else if n<10000 then [dgU (n/1000),dgU (n/100%10),dgU (n/10%10),dgU (n%10)]else [dgU (n/10000),dgU (n/1000%10),dgU (n/100%10),dgU (n/10%10),dgU (n%10)]
def vkz(s p:Int):List UInt8:=if p=z4z s then []else 58::vvz p.toNat
def xJz(l:List UInt8):List UInt8:=((Lib.trimS l vPz).takeWhile fun c=>c !=35).filter fun c=>c !=9&&c !=10&&c !=13
def slB(c:UInt8):Bool:=c==47||c==92
def y3z(t:List UInt8):Option (Int×List UInt8):=
 if 6<t.length∧(zfz t).take 5=zdkz∧slB (t.getD 5 0)=true∧slB (t.getD 6 0)=true then some (1,t.drop 5)
 else if 7<t.length∧(zfz t).take 6=za5z∧slB (t.getD 6 0)=true∧slB (t.getD 7 0)=true then some (2,t.drop 6)else none
def yxz(c:UInt8):Bool:= !(slB c||c==63)
def zaBz(l:List UInt8):Nat→Nat
 |0=>0
 |k+1=>if l.getD k 0=93 then k else zaBz l k
def colI(l:List UInt8):Option Nat:=((l.drop (zaBz l l.length)).findIdx? fun c=>c==58).map fun k=>k+zaBz l l.length
def yQz(l:List UInt8):List UInt8:=l.map fun c=>if c=92 then 47 else c
def orSl(l:List UInt8):List UInt8:=if l=[]then [47]else l
def yYz(s:Int)(p:List UInt8):Int:=if p=[]then z4z s else match yhz 10 5 p with
 |none=> -1
 |some n=>(n:Int)
theorem zbUz{n:Nat}(h0:10≤n)(h:n<100000):vvz n=vvz (n/10)++[dgU (n%10)]:=by
 unfold vvz
 by_cases h1:n<100
 ·rw[if_neg (by omega),if_pos h1,if_pos (by omega)];rfl
 rw[if_neg (by omega),if_neg h1,if_neg (by omega: ¬n/10<10)]
 by_cases h2:n<1000
 ·rw[if_pos h2,if_pos (by omega),Nat.div_div_eq_div_mul];rfl
 rw[if_neg h2,if_neg (by omega: ¬n/10<100)]
 by_cases h3:n<10000
 ·rw[if_pos h3,if_pos (by omega),Nat.div_div_eq_div_mul,Nat.div_div_eq_div_mul];rfl
 rw[if_neg h3,if_neg (by omega: ¬n/10<1000),if_pos (by omega),Nat.div_div_eq_div_mul,Nat.div_div_eq_div_mul,Nat.div_div_eq_div_mul];rfl
theorem zrDz: ∀i,i<10→zEz (dgU i).toNat=(i:Int):=by decide+kernel
theorem xuz{i n:Nat}(h:i<10)(r:List UInt8):y4z 10 n (dgU i::r)=y4z 10 (n*10+i) r:=by
 rw[y4z,zrDz i h,if_pos (by omega)]
 congr 1
theorem zpFz{n:Nat}(h:n<100000):yhz 10 5 (vvz n)=some n:=by
 unfold vvz yhz
 split
 ·rw[if_pos (by simp),xuz (by omega),y4z];congr 1;omega
 split
 ·rw[if_pos (by simp),xuz (by omega),xuz (by omega),y4z];congr 1;omega
 split
 ·rw[if_pos (by simp),xuz (by omega),xuz (by omega),xuz (by omega),y4z];congr 1;omega
 split
 ·rw[if_pos (by simp),xuz (by omega),xuz (by omega),xuz (by omega),xuz (by omega),y4z];congr 1;omega
 rw[if_pos (by simp),xuz (by omega),xuz (by omega),xuz (by omega),xuz (by omega),xuz (by omega),y4z];congr 1;omega
theorem zdlz: ∀i,i<10→xRz (dgU i)=true:=by decide+kernel
theorem zjZz{n:Nat}(h:n<100000):(∀c∈vvz n,xRz c=true)∧vvz n≠[]:=by
 unfold vvz
 split
 ·exact ⟨fun c hc=>by simp only[List.mem_cons,List.not_mem_nil,or_false]at hc;rw[hc];exact zdlz _ (by omega),by simp⟩
 split
 ·exact ⟨fun c hc=>by simp only[List.mem_cons,List.not_mem_nil,or_false]at hc;rcases hc with e|e<;>rw[e]<;>exact zdlz _ (by omega),by simp⟩
 split
 ·exact ⟨fun c hc=>by simp only[List.mem_cons,List.not_mem_nil,or_false]at hc;rcases hc with e|e|e<;>rw[e]<;>exact zdlz _ (by omega),by simp⟩
 split
 ·exact ⟨fun c hc=>by simp only[List.mem_cons,List.not_mem_nil,or_false]at hc;rcases hc with e|e|e|e<;>rw[e]<;>exact zdlz _ (by omega),by simp⟩
 exact ⟨fun c hc=>by simp only[List.mem_cons,List.not_mem_nil,or_false]at hc;rcases hc with e|e|e|e|e<;>rw[e]<;>exact zdlz _ (by omega),by simp⟩
structure UV where
 s:Int
 h:HV
 p:Int
 a:ByteArray
 q:Bool
 r:ByteArray
def orgL(u:UV):List UInt8:=jUz u.s++47::47::(toL (hTx u.h)++vkz u.s u.p)
def xTz(u:UV):List UInt8:=if u.q then toL u.a++63::toL u.r else toL u.a
def uOk(u:UV):Bool:=decide (z4z u.s≠0)&&hOk u.h&&decide (1≤u.p∧u.p≤65535)&&zSz u.a&&(u.q||decide (u.r.size=0))&&
 okL 1 (toL u.a)&&decide (plL 1 (toL u.a)=toL u.a)&&decide (toL (zLz u.a)=toL u.a)&&okL 2 (toL u.r)&&decide (plL 2 (toL u.r)=toL u.r)
def uTx(u:UV):List UInt8:=if uOk u=true then orgL u++xTz u else []
def zb5z(s:Int)(h:HV)(p:Int)(l:List UInt8):UV:=
 ⟨s,h,p,zLz (plB 1 ⟨(yQz (orSl (l.takeWhile fun c=>c !=63))).toArray⟩),!(l.dropWhile fun c=>c !=63).isEmpty,plB 2 ⟨((l.dropWhile fun c=>c !=63).drop 1).toArray⟩⟩
def vlz:UV:=⟨0,⟨0,⟨#[]⟩,0,xmz⟩,0,⟨#[]⟩,false,⟨#[]⟩⟩
def fitU(u:UV):Int×UV:=if (orgL u).length+(xTz u).length≤2000 then (0,u)else (1,vlz)
def zb6z(s p:Int)(auth rest:List UInt8):Int×UV:=if rC (znz ⟨auth.toArray⟩)=0 then fitU (zb5z s (rV (znz ⟨auth.toArray⟩)) p rest)else (4,vlz)
def cutU(s:Int)(auth rest:List UInt8):Int×UV:=match colI auth with
 |none=>zb6z s (z4z s) auth rest
 |some k=>if 1≤yYz s (auth.drop (k+1))∧yYz s (auth.drop (k+1))≤65535 then zb6z s (yYz s (auth.drop (k+1))) (auth.take k) rest else (5,vlz)
def zelz(s:Int)(auth rest:List UInt8):Int×UV:=if auth.contains 64=true then (3,vlz)else cutU s auth rest
def zcvz(s:Int)(t:List UInt8):Int×UV:=zelz s ((t.dropWhile slB).takeWhile yxz) ((t.dropWhile slB).dropWhile yxz)
def zbwz(t:List UInt8):Int×UV:=match y3z t with
 |none=>(2,vlz)
 |some (s,t)=>zcvz s t
def yLz(l:List UInt8):Int×UV:=if 2000<l.length then (1,vlz)else zbwz (xJz l)
end Go.Proofs.YtgcbaphbiaimoaaGreatDoor
