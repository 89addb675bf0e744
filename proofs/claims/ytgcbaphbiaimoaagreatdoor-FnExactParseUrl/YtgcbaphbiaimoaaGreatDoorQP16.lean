/- UrlBits, UrlPlain, CutWay, UrlWay, TrimWalk, KeepSpec, UntilWalk. -/
import Derived.Test.YtgcbaphbiaimoaaGreatDoorQP15
import Derived.Lib.SlTrimSet
import Derived.Lib.IndexMore
import Derived.Lib.IndexAny
import Derived.Lib.Replace
import Derived.Lib.LastIndexByte
set_option maxHeartbeats 2000000
namespace Go.Proofs.YtgcbaphbiaimoaaGreatDoor
open Go.RowKit
set_option linter.unusedVariables false
def vUz:List UInt8:=[32,9,10,13]
def zbRz:List UInt8:=[104,116,116,112,58]
def jTz:List UInt8:=[104,116,116,112,115,58]
def vvz(s:Int):List UInt8:=if s=1 then zbRz else jTz
def x1z(n:Nat):List UInt8:=if n<10 then [dgU n]else if n<100 then [dgU (n/10),dgU (n%10)]else if n<1000 then [dgU (n/100),dgU (n/10%10),dgU (n%10)]
 else if n<10000 then [dgU (n/1000),dgU (n/100%10),dgU (n/10%10),dgU (n%10)]else [dgU (n/10000),dgU (n/1000%10),dgU (n/100%10),dgU (n/10%10),dgU (n%10)]
def xoz(s p:Int):List UInt8:=if p=zSz s then []else 58::x1z p.toNat
def ySz(l:List UInt8):List UInt8:=((Lib.trimS l vUz).takeWhile fun c=>c !=35).filter fun c=>c !=9&&c !=10&&c !=13
def slB(c:UInt8):Bool:=c==47||c==92
def yrz(t:List UInt8):Option (Int×List UInt8):=
 if 6<t.length∧(zdz t).take 5=zbRz∧slB (t.getD 5 0)=true∧slB (t.getD 6 0)=true then some (1,t.drop 5)
 else if 7<t.length∧(zdz t).take 6=jTz∧slB (t.getD 6 0)=true∧slB (t.getD 7 0)=true then some (2,t.drop 6)else none
def z3z(c:UInt8):Bool:= !(slB c||c==63)
def xpz(l:List UInt8):Nat→Nat
 |0=>0
 |k+1=>if l.getD k 0=93 then k else xpz l k
def vDz(l:List UInt8):Option Nat:=((l.drop (xpz l l.length)).findIdx? fun c=>c==58).map fun k=>k+xpz l l.length
def yRz(l:List UInt8):List UInt8:=l.map fun c=>if c=92 then 47 else c
def orSl(l:List UInt8):List UInt8:=if l=[]then [47]else l
def yJz(s:Int)(p:List UInt8):Int:=if p=[]then zSz s else match z4z 10 5 p with
 |none=> -1
 |some n=>(n:Int)
theorem zaPz{n:Nat}(h0:10≤n)(h:n<100000):x1z n=x1z (n/10)++[dgU (n%10)]:=by
 unfold x1z
 by_cases h1:n<100
 ·rw[if_neg (by omega),if_pos h1,if_pos (by omega)];rfl
 rw[if_neg (by omega),if_neg h1,if_neg (by omega: ¬n/10<10)]
 by_cases h2:n<1000
 ·rw[if_pos h2,if_pos (by omega),Nat.div_div_eq_div_mul];rfl
 rw[if_neg h2,if_neg (by omega: ¬n/10<100)]
 by_cases h3:n<10000
 ·rw[if_pos h3,if_pos (by omega),Nat.div_div_eq_div_mul,Nat.div_div_eq_div_mul];rfl
 rw[if_neg h3,if_neg (by omega: ¬n/10<1000),if_pos (by omega),Nat.div_div_eq_div_mul,Nat.div_div_eq_div_mul,Nat.div_div_eq_div_mul];rfl
theorem zsuz: ∀i,i<10→zEz (dgU i).toNat=(i:Int):=by decide+kernel
theorem xzz{i n:Nat}(h:i<10)(r:List UInt8):yUz 10 n (dgU i::r)=yUz 10 (n*10+i) r:=by
 rw[yUz,zsuz i h,if_pos (by omega)]
 congr 1
theorem zqtz{n:Nat}(h:n<100000):z4z 10 5 (x1z n)=some n:=by
 unfold x1z z4z
 split
 ·rw[if_pos (by simp),xzz (by omega),yUz];congr 1;omega
 split
 ·rw[if_pos (by simp),xzz (by omega),xzz (by omega),yUz];congr 1;omega
 split
 ·rw[if_pos (by simp),xzz (by omega),xzz (by omega),xzz (by omega),yUz];congr 1;omega
 split
 ·rw[if_pos (by simp),xzz (by omega),xzz (by omega),xzz (by omega),xzz (by omega),yUz];congr 1;omega
 rw[if_pos (by simp),xzz (by omega),xzz (by omega),xzz (by omega),xzz (by omega),xzz (by omega),yUz];congr 1;omega
theorem zdHz: ∀i,i<10→xXz (dgU i)=true:=by decide+kernel
theorem zkEz{n:Nat}(h:n<100000):(∀c∈x1z n,xXz c=true)∧x1z n≠[]:=by
 unfold x1z
 split
 ·exact ⟨fun c hc=>by simp only[List.mem_cons,List.not_mem_nil,or_false]at hc;rw[hc];exact zdHz _ (by omega),by simp⟩
 split
 ·exact ⟨fun c hc=>by simp only[List.mem_cons,List.not_mem_nil,or_false]at hc;rcases hc with e|e<;>rw[e]<;>exact zdHz _ (by omega),by simp⟩
 split
 ·exact ⟨fun c hc=>by simp only[List.mem_cons,List.not_mem_nil,or_false]at hc;rcases hc with e|e|e<;>rw[e]<;>exact zdHz _ (by omega),by simp⟩
 split
 ·exact ⟨fun c hc=>by simp only[List.mem_cons,List.not_mem_nil,or_false]at hc;rcases hc with e|e|e|e<;>rw[e]<;>exact zdHz _ (by omega),by simp⟩
 exact ⟨fun c hc=>by simp only[List.mem_cons,List.not_mem_nil,or_false]at hc;rcases hc with e|e|e|e|e<;>rw[e]<;>exact zdHz _ (by omega),by simp⟩
structure UV where
 s:Int
 h:HV
 p:Int
 a:ByteArray
 q:Bool
 r:ByteArray
def orgL(u:UV):List UInt8:=vvz u.s++47::47::(toL (hTx u.h)++xoz u.s u.p)
def jhz(u:UV):List UInt8:=if u.q then toL u.a++63::toL u.r else toL u.a
def uOk(u:UV):Bool:=decide (zSz u.s≠0)&&hOk u.h&&decide (1≤u.p∧u.p≤65535)&&zVz u.a&&(u.q||decide (u.r.size=0))&&
 okL 1 (toL u.a)&&decide (plL 1 (toL u.a)=toL u.a)&&decide (toL (zXz u.a)=toL u.a)&&okL 2 (toL u.r)&&decide (plL 2 (toL u.r)=toL u.r)
def uTx(u:UV):List UInt8:=if uOk u=true then orgL u++jhz u else []
def zaQz(s:Int)(h:HV)(p:Int)(l:List UInt8):UV:=
 ⟨s,h,p,zXz (plB 1 ⟨(yRz (orSl (l.takeWhile fun c=>c !=63))).toArray⟩),!(l.dropWhile fun c=>c !=63).isEmpty,plB 2 ⟨((l.dropWhile fun c=>c !=63).drop 1).toArray⟩⟩
def y3z:UV:=⟨0,⟨0,⟨#[]⟩,0,xsz⟩,0,⟨#[]⟩,false,⟨#[]⟩⟩
def fitU(u:UV):Int×UV:=if (orgL u).length+(jhz u).length≤2000 then (0,u)else (1,y3z)
def zadz(s p:Int)(auth rest:List UInt8):Int×UV:=if rC (zmz ⟨auth.toArray⟩)=0 then fitU (zaQz s (rV (zmz ⟨auth.toArray⟩)) p rest)else (4,y3z)
def cutU(s:Int)(auth rest:List UInt8):Int×UV:=match vDz auth with
 |none=>zadz s (zSz s) auth rest
 |some k=>if 1≤yJz s (auth.drop (k+1))∧yJz s (auth.drop (k+1))≤65535 then zadz s (yJz s (auth.drop (k+1))) (auth.take k) rest else (5,y3z)
def zbSz(s:Int)(auth rest:List UInt8):Int×UV:=if auth.contains 64=true then (3,y3z)else cutU s auth rest
def jUz(s:Int)(t:List UInt8):Int×UV:=zbSz s ((t.dropWhile slB).takeWhile z3z) ((t.dropWhile slB).dropWhile z3z)
def zaRz(t:List UInt8):Int×UV:=match yrz t with
 |none=>(2,y3z)
 |some (s,t)=>jUz s t
def zwz(l:List UInt8):Int×UV:=if 2000<l.length then (1,y3z)else zaRz (ySz l)
end Go.Proofs.YtgcbaphbiaimoaaGreatDoor
namespace Go.Proofs.YtgcbaphbiaimoaaGreatDoor
open Go.RowKit
def upB(c:UInt8)(l:List UInt8):List UInt8:=l.takeWhile fun x=>x !=c
def y9z(c:UInt8)(l:List UInt8):List UInt8:=(l.dropWhile fun x=>x !=c).drop 1
theorem v9z(c:UInt8): ∀l:List UInt8,Lib.index l [c]=if l.contains c then ((upB c l).length:Int)else-1
 |[]=>rfl
 |b::l=>by
  have ih:=v9z c l
  unfold upB at ih⊢
  unfold Lib.index
  by_cases h:b=c
  ·subst h
   simp
  have h1:([c].isPrefixOf (b::l))=false:=by
   simp[List.isPrefixOf,Ne.symm h]
  have h2:(b::l).contains c=l.contains c:=by
   simp[Ne.symm h]
  have h3:(b !=c)=true:=bne_iff_ne.2 h
  rw[h1,h2,ih,List.takeWhile_cons,h3]
  cases hc:l.contains c
  ·simp
  have h4:(((List.takeWhile (fun x=>x !=c) l).length:Int)== -1)=false:=beq_eq_false_iff_ne.2 (by omega)
  simp[h4]
theorem zexz(c:UInt8)(l:List UInt8):(l.contains c=true→l=upB c l++c::y9z c l)∧(l.contains c=false→upB c l=l∧y9z c l=[])∧c∉upB c l:=by
 unfold upB y9z
 induction l with
 |nil=>simp
 |cons b l ih=>
  by_cases h:b=c
  ·subst h;simp
  have h3:(b !=c)=true:=bne_iff_ne.2 h
  have h2:(b::l).contains c=l.contains c:=by simp[Ne.symm h]
  rw[h2,List.takeWhile_cons,List.dropWhile_cons,h3]
  refine ⟨fun hc=> ?_,fun hc=> ?_,?_⟩
  ·have:=ih.1 hc
   simp only[if_true,List.cons_append,List.cons.injEq,true_and]
   exact this
  ·have:=ih.2.1 hc
   simp only[if_true,this.1,this.2,and_self]
  simp only[if_true,List.mem_cons,not_or]
  exact ⟨Ne.symm h,ih.2.2⟩
end Go.Proofs.YtgcbaphbiaimoaaGreatDoor
namespace Go.Proofs.YtgcbaphbiaimoaaGreatDoor
open Go.RowKit
set_option linter.unusedVariables false
theorem zatz(c:UInt8): ∀(n:Nat) (l:List UInt8),l.length<n→Lib.countFrom [c] n l=l.count c
 |0,l,h=>by omega
 |n+1,l,h=>by
  have hu:=zexz c l
  rw[Lib.countFrom,v9z]
  cases hc:l.contains c with
  |false=>
   have:l.count c=0:=List.count_eq_zero.2 (fun hm=>by rw[List.contains_iff_mem.2 hm]at hc;cases hc)
   rw[this];rfl
  |true=>
   have e:=hu.1 hc
   have h0:(((upB c l).length:Int)== -1)=false:=beq_eq_false_iff_ne.2 (by omega)
   simp only[if_true,h0]
   have e1:((upB c l).length:Int).toNat+[c].length=(upB c l++[c]).length:=by simp
   have e2:l.drop ((upB c l).length+1)=y9z c l:=by
    conv=>lhs;arg 2;rw[e]
    rw[show (upB c l).length+1=(upB c l++[c]).length by simp,show upB c l++c::y9z c l=(upB c l++[c])++y9z c l by simp,List.drop_left']
    rfl
   have hl:(y9z c l).length<n:=by
    have:=congrArg List.length e
    rw[List.length_append,List.length_cons]at this
    omega
   have e3:((upB c l).length:Int).toNat+[c].length=(upB c l).length+1:=by simp
   rw[e3,e2,zatz c n _ hl]
   conv=>rhs;rw[e]
   rw[List.count_append,List.count_cons_self,List.count_eq_zero.2 hu.2.2]
   simp only[Bool.false_eq_true,if_false]
   omega
theorem zlZz{a b:UInt8}{l:List UInt8}(h:a∉l):(l.map fun x=>if x=a then b else x)=l:=by
 conv=>rhs;rw[←List.map_id l]
 refine List.map_congr_left fun x hx=> ?_
 by_cases e:x=a
 ·exact absurd (e▸hx) h
 rw[if_neg e]
 rfl
theorem zdKz(a b:UInt8): ∀(k:Nat) (l:List UInt8),l.count a≤k→Lib.replaceK [a] [b] k l=l.map fun x=>if x=a then b else x
 |0,l,h=>by
  rw[Lib.replaceK,zlZz (fun hm=>by have:=List.count_pos_iff.2 hm;omega)]
 |k+1,l,h=>by
  have hu:=zexz a l
  cases hc:l.contains a with
  |false=>
   rw[Lib.replaceK,v9z,hc,zlZz (fun hm=>by rw[List.contains_iff_mem.2 hm]at hc;cases hc)]
   rfl
  |true=>
   have e:=hu.1 hc
   have hi:Lib.index l [a]=((upB a l).length:Int):=by rw[v9z,hc];rfl
   rw[Lib.replaceK_hit [a] [b] k l _ hi]
   have e2:l.drop ((upB a l).length+[a].length)=y9z a l:=by
    conv=>lhs;arg 2;rw[e]
    rw[show (upB a l).length+[a].length=(upB a l++[a]).length by simp,show upB a l++a::y9z a l=(upB a l++[a])++y9z a l by simp,List.drop_left']
    rfl
   have e3:l.take (upB a l).length=upB a l:=by
    conv=>lhs;arg 2;rw[e]
    rw[List.take_left']
    rfl
   have hk:(y9z a l).count a≤k:=by
    have:=congrArg (List.count a) e
    rw[List.count_append,List.count_cons_self]at this
    omega
   rw[e2,e3,zdKz a b k _ hk]
   conv=>rhs;rw[e]
   rw[List.map_append,List.map_cons,if_pos rfl,zlZz hu.2.2]
   simp
theorem zkFz{a b:UInt8}(h:a≠b)(l:List UInt8):Lib.replaceAll l [a] [b]=l.map fun x=>if x=a then b else x:=by
 unfold Lib.replaceAll Lib.replace Lib.replaceNum Lib.count
 have h1:(([a]:List UInt8)==[b])=false:=by simp[h]
 rw[h1,if_neg (by decide),if_pos (.inl (by decide)),zatz a _ l (by omega),zdKz a b _ l (Nat.le_refl _)]
theorem zhYz(chars:List UInt8)(p:UInt8→Bool)(hp: ∀c,chars.contains c= !p c): ∀l:List UInt8,Lib.indexAny l chars=if l.all p then-1 else ((l.takeWhile p).length:Int)
 |[]=>rfl
 |b::l=>by
  have ih:=zhYz chars p hp l
  unfold Lib.indexAny
  rw[hp b,List.all_cons,List.takeWhile_cons]
  cases hb:p b with
  |false=>rfl
  |true=>
   rw[ih]
   cases hl:l.all p
   ·have h4:(((l.takeWhile p).length:Int)== -1)=false:=beq_eq_false_iff_ne.2 (by omega)
    simp[h4]
   simp
theorem zl0z(p:UInt8→Bool)(l:List UInt8):l.take (l.takeWhile p).length=l.takeWhile p∧l.drop (l.takeWhile p).length=l.dropWhile p:=by
 have e:=List.takeWhile_append_dropWhile (p:=p) (l:=l)
 constructor
 ·conv=>lhs;arg 2;rw[←e]
  rw[List.take_left']
  rfl
 conv=>lhs;arg 2;rw[←e]
 rw[List.drop_left']
 rfl
theorem zhZz(p:UInt8→Bool): ∀l:List UInt8,l.all p=true→l.takeWhile p=l∧l.dropWhile p=[]
 |[],_=>⟨rfl,rfl⟩
 |b::l,h=>by
  rw[List.all_cons,Bool.and_eq_true]at h
  have ih:=zhZz p l h.2
  rw[List.takeWhile_cons,List.dropWhile_cons,h.1]
  simp[ih.1,ih.2]
theorem zdLz(p q:UInt8→Bool)(h: ∀c,q c=false→p c=true): ∀l:List UInt8,(l.filter p).takeWhile q=(l.takeWhile q).filter p
 |[]=>rfl
 |b::l=>by
  have ih:=zdLz p q h l
  rw[List.filter_cons,List.takeWhile_cons]
  cases hq:q b with
  |false=>rw[h b hq];simp[hq]
  |true=>
   cases hp:p b with
   |false=>simp[hp,ih]
   |true=>simp[hp,hq,ih]
def j1z(c:UInt8):Bool:=c !=9&&c !=10&&c !=13
theorem zoEz(l:List UInt8):ySz l=upB 35 ((Lib.trimS l vUz).filter j1z):=by
 unfold ySz upB
 rw[zdLz j1z (fun x=>x !=35) (fun c h=>by
  have:c=35:=by simpa using h
  subst this
  decide)]
 rfl
def zcwz(l:List UInt8):Int:=if zdz l=[104,116,116,112]then 1 else if zdz l=[104,116,116,112,115]then 2 else 0
theorem ztjz(c:UInt8)(h:c≠58):ysz c≠58:=by
 have key: ∀n:Nat,n<256→n≠58→ysz (UInt8.ofNat n)≠58:=by decide+kernel
 have h1:=key c.toNat c.toNat_lt (fun e=>h (UInt8.toNat_inj.1 e))
 simpa using h1
theorem zeyz:ysz 58=58:=by decide
theorem zquz{nm be:List UInt8}(hn:58∉nm):(((zdz (nm++58::be)).take 5=zbRz)↔zdz nm=[104,116,116,112])∧(((zdz (nm++58::be)).take 6=jTz)↔zdz nm=[104,116,116,112,115]):=by
 have hm: ∀c∈nm,ysz c≠58:=fun c hc=>ztjz c (fun e=>hn (e▸hc))
 unfold zdz zbRz jTz
 match nm,hm with
 |[],_=>simp[zeyz]
 |[a],hm=>simp[zeyz]
 |[a,b],hm=>simp[zeyz]
 |[a,b,c],hm=>simp[zeyz]
 |[a,b,c,d],hm=>
  have:=hm d (by simp)
  simp[zeyz]
 |[a,b,c,d,e],hm=>
  have:=hm e (by simp)
  simp[zeyz,this]
 |a::b::c::d::e::f::r,hm=>
  have h1:=hm e (by simp)
  have h2:=hm f (by simp)
  simp[h1,h2]
theorem zkGz(be:List UInt8):(2≤be.length-(be.dropWhile slB).length)↔(1<be.length∧slB (be.getD 0 0)=true∧slB (be.getD 1 0)=true):=by
 have key: ∀l:List UInt8,(l.dropWhile slB).length≤l.length:=fun l=>(List.dropWhile_suffix slB).length_le
 match be with
 |[]=>simp
 |[a]=>
  have h1:([a].dropWhile slB).length≤1:=key [a]
  simp
  omega
 |a::b::r=>
  have hr:=key r
  cases ha:slB a with
  |false=>simp[ha]
  |true=>
   cases hb:slB b with
   |false=>simp[ha,hb]
   |true=>simp[ha,hb];omega
theorem zl1z(t:List UInt8):yrz t=if zcwz (upB 58 t)=0∨(y9z 58 t).length-((y9z 58 t).dropWhile slB).length<2 then none else some (zcwz (upB 58 t),y9z 58 t):=by
 have hu:=zexz 58 t
 cases hc:t.contains 58 with
 |false=>
  rw[(hu.2.1 hc).2,if_pos (.inr (by simp))]
  have hn: ∀k,(58:UInt8)∉(zdz t).take k:=fun k hm=>by
   have h1:=List.mem_of_mem_take hm
   unfold zdz at h1
   obtain ⟨c,h2,h3⟩:=List.mem_map.1 h1
   by_cases h4:c=58
   ·subst h4;rw[List.contains_iff_mem.2 h2]at hc;cases hc
   exact ztjz c h4 h3
  unfold yrz
  rw[if_neg (fun h=>hn 5 (by rw[h.2.1];decide)),if_neg (fun h=>hn 6 (by rw[h.2.1];decide))]
 |true=>
  have e:=hu.1 hc
  obtain ⟨h5,h6⟩:=zquz (be:=y9z 58 t) hu.2.2
  rw[←e]at h5 h6
  have hw:=zkGz (y9z 58 t)
  generalize upB 58 t=nm at*
  generalize y9z 58 t=be at*
  unfold yrz zcwz
  have hlen:(zdz nm).length=nm.length:=by simp[zdz]
  by_cases g5:zdz nm=[104,116,116,112]
  ·have hn4:nm.length=4:=by rw[←hlen,g5];rfl
   have ht:t.length=5+be.length:=by rw[e,List.length_append,List.length_cons,hn4];omega
   have hd:t.drop 5=be:=by rw[e,show 5=(nm++[58]).length by simp[hn4],show nm++58::be=(nm++[58])++be by simp,List.drop_left'];rfl
   have hg: ∀i,t.getD (5+i) 0=be.getD i 0:=fun i=>by
    rw[←hd,List.getD_eq_getElem?_getD,List.getD_eq_getElem?_getD,List.getElem?_drop]
   have h0:=hg 0
   have h1:=hg 1
   simp only[Nat.add_zero]at h0 h1
   have hne: ¬(zdz t).take 6=jTz:=fun h=>by
    have:=h6.1 h
    rw[g5]at this
    cases this
   rw[if_pos g5,h0,show t.getD 6 0=be.getD 1 0 from h1,ht,hd]
   by_cases hp:1<be.length∧slB (be.getD 0 0)=true∧slB (be.getD 1 0)=true
   ·rw[if_pos ⟨by omega,h5.2 g5,hp.2⟩,if_neg (by have:=hw.2 hp;omega)]
   rw[if_neg (fun h=>hp ⟨by omega,h.2.2⟩),if_neg (fun h=>hne h.2.1),if_pos (.inr (by have:=mt hw.1 hp;omega))]
  rw[if_neg g5,if_neg (fun h=>g5 (h5.1 h.2.1))]
  by_cases g6:zdz nm=[104,116,116,112,115]
  ·have hn4:nm.length=5:=by rw[←hlen,g6];rfl
   have ht:t.length=6+be.length:=by rw[e,List.length_append,List.length_cons,hn4];omega
   have hd:t.drop 6=be:=by rw[e,show 6=(nm++[58]).length by simp[hn4],show nm++58::be=(nm++[58])++be by simp,List.drop_left'];rfl
   have hg: ∀i,t.getD (6+i) 0=be.getD i 0:=fun i=>by
    rw[←hd,List.getD_eq_getElem?_getD,List.getD_eq_getElem?_getD,List.getElem?_drop]
   have h0:=hg 0
   have h1:=hg 1
   simp only[Nat.add_zero]at h0 h1
   rw[if_pos g6,h0,show t.getD 7 0=be.getD 1 0 from h1,ht,hd]
   by_cases hp:1<be.length∧slB (be.getD 0 0)=true∧slB (be.getD 1 0)=true
   ·rw[if_pos ⟨by omega,h6.2 g6,hp.2⟩,if_neg (by have:=hw.2 hp;omega)]
   rw[if_neg (fun h=>hp ⟨by omega,h.2.2⟩),if_pos (.inr (by have:=mt hw.1 hp;omega))]
  rw[if_neg g6,if_neg (fun h=>g6 (h6.1 h.2.1)),if_pos (.inl rfl)]
theorem zgnz(A:ByteArray): ∀k,k≤A.size→(Lib.lastIdx A 93 k= -1∧xpz A.data.toList k=0)∨ ∃i,i<k∧Lib.lastIdx A 93 k=(i:Int)∧xpz A.data.toList k=i∧A.data.toList[i]? =some 93
 |0,_=> .inl ⟨rfl,rfl⟩
 |k+1,h=>by
  have ih:=zgnz A k (by omega)
  have hk:k<A.data.size:=h
  have e1:A.data[k]! =A.data.toList.getD k 0:=by
   rw[getElem!_pos A.data k hk,List.getD_eq_getElem?_getD,List.getElem?_eq_getElem (by simpa using hk)]
   simp
  have e2:A.data.toList[k]? =some (A.data.toList.getD k 0):=by
   rw[List.getD_eq_getElem?_getD,List.getElem?_eq_getElem (by simpa using hk)]
   rfl
  unfold Lib.lastIdx xpz
  rw[e1]
  by_cases h9:A.data.toList.getD k 0=93
  ·rw[if_pos h9,if_pos (by rw[h9];rfl)]
   exact .inr ⟨k,by omega,rfl,rfl,by rw[e2,h9]⟩
  rw[if_neg h9,if_neg (fun h=>h9 (UInt8.toNat_inj.1 (by show _=93;omega)))]
  rcases ih with h|⟨i,h1,h2⟩
  ·exact .inl h
  exact .inr ⟨i,by omega,h2⟩
def frB(A:ByteArray):Nat:=(Lib.lastIndexByte A 93+1).toNat
theorem ztkz(A:ByteArray):frB A≤A.size∧Lib.lastIndexByte A 93+1=(frB A:Int):=by
 unfold frB Lib.lastIndexByte
 rcases zgnz A A.size (Nat.le_refl _)with ⟨h1,_⟩|⟨i,h1,h2,_⟩
 ·rw[h1];exact ⟨by simp,by decide⟩
 rw[h2];exact ⟨by omega,by omega⟩
theorem ztHz(A:ByteArray):vDz A.data.toList=((A.data.toList.drop (frB A)).findIdx? fun c=>c==58).map fun k=>k+frB A:=by
 have hz:A.data.toList.length=A.size:=by simp
 unfold vDz
 rw[hz]
 rcases zgnz A A.size (Nat.le_refl _)with ⟨h1,h2⟩|⟨i,h1,h2,h3,h4⟩
 ·have:frB A=0:=by unfold frB Lib.lastIndexByte;rw[h1];rfl
  rw[this,h2]
 have hf:frB A=i+1:=by unfold frB Lib.lastIndexByte;rw[h2];omega
 have hd:A.data.toList.drop i=93::A.data.toList.drop (i+1):=by
  have hi:i<A.data.toList.length:=by omega
  rw[List.drop_eq_getElem_cons hi]
  rw[List.getElem?_eq_getElem hi]at h4
  injection h4 with h4
  rw[h4]
 rw[h3,hf,hd,List.findIdx?_cons]
 have h9:((93:UInt8)==58)=false:=by decide
 simp only[h9]
 cases (A.data.toList.drop (i+1)).findIdx? fun c=>c==58 with
 |none=>rfl
 |some j=>show some (j+1+i)=some (j+(i+1));congr 1;omega
theorem znoz: ∀l:List UInt8,(l.findIdx? (fun c=>c==58)=none∧upB 58 l=l∧y9z 58 l=[])∨ ∃j,l.findIdx? (fun c=>c==58)=some j∧upB 58 l=l.take j∧y9z 58 l=l.drop (j+1)
 |[]=> .inl ⟨rfl,rfl,rfl⟩
 |b::l=>by
  have ih:=znoz l
  unfold upB y9z at ih⊢
  rw[List.findIdx?_cons,List.takeWhile_cons,List.dropWhile_cons]
  by_cases h:b=58
  ·subst h
   exact .inr ⟨0,by simp⟩
  have h1:(b==58)=false:=beq_eq_false_iff_ne.2 h
  have h2:(b !=58)=true:=bne_iff_ne.2 h
  rw[h1,h2]
  rcases ih with ⟨h3,h4,h5⟩|⟨j,h3,h4,h5⟩
  ·rw[h3];exact .inl ⟨rfl,by simp[h4],by simpa using h5⟩
  rw[h3];exact .inr ⟨j+1,rfl,by simp[h4],by simpa using h5⟩
def hoB(A:ByteArray):List UInt8:=A.data.toList.take (frB A)++upB 58 (A.data.toList.drop (frB A))
def poB(A:ByteArray):List UInt8:=y9z 58 (A.data.toList.drop (frB A))
theorem zsvz{s:Int}(hs:s=1∨s=2)(A:ByteArray)(r:List UInt8):cutU s A.data.toList r=if 1≤yJz s (poB A)∧yJz s (poB A)≤65535 then zadz s (yJz s (poB A)) (hoB A) r else (5,y3z):=by
 unfold cutU
 rw[ztHz A]
 unfold poB hoB
 rcases znoz (A.data.toList.drop (frB A))with ⟨h1,h2,h3⟩|⟨j,h1,h2,h3⟩
 ·rw[h1,h2,h3,List.take_append_drop]
  have hd:1≤yJz s []∧yJz s []≤65535:=by rcases hs with rfl|rfl<;>decide
  rw[if_pos hd]
  rfl
 rw[h1,h2,h3]
 have e1:A.data.toList.take (frB A)++(A.data.toList.drop (frB A)).take j=A.data.toList.take (j+frB A):=by rw[Nat.add_comm j,List.take_add]
 have e2:(A.data.toList.drop (frB A)).drop (j+1)=A.data.toList.drop (j+frB A+1):=by rw[List.drop_drop];congr 1;omega
 rw[e1,e2]
 rfl
theorem zkHz{set:Int}(h:set=1∨set=2)(l:List UInt8)(hp:plL set l=l):okL set l=true:=by
 rw[←hp]
 rcases h with rfl|rfl
 ·exact zmPz 1 (by decide) l
 exact zmPz 2 (by decide) l
def paOk(a:ByteArray):Bool:=zVz a&&(decide (plB 1 a=a)&&decide (zXz a=a))
def quOk(r:ByteArray)(q:Bool):Bool:=decide (plB 2 r=r)&&(q||decide (r.size=0))
theorem zqvz(set:Int)(a:ByteArray):(plB set a=a)↔plL set (toL a)=toL a:=⟨fun h=>congrArg toL h,fun h=>zIz h⟩
theorem zqwz(u:UV):uOk u=(decide (zSz u.s≠0)&&(hOk u.h&&(decide (1≤u.p∧u.p≤65535)&&(paOk u.a&&quOk u.r u.q)))):=by
 unfold uOk paOk quOk
 have e1:decide (plB 1 u.a=u.a)=decide (plL 1 (toL u.a)=toL u.a):=decide_eq_decide.2 (zqvz 1 u.a)
 have e2:decide (plB 2 u.r=u.r)=decide (plL 2 (toL u.r)=toL u.r):=decide_eq_decide.2 (zqvz 2 u.r)
 have e3:decide (zXz u.a=u.a)=decide (toL (zXz u.a)=toL u.a):=decide_eq_decide.2 ⟨fun h=>congrArg toL h,fun h=>zIz h⟩
 rw[e1,e2,e3]
 by_cases h1:plL 1 (toL u.a)=toL u.a
 ·by_cases h2:plL 2 (toL u.r)=toL u.r
  ·rw[zkHz (.inl rfl) _ h1,zkHz (.inr rfl) _ h2,decide_eq_true h1,decide_eq_true h2]
   simp only[Bool.and_true,Bool.true_and]
   simp only[Bool.and_assoc]
   congr 1;congr 1;congr 1;congr 1
   rw[Bool.and_comm]
  rw[decide_eq_false h2];simp
 rw[decide_eq_false h1];simp
end Go.Proofs.YtgcbaphbiaimoaaGreatDoor
namespace Go.Proofs.YtgcbaphbiaimoaaGreatDoor
open Go.RowKit
def z1z:List UInt8:=[32,9,10,13]
def yxz(c:UInt8):Prop:=c.toNat=32∨c.toNat=9∨c.toNat=10∨c.toNat=13
theorem zchz{c:UInt8}(h:yxz c):z1z.contains c=true:=by
 rcases h with h|h|h|h
 ·rw[show c=32 from UInt8.toNat_inj.1 (by rw[h];rfl)];rfl
 ·rw[show c=9 from UInt8.toNat_inj.1 (by rw[h];rfl)];rfl
 ·rw[show c=10 from UInt8.toNat_inj.1 (by rw[h];rfl)];rfl
 rw[show c=13 from UInt8.toNat_inj.1 (by rw[h];rfl)];rfl
theorem zkIz{c:UInt8}(h: ¬yxz c):z1z.contains c=false:=by
 unfold yxz at h
 simp only[z1z,List.contains_cons,List.contains_nil,Bool.or_false,Bool.or_eq_false_iff,beq_eq_false_iff_ne,ne_eq]
 refine ⟨?_,?_,?_,?_⟩<;>(intro e;subst e;exact h (by decide))
theorem znpz(s:ByteArray)(a b:Nat)(hab:a≤b)(hb:b≤s.size)(h1: ∀j,(hj:j<s.size)→j<a→yxz s[j])(h2: ∀h:a<b,¬yxz s[a])(h3: ∀j,(hj:j<s.size)→b≤j→yxz s[j])(h4: ∀h:a<b,¬yxz s[b-1]):
  s.extract a b=⟨(Lib.trimS s.data.toList z1z).toArray⟩:=by
 have hlen:s.data.toList.length=s.size:=by simp
 have at': ∀(j:Nat) x,s.data.toList[j]? =some x→ ∃hj:j<s.size,s[j]=x:=by
  intro j x hx
  obtain ⟨hj,he⟩:=List.getElem?_eq_some_iff.1 hx
  exact ⟨by omega,he⟩
 have key:Lib.trimS s.data.toList z1z=(s.data.toList.take b).drop a:=by
  unfold Lib.trimS
  by_cases hlt:a<b
  ·have e:Lib.trimRightS s.data.toList z1z=s.data.toList.take b:=by
    refine Lib.trimRightS_take _ _ b (by omega) (fun j x hj hx=> ?_) (fun x _ hx=> ?_)
    ·obtain ⟨hj',rfl⟩:=at' j x hx
     exact zchz (h3 j hj' hj)
    obtain ⟨_,rfl⟩:=at' _ x hx
    exact zkIz (h4 hlt)
   rw[e]
   refine Lib.trimLeftS_drop _ _ a (by rw[List.length_take];omega) (fun j x hj hx=> ?_) (fun x hx=> ?_)
   ·rw[List.getElem?_take,if_pos (by omega)]at hx
    obtain ⟨hj',rfl⟩:=at' j x hx
    exact zchz (h1 j hj' hj)
   rw[List.getElem?_take,if_pos hlt]at hx
   obtain ⟨_,rfl⟩:=at' a x hx
   exact zkIz (h2 hlt)
  have e:Lib.trimRightS s.data.toList z1z=s.data.toList.take 0:=by
   refine Lib.trimRightS_take _ _ 0 (by omega) (fun j x hj hx=> ?_) (fun x h _=>by omega)
   obtain ⟨hj',rfl⟩:=at' j x hx
   rcases Nat.lt_or_ge j a with h|h
   ·exact zchz (h1 j hj' h)
   exact zchz (h3 j hj' (by omega))
  rw[e,List.drop_eq_nil_of_le (by rw[List.length_take];omega)]
  rfl
 rw[key]
 apply ByteArray.ext
 rw[ByteArray.data_extract]
 apply Array.ext'
 rw[Array.toList_extract,List.drop_take]
theorem zeSz(c:UInt8)(w:World)(h:yxz c):
  Calls Tryz.prog 166 #[.int .u8 (c.toNat:Int)] w fun e w'=>e=.returned (.bool true)∧w=w':=by
 by_cases a:(c.toNat:Int)=32
 ·have a':((c.toNat:Int)==32)=true:=by simp[a]
  clear a h
  go_enter Tryz.func166,Tryz.ntmps166
  go_wp2
  go_ret
  exact ⟨rfl,rfl⟩
 have a':((c.toNat:Int)==32)=false:=by simp[a]
 by_cases b:(c.toNat:Int)=9
 ·have b':((c.toNat:Int)==9)=true:=by simp[b]
  clear a b h
  go_enter Tryz.func166,Tryz.ntmps166
  go_wp2
  go_ret
  exact ⟨rfl,rfl⟩
 have b':((c.toNat:Int)==9)=false:=by simp[b]
 by_cases d:(c.toNat:Int)=10
 ·have d':((c.toNat:Int)==10)=true:=by simp[d]
  clear a b d h
  go_enter Tryz.func166,Tryz.ntmps166
  go_wp2
  go_ret
  exact ⟨rfl,rfl⟩
 have d':((c.toNat:Int)==10)=false:=by simp[d]
 have e':((c.toNat:Int)==13)=true:=by
  unfold yxz at h
  simp;omega
 clear a b d h
 go_enter Tryz.func166,Tryz.ntmps166
 go_wp2
 go_ret
 exact ⟨rfl,rfl⟩
theorem zgoz(c:UInt8)(w:World)(h: ¬yxz c):
  Calls Tryz.prog 166 #[.int .u8 (c.toNat:Int)] w fun e w'=>e=.returned (.bool false)∧w=w':=by
 unfold yxz at h
 have a':((c.toNat:Int)==32)=false:=by simp;omega
 have b':((c.toNat:Int)==9)=false:=by simp;omega
 have d':((c.toNat:Int)==10)=false:=by simp;omega
 have e':((c.toNat:Int)==13)=false:=by simp;omega
 clear h
 go_enter Tryz.func166,Tryz.ntmps166
 go_wp2
 go_ret
 exact ⟨rfl,rfl⟩
theorem zqxz(s:ByteArray)(w:World)(hs:s.size≤1099511627776):
  Calls Tryz.prog 112 #[.string s] w fun e w'=>e=.returned (.string ⟨(Lib.trimS s.data.toList z1z).toArray⟩)∧w=w':=by
 go_enter Tryz.func112,Tryz.ntmps112
 go_wp2
 go_loop[3] (fun i=> ∃k:Nat,k≤s.size∧i=.int .i64 k∧ ∀j,(hj:j<s.size)→j<k→yxz s[j]) (fun i=>s.size-(intOf i).toNat)
 case atStart=>exact ⟨0,Nat.zero_le _,rfl,fun j _ h=>by omega⟩
 obtain ⟨k,hk,rfl,hall⟩:=hrel
 have HA:Hid (∀j,(hj:j<s.size)→j<k→yxz s[j]):=hall
 clear hall
 by_cases hlt:k<s.size
 ·by_cases hb:yxz s[k]
  ·have HB:Hid (yxz s[k]):=hb
   clear hb
   go_wp2_with (go_at_call 166;refine (zeSz _ _ HB.out).mono ?_;rintro e w' ⟨rfl,rfl⟩)
   go_round
   case rel=>
    refine ⟨k+1,by omega,by go_num,fun j hj h=> ?_⟩
    by_cases e:j=k
    ·subst e;exact HB.out
    exact HA.out j hj (by omega)
   case measure=>simp[intOf];omega
  have HB:Hid (∀h:k<s.size,¬yxz s[k]):=fun _=>hb
  have HB1:Hid (¬yxz s[k]):=hb
  clear hb
  go_wp2_with (go_at_call 166;refine (zgoz _ _ HB1.out).mono ?_;rintro e w' ⟨rfl,rfl⟩)
  go_loop[4] (fun i=> ∃m:Nat,k<m∧m≤s.size∧i=.int .i64 m∧ ∀j,(hj:j<s.size)→m≤j→yxz s[j]) (fun i=>(intOf i).toNat)
  case atStart=>exact ⟨s.size,hlt,Nat.le_refl _,rfl,fun j hj h=>by omega⟩
  obtain ⟨m,hkm,hm,rfl,hall⟩:=hrel
  have HC:Hid (∀j,(hj:j<s.size)→m≤j→yxz s[j]):=hall
  clear hall
  have hm1:m-1<s.size:=by omega
  have hcast:((m:Int)-1)=((m-1:Nat):Int):=by omega
  by_cases hb:yxz s[m-1]
  ·have HD:Hid (yxz s[m-1]):=hb
   have hne:k<m-1:=by
    rcases Nat.lt_or_ge k (m-1)with h|h
    ·exact h
    have e:m-1=k:=by omega
    have:yxz s[k]:=by simpa[e] using hb
    exact absurd this HB1.out
   clear hb
   go_wp2_with (go_at_call 166;refine (zeSz _ _ HD.out).mono ?_;rintro e w' ⟨rfl,rfl⟩)
   go_round
   case rel=>
    refine ⟨m-1,hne,by omega,by go_num,fun j hj h=> ?_⟩
    by_cases e:j=m-1
    ·subst e;exact HD.out
    exact HC.out j hj (by omega)
   case measure=>simp[intOf];omega
  have HD:Hid (¬yxz s[m-1]):=hb
  clear hb
  go_wp2_with (go_at_call 166;refine (zgoz _ _ HD.out).mono ?_;rintro e w' ⟨rfl,rfl⟩)
  go_ret
  refine ⟨?_,rfl⟩
  exact congrArg (fun b:ByteArray=>Ending.returned (.string b)) (znpz s k m (by omega) hm HA.out (fun _=>HB1.out) HC.out (fun _=>HD.out))
 have hks:k=s.size:=by omega
 have HK:Hid (k=s.size):=hks
 clear hks
 go_wp2
 refine wp_loop_rounds 1 ?_
 rw[rounds_succ]
 go_wp2
 go_ret
 refine ⟨?_,rfl⟩
 exact congrArg (fun b:ByteArray=>Ending.returned (.string b)) (znpz s k s.size (by omega) (Nat.le_refl _) HA.out (fun h=>by omega) (fun j hj h=>by omega) (fun h=>by omega))
theorem zdMz (l cs : List UInt8) : (Lib.trimS l cs).length ≤ l.length := by
 have a : ∀ m : List UInt8, (m.dropWhile (cs.contains ·)).length ≤ m.length := fun m => (List.dropWhile_sublist _).length_le
 unfold Lib.trimS Lib.trimLeftS Lib.trimRightS
 refine Nat.le_trans (a _) ?_
 rw [List.length_reverse]
 refine Nat.le_trans (a _) ?_
 rw [List.length_reverse]
 exact Nat.le_refl _
theorem zqyz(s:ByteArray)(w:World)(hs:s.size≤1099511627776):
  Calls Tryz.prog 148 #[.string s] w fun e w'=>e=.returned (.string ⟨(Lib.trimS s.data.toList z1z).toArray⟩)∧Below w.heap.size w w':=by
 have hle:(⟨(Lib.trimS s.data.toList z1z).toArray⟩:ByteArray).size≤281474976710656:=by
  have:=zdMz s.data.toList z1z
  have e:(⟨(Lib.trimS s.data.toList z1z).toArray⟩:ByteArray).size=(Lib.trimS s.data.toList z1z).length:=by simp[ByteArray.size]
  have e2:s.data.toList.length=s.size:=by simp
  omega
 have ct:=fun W=>Any.strings_Trim_laid Tryz.lays160 (by kernel_rfl) s ⟨#[32,9,10,13]⟩ W (by omega) (by decide) (ascii_of_all (by decide))
 have HT:Hid (∀W,CB 205 #[.string s,.string ⟨#[32,9,10,13]⟩] W (.string ⟨(Lib.trimS s.data.toList z1z).toArray⟩)):=ct
 clear ct
 go_enter Tryz.func148,Tryz.ntmps148
 go_wp2_with fail
 refine (HT.out _).mono ?_
 rintro e wa ⟨rfl,ba⟩
 go_wp2_with fail
 refine (zbzz _ _ hle).mono ?_
 rintro e wb ⟨rfl,bb⟩
 go_wp2
 go_ret
 exact ⟨rfl,ba.trans (bb.mono ba.size)⟩
def zcxz(c:Int):Bool:=decide (0≤c)&&yXz c.toNat
theorem zqzz(c:Int):yOz [45,46,95,126] c=(decide (0≤c)&&vnz c.toNat):=by
 rw[Bool.eq_iff_iff]
 simp[yOz,vnz]
 omega
theorem zswz(c:Int):yOz [33,36,38,39,40,41,42,43,44,59,61,58,64] c=(decide (0≤c)&&zaxz c.toNat):=by
 rw[Bool.eq_iff_iff]
 simp[yOz,zaxz]
 omega
theorem zsxz(c:Int):zcxz c=(vSz c||decide (48≤c∧c≤57)||yOz [45,46,95,126] c):=by
 rw[zqzz,Bool.eq_iff_iff]
 simp[zcxz,vSz,yXz,yKz,jdz,vnz]
 omega
theorem zgpz(c:Int)(w:World):Calls Tryz.prog 91 #[.int .i64 c] w fun e w'=>e=.returned (.bool (zcxz c))∧w=w':=by
 have HV:Hid (zcxz c=(vSz c||decide (48≤c∧c≤57)||yOz [45,46,95,126] c)):=zsxz c
 have cl:=fun W=>zlJz c W
 have ca:=fun W=>zb8z ⟨#[45,46,95,126]⟩ c W (by decide)
 have CL:Hid (∀W,CS 125 #[.int .i64 c] W (.bool (vSz c))):=cl
 have CA:Hid (∀W,CS 55 #[.string ⟨#[45,46,95,126]⟩,.int .i64 c] W (.bool (yOz [45,46,95,126] c))):=ca
 clear cl ca
 generalize vSz c=b1 at HV CL
 generalize yOz [45,46,95,126] c=b3 at HV CA
 cases b1 with
 |true=>
  go_enter Tryz.func91,Tryz.ntmps91
  go_wp2_with fail
  refine (CL.out _).mono ?_
  rintro e w' ⟨rfl,rfl⟩
  go_wp2
  go_ret
  exact ⟨zgz (by rw[HV.out];rfl),rfl⟩
 |false=>
  by_cases h2:48≤c∧c≤57
  ·rw[decide_eq_true h2]at HV
   have H2:Hid (48≤c∧c≤57):=h2
   clear h2
   go_enter Tryz.func91,Tryz.ntmps91
   go_wp2_with fail
   refine (CL.out _).mono ?_
   rintro e w' ⟨rfl,rfl⟩
   go_wp2_with fail
   refine (zfz _ _ _ _ H2.out.1 H2.out.2).mono ?_
   rintro e w' ⟨rfl,rfl⟩
   go_wp2
   go_ret
   exact ⟨zgz (by rw[HV.out];rfl),rfl⟩
  rw[decide_eq_false h2]at HV
  have H2:Hid (c<48∨57<c):=by show _∨_;omega
  clear h2
  go_enter Tryz.func91,Tryz.ntmps91
  go_wp2_with fail
  refine (CL.out _).mono ?_
  rintro e w' ⟨rfl,rfl⟩
  go_wp2_with fail
  refine (zlz _ _ _ _ H2.out).mono ?_
  rintro e w' ⟨rfl,rfl⟩
  go_wp2_with fail
  refine (CA.out _).mono ?_
  rintro e w' ⟨rfl,rfl⟩
  go_wp2
  go_ret
  exact ⟨zgz (by rw[HV.out];rfl),rfl⟩
theorem zqAz{set:Int}(h:1≤set∧set≤3)(c:Int):vEz set c=(zcxz c||yOz [33,36,38,39,40,41,42,43,44,59,61,58,64] c||(decide (c=47)&&decide (set≠3))||(decide (c=63)&&decide (set=2))):=by
 rw[zswz]
 unfold vEz yHz zcxz
 rw[decide_eq_true h]
 by_cases h0:0≤c
 ·have e1:decide (c.toNat=47)=decide (c=47):=decide_eq_decide.2 (by omega)
  have e2:decide (c.toNat=63)=decide (c=63):=decide_eq_decide.2 (by omega)
  rw[e1,e2,decide_eq_true h0]
  rfl
 have e1:decide (c=47)=false:=decide_eq_false (by omega)
 have e2:decide (c=63)=false:=decide_eq_false (by omega)
 rw[e1,e2,decide_eq_false h0]
 rfl
theorem zoFz(set c:Int)(w:World):
  Calls Tryz.prog 90 #[.int .i64 set,.int .i64 c] w fun e w'=>e=.returned (.bool (vEz set c))∧w=w':=by
 by_cases h:1≤set∧set≤3
 ·have HV:Hid (vEz set c=_):=zqAz h c
  have H1:Hid (1≤set∧set≤3):=h
  clear h
  have cl:=fun W=>zgpz c W
  have ca:=fun W=>zb8z ⟨#[33,36,38,39,40,41,42,43,44,59,61,58,64]⟩ c W (by decide)
  have CL:Hid (∀W,CS 91 #[.int .i64 c] W (.bool (zcxz c))):=cl
  have CA:Hid (∀W,CS 55 #[.string ⟨#[33,36,38,39,40,41,42,43,44,59,61,58,64]⟩,.int .i64 c] W (.bool (yOz [33,36,38,39,40,41,42,43,44,59,61,58,64] c))):=ca
  clear cl ca
  generalize zcxz c=b1 at HV CL
  generalize yOz [33,36,38,39,40,41,42,43,44,59,61,58,64] c=b2 at HV CA
  cases b1 with
  |true=>
   go_enter Tryz.func90,Tryz.ntmps90
   go_wp2_with fail
   refine (zfz _ _ _ _ H1.out.1 H1.out.2).mono ?_
   rintro e w' ⟨rfl,rfl⟩
   go_wp2_with fail
   refine (CL.out _).mono ?_
   rintro e w' ⟨rfl,rfl⟩
   go_wp2
   go_ret
   exact ⟨zgz (by rw[HV.out];rfl),rfl⟩
  |false=>
   cases b2 with
   |true=>
    go_enter Tryz.func90,Tryz.ntmps90
    go_wp2_with fail
    refine (zfz _ _ _ _ H1.out.1 H1.out.2).mono ?_
    rintro e w' ⟨rfl,rfl⟩
    go_wp2_with fail
    refine (CL.out _).mono ?_
    rintro e w' ⟨rfl,rfl⟩
    go_wp2_with fail
    refine (CA.out _).mono ?_
    rintro e w' ⟨rfl,rfl⟩
    go_wp2
    go_ret
    exact ⟨zgz (by rw[HV.out];rfl),rfl⟩
   |false=>
    by_cases hs:c=47
    ·subst hs
     by_cases he:set=3
     ·subst he
      go_enter Tryz.func90,Tryz.ntmps90
      go_wp2_with fail
      refine (zfz _ _ _ _ H1.out.1 H1.out.2).mono ?_
      rintro e w' ⟨rfl,rfl⟩
      go_wp2_with fail
      refine (CL.out _).mono ?_
      rintro e w' ⟨rfl,rfl⟩
      go_wp2_with fail
      refine (CA.out _).mono ?_
      rintro e w' ⟨rfl,rfl⟩
      go_wp2
      go_ret
      exact ⟨zgz (by first|(rw[HV.out];simp)|(rw[HV.out];decide)|decide),rfl⟩
     go_enter Tryz.func90,Tryz.ntmps90
     go_wp2_with fail
     refine (zfz _ _ _ _ H1.out.1 H1.out.2).mono ?_
     rintro e w' ⟨rfl,rfl⟩
     go_wp2_with fail
     refine (CL.out _).mono ?_
     rintro e w' ⟨rfl,rfl⟩
     go_wp2_with fail
     refine (CA.out _).mono ?_
     rintro e w' ⟨rfl,rfl⟩
     go_wp2
     go_ret
     exact ⟨zgz (by first|(rw[HV.out];simp[he])|(rw[HV.out];decide)|decide),rfl⟩
    by_cases hq:c=63
    ·subst hq
     by_cases he:set=2
     ·subst he
      go_enter Tryz.func90,Tryz.ntmps90
      go_wp2_with fail
      refine (zfz _ _ _ _ H1.out.1 H1.out.2).mono ?_
      rintro e w' ⟨rfl,rfl⟩
      go_wp2_with fail
      refine (CL.out _).mono ?_
      rintro e w' ⟨rfl,rfl⟩
      go_wp2_with fail
      refine (CA.out _).mono ?_
      rintro e w' ⟨rfl,rfl⟩
      go_wp2
      go_ret
      exact ⟨zgz (by first|(rw[HV.out];simp)|(rw[HV.out];decide)|decide),rfl⟩
     go_enter Tryz.func90,Tryz.ntmps90
     go_wp2_with fail
     refine (zfz _ _ _ _ H1.out.1 H1.out.2).mono ?_
     rintro e w' ⟨rfl,rfl⟩
     go_wp2_with fail
     refine (CL.out _).mono ?_
     rintro e w' ⟨rfl,rfl⟩
     go_wp2_with fail
     refine (CA.out _).mono ?_
     rintro e w' ⟨rfl,rfl⟩
     go_wp2
     go_ret
     exact ⟨zgz (by first|(rw[HV.out];simp[he])|(rw[HV.out];decide)|decide),rfl⟩
    go_enter Tryz.func90,Tryz.ntmps90
    go_wp2_with fail
    refine (zfz _ _ _ _ H1.out.1 H1.out.2).mono ?_
    rintro e w' ⟨rfl,rfl⟩
    go_wp2_with fail
    refine (CL.out _).mono ?_
    rintro e w' ⟨rfl,rfl⟩
    go_wp2_with fail
    refine (CA.out _).mono ?_
    rintro e w' ⟨rfl,rfl⟩
    go_wp2
    go_ret
    exact ⟨zgz (by first|(rw[HV.out];simp[hs,hq])|(rw[HV.out];decide)|decide),rfl⟩
 have HV:Hid (vEz set c=false):=zehz c h
 have H1:Hid (set<1∨3<set):=by show _∨_;omega
 clear h
 go_enter Tryz.func90,Tryz.ntmps90
 go_wp2_with fail
 refine (zlz _ _ _ _ H1.out).mono ?_
 rintro e w' ⟨rfl,rfl⟩
 go_wp2
 go_ret
 exact ⟨zgz (by rw[HV.out]),rfl⟩
theorem zh0z(p:UInt8→Bool)(m s:ByteArray)(w:World)(hm:m.size≤1000)(hp: ∀c:UInt8,yOz m.data.toList (c.toNat:Int)= !p c)(hs:s.size≤16777216):
  Calls Tryz.prog 54 #[.string s,.string m] w fun e w'=>e=.returned (.tuple #[.string ⟨(s.data.toList.takeWhile p).toArray⟩,.string ⟨(s.data.toList.dropWhile p).toArray⟩])∧Below w.heap.size w w':=by
 go_enter Tryz.func54,Tryz.ntmps54
 go_wp2
 go_loop[6] (fun i=> ∃k:Nat,k≤s.size∧i=.int .i64 k∧ ∀c∈s.data.toList.take k,p c=true) (fun i=>s.size-(intOf i).toNat)
 case atStart=>exact ⟨0,Nat.zero_le _,rfl,fun c hc=>by cases hc⟩
 obtain ⟨k,hk,rfl,hall⟩:=hrel
 have HA:Hid (∀c∈s.data.toList.take k,p c=true):=hall
 clear hall
 by_cases hlt:k<s.size
 ·have hdr:=xHz s k hlt
  have hpc:=hp s[k]
  obtain ⟨d,hd⟩: ∃d:Nat,s[k].toNat=d:=⟨_,rfl⟩
  rw[hd]at hpc
  have CA:Hid (∀W,CS 55 #[.string m,.int .i64 (d:Int)] W (.bool (!p s[k]))):=fun W=>by
   have h:=zb8z m (d:Int) W (by omega)
   rw[hpc]at h
   exact h
  clear hpc
  have hd2:(d:Int)<256:=by have:=s[k].toNat_lt;omega
  cases hb:p s[k]with
  |true=>
   have HN:Hid (∀c∈s.data.toList.take (k+1),p c=true):=fun c hc=>by
    rw[xez s k hlt]at hc
    rcases List.mem_append.1 hc with h|h
    ·exact HA.out c h
    rw[List.mem_singleton.1 h];exact hb
   rw[hb]at CA
   clear hb hdr
   go_wp2_with fail
   refine (CA.out _).mono ?_
   rintro e w' ⟨rfl,rfl⟩
   go_wp2_with fail
   go_round
   case rel=>exact ⟨k+1,by omega,by go_num,HN.out⟩
   case measure=>simp[intOf];omega
  |false=>
   obtain ⟨h1,h2⟩:=zhmz HA.out
   rw[hdr,List.takeWhile_cons,hb,if_neg (by decide),List.append_nil]at h1
   rw[hdr,List.dropWhile_cons,hb,if_neg (by decide),←hdr]at h2
   have H1:Hid (s.extract 0 k=⟨(s.data.toList.takeWhile p).toArray⟩):=by show _=_;rw[h1,←xUz,zb4z]
   have H2:Hid (s.extract k s.size=⟨(s.data.toList.dropWhile p).toArray⟩):=by show _=_;rw[h2,←xmz,zb4z]
   rw[hb]at CA
   clear hb hdr h1 h2
   go_wp2_with fail
   refine (CA.out _).mono ?_
   rintro e w' ⟨rfl,rfl⟩
   go_wp2
   go_region
   all_goals (try go_wp2)
   all_goals go_ret2
   all_goals exact ⟨by rw[←H1.out,←H2.out];rfl,(Below.refl _ _).drew⟩
 have HN:Hid (∀c∈s.data.toList,p c=true):=fun c hc=>HA.out c (by rw[ynz s k (by omega)];exact hc)
 obtain ⟨h1,h2⟩:=zhmz (p:=p) (l:=s.data.toList) (k:=s.size) (fun c hc=>HN.out c (List.mem_of_mem_take hc))
 rw[ynz s s.size (Nat.le_refl _),List.drop_of_length_le (by simp)]at h1
 rw[List.drop_of_length_le (by simp)]at h2
 have h3:s.data.toList.takeWhile p=s.data.toList:=by rw[h1];simp
 have H1:Hid (s=⟨(s.data.toList.takeWhile p).toArray⟩):=by show _=_;rw[h3]
 have H2:Hid ((⟨#[]⟩:ByteArray)=⟨(s.data.toList.dropWhile p).toArray⟩):=by show _=_;rw[h2];rfl
 clear h1 h2 h3
 go_wp2
 go_ret2
 exact ⟨by rw[←H1.out,←H2.out];rfl,Below.refl _ _⟩
end Go.Proofs.YtgcbaphbiaimoaaGreatDoor
