/- CutWay, UrlWay, TrimWalk, KeepSpec, UntilWalk, PctWalk, UnWalk. -/
import Derived.Lib.IndexMore
import Derived.Test.YtgcbaphbiaimoaaGreatDoorQU15
import Derived.Lib.IndexAny
import Derived.Lib.Replace
import Derived.Lib.LastIndexByte
set_option maxHeartbeats 2000000
namespace Go.Proofs.YtgcbaphbiaimoaaGreatDoor
open Go.RowKit
def upB(c:UInt8)(l:List UInt8):List UInt8:=l.takeWhile fun x=>x !=c
def y6z(c:UInt8)(l:List UInt8):List UInt8:=(l.dropWhile fun x=>x !=c).drop 1
theorem v6z(c:UInt8): ∀l:List UInt8,Lib.index l [c]=if l.contains c then ((upB c l).length:Int)else-1
 |[]=>rfl
 |b::l=>by
  have ih:=v6z c l
  unfold upB at ih⊢
  unfold Lib.index
  by_cases h:b=c
  ·subst h
   simp
  have h1:([c].isPrefixOf (b::l))=false:=by
   simp[List.isPrefixOf,Ne.symm h]
  have h2:(b::l).contains c=l.contains c:=by
   simp[Ne.symm h]
  have h3:(b !=c)=true:=bne_iff_ne.2 h
  rw[h1,h2,ih,List.takeWhile_cons,h3]
  cases hc:l.contains c
  ·simp
  have h4:(((List.takeWhile (fun x=>x !=c) l).length:Int)== -1)=false:=beq_eq_false_iff_ne.2 (by omega)
  simp[h4]
theorem zd3z(c:UInt8)(l:List UInt8):(l.contains c=true→l=upB c l++c::y6z c l)∧(l.contains c=false→upB c l=l∧y6z c l=[])∧c∉upB c l:=by
 unfold upB y6z
 induction l with
 |nil=>simp
 |cons b l ih=>
  by_cases h:b=c
  ·subst h;simp
  have h3:(b !=c)=true:=bne_iff_ne.2 h
  have h2:(b::l).contains c=l.contains c:=by simp[Ne.symm h]
  rw[h2,List.takeWhile_cons,List.dropWhile_cons,h3]
  refine ⟨fun hc=> ?_,fun hc=> ?_,?_⟩
  ·have:=ih.1 hc
   simp only[if_true,List.cons_append,List.cons.injEq,true_and]
   exact this
  ·have:=ih.2.1 hc
   simp only[if_true,this.1,this.2,and_self]
  simp only[if_true,List.mem_cons,not_or]
  exact ⟨Ne.symm h,ih.2.2⟩
end Go.Proofs.YtgcbaphbiaimoaaGreatDoor
namespace Go.Proofs.YtgcbaphbiaimoaaGreatDoor
open Go.RowKit
set_option linter.unusedVariables false
theorem zaiz(c:UInt8): ∀(n:Nat) (l:List UInt8),l.length<n→Lib.countFrom [c] n l=l.count c
 |0,l,h=>by omega
 |n+1,l,h=>by
  have hu:=zd3z c l
  rw[Lib.countFrom,v6z]
  cases hc:l.contains c with
  |false=>
   have:l.count c=0:=List.count_eq_zero.2 (fun hm=>by rw[List.contains_iff_mem.2 hm]at hc;cases hc)
   rw[this];rfl
  |true=>
   have e:=hu.1 hc
   have h0:(((upB c l).length:Int)== -1)=false:=beq_eq_false_iff_ne.2 (by omega)
   simp only[if_true,h0]
   have e1:((upB c l).length:Int).toNat+[c].length=(upB c l++[c]).length:=by simp
   have e2:l.drop ((upB c l).length+1)=y6z c l:=by
    conv=>lhs;arg 2;rw[e]
    rw[show (upB c l).length+1=(upB c l++[c]).length by simp,show upB c l++c::y6z c l=(upB c l++[c])++y6z c l by simp,List.drop_left']
    rfl
   have hl:(y6z c l).length<n:=by
    have:=congrArg List.length e
    rw[List.length_append,List.length_cons]at this
    omega
   have e3:((upB c l).length:Int).toNat+[c].length=(upB c l).length+1:=by simp
   rw[e3,e2,zaiz c n _ hl]
   conv=>rhs;rw[e]
   rw[List.count_append,List.count_cons_self,List.count_eq_zero.2 hu.2.2]
   simp only[Bool.false_eq_true,if_false]
   omega
theorem zlpz{a b:UInt8}{l:List UInt8}(h:a∉l):(l.map fun x=>if x=a then b else x)=l:=by
 conv=>rhs;rw[←List.map_id l]
 refine List.map_congr_left fun x hx=> ?_
 by_cases e:x=a
 ·exact absurd (e▸hx) h
 rw[if_neg e]
 rfl
theorem zdmz(a b:UInt8): ∀(k:Nat) (l:List UInt8),l.count a≤k→Lib.replaceK [a] [b] k l=l.map fun x=>if x=a then b else x
 |0,l,h=>by
  rw[Lib.replaceK,zlpz (fun hm=>by have:=List.count_pos_iff.2 hm;omega)]
 |k+1,l,h=>by
  have hu:=zd3z a l
  cases hc:l.contains a with
  |false=>
   rw[Lib.replaceK,v6z,hc,zlpz (fun hm=>by rw[List.contains_iff_mem.2 hm]at hc;cases hc)]
   rfl
  |true=>
   have e:=hu.1 hc
   have hi:Lib.index l [a]=((upB a l).length:Int):=by rw[v6z,hc];rfl
   rw[Lib.replaceK_hit [a] [b] k l _ hi]
   have e2:l.drop ((upB a l).length+[a].length)=y6z a l:=by
    conv=>lhs;arg 2;rw[e]
    rw[show (upB a l).length+[a].length=(upB a l++[a]).length by simp,show upB a l++a::y6z a l=(upB a l++[a])++y6z a l by simp,List.drop_left']
    rfl
   have e3:l.take (upB a l).length=upB a l:=by
    conv=>lhs;arg 2;rw[e]
    rw[List.take_left']
    rfl
   have hk:(y6z a l).count a≤k:=by
    have:=congrArg (List.count a) e
    rw[List.count_append,List.count_cons_self]at this
    omega
   rw[e2,e3,zdmz a b k _ hk]
   conv=>rhs;rw[e]
   rw[List.map_append,List.map_cons,if_pos rfl,zlpz hu.2.2]
   simp
theorem zj0z{a b:UInt8}(h:a≠b)(l:List UInt8):Lib.replaceAll l [a] [b]=l.map fun x=>if x=a then b else x:=by
 unfold Lib.replaceAll Lib.replace Lib.replaceNum Lib.count
 have h1:(([a]:List UInt8)==[b])=false:=by simp[h]
 rw[h1,if_neg (by decide),if_pos (.inl (by decide)),zaiz a _ l (by omega),zdmz a b _ l (Nat.le_refl _)]
theorem zhjz(chars:List UInt8)(p:UInt8→Bool)(hp: ∀c,chars.contains c= !p c): ∀l:List UInt8,Lib.indexAny l chars=if l.all p then-1 else ((l.takeWhile p).length:Int)
 |[]=>rfl
 |b::l=>by
  have ih:=zhjz chars p hp l
  unfold Lib.indexAny
  rw[hp b,List.all_cons,List.takeWhile_cons]
  cases hb:p b with
  |false=>rfl
  |true=>
   rw[ih]
   cases hl:l.all p
   ·have h4:(((l.takeWhile p).length:Int)== -1)=false:=beq_eq_false_iff_ne.2 (by omega)
    simp[h4]
   simp
theorem zlqz(p:UInt8→Bool)(l:List UInt8):l.take (l.takeWhile p).length=l.takeWhile p∧l.drop (l.takeWhile p).length=l.dropWhile p:=by
 have e:=List.takeWhile_append_dropWhile (p:=p) (l:=l)
 constructor
 ·conv=>lhs;arg 2;rw[←e]
  rw[List.take_left']
  rfl
 conv=>lhs;arg 2;rw[←e]
 rw[List.drop_left']
 rfl
theorem zhkz(p:UInt8→Bool): ∀l:List UInt8,l.all p=true→l.takeWhile p=l∧l.dropWhile p=[]
 |[],_=>⟨rfl,rfl⟩
 |b::l,h=>by
  rw[List.all_cons,Bool.and_eq_true]at h
  have ih:=zhkz p l h.2
  rw[List.takeWhile_cons,List.dropWhile_cons,h.1]
  simp[ih.1,ih.2]
theorem zdnz(p q:UInt8→Bool)(h: ∀c,q c=false→p c=true): ∀l:List UInt8,(l.filter p).takeWhile q=(l.takeWhile q).filter p
 |[]=>rfl
 |b::l=>by
  have ih:=zdnz p q h l
  rw[List.filter_cons,List.takeWhile_cons]
  cases hq:q b with
  |false=>rw[h b hq];simp[hq]
  |true=>
   cases hp:p b with
   |false=>simp[hp,ih]
   |true=>simp[hp,hq,ih]
def jVz(c:UInt8):Bool:=c !=9&&c !=10&&c !=13
theorem znPz(l:List UInt8):xJz l=upB 35 ((Lib.trimS l vPz).filter jVz):=by
 unfold xJz upB
 rw[zdnz jVz (fun x=>x !=35) (fun c h=>by
  have:c=35:=by simpa using h
  subst this
  decide)]
 rfl
def zb7z(l:List UInt8):Int:=if zfz l=[104,116,116,112]then 1 else if zfz l=[104,116,116,112,115]then 2 else 0
theorem zsmz(c:UInt8)(h:c≠58):yqz c≠58:=by
 have key: ∀n:Nat,n<256→n≠58→yqz (UInt8.ofNat n)≠58:=by decide+kernel
 have h1:=key c.toNat c.toNat_lt (fun e=>h (UInt8.toNat_inj.1 e))
 simpa using h1
theorem zd4z:yqz 58=58:=by decide
theorem zpGz{nm be:List UInt8}(hn:58∉nm):(((zfz (nm++58::be)).take 5=zdkz)↔zfz nm=[104,116,116,112])∧(((zfz (nm++58::be)).take 6=za5z)↔zfz nm=[104,116,116,112,115]):=by
 have hm: ∀c∈nm,yqz c≠58:=fun c hc=>zsmz c (fun e=>hn (e▸hc))
 unfold zfz zdkz za5z
 match nm,hm with
 |[],_=>simp[zd4z]
 |[a],hm=>simp[zd4z]
 |[a,b],hm=>simp[zd4z]
 |[a,b,c],hm=>simp[zd4z]
 |[a,b,c,d],hm=>
  have:=hm d (by simp)
  simp[zd4z]
 |[a,b,c,d,e],hm=>
  have:=hm e (by simp)
  simp[zd4z,this]
 |a::b::c::d::e::f::r,hm=>
  have h1:=hm e (by simp)
  have h2:=hm f (by simp)
  simp[h1,h2]
theorem zj1z(be:List UInt8):(2≤be.length-(be.dropWhile slB).length)↔(1<be.length∧slB (be.getD 0 0)=true∧slB (be.getD 1 0)=true):=by
 have key: ∀l:List UInt8,(l.dropWhile slB).length≤l.length:=fun l=>(List.dropWhile_suffix slB).length_le
 match be with
 |[]=>simp
 |[a]=>
  have h1:([a].dropWhile slB).length≤1:=key [a]
  simp
  omega
 |a::b::r=>
  have hr:=key r
  cases ha:slB a with
  |false=>simp[ha]
  |true=>
   cases hb:slB b with
   |false=>simp[ha,hb]
   |true=>simp[ha,hb];omega
theorem zlrz(t:List UInt8):y3z t=if zb7z (upB 58 t)=0∨(y6z 58 t).length-((y6z 58 t).dropWhile slB).length<2 then none else some (zb7z (upB 58 t),y6z 58 t):=by
 have hu:=zd3z 58 t
 cases hc:t.contains 58 with
 |false=>
  rw[(hu.2.1 hc).2,if_pos (.inr (by simp))]
  have hn: ∀k,(58:UInt8)∉(zfz t).take k:=fun k hm=>by
   have h1:=List.mem_of_mem_take hm
   unfold zfz at h1
   obtain ⟨c,h2,h3⟩:=List.mem_map.1 h1
   by_cases h4:c=58
   ·subst h4;rw[List.contains_iff_mem.2 h2]at hc;cases hc
   exact zsmz c h4 h3
  unfold y3z
  rw[if_neg (fun h=>hn 5 (by rw[h.2.1];decide)),if_neg (fun h=>hn 6 (by rw[h.2.1];decide))]
 |true=>
  have e:=hu.1 hc
  obtain ⟨h5,h6⟩:=zpGz (be:=y6z 58 t) hu.2.2
  rw[←e]at h5 h6
  have hw:=zj1z (y6z 58 t)
  generalize upB 58 t=nm at*
  generalize y6z 58 t=be at*
  unfold y3z zb7z
  have hlen:(zfz nm).length=nm.length:=by simp[zfz]
  by_cases g5:zfz nm=[104,116,116,112]
  ·have hn4:nm.length=4:=by rw[←hlen,g5];rfl
   have ht:t.length=5+be.length:=by rw[e,List.length_append,List.length_cons,hn4];omega
   have hd:t.drop 5=be:=by rw[e,show 5=(nm++[58]).length by simp[hn4],show nm++58::be=(nm++[58])++be by simp,List.drop_left'];rfl
   have hg: ∀i,t.getD (5+i) 0=be.getD i 0:=fun i=>by
    rw[←hd,List.getD_eq_getElem?_getD,List.getD_eq_getElem?_getD,List.getElem?_drop]
   have h0:=hg 0
   have h1:=hg 1
   simp only[Nat.add_zero]at h0 h1
   have hne: ¬(zfz t).take 6=za5z:=fun h=>by
    have:=h6.1 h
    rw[g5]at this
    cases this
   rw[if_pos g5,h0,show t.getD 6 0=be.getD 1 0 from h1,ht,hd]
   by_cases hp:1<be.length∧slB (be.getD 0 0)=true∧slB (be.getD 1 0)=true
   ·rw[if_pos ⟨by omega,h5.2 g5,hp.2⟩,if_neg (by have:=hw.2 hp;omega)]
   rw[if_neg (fun h=>hp ⟨by omega,h.2.2⟩),if_neg (fun h=>hne h.2.1),if_pos (.inr (by have:=mt hw.1 hp;omega))]
  rw[if_neg g5,if_neg (fun h=>g5 (h5.1 h.2.1))]
  by_cases g6:zfz nm=[104,116,116,112,115]
  ·have hn4:nm.length=5:=by rw[←hlen,g6];rfl
   have ht:t.length=6+be.length:=by rw[e,List.length_append,List.length_cons,hn4];omega
   have hd:t.drop 6=be:=by rw[e,show 6=(nm++[58]).length by simp[hn4],show nm++58::be=(nm++[58])++be by simp,List.drop_left'];rfl
   have hg: ∀i,t.getD (6+i) 0=be.getD i 0:=fun i=>by
    rw[←hd,List.getD_eq_getElem?_getD,List.getD_eq_getElem?_getD,List.getElem?_drop]
   have h0:=hg 0
   have h1:=hg 1
   simp only[Nat.add_zero]at h0 h1
   rw[if_pos g6,h0,show t.getD 7 0=be.getD 1 0 from h1,ht,hd]
   by_cases hp:1<be.length∧slB (be.getD 0 0)=true∧slB (be.getD 1 0)=true
   ·rw[if_pos ⟨by omega,h6.2 g6,hp.2⟩,if_neg (by have:=hw.2 hp;omega)]
   rw[if_neg (fun h=>hp ⟨by omega,h.2.2⟩),if_pos (.inr (by have:=mt hw.1 hp;omega))]
  rw[if_neg g6,if_neg (fun h=>g6 (h6.1 h.2.1)),if_pos (.inl rfl)]
theorem zfJz(A:ByteArray): ∀k,k≤A.size→(Lib.lastIdx A 93 k= -1∧zaBz A.data.toList k=0)∨ ∃i,i<k∧Lib.lastIdx A 93 k=(i:Int)∧zaBz A.data.toList k=i∧A.data.toList[i]? =some 93
 |0,_=> .inl ⟨rfl,rfl⟩
 |k+1,h=>by
  have ih:=zfJz A k (by omega)
  have hk:k<A.data.size:=h
  have e1:A.data[k]! =A.data.toList.getD k 0:=by
   rw[getElem!_pos A.data k hk,List.getD_eq_getElem?_getD,List.getElem?_eq_getElem (by simpa using hk)]
   simp
  have e2:A.data.toList[k]? =some (A.data.toList.getD k 0):=by
   rw[List.getD_eq_getElem?_getD,List.getElem?_eq_getElem (by simpa using hk)]
   rfl
  unfold Lib.lastIdx zaBz
  rw[e1]
  by_cases h9:A.data.toList.getD k 0=93
  ·rw[if_pos h9,if_pos (by rw[h9];rfl)]
   exact .inr ⟨k,by omega,rfl,rfl,by rw[e2,h9]⟩
  rw[if_neg h9,if_neg (fun h=>h9 (UInt8.toNat_inj.1 (by show _=93;omega)))]
  rcases ih with h|⟨i,h1,h2⟩
  ·exact .inl h
  exact .inr ⟨i,by omega,h2⟩
def frB(A:ByteArray):Nat:=(Lib.lastIndexByte A 93+1).toNat
theorem zsnz(A:ByteArray):frB A≤A.size∧Lib.lastIndexByte A 93+1=(frB A:Int):=by
 unfold frB Lib.lastIndexByte
 rcases zfJz A A.size (Nat.le_refl _)with ⟨h1,_⟩|⟨i,h1,h2,_⟩
 ·rw[h1];exact ⟨by simp,by decide⟩
 rw[h2];exact ⟨by omega,by omega⟩
theorem zsLz(A:ByteArray):colI A.data.toList=((A.data.toList.drop (frB A)).findIdx? fun c=>c==58).map fun k=>k+frB A:=by
 have hz:A.data.toList.length=A.size:=by simp
 unfold colI
 rw[hz]
 rcases zfJz A A.size (Nat.le_refl _)with ⟨h1,h2⟩|⟨i,h1,h2,h3,h4⟩
 ·have:frB A=0:=by unfold frB Lib.lastIndexByte;rw[h1];rfl
  rw[this,h2]
 have hf:frB A=i+1:=by unfold frB Lib.lastIndexByte;rw[h2];omega
 have hd:A.data.toList.drop i=93::A.data.toList.drop (i+1):=by
  have hi:i<A.data.toList.length:=by omega
  rw[List.drop_eq_getElem_cons hi]
  rw[List.getElem?_eq_getElem hi]at h4
  injection h4 with h4
  rw[h4]
 rw[h3,hf,hd,List.findIdx?_cons]
 have h9:((93:UInt8)==58)=false:=by decide
 simp only[h9]
 cases (A.data.toList.drop (i+1)).findIdx? fun c=>c==58 with
 |none=>rfl
 |some j=>show some (j+1+i)=some (j+(i+1));congr 1;omega
theorem zmCz: ∀l:List UInt8,(l.findIdx? (fun c=>c==58)=none∧upB 58 l=l∧y6z 58 l=[])∨ ∃j,l.findIdx? (fun c=>c==58)=some j∧upB 58 l=l.take j∧y6z 58 l=l.drop (j+1)
 |[]=> .inl ⟨rfl,rfl,rfl⟩
 |b::l=>by
  have ih:=zmCz l
  unfold upB y6z at ih⊢
  rw[List.findIdx?_cons,List.takeWhile_cons,List.dropWhile_cons]
  by_cases h:b=58
  ·subst h
   exact .inr ⟨0,by simp⟩
  have h1:(b==58)=false:=beq_eq_false_iff_ne.2 h
  have h2:(b !=58)=true:=bne_iff_ne.2 h
  rw[h1,h2]
  rcases ih with ⟨h3,h4,h5⟩|⟨j,h3,h4,h5⟩
  ·rw[h3];exact .inl ⟨rfl,by simp[h4],by simpa using h5⟩
  rw[h3];exact .inr ⟨j+1,rfl,by simp[h4],by simpa using h5⟩
def hoB(A:ByteArray):List UInt8:=A.data.toList.take (frB A)++upB 58 (A.data.toList.drop (frB A))
def poB(A:ByteArray):List UInt8:=y6z 58 (A.data.toList.drop (frB A))
theorem zrEz{s:Int}(hs:s=1∨s=2)(A:ByteArray)(r:List UInt8):cutU s A.data.toList r=if 1≤yYz s (poB A)∧yYz s (poB A)≤65535 then zb6z s (yYz s (poB A)) (hoB A) r else (5,vlz):=by
 unfold cutU
 rw[zsLz A]
 unfold poB hoB
 rcases zmCz (A.data.toList.drop (frB A))with ⟨h1,h2,h3⟩|⟨j,h1,h2,h3⟩
 ·rw[h1,h2,h3,List.take_append_drop]
  have hd:1≤yYz s []∧yYz s []≤65535:=by rcases hs with rfl|rfl<;>decide
  rw[if_pos hd]
  rfl
 rw[h1,h2,h3]
 have e1:A.data.toList.take (frB A)++(A.data.toList.drop (frB A)).take j=A.data.toList.take (j+frB A):=by rw[Nat.add_comm j,List.take_add]
 have e2:(A.data.toList.drop (frB A)).drop (j+1)=A.data.toList.drop (j+frB A+1):=by rw[List.drop_drop];congr 1;omega
 rw[e1,e2]
 rfl
theorem zj2z{set:Int}(h:set=1∨set=2)(l:List UInt8)(hp:plL set l=l):okL set l=true:=by
 rw[←hp]
 rcases h with rfl|rfl
 ·exact zl5z 1 (by decide) l
 exact zl5z 2 (by decide) l
def paOk(a:ByteArray):Bool:=zSz a&&(decide (plB 1 a=a)&&decide (zLz a=a))
def quOk(r:ByteArray)(q:Bool):Bool:=decide (plB 2 r=r)&&(q||decide (r.size=0))
theorem zpHz(set:Int)(a:ByteArray):(plB set a=a)↔plL set (toL a)=toL a:=⟨fun h=>congrArg toL h,fun h=>z3z h⟩
theorem zpIz(u:UV):uOk u=(decide (z4z u.s≠0)&&(hOk u.h&&(decide (1≤u.p∧u.p≤65535)&&(paOk u.a&&quOk u.r u.q)))):=by
 unfold uOk paOk quOk
 have e1:decide (plB 1 u.a=u.a)=decide (plL 1 (toL u.a)=toL u.a):=decide_eq_decide.2 (zpHz 1 u.a)
 have e2:decide (plB 2 u.r=u.r)=decide (plL 2 (toL u.r)=toL u.r):=decide_eq_decide.2 (zpHz 2 u.r)
 have e3:decide (zLz u.a=u.a)=decide (toL (zLz u.a)=toL u.a):=decide_eq_decide.2 ⟨fun h=>congrArg toL h,fun h=>z3z h⟩
 rw[e1,e2,e3]
 by_cases h1:plL 1 (toL u.a)=toL u.a
 ·by_cases h2:plL 2 (toL u.r)=toL u.r
  ·rw[zj2z (.inl rfl) _ h1,zj2z (.inr rfl) _ h2,decide_eq_true h1,decide_eq_true h2]
   simp only[Bool.and_true,Bool.true_and]
   simp only[Bool.and_assoc]
   congr 1;congr 1;congr 1;congr 1
   rw[Bool.and_comm]
  rw[decide_eq_false h2];simp
 rw[decide_eq_false h1];simp
theorem zpJz(x y:List UInt8):Lib.trimPrefix (x++y) x=y:=by
 unfold Lib.trimPrefix Lib.hasPrefix
 rw[if_pos (List.isPrefixOf_iff_prefix.2 (List.prefix_append x y)),List.drop_left']
 rfl
end Go.Proofs.YtgcbaphbiaimoaaGreatDoor
namespace Go.Proofs.YtgcbaphbiaimoaaGreatDoor
open Go.RowKit
def xDz:List UInt8:=[32,9,10,13]
theorem zfKz (l cs : List UInt8) : (Lib.trimS l cs).length ≤ l.length := by
 have a : ∀ m : List UInt8, (m.dropWhile (cs.contains ·)).length ≤ m.length := fun m => (List.dropWhile_sublist _).length_le
 unfold Lib.trimS Lib.trimLeftS Lib.trimRightS
 refine Nat.le_trans (a _) ?_
 rw [List.length_reverse]
 refine Nat.le_trans (a _) ?_
 rw [List.length_reverse]
 exact Nat.le_refl _
theorem zpKz(s:ByteArray)(w:World)(hs:s.size≤1099511627776):
  Calls Tryz.prog 148 #[.string s] w fun e w'=>e=.returned (.string ⟨(Lib.trimS s.data.toList xDz).toArray⟩)∧Below w.heap.size w w':=by
 have hle:(⟨(Lib.trimS s.data.toList xDz).toArray⟩:ByteArray).size≤281474976710656:=by
  have:=zfKz s.data.toList xDz
  have e:(⟨(Lib.trimS s.data.toList xDz).toArray⟩:ByteArray).size=(Lib.trimS s.data.toList xDz).length:=by simp[ByteArray.size]
  have e2:s.data.toList.length=s.size:=by simp
  omega
 have ct:=fun W=>Any.strings_Trim_laid Tryz.lays160 (by kernel_rfl) s ⟨#[32,9,10,13]⟩ W (by omega) (by decide) (ascii_of_all (by decide))
 have HT:Hid (∀W,CB 205 #[.string s,.string ⟨#[32,9,10,13]⟩] W (.string ⟨(Lib.trimS s.data.toList xDz).toArray⟩)):=ct
 clear ct
 go_enter Tryz.func148,Tryz.ntmps148
 go_wp2_with fail
 refine (HT.out _).mono ?_
 rintro e wa ⟨rfl,ba⟩
 go_wp2_with fail
 refine (zbfz _ _ hle).mono ?_
 rintro e wb ⟨rfl,bb⟩
 go_wp2
 go_ret
 exact ⟨rfl,ba.trans (bb.mono ba.size)⟩
def zb8z(c:Int):Bool:=decide (0≤c)&&yPz c.toNat
theorem zpLz(c:Int):y7z [45,46,95,126] c=(decide (0≤c)&&vdz c.toNat):=by
 rw[Bool.eq_iff_iff]
 simp[y7z,vdz]
 omega
theorem zrFz(c:Int):y7z [33,36,38,39,40,41,42,43,44,59,61,58,64] c=(decide (0≤c)&&zalz c.toNat):=by
 rw[Bool.eq_iff_iff]
 simp[y7z,zalz]
 omega
theorem zrGz(c:Int):zb8z c=(vMz c||decide (48≤c∧c≤57)||y7z [45,46,95,126] c):=by
 rw[zpLz,Bool.eq_iff_iff]
 simp[zb8z,vMz,yPz,yEz,jbz,vdz]
 omega
theorem zfLz(c:Int)(w:World):Calls Tryz.prog 91 #[.int .i64 c] w fun e w'=>e=.returned (.bool (zb8z c))∧w=w':=by
 have HV:Hid (zb8z c=(vMz c||decide (48≤c∧c≤57)||y7z [45,46,95,126] c)):=zrGz c
 have cl:=fun W=>zk8z c W
 have ca:=fun W=>zdNz ⟨#[45,46,95,126]⟩ c W (by decide)
 have CL:Hid (∀W,CS 125 #[.int .i64 c] W (.bool (vMz c))):=cl
 have CA:Hid (∀W,CS 55 #[.string ⟨#[45,46,95,126]⟩,.int .i64 c] W (.bool (y7z [45,46,95,126] c))):=ca
 clear cl ca
 generalize vMz c=b1 at HV CL
 generalize y7z [45,46,95,126] c=b3 at HV CA
 cases b1 with
 |true=>
  go_enter Tryz.func91,Tryz.ntmps91
  go_wp2_with fail
  refine (CL.out _).mono ?_
  rintro e w' ⟨rfl,rfl⟩
  go_wp2
  go_ret
  exact ⟨zez (by rw[HV.out];rfl),rfl⟩
 |false=>
  by_cases h2:48≤c∧c≤57
  ·rw[decide_eq_true h2]at HV
   have H2:Hid (48≤c∧c≤57):=h2
   clear h2
   go_enter Tryz.func91,Tryz.ntmps91
   go_wp2_with fail
   refine (CL.out _).mono ?_
   rintro e w' ⟨rfl,rfl⟩
   go_wp2_with fail
   refine (zgz _ _ _ _ H2.out.1 H2.out.2).mono ?_
   rintro e w' ⟨rfl,rfl⟩
   go_wp2
   go_ret
   exact ⟨zez (by rw[HV.out];rfl),rfl⟩
  rw[decide_eq_false h2]at HV
  have H2:Hid (c<48∨57<c):=by show _∨_;omega
  clear h2
  go_enter Tryz.func91,Tryz.ntmps91
  go_wp2_with fail
  refine (CL.out _).mono ?_
  rintro e w' ⟨rfl,rfl⟩
  go_wp2_with fail
  refine (zmz _ _ _ _ H2.out).mono ?_
  rintro e w' ⟨rfl,rfl⟩
  go_wp2_with fail
  refine (CA.out _).mono ?_
  rintro e w' ⟨rfl,rfl⟩
  go_wp2
  go_ret
  exact ⟨zez (by rw[HV.out];rfl),rfl⟩
theorem zpMz{set:Int}(h:1≤set∧set≤3)(c:Int):vwz set c=(zb8z c||y7z [33,36,38,39,40,41,42,43,44,59,61,58,64] c||(decide (c=47)&&decide (set≠3))||(decide (c=63)&&decide (set=2))):=by
 rw[zrFz]
 unfold vwz ytz zb8z
 rw[decide_eq_true h]
 by_cases h0:0≤c
 ·have e1:decide (c.toNat=47)=decide (c=47):=decide_eq_decide.2 (by omega)
  have e2:decide (c.toNat=63)=decide (c=63):=decide_eq_decide.2 (by omega)
  rw[e1,e2,decide_eq_true h0]
  rfl
 have e1:decide (c=47)=false:=decide_eq_false (by omega)
 have e2:decide (c=63)=false:=decide_eq_false (by omega)
 rw[e1,e2,decide_eq_false h0]
 rfl
theorem zhlz(set c:Int)(w:World):
  Calls Tryz.prog 90 #[.int .i64 set,.int .i64 c] w fun e w'=>e=.returned (.bool (vwz set c))∧w=w':=by
 by_cases h:1≤set∧set≤3
 ·have HV:Hid (vwz set c=_):=zpMz h c
  have H1:Hid (1≤set∧set≤3):=h
  clear h
  have cl:=fun W=>zfLz c W
  have ca:=fun W=>zdNz ⟨#[33,36,38,39,40,41,42,43,44,59,61,58,64]⟩ c W (by decide)
  have CL:Hid (∀W,CS 91 #[.int .i64 c] W (.bool (zb8z c))):=cl
  have CA:Hid (∀W,CS 55 #[.string ⟨#[33,36,38,39,40,41,42,43,44,59,61,58,64]⟩,.int .i64 c] W (.bool (y7z [33,36,38,39,40,41,42,43,44,59,61,58,64] c))):=ca
  clear cl ca
  generalize zb8z c=b1 at HV CL
  generalize y7z [33,36,38,39,40,41,42,43,44,59,61,58,64] c=b2 at HV CA
  cases b1 with
  |true=>
   go_enter Tryz.func90,Tryz.ntmps90
   go_wp2_with fail
   refine (zgz _ _ _ _ H1.out.1 H1.out.2).mono ?_
   rintro e w' ⟨rfl,rfl⟩
   go_wp2_with fail
   refine (CL.out _).mono ?_
   rintro e w' ⟨rfl,rfl⟩
   go_wp2
   go_ret
   exact ⟨zez (by rw[HV.out];rfl),rfl⟩
  |false=>
   cases b2 with
   |true=>
    go_enter Tryz.func90,Tryz.ntmps90
    go_wp2_with fail
    refine (zgz _ _ _ _ H1.out.1 H1.out.2).mono ?_
    rintro e w' ⟨rfl,rfl⟩
    go_wp2_with fail
    refine (CL.out _).mono ?_
    rintro e w' ⟨rfl,rfl⟩
    go_wp2_with fail
    refine (CA.out _).mono ?_
    rintro e w' ⟨rfl,rfl⟩
    go_wp2
    go_ret
    exact ⟨zez (by rw[HV.out];rfl),rfl⟩
   |false=>
    by_cases hs:c=47
    ·subst hs
     by_cases he:set=3
     ·subst he
      go_enter Tryz.func90,Tryz.ntmps90
      go_wp2_with fail
      refine (zgz _ _ _ _ H1.out.1 H1.out.2).mono ?_
      rintro e w' ⟨rfl,rfl⟩
      go_wp2_with fail
      refine (CL.out _).mono ?_
      rintro e w' ⟨rfl,rfl⟩
      go_wp2_with fail
      refine (CA.out _).mono ?_
      rintro e w' ⟨rfl,rfl⟩
      go_wp2
      go_ret
      exact ⟨zez (by first|(rw[HV.out];simp)|(rw[HV.out];decide)|decide),rfl⟩
     go_enter Tryz.func90,Tryz.ntmps90
     go_wp2_with fail
     refine (zgz _ _ _ _ H1.out.1 H1.out.2).mono ?_
     rintro e w' ⟨rfl,rfl⟩
     go_wp2_with fail
     refine (CL.out _).mono ?_
     rintro e w' ⟨rfl,rfl⟩
     go_wp2_with fail
     refine (CA.out _).mono ?_
     rintro e w' ⟨rfl,rfl⟩
     go_wp2
     go_ret
     exact ⟨zez (by first|(rw[HV.out];simp[he])|(rw[HV.out];decide)|decide),rfl⟩
    by_cases hq:c=63
    ·subst hq
     by_cases he:set=2
     ·subst he
      go_enter Tryz.func90,Tryz.ntmps90
      go_wp2_with fail
      refine (zgz _ _ _ _ H1.out.1 H1.out.2).mono ?_
      rintro e w' ⟨rfl,rfl⟩
      go_wp2_with fail
      refine (CL.out _).mono ?_
      rintro e w' ⟨rfl,rfl⟩
      go_wp2_with fail
      refine (CA.out _).mono ?_
      rintro e w' ⟨rfl,rfl⟩
      go_wp2
      go_ret
      exact ⟨zez (by first|(rw[HV.out];simp)|(rw[HV.out];decide)|decide),rfl⟩
     go_enter Tryz.func90,Tryz.ntmps90
     go_wp2_with fail
     refine (zgz _ _ _ _ H1.out.1 H1.out.2).mono ?_
     rintro e w' ⟨rfl,rfl⟩
     go_wp2_with fail
     refine (CL.out _).mono ?_
     rintro e w' ⟨rfl,rfl⟩
     go_wp2_with fail
     refine (CA.out _).mono ?_
     rintro e w' ⟨rfl,rfl⟩
     go_wp2
     go_ret
     exact ⟨zez (by first|(rw[HV.out];simp[he])|(rw[HV.out];decide)|decide),rfl⟩
    go_enter Tryz.func90,Tryz.ntmps90
    go_wp2_with fail
    refine (zgz _ _ _ _ H1.out.1 H1.out.2).mono ?_
    rintro e w' ⟨rfl,rfl⟩
    go_wp2_with fail
    refine (CL.out _).mono ?_
    rintro e w' ⟨rfl,rfl⟩
    go_wp2_with fail
    refine (CA.out _).mono ?_
    rintro e w' ⟨rfl,rfl⟩
    go_wp2
    go_ret
    exact ⟨zez (by first|(rw[HV.out];simp[hs,hq])|(rw[HV.out];decide)|decide),rfl⟩
 have HV:Hid (vwz set c=false):=zdOz c h
 have H1:Hid (set<1∨3<set):=by show _∨_;omega
 clear h
 go_enter Tryz.func90,Tryz.ntmps90
 go_wp2_with fail
 refine (zmz _ _ _ _ H1.out).mono ?_
 rintro e w' ⟨rfl,rfl⟩
 go_wp2
 go_ret
 exact ⟨zez (by rw[HV.out]),rfl⟩
theorem znQz(p:UInt8→Bool)(m s:ByteArray)(w:World)(hm:m.size≤1000)(hp: ∀c:UInt8,y7z m.data.toList (c.toNat:Int)= !p c)(hs:s.size≤16777216):
  Calls Tryz.prog 54 #[.string s,.string m] w fun e w'=>e=.returned (.tuple #[.string ⟨(s.data.toList.takeWhile p).toArray⟩,.string ⟨(s.data.toList.dropWhile p).toArray⟩])∧Below w.heap.size w w':=by
 go_enter Tryz.func54,Tryz.ntmps54
 go_wp2
 go_loop[6] (fun i=> ∃k:Nat,k≤s.size∧i=.int .i64 k∧ ∀c∈s.data.toList.take k,p c=true) (fun i=>s.size-(intOf i).toNat)
 case atStart=>exact ⟨0,Nat.zero_le _,rfl,fun c hc=>by cases hc⟩
 obtain ⟨k,hk,rfl,hall⟩:=hrel
 have HA:Hid (∀c∈s.data.toList.take k,p c=true):=hall
 clear hall
 by_cases hlt:k<s.size
 ·have hdr:=vIz s k hlt
  have hpc:=hp s[k]
  obtain ⟨d,hd⟩: ∃d:Nat,s[k].toNat=d:=⟨_,rfl⟩
  rw[hd]at hpc
  have CA:Hid (∀W,CS 55 #[.string m,.int .i64 (d:Int)] W (.bool (!p s[k]))):=fun W=>by
   have h:=zdNz m (d:Int) W (by omega)
   rw[hpc]at h
   exact h
  clear hpc
  have hd2:(d:Int)<256:=by have:=s[k].toNat_lt;omega
  cases hb:p s[k]with
  |true=>
   have HN:Hid (∀c∈s.data.toList.take (k+1),p c=true):=fun c hc=>by
    rw[y9z s k hlt]at hc
    rcases List.mem_append.1 hc with h|h
    ·exact HA.out c h
    rw[List.mem_singleton.1 h];exact hb
   rw[hb]at CA
   clear hb hdr
   go_wp2_with fail
   refine (CA.out _).mono ?_
   rintro e w' ⟨rfl,rfl⟩
   go_wp2_with fail
   go_round
   case rel=>exact ⟨k+1,by omega,by go_num,HN.out⟩
   case measure=>simp[intOf];omega
  |false=>
   obtain ⟨h1,h2⟩:=zgJz HA.out
   rw[hdr,List.takeWhile_cons,hb,if_neg (by decide),List.append_nil]at h1
   rw[hdr,List.dropWhile_cons,hb,if_neg (by decide),←hdr]at h2
   have H1:Hid (s.extract 0 k=⟨(s.data.toList.takeWhile p).toArray⟩):=by show _=_;rw[h1,←jvz,zcOz]
   have H2:Hid (s.extract k s.size=⟨(s.data.toList.dropWhile p).toArray⟩):=by show _=_;rw[h2,←jwz,zcOz]
   rw[hb]at CA
   clear hb hdr h1 h2
   go_wp2_with fail
   refine (CA.out _).mono ?_
   rintro e w' ⟨rfl,rfl⟩
   go_wp2
   go_region
   all_goals (try go_wp2)
   all_goals go_ret2
   all_goals exact ⟨by rw[←H1.out,←H2.out];rfl,(Below.refl _ _).drew⟩
 have HN:Hid (∀c∈s.data.toList,p c=true):=fun c hc=>HA.out c (by rw[ynz s k (by omega)];exact hc)
 obtain ⟨h1,h2⟩:=zgJz (p:=p) (l:=s.data.toList) (k:=s.size) (fun c hc=>HN.out c (List.mem_of_mem_take hc))
 rw[ynz s s.size (Nat.le_refl _),List.drop_of_length_le (by simp)]at h1
 rw[List.drop_of_length_le (by simp)]at h2
 have h3:s.data.toList.takeWhile p=s.data.toList:=by rw[h1];simp
 have H1:Hid (s=⟨(s.data.toList.takeWhile p).toArray⟩):=by show _=_;rw[h3]
 have H2:Hid ((⟨#[]⟩:ByteArray)=⟨(s.data.toList.dropWhile p).toArray⟩):=by show _=_;rw[h2];rfl
 clear h1 h2 h3
 go_wp2
 go_ret2
 exact ⟨by rw[←H1.out,←H2.out];rfl,Below.refl _ _⟩
theorem j4z{B:Nat}{w w':World}(h:Below B w w')(n:Nat):Below B w (w'.drewN n):=⟨h.os,h.tape,h.output,h.size,h.block⟩
theorem zhmz{s:ByteArray}{k:Nat}(h:k+2<s.size)(h1:s[k].toNat≠37):zXz s k= -1:=by
 rw[jCz s k h]
 unfold xVz
 rw[if_neg (fun h=>h1 h.1)]
theorem zhnz{s:ByteArray}{k d1 d2:Nat}(h:k+2<s.size)(h1:s[k].toNat=37)(e1:s[k+1].toNat=d1)(e2:s[k+2].toNat=d2):zXz s k=if 0≤zEz d1∧0≤zEz d2 then zEz d1*16+zEz d2 else-1:=by
 rw[jCz s k h,e1,e2]
 unfold xVz
 simp[h1]
theorem zd5z(P:Program)(t:TypeId)(h:P.underlying t=some .string)(s:ByteArray)(i:Int)(j d:Nat)(hj:j<s.size)(hi:i=(j:Int))(hd:s[j].toNat=d)(W:World):
  (Instr.index t (.string s) (.int .i64 i)).run P W=.ok (.int .u8 (d:Int)) W:=by
 subst hi
 rw[run_index_string W t s .i64 _ h,dif_pos (by omega)]
 simp[hd]
theorem zhoz(s:ByteArray)(k:Nat)(w:World)(hk:k<s.size)(hs:s.size≤1099511627776):
  Calls Tryz.prog 156 #[.string s,.int .i64 (k:Int)] w fun e w'=>e=.returned (.int .i64 (zXz s k))∧Below w.heap.size w w':=by
 have hki:(k:Int)≤1099511627776:=by omega
 have hk0:0≤(k:Int):=by omega
 have hw1:IntKind.i64.wrap ((k:Int)+1)=((k+1:Nat):Int):=by rw[IntKind.wrap_i64];omega
 have hw2:IntKind.i64.wrap ((k:Int)+2)=((k+2:Nat):Int):=by rw[IntKind.wrap_i64];omega
 by_cases h2:k+2<s.size
 ·have h2i: ¬(s.size:Int)≤(k:Int)+2:=by omega
  by_cases h37:s[k].toNat=37
  ·obtain ⟨d1,e1⟩: ∃d:Nat,s[k+1].toNat=d:=⟨_,rfl⟩
   obtain ⟨d2,e2⟩: ∃d:Nat,s[k+2].toNat=d:=⟨_,rfl⟩
   have i1:=zd5z Tryz.prog 9 Tryz.underlying9 s ((k:Int)+1) (k+1) d1 (by omega) (by omega) e1
   have i2:=zd5z Tryz.prog 9 Tryz.underlying9 s ((k:Int)+2) (k+2) d2 (by omega) (by omega) e2
   have b1:d1≤255:=by have:=s[k+1].toNat_lt;omega
   have b2:d2≤255:=by have:=s[k+2].toNat_lt;omega
   have HV:Hid (zXz s k=if 0≤zEz d1∧0≤zEz d2 then zEz d1*16+zEz d2 else-1):=zhnz h2 h37 e1 e2
   have c1:=fun n:Nat=>Calls.quiet_of_same (w:=w) (n:=n) (v:=.int .i64 (zEz d1)) ((zeCz d1 (w.drewN n) b1).mono fun _ _ ⟨a,b⟩=>⟨a,b.symm⟩)
   have c2:=fun n:Nat=>Calls.quiet_of_same (w:=w) (n:=n) (v:=.int .i64 (zEz d2)) ((zeCz d2 (w.drewN n) b2).mono fun _ _ ⟨a,b⟩=>⟨a,b.symm⟩)
   have l1:=xMz d1
   have l2:=xMz d2
   generalize zEz d1=x at HV c1 l1
   generalize zEz d2=y at HV c2 l2
   have C1:Hid (∀n,Calls Tryz.prog 215 #[.int .u8 (d1:Int)] (w.drewN n) fun e w''=>e=.returned (.int .i64 x)∧ ∃m,w''=w.drewN m):=c1
   have C2:Hid (∀n,Calls Tryz.prog 215 #[.int .u8 (d2:Int)] (w.drewN n) fun e w''=>e=.returned (.int .i64 y)∧ ∃m,w''=w.drewN m):=c2
   clear c1 c2
   obtain ⟨l1a,l1b⟩:=l1
   obtain ⟨l2a,l2b⟩:=l2
   by_cases hx:0≤x
   ·by_cases hy:0≤y
    ·go_enter Tryz.func156,Tryz.ntmps156
     go_wp2_with fail
     go_quiet ((go_at_call 215;first|with_reducible exact C1.out _|with_reducible exact C2.out _))
     go_wp2
     go_ret
     exact ⟨zqz (by rw[HV.out,if_pos ⟨hx,hy⟩]),j4z (Below.refl _ _) _⟩
    go_enter Tryz.func156,Tryz.ntmps156
    go_wp2_with fail
    go_quiet ((go_at_call 215;first|with_reducible exact C1.out _|with_reducible exact C2.out _))
    go_wp2
    go_ret
    exact ⟨zqz (by rw[HV.out,if_neg (by omega)]),j4z (Below.refl _ _) _⟩
   go_enter Tryz.func156,Tryz.ntmps156
   go_wp2_with fail
   go_quiet ((go_at_call 215;first|with_reducible exact C1.out _|with_reducible exact C2.out _))
   go_wp2
   go_ret
   exact ⟨zqz (by rw[HV.out,if_neg (by omega)]),j4z (Below.refl _ _) _⟩
  have HV:Hid (zXz s k= -1):=zhmz h2 h37
  obtain ⟨d0,e0⟩: ∃d:Nat,s[k].toNat=d:=⟨_,rfl⟩
  have hne: ¬(d0:Int)=37:=by omega
  clear h37
  go_enter Tryz.func156,Tryz.ntmps156
  go_wp2
  go_ret
  exact ⟨zqz (by rw[HV.out]),Below.refl _ _⟩
 have h2i:(s.size:Int)≤(k:Int)+2:=by omega
 have HV:Hid (zXz s k= -1):=zanz s k (by omega)
 go_enter Tryz.func156,Tryz.ntmps156
 go_wp2
 go_ret
 exact ⟨zqz (by rw[HV.out]),Below.refl _ _⟩
theorem zfMz(s:ByteArray)(k:Nat)(w:World)(hk:k<s.size)(hs:s.size≤1099511627776):
  Calls Tryz.prog 89 #[.string s,.int .i64 (k:Int)] w fun e w'=>e=.returned (.int .i64 (zXz s k))∧Below w.heap.size w w':=by
 have hki:(k:Int)≤1099511627776:=by omega
 have hk0:0≤(k:Int):=by omega
 have hw1:IntKind.i64.wrap ((k:Int)+1)=((k+1:Nat):Int):=by rw[IntKind.wrap_i64];omega
 have hw2:IntKind.i64.wrap ((k:Int)+2)=((k+2:Nat):Int):=by rw[IntKind.wrap_i64];omega
 by_cases h2:k+2<s.size
 ·have h2i: ¬(s.size:Int)≤(k:Int)+2:=by omega
  by_cases h37:s[k].toNat=37
  ·obtain ⟨d1,e1⟩: ∃d:Nat,s[k+1].toNat=d:=⟨_,rfl⟩
   obtain ⟨d2,e2⟩: ∃d:Nat,s[k+2].toNat=d:=⟨_,rfl⟩
   have i1:=zd5z Tryz.prog 9 Tryz.underlying9 s ((k:Int)+1) (k+1) d1 (by omega) (by omega) e1
   have i2:=zd5z Tryz.prog 9 Tryz.underlying9 s ((k:Int)+2) (k+2) d2 (by omega) (by omega) e2
   have b1:d1≤255:=by have:=s[k+1].toNat_lt;omega
   have b2:d2≤255:=by have:=s[k+2].toNat_lt;omega
   have HV:Hid (zXz s k=if 0≤zEz d1∧0≤zEz d2 then zEz d1*16+zEz d2 else-1):=zhnz h2 h37 e1 e2
   have c1:=fun n:Nat=>Calls.quiet_of_same (w:=w) (n:=n) (v:=.int .i64 (zEz d1)) ((zbGz d1 (w.drewN n) (by omega)).mono fun _ _ ⟨a,b⟩=>⟨a,b.symm⟩)
   have c2:=fun n:Nat=>Calls.quiet_of_same (w:=w) (n:=n) (v:=.int .i64 (zEz d2)) ((zbGz d2 (w.drewN n) (by omega)).mono fun _ _ ⟨a,b⟩=>⟨a,b.symm⟩)
   have q1:=fun W:World=>zbGz d1 W (by omega)
   have q2:=fun W:World=>zbGz d2 W (by omega)
   have l1:=xMz d1
   have l2:=xMz d2
   generalize zEz d1=x at HV c1 l1 q1
   generalize zEz d2=y at HV c2 l2 q2
   have C1:Hid (∀n,Calls Tryz.prog 113 #[.int .u8 (d1:Int)] (w.drewN n) fun e w''=>e=.returned (.int .i64 x)∧ ∃m,w''=w.drewN m):=c1
   have C2:Hid (∀n,Calls Tryz.prog 113 #[.int .u8 (d2:Int)] (w.drewN n) fun e w''=>e=.returned (.int .i64 y)∧ ∃m,w''=w.drewN m):=c2
   have D1:Hid (∀W,CS 113 #[.int .u8 (d1:Int)] W (.int .i64 x)):=q1
   have D2:Hid (∀W,CS 113 #[.int .u8 (d2:Int)] W (.int .i64 y)):=q2
   clear c1 c2 q1 q2
   obtain ⟨l1a,l1b⟩:=l1
   obtain ⟨l2a,l2b⟩:=l2
   by_cases hx:0≤x
   ·by_cases hy:0≤y
    ·go_enter Tryz.func89,Tryz.ntmps89
     go_wp2_with fail
     refine (D1.out _).mono ?_
     rintro e w' ⟨rfl,rfl⟩
     go_wp2_with fail
     refine (D2.out _).mono ?_
     rintro e w' ⟨rfl,rfl⟩
     go_wp2_with fail
     go_quiet ((go_at_call 113;first|with_reducible exact C1.out _|with_reducible exact C2.out _))
     go_wp2
     go_ret
     exact ⟨zqz (by rw[HV.out,if_pos ⟨hx,hy⟩]),j4z (Below.refl _ _) _⟩
    go_enter Tryz.func89,Tryz.ntmps89
    go_wp2_with fail
    refine (D1.out _).mono ?_
    rintro e w' ⟨rfl,rfl⟩
    go_wp2_with fail
    refine (D2.out _).mono ?_
    rintro e w' ⟨rfl,rfl⟩
    go_wp2
    go_ret
    exact ⟨zqz (by rw[HV.out,if_neg (by omega)]),Below.refl _ _⟩
   go_enter Tryz.func89,Tryz.ntmps89
   go_wp2_with fail
   refine (D1.out _).mono ?_
   rintro e w' ⟨rfl,rfl⟩
   go_wp2
   go_ret
   exact ⟨zqz (by rw[HV.out,if_neg (by omega)]),Below.refl _ _⟩
  have HV:Hid (zXz s k= -1):=zhmz h2 h37
  obtain ⟨d0,e0⟩: ∃d:Nat,s[k].toNat=d:=⟨_,rfl⟩
  have hne: ¬(d0:Int)=37:=by omega
  clear h37
  go_enter Tryz.func89,Tryz.ntmps89
  go_wp2
  go_ret
  exact ⟨zqz (by rw[HV.out]),Below.refl _ _⟩
 have h2i:(s.size:Int)≤(k:Int)+2:=by omega
 have HV:Hid (zXz s k= -1):=zanz s k (by omega)
 go_enter Tryz.func89,Tryz.ntmps89
 go_wp2
 go_ret
 exact ⟨zqz (by rw[HV.out]),Below.refl _ _⟩
theorem vmz{w1:World}{B:Nat}{e:TypeId}{v:Value}{o:List UInt8}{x:Int}(c:UInt8)(hx:x=(c.toNat:Int))
  (h:w1.ownsRow B e 1 v (o.length+1) (zcz o++ #[Value.int .u8 x].toList)):w1.ownsRow B e 1 v (o++[c]).length (zcz (o++[c])):=by
 subst hx
 rw[vRz,List.length_append]
 exact h
theorem vnz(x:Int): ∀u∈ #[Value.int .u8 x].toList,u.oneCell'=true:=by
 intro u hu;simp at hu;subst hu;rfl
theorem zhpz{c:Int}(h0:0≤c)(h1:c≤255):c=((UInt8.ofNat c.toNat).toNat:Int):=by
 have:(UInt8.ofNat c.toNat).toNat=c.toNat%256:=by simp
 omega
theorem zpNz(s:ByteArray)(k:Nat)(o:List UInt8)(h:0≤zXz s k)(he:o++unL (s.data.toList.drop k)=unL s.data.toList):
  (o++[UInt8.ofNat (zXz s k).toNat])++unL (s.data.toList.drop (k+3))=unL s.data.toList:=by
 rw[←he]
 unfold unL
 rw[zcKz _ _ s k h]
 simp
theorem zmDz(s:ByteArray)(k:Nat)(hk:k<s.size)(o:List UInt8)(h:zXz s k<0)(he:o++unL (s.data.toList.drop k)=unL s.data.toList):
  (o++[s[k]])++unL (s.data.toList.drop (k+1))=unL s.data.toList:=by
 rw[←he]
 unfold unL
 rw[zbdz _ _ s k hk h]
 simp
theorem zpOz(s:ByteArray)(k:Nat)(hk:s.size≤k)(o:List UInt8)(he:o++unL (s.data.toList.drop k)=unL s.data.toList):o=unL s.data.toList:=by
 rw[←he]
 unfold unL
 rw[zhQz _ _ s k hk]
 simp
theorem zgwz(s:ByteArray)(w:World)(hs:s.size≤1099511627776):
  Calls Tryz.prog 115 #[.string s] w fun e w'=>e=.returned (.string ⟨(unL s.data.toList).toArray⟩)∧Below w.heap.size w w':=by
 go_enter Tryz.func115,Tryz.ntmps115
 go_wp2
 go_loopw[3,4] (fun v i wr=> ∃(k:Nat) (o:List UInt8),k≤s.size∧i=.int .i64 k∧o.length≤k∧wr.ownsRow w.heap.size 5 1 v o.length (zcz o)∧o++unL (s.data.toList.drop k)=unL s.data.toList∧Below w.heap.size w wr)
  (fun _ i _=>s.size-(intOf i).toNat)
 case atStart=>exact ⟨0,[],Nat.zero_le _,rfl,Nat.zero_le _,World.ownsRow_lit w #[] 0 (Nat.le_refl _) (by decide) rfl,rfl,(Below.refl _ _).alloc (Nat.le_refl _) _⟩
 obtain ⟨k,o,hk,rfl,hol,hown,he,hbel⟩:=hrel
 have HE:Hid (o++unL (s.data.toList.drop k)=unL s.data.toList):=he
 clear he
 have hsz:=hbel.size
 by_cases hlt:k<s.size
 ·have hct:=fun W=>zfMz s k W hlt hs
  have hcl:=zaoz s k
  by_cases hc:0≤zXz s k
  ·have HN:Hid ((o++[UInt8.ofNat (zXz s k).toNat])++unL (s.data.toList.drop (k+3))=unL s.data.toList):=zpNz s k o hc HE.out
   have hk3:=jDz hc
   generalize zXz s k=c at hct hcl hc HN
   obtain ⟨hc0,hc1⟩:=hcl
   have HC:Hid (∀W,CB 89 #[.string s,.int .i64 (k:Int)] W (.int .i64 c)):=hct
   clear hct
   go_wp2_with fail
   refine (HC.out _).mono ?_
   rintro e wb ⟨rfl,bb⟩
   have ob:=zkz hown bb
   have hsb:=bb.size
   go_wp2_with (at_builtin;refine zbz _ rfl _ _ 22 rfl w.heap.size 5 (.int .u8 0) 1 Tryz.underlying22 Tryz.info5 rfl _ _ _ rfl ob #[.int .u8 c] 1 rfl rfl (vnz _) (by omega) (by unfold maxLen;omega) (by omega) ?_)
   intro v' w1 hown' hb1
   have R:=vmz _ (zhpz hc hc1) hown'
   have B1:Below w.heap.size w w1:=(hbel.trans (bb.mono hsz)).trans hb1
   clear hown' hb1 hown hbel ob bb
   go_wp2
   go_roundw
   case rel=>exact ⟨k+3,_,by omega,by go_num,by simp;omega,R,HN.out,B1⟩
   case measure=>simp[intOf];omega
  have HN:Hid ((o++[s[k]])++unL (s.data.toList.drop (k+1))=unL s.data.toList):=zmDz s k hlt o (by omega) HE.out
  generalize zXz s k=c at hct hcl hc
  obtain ⟨hc0,hc1⟩:=hcl
  have HC:Hid (∀W,CB 89 #[.string s,.int .i64 (k:Int)] W (.int .i64 c)):=hct
  clear hct
  go_wp2_with fail
  refine (HC.out _).mono ?_
  rintro e wb ⟨rfl,bb⟩
  have ob:=zkz hown bb
  have hsb:=bb.size
  go_wp2_with (at_builtin;refine zbz _ rfl _ _ 22 rfl w.heap.size 5 (.int .u8 0) 1 Tryz.underlying22 Tryz.info5 rfl _ _ _ rfl ob #[.int .u8 (s[k].toNat:Int)] 1 rfl rfl (vnz _) (by omega) (by unfold maxLen;omega) (by omega) ?_)
  intro v' w1 hown' hb1
  have R:=vmz s[k] rfl hown'
  have B1:Below w.heap.size w w1:=(hbel.trans (bb.mono hsz)).trans hb1
  clear hown' hb1 hown hbel ob bb
  go_wp2
  go_roundw
  case rel=>exact ⟨k+1,_,by omega,by go_num,by simp;omega,R,HN.out,B1⟩
  case measure=>simp[intOf];omega
 have HO:=zGz (P:=Tryz.prog) wr 22 9 5 Tryz.underlying22 Tryz.underlying5 Tryz.underlying9 hown
 go_wp2
 go_ret
 exact ⟨zbFz (zpOz s k (by omega) o HE.out),hbel⟩
theorem zb9z(s:ByteArray)(w:World)(hs:s.size≤1099511627776):
  Calls Tryz.prog 186 #[.string s] w fun e w'=>e=.returned (.string ⟨(unL s.data.toList).toArray⟩)∧Below w.heap.size w w':=by
 obtain ⟨i0,hi,hz0,hz1,hz2⟩:=info_parts Tryz.info5
 go_enter Tryz.func186,Tryz.ntmps186
 go_wp2_with (at_make;refine wpList_make_own _ rfl _ _ 22 rfl w.heap.size 5 i0 (.int .u8 0) 1 Tryz.underlying22 hi hz0 hz1 _ _ _ s.size rfl rfl (by omega) (by rw[hz2];omega) (by unfold maxLen;omega) (Nat.le_refl _) ?_)
 intro wm hmo hgm
 have Bm:Below w.heap.size w wm:=(Below.refl _ _).grown hgm (Nat.le_refl _) (fun k hk=>by cases hk)
 clear hgm
 go_wp2
 go_loopw[3,4] (fun v i wr=> ∃(k:Nat) (o:List UInt8),k≤s.size∧i=.int .i64 k∧o.length≤k∧wr.ownsRow w.heap.size 5 1 v o.length (zcz o)∧o++unL (s.data.toList.drop k)=unL s.data.toList∧Below w.heap.size w wr)
  (fun _ i _=>s.size-(intOf i).toNat)
 case atStart=>exact ⟨0,[],Nat.zero_le _,rfl,Nat.zero_le _,hmo,rfl,Bm⟩
 clear hmo Bm hi hz0 hz1 hz2
 obtain ⟨k,o,hk,rfl,hol,hown,he,hbel⟩:=hrel
 have HE:Hid (o++unL (s.data.toList.drop k)=unL s.data.toList):=he
 clear he
 have hsz:=hbel.size
 by_cases hlt:k<s.size
 ·have hct:=fun W=>zhoz s k W hlt hs
  have hcl:=zaoz s k
  by_cases hc:0≤zXz s k
  ·have HN:Hid ((o++[UInt8.ofNat (zXz s k).toNat])++unL (s.data.toList.drop (k+3))=unL s.data.toList):=zpNz s k o hc HE.out
   have hk3:=jDz hc
   generalize zXz s k=c at hct hcl hc HN
   obtain ⟨hc0,hc1⟩:=hcl
   have HC:Hid (∀W,CB 156 #[.string s,.int .i64 (k:Int)] W (.int .i64 c)):=hct
   clear hct
   go_wp2_with fail
   refine (HC.out _).mono ?_
   rintro e wb ⟨rfl,bb⟩
   have ob:=zkz hown bb
   have hsb:=bb.size
   go_wp2_with (at_builtin;refine zbz _ rfl _ _ 22 rfl w.heap.size 5 (.int .u8 0) 1 Tryz.underlying22 Tryz.info5 rfl _ _ _ rfl ob #[.int .u8 c] 1 rfl rfl (vnz _) (by omega) (by unfold maxLen;omega) (by omega) ?_)
   intro v' w1 hown' hb1
   have R:=vmz _ (zhpz hc hc1) hown'
   have B1:Below w.heap.size w w1:=(hbel.trans (bb.mono hsz)).trans hb1
   clear hown' hb1 hown hbel ob bb
   go_wp2
   go_roundw
   case rel=>exact ⟨k+3,_,by omega,by go_num,by simp;omega,R,HN.out,B1⟩
   case measure=>simp[intOf];omega
  have HN:Hid ((o++[s[k]])++unL (s.data.toList.drop (k+1))=unL s.data.toList):=zmDz s k hlt o (by omega) HE.out
  generalize zXz s k=c at hct hcl hc
  obtain ⟨hc0,hc1⟩:=hcl
  have HC:Hid (∀W,CB 156 #[.string s,.int .i64 (k:Int)] W (.int .i64 c)):=hct
  clear hct
  go_wp2_with fail
  refine (HC.out _).mono ?_
  rintro e wb ⟨rfl,bb⟩
  have ob:=zkz hown bb
  have hsb:=bb.size
  go_wp2_with (at_builtin;refine zbz _ rfl _ _ 22 rfl w.heap.size 5 (.int .u8 0) 1 Tryz.underlying22 Tryz.info5 rfl _ _ _ rfl ob #[.int .u8 (s[k].toNat:Int)] 1 rfl rfl (vnz _) (by omega) (by unfold maxLen;omega) (by omega) ?_)
  intro v' w1 hown' hb1
  have R:=vmz s[k] rfl hown'
  have B1:Below w.heap.size w w1:=(hbel.trans (bb.mono hsz)).trans hb1
  clear hown' hb1 hown hbel ob bb
  go_wp2
  go_roundw
  case rel=>exact ⟨k+1,_,by omega,by go_num,by simp;omega,R,HN.out,B1⟩
  case measure=>simp[intOf];omega
 have HO:=zGz (P:=Tryz.prog) wr 22 9 5 Tryz.underlying22 Tryz.underlying5 Tryz.underlying9 hown
 go_wp2
 go_ret
 exact ⟨zbFz (zpOz s k (by omega) o HE.out),hbel⟩
end Go.Proofs.YtgcbaphbiaimoaaGreatDoor
