/- LabPlain, NamePlain, NamesPlain, EndWalk, GroupsText, RowWalk. -/
import Derived.Test.YtgcbaphbiaimoaaGreatDoorQF09
import Derived.Lib.Join
set_option maxHeartbeats 4000000
set_option maxRecDepth 20000
namespace Go.Proofs.YtgcbaphbiaimoaaGreatDoor
open Go.Value renaming int->I,string->L,bool->Z
open Go.IntKind renaming i64->J
open Go.Ending renaming returned->Y
open _root_.Go.RowKit.Below renaming refl->zp
open _root_.Bool renaming and_eq_true->zo,eq_false_iff->zk,or_eq_true->z2
open _root_.ByteArray renaming empty->z8,size_extract->zf
open _root_.Int renaming toNat->ya
open _root_.List renaming all_eq_true->zl,append_assoc->zw,append_nil->z5,cons_append->zm,drop_of_length_le->za,flatMap_cons->zx,flatten_cons->zy,getD_eq_getElem?_getD->zh,getElem?_eq_getElem->zc,getElem_mem->z1,getElem_of_mem->zs,intercalate->zz,length_append->ze,length_cons->zi,length_map->z6,length_take->z0,map_append->z9,map_cons->zt,map_nil->zv,mem_append->z4,mem_cons_of_mem->zg,mem_cons_self->zj,mem_singleton->zu,nil_append->z7,take_of_length_le->zq
open _root_.Nat renaming le_refl->zd,zero_le->zn
open _root_.UInt8 renaming toNat_inj->zr
open _root_.Go.Proofs.Tryz
open _root_.Go.Proofs.YtgcbaphbiaimoaaGreatDoor.Tryz
open Go.RowKit
def gS(c:UInt8):Bool:=decide (97<=c.toNat/\c.toNat<=122)||decide (48<=c.toNat/\c.toNat<=57)||decide (c.toNat=45)
def dX(l:List UInt8):Bool:=decide (1<=l.length)&&decide (l.length<=63)&&decide (l.head? ≠some 45)&&decide (l.getLast? ≠some 45)&&l.all gS
theorem dC{l:List UInt8}(h:dX l=true):1<=l.length/\l.length<=63/\l.head? ≠some 45/\l.getLast? ≠some 45/\ ∀c∈l,gS c=true:=by
 unfold dX at h;simp only[zo,decide_eq_true_eq,zl]at h;exact ⟨h.1.1.1.1,h.1.1.1.2,h.1.1.2,h.1.2,h.2⟩
theorem Cz{l:List UInt8}(h1:1<=l.length)(h2:l.length<=63)(h3:l.head? ≠some 45)(h4:l.getLast? ≠some 45)(h5: ∀c∈l,gS c=true):dX l=true:=by
 unfold dX;simp only[zo,decide_eq_true_eq,zl];exact ⟨⟨⟨⟨h1,h2⟩,h3⟩,h4⟩,h5⟩
theorem kB{c:UInt8}(h:gS c=true):(97<=c.toNat/\c.toNat<=122)∨(48<=c.toNat/\c.toNat<=57)∨c.toNat=45:=by
 unfold gS at h;simp only[z2,decide_eq_true_eq]at h;omega
theorem P1{c:UInt8}{d:Nat}(hd:c.toNat=d)(h:(97<=d/\d<=122)∨(48<=d/\d<=57)∨d=45):gS c=true:=by
 unfold gS;simp only[z2,decide_eq_true_eq];omega
theorem XF(s:ByteArray)(h:0<s.size):s.data.toList.head? =some s[0]:=by
 have hk:0<s.data.toList.length:=by simpa using h
 rw[List.head?_eq_getElem?,zc hk];rfl
theorem LP(s:ByteArray)(h:0<s.size):s.data.toList.getLast? =some (s[s.size-1]'om):=by
 have hk:0<s.data.toList.length:=by simpa using h
 rw[List.getLast?_eq_getElem?,zc om];rfl
theorem OZ(s:ByteArray)(h: ¬(1<=s.size/\s.size<=63)):dX s.data.toList=false:=by
 refine zk.2 fun hl=>h ?_
 obtain ⟨h1,h2,_⟩:=dC hl;have e:s.data.toList.length=s.size:=by simp
 omega
theorem PC(s:ByteArray)(h:0<s.size)(h0:s[0].toNat=45):dX s.data.toList=false:=by
 refine zk.2 fun hl=> ?_
 obtain ⟨_,_,h3,_⟩:=dC hl;exact h3 ((XF s h).trans (congrArg some (zr.1 (by simpa using h0))))
theorem PD(s:ByteArray)(h:0<s.size)(h0:(s[s.size-1]'om).toNat=45):dX s.data.toList=false:=by
 refine zk.2 fun hl=> ?_
 obtain ⟨_,_,_,h3,_⟩:=dC hl;exact h3 ((LP s h).trans (congrArg some (zr.1 (by simpa using h0))))
theorem PE(s:ByteArray)(k:Nat)(h:k<s.size)(h0: ¬((97<=s[k].toNat/\s[k].toNat<=122)∨(48<=s[k].toNat/\s[k].toNat<=57)∨s[k].toNat=45)):dX s.data.toList=false:=by
 refine zk.2 fun hl=> ?_
 obtain ⟨_,_,_,_,h3⟩:=dC hl;have hm:s[k]∈s.data.toList:=by
  have:s[k]∈s.data:=Array.getElem_mem _
  simpa using this
 exact h0 (kB (h3 _ hm))
theorem XG(s:ByteArray)(hr:1<=s.size/\s.size<=63)(h0: ¬(s[0]'om).toNat=45)(h1: ¬(s[s.size-1]'om).toNat=45)(h: ∀c∈s.data.toList.take s.size,gS c=true):dX s.data.toList=true:=by
 have e:s.data.toList.length=s.size:=by simp
 rw[cS s s.size (zd _)]at h;refine Cz om om (fun hh=>h0 ?_) (fun hh=>h1 ?_) h
 .rw[XF s om]at hh
  have:=Option.some.inj hh
  rw[this];rfl
 rw[LP s om]at hh
 have:=Option.some.inj hh
 rw[this];rfl
theorem PG(s:ByteArray)(k:Nat)(h:k<s.size)(d:Nat)(hd:s[k].toNat=d)(hc:(97<=d/\d<=122)∨(48<=d/\d<=57)∨d=45)(h0: ∀c∈s.data.toList.take k,gS c=true): ∀c∈s.data.toList.take (k+1),gS c=true:=by
 intro c hm;rw[eI s k h]at hm
 rcases z4.1 hm with h2|h2
 .exact h0 c h2
 rw[zu.1 h2];exact P1 hd hc
theorem iP(x a b:Int)(w:World)(h1:a<=x)(h2:x<=b):Calls prog 39 #[I J x,I J a,I J b] w fun e w'=>e=Y (Z true)/\w=w':=by
 go_enter func39,ntmps39;go_wp2;go_ret;exact ⟨rfl,rfl⟩
theorem iC(x a b:Int)(w:World)(h:x<a∨b<x):Calls prog 39 #[I J x,I J a,I J b] w fun e w'=>e=Y (Z false)/\w=w':=by
 by_cases h1:a<=x
 .have h2: ¬x<=b:=om
  clear h;go_enter func39,ntmps39;go_wp2;go_ret;exact ⟨aG j2,rfl⟩
 have h2:x<a:=om;clear h h1;go_enter func39,ntmps39;go_wp2;go_ret;exact ⟨rfl,rfl⟩
def xn:List UInt8:=[120,110,45,45]
def oT(l:List UInt8):Bool:=xn.isPrefixOf l
def GE(l:List UInt8):List Nat:=l.map UInt8.toNat
def okA(l:List UInt8):Bool:=dX l&&(!(oT l)||(cL (GE (l.drop 4))).isSome)
def A8(s:List UInt8):Option (List UInt8):=
 if fE s=true then some (aF s)
 else if (cF ⟨(aF s).toArray⟩).1=s.length/\(cF ⟨(aF s).toArray⟩).2.length<=60 then some (xn++b8 (bC ((cF ⟨(aF s).toArray⟩).2.map ya)))
 else none
def eV(s:List UInt8):Option (List UInt8):=match A8 s with
 |some t=>if okA t=true then some t else none
 |none=>none
theorem A9{l:List UInt8}(h: ∀c∈l,gS c=true):aF l=l:=by
 unfold aF
 conv=>rhs;rw[<-List.map_id l]
 refine List.map_congr_left fun c hc=> ?_
 have:=kB (h c hc)
 unfold dG;rw[if_neg om];rfl
theorem B5{l:List UInt8}(h: ∀c∈l,gS c=true):fE l=true:=by
 unfold fE;rw[zl];intro c hc
 have:=kB (h c hc)
 exact decide_eq_true om
theorem LQ{t:List UInt8}(h:okA t=true):dX t=true:=by
 unfold okA at h;simp only[zo]at h;exact h.1
theorem XH{s t:List UInt8}(h:eV s=some t):okA t=true:=by
 unfold eV at h;split at h
 .split at h
  .rename_i h1;cases h;exact h1
  cases h
 cases h
theorem DQ{t:List UInt8}(h:okA t=true):eV t=some t:=by
 obtain ⟨_,_,_,_,hb⟩:=dC (LQ h);have e:A8 t=some t:=by
  unfold A8;rw[if_pos (B5 hb),A9 hb]
 unfold eV;rw[e];exact if_pos h
theorem B7{s t:List UInt8}(h:eV s=some t):eV t=some t:=DQ (XH h)
theorem Q0{s t:List UInt8}(h:eV s=some t):dX t=true:=LQ (XH h)
theorem B8(l:List Nat): ∀(f n d:Nat),(l.filter (· <n)).length=l.length->dN l f n d (l.filter (· <n)).length=[]
 |0,n,d,_=>by rw[dN]
 |f+1,n,d,h=>by
  rw[dN,if_neg om]
theorem IT{l:List UInt8}(h:oT l=true):l=xn++l.drop 4:=by
 unfold oT at h;obtain ⟨r,rfl⟩:=List.isPrefixOf_iff_prefix.1 h;simp[xn]
theorem Q6{l:List UInt8}{x:Nat}(h:x∈GE l): ∃c∈l,c.toNat=x:=by
 unfold GE at h;obtain ⟨c,hc,rfl⟩:=List.mem_map.1 h;exact ⟨c,hc,rfl⟩
theorem Da{t:List UInt8}{l:List Nat}(hx:oT t=true)(hl:dX t=true)(hd:cL (GE (t.drop 4))=some l):
  (∃x∈l,128<=x)/\ ∀x∈l,¬(65<=x/\x<=90):=by
 obtain ⟨_,_,_,hlast,hb⟩:=dC hl;obtain ⟨hok,he⟩:=(qJ _ _).1 hd;have ht:=IT hx;constructor
 .apply Classical.byContradiction
  intro hno;have hall: ∀x∈l,x<128:=fun x hx=>by
   apply Classical.byContradiction;intro h;exact hno ⟨x,hx,om⟩
  have hf:l.filter (· <128)=l:=List.filter_eq_self.2 fun x hx=>decide_eq_true (hall x hx)
  have hv:rS l=[]:=by
   unfold rS;rw[B8 l l.length 128 0 (by rw[hf])];rw[bT]
  unfold bC at he;rw[hf,hv,zv,z5]at he
  by_cases h0:0<l.length
  .rw[if_pos h0]at he
   apply hlast;have h2:(GE (t.drop 4)).getLast? =some 45:=by rw[<-he];simp
   unfold GE at h2;rw[List.getLast?_map]at h2
   cases h3:(t.drop 4).getLast? with
   |none=>rw[h3]at h2;cases h2
   |some c=>
    rw[h3]at h2;have hc:c.toNat=45:=by simpa using h2
    have hc':c=45:=zr.1 (by simpa using hc);subst hc';rw[ht,List.getLast?_append,h3];rfl
  rw[if_neg h0]at he;have h2:GE (t.drop 4)=[]:=by rw[<-he,z5];exact List.eq_nil_of_length_eq_zero om
  have h3:t.drop 4=[]:=by unfold GE at h2;simpa using h2
  apply hlast;rw[ht,h3];rfl
 intro x hxl hx2;have hm:x∈bC l:=by
  unfold bC;rw[zw];exact List.mem_append_left _ (List.mem_filter.2 ⟨hxl,decide_eq_true om⟩)
 rw[he]at hm;obtain ⟨c,hc,hcx⟩:=Q6 hm
 have:=kB (hb c (List.mem_of_mem_drop hc))
 omega
theorem rT(s:ByteArray):(⟨(aF s.data.toList).toArray⟩:ByteArray).size=s.size:=by
 show (aF s.data.toList).toArray.size=s.data.size;rw[List.size_toArray,aF,z6];rfl
theorem PH(l:List UInt8):fE (aF l)=fE l:=by
 unfold fE aF;rw[List.all_map]
 congr 1
 funext c
 have h:=pZ c
 by_cases hc:65<=(c.toNat:Int)/\(c.toNat:Int)<=90
 .rw[if_pos hc]at h
  rw[Function.comp,decide_eq_decide];omega
 rw[if_neg hc]at h;rw[Function.comp,decide_eq_decide];omega
theorem LR{s:List UInt8}(h:fE s=false)(h2: ¬((cF ⟨(aF s).toArray⟩).1=s.length/\(cF ⟨(aF s).toArray⟩).2.length<=60)):eV s=none:=by
 unfold eV A8;rw[if_neg (by rw[h];decide),if_neg h2]
theorem PI{s:List UInt8}(h:fE s=false)(h2:(cF ⟨(aF s).toArray⟩).1=s.length/\(cF ⟨(aF s).toArray⟩).2.length<=60):
  eV s=if okA (xn++b8 (bC ((cF ⟨(aF s).toArray⟩).2.map ya)))=true then some (xn++b8 (bC ((cF ⟨(aF s).toArray⟩).2.map ya)))else none:=by
 unfold eV A8;rw[if_neg (by rw[h];decide),if_pos h2]
theorem DR{s:List UInt8}(h:fE s=true):eV s=if okA (aF s)=true then some (aF s)else none:=by
 unfold eV A8;rw[if_pos h]
def dT(r:Option (List UInt8)):Value:=match r with
 |some t=> .tuple #[L ⟨t.toArray⟩,Z true]
 |none=> .tuple #[L ⟨#[]⟩,Z false]
def nT(s:ByteArray):Option ByteArray:=match eV s.data.toList with
 |some t=>some ⟨t.toArray⟩
 |none=>none
def eK:List ByteArray->Option (List ByteArray)
 |[]=>some []
 |s::r=>match nT s,eK r with
  |some a,some b=>some (a::b)
  |_,_=>none
def jE(fs:List ByteArray):Option (List UInt8):=match eK fs with
 |some ls=>if (jn 46 ls).length<=253 then some (jn 46 ls)else none
 |none=>none
def cV(s:ByteArray):Option (List UInt8):=jE (dP (aA s 46))
theorem rU(a b:List ByteArray):eK (a++b)=match eK a,eK b with
  |some x,some y=>some (x++y)
  |_,_=>none:=by
 induction a with
 |nil=>
  simp only[z7,eK]
  cases eK b<;>rfl
 |cons s r ih=>
  simp only[zm,eK,ih]
  cases nT s<;>cases eK r<;>cases eK b<;>rfl
theorem nI: ∀{fs ls:List ByteArray},eK fs=some ls->ls.length=fs.length
 |[],ls,h=>by cases h;rfl
 |s::r,ls,h=>by
  rw[eK]at h
  cases h1:nT s with
  |none=>rw[h1]at h;cases h
  |some a=>
   cases h2:eK r with
   |none=>rw[h1,h2]at h;cases h
   |some b=>
    rw[h1,h2]at h
    cases h
    rw[zi,zi,nI h2]
theorem PK: ∀{fs ls:List ByteArray},eK fs=some ls-> ∀a∈ls,∃s∈fs,nT s=some a
 |[],ls,h=>by cases h;intro a ha;simp at ha
 |s::r,ls,h=>by
  rw[eK]at h
  cases h1:nT s with
  |none=>rw[h1]at h;cases h
  |some x=>
   cases h2:eK r with
   |none=>rw[h1,h2]at h;cases h
   |some b=>
    rw[h1,h2]at h
    cases h
    intro a ha
    rcases List.mem_cons.1 ha with rfl|hb
    .exact ⟨s,zj,h1⟩
    obtain ⟨q,hq,e⟩:=PK h2 a hb;exact ⟨q,zg _ hq,e⟩
theorem wB{s a:ByteArray}(h:nT s=some a):dX a.data.toList=true/\nT a=some a:=by
 unfold nT at h
 cases hs:eV s.data.toList with
 |none=>rw[hs]at h;cases h
 |some t=>
  rw[hs]at h
  cases h
  refine ⟨Q0 hs,?_⟩;unfold nT;rw[show (⟨t.toArray⟩:ByteArray).data.toList=t from rfl,B7 hs]
theorem IU{fs ls:List ByteArray}(h:eK fs=some ls): ∀a∈ls,dX a.data.toList=true/\nT a=some a:=fun a ha=>by
 obtain ⟨s,_,e⟩:=PK h a ha;exact wB e
theorem yG: ∀{ls:List ByteArray},(∀a∈ls,nT a=some a)->eK ls=some ls
 |[],_=>rfl
 |a::r,h=>by
  rw[eK,h a zj,yG fun b hb=>h b (zg _ hb)]
theorem jn_le(sep:UInt8)(a b:List ByteArray):(jn sep a).length<=(jn sep (a++b)).length:=by
 cases a with
 |nil=>simp[jn]
 |cons x xs=>simp[jn,List.flatMap_append]
theorem DS(sep:UInt8): ∀(ys:List ByteArray),(∀a∈ys,a.size<=63)->(ys.flatMap fun y=>sep::y.data.toList).length<=64*ys.length
 |[],_=>by simp
 |y::ys,hh=>by
  have h2:=hh y zj;have hy:y.data.toList.length=y.size:=by simp
  have h3:=DS sep ys fun a ha=>hh a (zg _ ha)
  rw[zx,ze,zi,zi];omega
theorem Q7(sep:UInt8)(ls:List ByteArray)(h: ∀a∈ls,a.size<=63):(jn sep ls).length<=64*ls.length:=by
 cases ls with
 |nil=>simp[jn]
 |cons x xs=>
  have h1:=h x zj;have hx:x.data.toList.length=x.size:=by simp
  have h3:=DS sep xs fun a ha=>h a (zg _ ha)
  unfold jn;rw[ze,zi];omega
theorem XI(ls:List ByteArray):Lib.join (ls.map (·.data.toList)) [46]=jn 46 ls:=by
 cases ls with
 |nil=>rfl
 |cons x xs=>
  unfold jn
  induction xs generalizing x with
  |nil=>simp[Lib.join,zz]
  |cons y ys ih=>
   have h:=ih y;simp only[Lib.join,zz,zt]at h⊢;rw[List.intersperse_cons_cons,zy,zy,h,zx];simp
theorem IV{ls:List ByteArray}(h: ∀a∈ls,dX a.data.toList=true/\nT a=some a): ∀a∈ls,a.size<=63:=fun a ha=>by
 have:=(dC (h a ha).1).2.1
 simpa using this
theorem pH{fs:List ByteArray}(h:eK fs=none):jE fs=none:=by unfold jE;rw[h]
theorem DT{fs ls:List ByteArray}(h:eK fs=some ls)(h2: ¬(jn 46 ls).length<=253):jE fs=none:=by unfold jE;rw[h];exact if_neg h2
theorem kC{fs ls:List ByteArray}(h:eK fs=some ls)(h2:(jn 46 ls).length<=253):jE fs=some (jn 46 ls):=by unfold jE;rw[h];exact if_pos h2
def wC(s:ByteArray):Bool:=if hxA s=true then alD 16 (s.extract 2 s.size).data.toList else if s.size=0 then false else alD 10 s.data.toList
def pI(s:ByteArray):ByteArray:=s.extract (aI s 46 s.size).2 s.size
def qO(s:ByteArray):Bool:=wC (pI s)
theorem UH(s:ByteArray):(pI s).size<=s.size:=by
 unfold pI;rw[zf];omega
theorem Q8(s:ByteArray):(aA s 46).getD ((aA s 46).length-1) z8=pI s:=by
 unfold aA;rw[ze,List.length_singleton,Nat.add_sub_cancel,zh,List.getElem?_append_right (zd _)];simp[pI]
theorem IW(s:ByteArray)(p tl:List UInt8)(h:s.data.toList=p++tl)(hp:p=[]∨ ∃q,p=q++[46])(ht: ∀c∈tl,c≠46):(pI s).data.toList=tl:=by
 have h1:=uG s;have h2: ∃xs,spl 46 s.data.toList=xs++[tl]:=by
  rw[h]
  rcases hp with rfl|⟨q,rfl⟩
  .exact ⟨[],by rw[z7,kV 46 ht];rfl⟩
  refine ⟨spl 46 q,?_⟩;rw[zw,List.singleton_append,AL,kV 46 ht]
 obtain ⟨xs,h2⟩:=h2;rw[h2]at h1;unfold aA at h1;rw[z9,zt,zv]at h1;have h3:=(List.append_inj' h1 rfl).2;exact (List.cons.inj h3).1
theorem Q9(s:ByteArray): ∃b:Nat,b<=s.size/\Lib.lastIndexByte s 46+1=(b:Int)/\s.extract b s.size=pI s:=by
 have key: ∃b:Nat,b<=s.size/\Lib.lastIndexByte s 46+1=(b:Int)/\(s.data.toList.take b=[]∨ ∃q,s.data.toList.take b=q++[46])/\ ∀c∈s.data.toList.drop b,c≠46:=by
  rcases Lib.lastIndexByte_spec s 46 with ⟨h1,h2⟩|⟨i,h0,h1,h2,h3⟩
  .refine ⟨0,zn _,by rw[h1];rfl,.inl j2,?_⟩
   intro c hc e;rw[List.drop_zero]at hc;obtain ⟨j,hj,rfl⟩:=zs hc;have hj':j<s.size:=by simpa using hj
   apply h2 j hj';rw[getElem!_pos s.data j hj']
   have:s.data[j]=46:=by simpa using e
   rw[this];rfl
  refine ⟨i+1,h0,by rw[h1];simp,.inr ⟨s.data.toList.take i,?_⟩,?_⟩
  .rw[eI s i h0]
   congr 2
   apply lN;rw[getElem!_pos s.data i h0]at h2;show s.data[i].toNat=46;omega
  intro c hc e;obtain ⟨j,hj,rfl⟩:=zs hc;rw[List.length_drop]at hj;have hj':i+1+j<s.size:=by simp at hj;omega
  apply h3 (i+1+j) om hj';rw[getElem!_pos s.data _ hj']
  have:s.data[i+1+j]=46:=by simpa using e
  rw[this];rfl
 obtain ⟨b,h1,h2,h3,h4⟩:=key;refine ⟨b,h1,h2,bX ?_⟩;show (s.extract b s.size).data.toList=(pI s).data.toList;rw[IW s _ _ (List.take_append_drop b _).symm h3 h4,aZ,cS s s.size (zd _)]
theorem pJ(s:ByteArray)(w:World)(hs:s.size<=1048576):Calls prog 267 #[L s] w fun e w'=>e=Y (Z (qO s))/\w=w':=by
 obtain ⟨b,hb,hlb,he⟩:=Q9 s;have CL:Hid (∀W,CS 210 #[L s,.int .u8 46] W (I J (Lib.lastIndexByte s 46))):=fun W=>(strings_LastIndexByte s 46 om W).mono fun e w' h=>⟨h.1,h.2.symm⟩
 have hl0:Lib.lastIndexByte s 46=(b:Int)-1:=om;rw[hl0]at CL;have hbi:(b:Int)<=(s.size:Int):=om;have HT:Hid (qO s=wC (s.extract b s.size)):=by
  show _=_;rw[he];rfl
 have hts:(s.extract b s.size).size<=1048576:=by rw[zf];omega
 clear hlb hl0 he;go_enter func267,ntmps267;go_wp2_with fail;refine (CL.out _).mono ?_;rintro e w' ⟨rfl,rfl⟩;go_wp2_with fail;generalize s.extract b s.size=t at HT hts⊢;have CP:Hid (∀W,CS 283 #[L t] W (Z (hxA t))):=fun W=>vM t W
 cases hx:hxA t with
 |true=>
  have h2:1<t.size:=by
   have h:=of_decide_eq_true hx;exact h.1
  have HZ:Hid (wC t=alD 16 (t.extract 2 t.size).data.toList):=by
   show _=_;unfold wC;rw[if_pos hx]
  have CD:Hid (∀W,CS 247 #[L (t.extract 2 t.size),I J 16] W (Z (alD 16 (t.extract 2 t.size).data.toList))):=fun W=>lK _ 16 W (by rw[zf];omega)
  generalize alD 16 (t.extract 2 t.size).data.toList=R at HZ CD;rw[hx]at CP;clear hx;refine (CP.out _).mono ?_;rintro e w' ⟨rfl,rfl⟩;go_wp2_with fail;refine (CD.out _).mono ?_;rintro e w' ⟨rfl,rfl⟩;go_wp2_with fail;go_ret;exact ⟨by rw[HT.out,HZ.out];rfl,rfl⟩
 |false=>
  rw[hx]at CP
  by_cases h0:t.size=0
  .have HZ:Hid (wC t=false):=by
    show _=_;unfold wC;rw[hx,if_neg de,if_pos h0]
   have hem:=aV h0;clear hx h0;refine (CP.out _).mono ?_;rintro e w' ⟨rfl,rfl⟩;go_wp2_with fail;go_ret;exact ⟨by rw[HT.out,HZ.out];rfl,rfl⟩
  have HZ:Hid (wC t=alD 10 t.data.toList):=by
   show _=_;unfold wC;rw[hx,if_neg de,if_neg h0]
  have hem:=aX (by omega:0<t.size);have CD:Hid (∀W,CS 247 #[L t,I J 10] W (Z (alD 10 t.data.toList))):=fun W=>lK _ 10 W hts
  clear hx h0;refine (CP.out _).mono ?_;rintro e w' ⟨rfl,rfl⟩;go_wp2_with fail;refine (CD.out _).mono ?_;rintro e w' ⟨rfl,rfl⟩;go_wp2_with fail;go_ret;exact ⟨by rw[HT.out,HZ.out];rfl,rfl⟩
theorem UI(s:ByteArray)(k:Nat)(h:k<s.size):alD 16 (s.data.toList.drop k)=(decide (0<=bE s[k].toNat)&&alD 16 (s.data.toList.drop (k+1))):=by
 rw[BQ s k h]
 congr 1
 have:=(gM s[k].toNat).2
 refine decide_eq_decide.2 ⟨fun h=>h.1,fun h=>⟨h,?_⟩⟩;omega
theorem R0(s:ByteArray)(w:World)(hs:s.size<=1048576):Calls prog 138 #[L s] w fun e w'=>e=Y (Z (alD 16 s.data.toList))/\w=w':=by
 go_enter func138,ntmps138;go_wp2
 go_loop[3] (fun i=> ∃k:Nat,k<=s.size/\i=I J k/\alD 16 (s.data.toList.drop k)=alD 16 s.data.toList) (fun i=>s.size-(intOf i).toNat)
 case atStart=>exact ⟨0,zn _,rfl,rfl⟩
 obtain ⟨k,hk,rfl,hf⟩:=hrel;have HR:Hid (alD 16 (s.data.toList.drop k)=alD 16 s.data.toList):=hf;clear hf
 by_cases hlt:k<s.size
 .obtain ⟨d,hd⟩: ∃d:Nat,s[k].toNat=d:=⟨_,rfl⟩
  have hd1:(d:Int)<=255:=by have:=s[k].toNat_lt;omega
  have HD:Hid (alD 16 (s.data.toList.drop k)=(decide (0<=bE d)&&alD 16 (s.data.toList.drop (k+1)))):=by
   show _=_;rw[UI s k hlt,hd]
  obtain ⟨hx1,hx2⟩:=gM d;have CH:Hid (∀W,CS 113 #[.int .u8 (d:Int)] W (I J (bE d))):=fun W=>sI d W hd1
  generalize bE d=x at HD CH hx1 hx2;have hki:(k:Int)<(s.size:Int):=om
  by_cases hx0:x<0
  .have HZ:Hid (alD 16 s.data.toList=false):=by
    show _=_;rw[<-HR.out,HD.out,decide_eq_false om];rfl
   go_wp2_with fail;refine (CH.out _).mono ?_;rintro e w' ⟨rfl,rfl⟩;go_wp2_with fail;go_ret;exact ⟨by rw[HZ.out];rfl,rfl⟩
  have HZ:Hid (alD 16 (s.data.toList.drop (k+1))=alD 16 s.data.toList):=by
   show _=_;rw[<-HR.out,HD.out,decide_eq_true om];rfl
  go_wp2_with fail;refine (CH.out _).mono ?_;rintro e w' ⟨rfl,rfl⟩;go_wp2_with fail;go_round
  case rel=>exact ⟨k+1,om,gn,HZ.out⟩
  case measure=>exact j1
 have HZ:Hid (alD 16 s.data.toList=true):=by
  show _=_;rw[<-HR.out,za (by simp;omega)];rfl
 have hki: ¬(k:Int)<(s.size:Int):=om;go_wp2_with fail;go_ret;exact ⟨by rw[HZ.out];rfl,rfl⟩
theorem uK(s:ByteArray)(k:Nat)(h:k<s.size):alD 10 (s.data.toList.drop k)=(decide (48<=s[k].toNat/\s[k].toNat<=57)&&alD 10 (s.data.toList.drop (k+1))):=by
 rw[BQ s k h]
 congr 1
 have:=s[k].toNat_lt
 generalize s[k].toNat=c at this;refine decide_eq_decide.2 ?_;unfold bE;split
 .omega
 split
 .omega
 split<;>omega
theorem yH(s:ByteArray)(w:World)(hs:s.size<=1048576):Calls prog 87 #[L s] w fun e w'=>e=Y (Z (qO s))/\Below w.heap.size w w':=by
 have CF:Hid (Calls prog 93 #[L s,.int .u8 46] w fun e w'=> ∃v,e=Y v/\w'.ownsRow w.heap.size 9 1 v (aA s 46).length (aM (aA s 46))/\Below w.heap.size w w'):=mX s 46 w hs;have hpos:0<(aA s 46).length:=by simp[aA]
 have hlen:(aA s 46).length<=1048577:=by
  have:=(dL s 46 s.size).2
  simp[aA];omega
 have hL:(aA s 46).getD ((aA s 46).length-1) z8=pI s:=Q8 s;have hts:(pI s).size<=1048576:=Nat.le_trans (UH s) hs;have HT:Hid (qO s=wC (pI s)):=rfl;generalize pI s=t at hL hts HT;generalize aA s 46=fs at CF hpos hlen hL;go_enter func87,ntmps87;go_wp2_with fail;refine CF.out.mono ?_;rintro e wa ⟨va,rfl,oa,ba⟩
 rcases aQ oa with ⟨h,_⟩|⟨_,g,cap,rfl⟩
 .omega
 have hc:=bY oa (fs.length-1) om;rw[hL]at hc;have hi:((fs.length:Int)-1)=((fs.length-1:Nat):Int):=om;clear oa hL
 cases hx:hxA t with
 |true=>
  obtain ⟨h2,h48,hxx⟩:=of_decide_eq_true hx;have HZ:Hid (wC t=alD 16 (t.extract 2 t.size).data.toList):=by
   show _=_;unfold wC;rw[if_pos hx]
  have CD:Hid (∀W,CS 138 #[L (t.extract 2 t.size)] W (Z (alD 16 (t.extract 2 t.size).data.toList))):=fun W=>R0 _ W (by rw[zf];omega)
  generalize alD 16 (t.extract 2 t.size).data.toList=R at HZ CD;have h1':1<(t.size:Int):=om;obtain ⟨c,hcc⟩: ∃c:Nat,t[1].toNat=c:=⟨_,rfl⟩;rw[hcc]at hxx;clear hx
  rcases hxx with rfl|rfl
  .go_wp2_with fail
   refine (CD.out _).mono ?_;rintro e w' ⟨rfl,rfl⟩;go_wp2_with fail;go_ret;exact ⟨by rw[HT.out,HZ.out];rfl,ba⟩
  go_wp2_with fail;refine (CD.out _).mono ?_;rintro e w' ⟨rfl,rfl⟩;go_wp2_with fail;go_ret;exact ⟨by rw[HT.out,HZ.out];rfl,ba⟩
 |false=>
  have HZ:Hid (wC t=if t.size=0 then false else alD 10 t.data.toList):=by
   show _=_;unfold wC;rw[hx,if_neg de]
  have hno:=of_decide_eq_false hx;clear hx
  by_cases h2:1<t.size
  .have h1':1<(t.size:Int):=om
   obtain ⟨d,hd⟩: ∃d:Nat,t[0].toNat=d:=⟨_,rfl⟩
   by_cases hd0:d=48
   .obtain ⟨c,hcc⟩: ∃c:Nat,t[1].toNat=c:=⟨_,rfl⟩
    have q1:((c:Int)==120)=false:=beq_eq_false_iff_ne.2 (fun e=>hno ⟨h2,om,.inl om⟩);have q2:((c:Int)==88)=false:=beq_eq_false_iff_ne.2 (fun e=>hno ⟨h2,om,.inr om⟩);subst hd0;clear hno;go_wp2_with fail;clear q1 q2 hd hcc hc hi
    go_loop[5] (fun i=> ∃k:Nat,k<=t.size/\i=I J k/\alD 10 (t.data.toList.drop k)=alD 10 t.data.toList) (fun i=>t.size-(intOf i).toNat)
    case atStart=>exact ⟨0,zn _,rfl,rfl⟩
    obtain ⟨k,hk,rfl,hf⟩:=hrel;have HR:Hid (alD 10 (t.data.toList.drop k)=alD 10 t.data.toList):=hf;clear hf
    by_cases hlt:k<t.size
    .obtain ⟨y,hy⟩: ∃y:Nat,t[k].toNat=y:=⟨_,rfl⟩
     have hy1:(y:Int)<=255:=by have:=t[k].toNat_lt;omega
     have HD:Hid (alD 10 (t.data.toList.drop k)=(decide (48<=y/\y<=57)&&alD 10 (t.data.toList.drop (k+1)))):=by
      show _=_;rw[uK t k hlt,hy]
     have hki:(k:Int)<(t.size:Int):=om
     by_cases hin:48<=y/\y<=57
     .have CI:Hid (∀W,CS 39 #[I J (y:Int),I J 48,I J 57] W (Z true)):=fun W=>iP _ _ _ W om om
      have HZ2:Hid (alD 10 (t.data.toList.drop (k+1))=alD 10 t.data.toList):=by
       show _=_;rw[<-HR.out,HD.out,decide_eq_true hin];rfl
      clear hin;go_wp2_with fail;refine (CI.out _).mono ?_;rintro e w' ⟨rfl,rfl⟩;go_wp2_with fail;go_round
      case rel=>exact ⟨k+1,om,gn,HZ2.out⟩
      case measure=>exact j1
     have CI:Hid (∀W,CS 39 #[I J (y:Int),I J 48,I J 57] W (Z false)):=fun W=>iC _ _ _ W om
     have HZ2:Hid (alD 10 t.data.toList=false):=by
      show _=_;rw[<-HR.out,HD.out,decide_eq_false hin];rfl
     have hne: ¬t.size=0:=om;clear hin;go_wp2_with fail;refine (CI.out _).mono ?_;rintro e w' ⟨rfl,rfl⟩;go_wp2_with fail;go_ret;exact ⟨by rw[HT.out,HZ.out,if_neg hne,HZ2.out];rfl,ba⟩
    have HZ2:Hid (alD 10 t.data.toList=true):=by
     show _=_;rw[<-HR.out,za (by simp;omega)];rfl
    have hki: ¬(k:Int)<(t.size:Int):=om
    by_cases h00:t.size=0
    .have HE:Hid (t.size=0):=h00
     have hem:=aV h00;clear h00;go_wp2_with fail;go_ret;exact ⟨by rw[HT.out,HZ.out,if_pos HE.out];rfl,ba⟩
    have HE:Hid (¬t.size=0):=h00;have hem:=aX (by omega:0<t.size);clear h00;go_wp2_with fail;go_ret;exact ⟨by rw[HT.out,HZ.out,if_neg HE.out,HZ2.out];rfl,ba⟩
   have q0:((d:Int)==48)=false:=beq_eq_false_iff_ne.2 om;clear hno hd0;go_wp2_with fail;clear q0 hd hc hi
   go_loop[5] (fun i=> ∃k:Nat,k<=t.size/\i=I J k/\alD 10 (t.data.toList.drop k)=alD 10 t.data.toList) (fun i=>t.size-(intOf i).toNat)
   case atStart=>exact ⟨0,zn _,rfl,rfl⟩
   obtain ⟨k,hk,rfl,hf⟩:=hrel;have HR:Hid (alD 10 (t.data.toList.drop k)=alD 10 t.data.toList):=hf;clear hf
   by_cases hlt:k<t.size
   .obtain ⟨y,hy⟩: ∃y:Nat,t[k].toNat=y:=⟨_,rfl⟩
    have hy1:(y:Int)<=255:=by have:=t[k].toNat_lt;omega
    have HD:Hid (alD 10 (t.data.toList.drop k)=(decide (48<=y/\y<=57)&&alD 10 (t.data.toList.drop (k+1)))):=by
     show _=_;rw[uK t k hlt,hy]
    have hki:(k:Int)<(t.size:Int):=om
    by_cases hin:48<=y/\y<=57
    .have CI:Hid (∀W,CS 39 #[I J (y:Int),I J 48,I J 57] W (Z true)):=fun W=>iP _ _ _ W om om
     have HZ2:Hid (alD 10 (t.data.toList.drop (k+1))=alD 10 t.data.toList):=by
      show _=_;rw[<-HR.out,HD.out,decide_eq_true hin];rfl
     clear hin;go_wp2_with fail;refine (CI.out _).mono ?_;rintro e w' ⟨rfl,rfl⟩;go_wp2_with fail;go_round
     case rel=>exact ⟨k+1,om,gn,HZ2.out⟩
     case measure=>exact j1
    have CI:Hid (∀W,CS 39 #[I J (y:Int),I J 48,I J 57] W (Z false)):=fun W=>iC _ _ _ W om
    have HZ2:Hid (alD 10 t.data.toList=false):=by
     show _=_;rw[<-HR.out,HD.out,decide_eq_false hin];rfl
    have hne: ¬t.size=0:=om;clear hin;go_wp2_with fail;refine (CI.out _).mono ?_;rintro e w' ⟨rfl,rfl⟩;go_wp2_with fail;go_ret;exact ⟨by rw[HT.out,HZ.out,if_neg hne,HZ2.out];rfl,ba⟩
   have HZ2:Hid (alD 10 t.data.toList=true):=by
    show _=_;rw[<-HR.out,za (by simp;omega)];rfl
   have hki: ¬(k:Int)<(t.size:Int):=om
   by_cases h00:t.size=0
   .have HE:Hid (t.size=0):=h00
    have hem:=aV h00;clear h00;go_wp2_with fail;go_ret;exact ⟨by rw[HT.out,HZ.out,if_pos HE.out];rfl,ba⟩
   have HE:Hid (¬t.size=0):=h00;have hem:=aX (by omega:0<t.size);clear h00;go_wp2_with fail;go_ret;exact ⟨by rw[HT.out,HZ.out,if_neg HE.out,HZ2.out];rfl,ba⟩
  have h1': ¬1<(t.size:Int):=om;clear hno;go_wp2_with fail;clear hc hi
  go_loop[5] (fun i=> ∃k:Nat,k<=t.size/\i=I J k/\alD 10 (t.data.toList.drop k)=alD 10 t.data.toList) (fun i=>t.size-(intOf i).toNat)
  case atStart=>exact ⟨0,zn _,rfl,rfl⟩
  obtain ⟨k,hk,rfl,hf⟩:=hrel;have HR:Hid (alD 10 (t.data.toList.drop k)=alD 10 t.data.toList):=hf;clear hf
  by_cases hlt:k<t.size
  .obtain ⟨y,hy⟩: ∃y:Nat,t[k].toNat=y:=⟨_,rfl⟩
   have hy1:(y:Int)<=255:=by have:=t[k].toNat_lt;omega
   have HD:Hid (alD 10 (t.data.toList.drop k)=(decide (48<=y/\y<=57)&&alD 10 (t.data.toList.drop (k+1)))):=by
    show _=_;rw[uK t k hlt,hy]
   have hki:(k:Int)<(t.size:Int):=om
   by_cases hin:48<=y/\y<=57
   .have CI:Hid (∀W,CS 39 #[I J (y:Int),I J 48,I J 57] W (Z true)):=fun W=>iP _ _ _ W om om
    have HZ2:Hid (alD 10 (t.data.toList.drop (k+1))=alD 10 t.data.toList):=by
     show _=_;rw[<-HR.out,HD.out,decide_eq_true hin];rfl
    clear hin;go_wp2_with fail;refine (CI.out _).mono ?_;rintro e w' ⟨rfl,rfl⟩;go_wp2_with fail;go_round
    case rel=>exact ⟨k+1,om,gn,HZ2.out⟩
    case measure=>exact j1
   have CI:Hid (∀W,CS 39 #[I J (y:Int),I J 48,I J 57] W (Z false)):=fun W=>iC _ _ _ W om
   have HZ2:Hid (alD 10 t.data.toList=false):=by
    show _=_;rw[<-HR.out,HD.out,decide_eq_false hin];rfl
   have hne: ¬t.size=0:=om;clear hin;go_wp2_with fail;refine (CI.out _).mono ?_;rintro e w' ⟨rfl,rfl⟩;go_wp2_with fail;go_ret;exact ⟨by rw[HT.out,HZ.out,if_neg hne,HZ2.out];rfl,ba⟩
  have HZ2:Hid (alD 10 t.data.toList=true):=by
   show _=_;rw[<-HR.out,za (by simp;omega)];rfl
  have hki: ¬(k:Int)<(t.size:Int):=om
  by_cases h00:t.size=0
  .have HE:Hid (t.size=0):=h00
   have hem:=aV h00;clear h00;go_wp2_with fail;go_ret;exact ⟨by rw[HT.out,HZ.out,if_pos HE.out];rfl,ba⟩
  have HE:Hid (¬t.size=0):=h00;have hem:=aX (by omega:0<t.size);clear h00;go_wp2_with fail;go_ret;exact ⟨by rw[HT.out,HZ.out,if_neg HE.out,HZ2.out];rfl,ba⟩
theorem XJ(b:UInt8): ∀{l:List (List UInt8)} {x:List UInt8},l≠[]->jl b (l++[x])=jl b l++b::x
 |[],_,h=>absurd rfl h
 |[y],x,_=>rfl
 |y::z::r,x,_=>by
  have ih:=XJ b (l:=z::r) (x:=x) j2;rw[zm,zm,jl,jl,<-zm,ih];simp
theorem Db(gs:List Nat)(h:0<gs.length):gtL (gs.take 1)=bQ (gs.getD 0 0):=by
 cases gs with
 |nil=>simp at h
 |cons g r=>rfl
theorem Dc(gs:List Nat)(k:Nat)(h:k<gs.length)(hk:0<k):gtL (gs.take (k+1))=gtL (gs.take k)++[58]++bQ (gs.getD k 0):=by
 unfold gtL;rw[List.take_succ_eq_append_getElem h,z9,zt,zv,XJ]
 .simp[List.getD,h]
 intro e;have h1:((gs.take k).map bQ).length=0:=by rw[e];rfl
 rw[z6,z0]at h1;omega
def DU(w:World)(g off:Nat)(gs:List Nat):Prop:= ∀j,j<gs.length->w.cell? ⟨g,off+j,none⟩=some (I J ((gs.getD j 0:Nat):Int))
theorem DU.later{w w':World}{g off:Nat}{gs:List Nat}(h:DU w g off gs)(hb:Below w.heap.size w w'):DU w' g off gs:=fun j hj=>cell_later hb (h j hj)
theorem gH(g off cap:Nat)(gs:List Nat)(w:World)(hl:gs.length<=8)(hg: ∀x∈gs,x<65536)(hc:DU w g off gs)(hT:bK w):Calls prog 195 #[.slice (some ⟨g,off,none⟩) gs.length cap] w fun e w'=>e=Y (L ⟨(gtL gs).toArray⟩)/\Below w.heap.size w w':=by
 have HT:Hid (bK w):=hT;have HC:Hid (DU w g off gs):=hc;have HG:Hid (∀x∈gs,x<65536):=hg;clear hT hc hg;go_enter func195,ntmps195;go_wp2
 go_loopw[3,9] (fun b i wr=> ∃k:Nat,k<=gs.length/\i=I J k/\wr.ownsRow w.heap.size 5 1 b (gtL (gs.take k)).length (aD (gtL (gs.take k)))/\Below w.heap.size w wr)
  (fun _ i _=>gs.length-(intOf i).toNat)
 case atStart=>exact ⟨0,zn _,rfl,World.ownsRow_lit w #[] 0 (zd _) de rfl,(zp _ _).alloc (zd _) _⟩
 obtain ⟨k,hk,rfl,hown,hbel⟩:=hrel;have hsz:=hbel.size;have HTW:Hid (bK wr):=aT HT.out hbel;have hlen:(gtL (gs.take k)).length<=100:=by
  have:=(uI (gs.take k)).1
  rw[z0]at this;omega
 by_cases hlt:k<gs.length
 .have hce:=(HC.out.later hbel) k hlt
  have hm:gs.getD k 0<65536:=HG.out _ (by
   rw[zh,zc hlt];exact z1 hlt)
  have HS:Hid (0<k->gtL (gs.take (k+1))=gtL (gs.take k)++[58]++bQ (gs.getD k 0)):=fun h=>Dc gs k hlt h
  have HZ:Hid (k=0->gtL (gs.take (k+1))=gtL (gs.take k)++bQ (gs.getD k 0)):=fun h=>by
   subst h;rw[Db gs hlt];rfl
  have CA:Hid (∀(v:Value) (l:List UInt8) (W:World),bK W->W.ownsRow w.heap.size 5 1 v l.length (aD l)->w.heap.size<=W.heap.size->l.length<=1000->Calls prog 192 #[v,I J ((gs.getD k 0:Nat):Int),I J 16] W fun e w'=> ∃v',e=Y v'/\w'.ownsRow w.heap.size 5 1 v' (l++bQ (gs.getD k 0)).length (aD (l++bQ (gs.getD k 0)))/\Below w.heap.size W w'):=fun v l W a b c d=>UC _ _ v l W om om a b c d
  obtain ⟨x,hx⟩: ∃x:Int,((gs.getD k 0:Nat):Int)=x:=⟨_,rfl⟩;rw[hx]at hce CA;have hx0:0<=x:=om;have hx1:x<65536:=om;generalize gs.getD k 0=y at hx CA HS HZ hm;clear hx hm
  by_cases h0:k=0
  .subst h0
   rw[Nat.add_zero]at hce;go_wp2_with fail;refine (CA.out _ _ _ HTW.out hown hsz om).mono ?_;rintro e wb ⟨vb,rfl,o2,b2⟩;have B2:=hbel.trans b2;clear hown hbel b2;go_wp2_with fail;go_roundw
   case rel=>
    refine ⟨1,om,gn,?_,B2⟩;rw[show gtL (gs.take 1)=gtL (gs.take 0)++bQ y from HZ.out (by trivial)];exact o2
   case measure=>exact j1
  have hki:0<(k:Int):=om;have HS2:Hid (gtL (gs.take (k+1))=gtL (gs.take k)++[58]++bQ y):=HS.out om;clear HS HZ h0;go_wp2_with (at_builtin;refine aB _ rfl _ _ 22 rfl w.heap.size 5 (.int .u8 0) 1 underlying22 info5 rfl _ _ _ rfl hown #[.int .u8 58] 1 rfl rfl (by intro u hu;simp at hu;subst hu;rfl) om (by unfold maxLen;omega) hsz ?_);intro v' w1 o3 b3;have R:w1.ownsRow w.heap.size 5 1 v' (gtL (gs.take k)++[58]).length (aD (gtL (gs.take k)++[58])):=by
   rw[kR,ze];exact o3
  have B3:=hbel.trans b3;have HT3:Hid (bK w1):=aT HT.out B3;have z3:=B3.size;have hl3:(gtL (gs.take k)++[58]).length<=1000:=by rw[ze];simp;omega
  clear o3 b3 hown hbel;go_wp2_with fail;refine (CA.out _ _ _ HT3.out R z3 hl3).mono ?_;rintro e wb ⟨vb,rfl,o2,b2⟩;have B2:=B3.trans b2;clear R b2 B3;go_wp2_with fail;go_roundw
  case rel=>
   refine ⟨k+1,om,gn,?_,B2⟩;rw[HS2.out];exact o2
  case measure=>exact j1
 have he:gs.take k=gs:=zq om;rw[he]at hown;have hcv:=bG (P:=prog) wr 22 9 5 underlying22 underlying5 underlying9 hown;clear he hlen;have hki: ¬(k:Int)<(gs.length:Int):=om;go_wp2_with fail;go_ret;exact ⟨rfl,hbel⟩
def okG(z:List Int):Bool:=z.all fun x=>decide (0<=x/\x<=65535)
def zb(z:List Int):List Bool:=z.map fun x=>decide (x=0)
theorem Gs{z:List Int}{y:Int}(hy:y∈z)(h: ¬(0<=y/\y<=65535)):okG z=false:=List.all_eq_false.2 ⟨y,hy,by simpa using h⟩
theorem AT{z:List Int}(h: ∀x∈z,0<=x/\x<=65535):okG z=true:=zl.2 fun x hx=>decide_eq_true (h x hx)
theorem R3(x0 x1 x2 x3 x4 x5 x6 x7:Int)(k:Nat)(hk:k<8)(W:World):
  (Instr.index 24 (.agg #[I J x0,I J x1,I J x2,I J x3,I J x4,I J x5,I J x6,I J x7]) (I J (k:Int))).run prog W=.ok (I J ([x0,x1,x2,x3,x4,x5,x6,x7].getD k 0)) W:=by
 have h:k=0∨k=1∨k=2∨k=3∨k=4∨k=5∨k=6∨k=7:=om
 rcases h with rfl|rfl|rfl|rfl|rfl|rfl|rfl|rfl<;>simp[Instr.index,run_underlying underlying24,asIntOf,go_sem,part,sizeOf3,isAgg3]
theorem Ft(w:World)(x0 x1 x2 x3 x4 x5 x6 x7:Int)(k:Nat)(hk:k<8):
  (w.alloc (.cells #[I J x0,I J x1,I J x2,I J x3,I J x4,I J x5,I J x6,I J x7] 24)).cell? ⟨w.heap.size,k,none⟩=some (I J ([x0,x1,x2,x3,x4,x5,x6,x7].getD k 0)):=by
 rw[World.cell?_alloc_at _ _ _ _ rfl];have h:k=0∨k=1∨k=2∨k=3∨k=4∨k=5∨k=6∨k=7:=om
 rcases h with rfl|rfl|rfl|rfl|rfl|rfl|rfl|rfl<;>rfl
theorem wD(x0 x1 x2 x3 x4 x5 x6 x7:Int)(w:World):Calls prog 193 #[.agg #[I J x0,I J x1,I J x2,I J x3,I J x4,I J x5,I J x6,I J x7]] w fun e w'=>e=Y (Z (okG [x0,x1,x2,x3,x4,x5,x6,x7]))/\Below w.heap.size w w':=by
 have HI:Hid (∀k W,k<8->_):=fun k W hk=>R3 x0 x1 x2 x3 x4 x5 x6 x7 k hk W
 generalize hz:[x0,x1,x2,x3,x4,x5,x6,x7]=z at HI⊢;have hzl:z.length=8:=by rw[<-hz];rfl
 clear hz;have HZL:Hid (z.length=8):=hzl;clear hzl;go_enter func193,ntmps193;go_wp2
 go_loop[6] (fun i=> ∃k:Nat,k<=8/\i=I J k/\ ∀x∈z.take k,0<=x/\x<=65535) (fun i=>8-(intOf i).toNat)
 case atStart=>exact ⟨0,om,rfl,fun x hx=>by simp at hx⟩
 obtain ⟨k,hk,rfl,hall⟩:=hrel;have HA:Hid (∀x∈z.take k,0<=x/\x<=65535):=hall;clear hall
 by_cases hlt:k<8
 .have hix:=fun W=>HI.out k W hlt
  have HT:Hid (z.take (k+1)=z.take k++[z.getD k 0]):=pY z k (by have:=HZL.out;omega);have HM:Hid (z.getD k 0∈z):=by
   show _∈_;rw[zh,zc (by have:=HZL.out;omega)];exact z1 _
  generalize z.getD k 0=y at hix HT HM
  by_cases hy:0<=y/\y<=65535
  .obtain ⟨hy0,hy1⟩:=hy
   go_wp2_with fail;go_round
   case rel=>
    refine ⟨k+1,om,gn,fun x hx=> ?_⟩;rw[HT.out]at hx
    rcases z4.1 hx with h|h
    .exact HA.out x h
    rw[zu.1 h];exact ⟨hy0,hy1⟩
   case measure=>exact j1
  have HF:Hid (okG z=false):=Gs HM.out hy
  by_cases hy0:y<0
  .clear hy
   go_wp2_with fail;go_ret;exact ⟨by rw[HF.out];rfl,(zp _ _).alloc (zd _) _⟩
  have hy1:65535<y:=om;clear hy;go_wp2_with fail;go_ret;exact ⟨by rw[HF.out];rfl,(zp _ _).alloc (zd _) _⟩
 have HF:Hid (okG z=true):=AT fun x hx=>HA.out x (by rw[zq (by have:=HZL.out;omega)];exact hx)
 go_wp2_with fail;go_ret;exact ⟨by rw[HF.out];rfl,(zp _ _).alloc (zd _) _⟩
theorem Dd(z:List Int)(k:Nat)(h:k<z.length):(zb z).drop k=decide (z.getD k 0=0)::(zb z).drop (k+1):=by
 unfold zb;rw[List.drop_eq_getElem_cons (by simpa using h)];simp[List.getD,h]
theorem Gt(z:List Int)(k:Nat)(h:z.length<=k):(zb z).drop k=[]:=za (by simpa[zb] using h)
theorem B9(k f t b:Nat)(z:List Int)(h:k<z.length):jX k (f,t,b) ((zb z).drop k)=jX (k+1) (if z.getD k 0=0 then (if t-f<k+1-b then (b,k+1,b)else (f,t,b))else (f,t,k+1)) ((zb z).drop (k+1)):=by
 rw[Dd z k h,jX]
 by_cases h0:z.getD k 0=0
 .rw[if_pos h0,decide_eq_true h0];rfl
 rw[if_neg h0,decide_eq_false h0];rfl
def rowV(r:Nat×Nat×Nat):Value:=.tuple #[I J (r.1:Int),I J (r.2.1:Int)]
theorem PL(x0 x1 x2 x3 x4 x5 x6 x7:Int)(w:World):Calls prog 194 #[.agg #[I J x0,I J x1,I J x2,I J x3,I J x4,I J x5,I J x6,I J x7]] w fun e w'=>e=Y (rowV (jX 0 (0,0,0) (zb [x0,x1,x2,x3,x4,x5,x6,x7])))/\Below w.heap.size w w':=by
 have HI:Hid (∀k W,k<8->_):=fun k W hk=>R3 x0 x1 x2 x3 x4 x5 x6 x7 k hk W
 generalize hz:[x0,x1,x2,x3,x4,x5,x6,x7]=z at HI⊢;have hzl:z.length=8:=by rw[<-hz];rfl
 clear hz;have HZL:Hid (z.length=8):=hzl;clear hzl;go_enter func194,ntmps194;go_wp2
 go_loop[4,5,6,10] (fun x y v i=> ∃k f t b:Nat,k<=8/\i=I J k/\x=I J f/\y=I J t/\v=I J b/\f<=t/\t<=k/\b<=k/\jX k (f,t,b) ((zb z).drop k)=jX 0 (0,0,0) (zb z)) (fun _ _ _ i=>8-(intOf i).toNat)
 case atStart=>exact ⟨0,0,0,0,om,rfl,rfl,rfl,rfl,om,om,om,rfl⟩
 obtain ⟨k,f,t,b,hk,rfl,rfl,rfl,rfl,h1,h2,h3,hr⟩:=hrel;have HR:Hid (jX k (f,t,b) ((zb z).drop k)=jX 0 (0,0,0) (zb z)):=hr;clear hr
 by_cases hlt:k<8
 .have hix:=fun W=>HI.out k W hlt
  have HS:Hid (_=_):=B9 k f t b z (by have:=HZL.out;omega);generalize z.getD k 0=y at hix HS
  by_cases hy:y=0
  .subst hy
   by_cases hc:t-f<k+1-b
   .have HG:Hid (jX (k+1) (b,k+1,b) ((zb z).drop (k+1))=jX 0 (0,0,0) (zb z)):=by
     show _=_;rw[<-HR.out,HS.out,if_pos rfl,if_pos hc]
    have hc':(t:Int)-f<(k:Int)+1-b:=om;clear hc;go_wp2_with fail;go_round
    case rel=>exact ⟨k+1,b,k+1,b,om,gn,gn,gn,gn,om,om,om,HG.out⟩
    case measure=>exact j1
   have HG:Hid (jX (k+1) (f,t,b) ((zb z).drop (k+1))=jX 0 (0,0,0) (zb z)):=by
    show _=_;rw[<-HR.out,HS.out,if_pos rfl,if_neg hc]
   have hc': ¬(t:Int)-f<(k:Int)+1-b:=om;clear hc;go_wp2_with fail;go_round
   case rel=>exact ⟨k+1,f,t,b,om,gn,gn,gn,gn,om,om,om,HG.out⟩
   case measure=>exact j1
  have HG:Hid (jX (k+1) (f,t,k+1) ((zb z).drop (k+1))=jX 0 (0,0,0) (zb z)):=by
   show _=_;rw[<-HR.out,HS.out,if_neg hy]
  have hy':(y==0)=false:=by simpa using hy
  clear hy;go_wp2_with fail;go_round
  case rel=>exact ⟨k+1,f,t,k+1,om,gn,gn,gn,gn,om,om,om,HG.out⟩
  case measure=>exact j1
 have HG:Hid (jX 0 (0,0,0) (zb z)=(f,t,b)):=by
  show _=_;rw[<-HR.out,Gt z k (by have:=HZL.out;omega)];rfl
 have hki: ¬(k:Int)<8:=om;go_wp2_with fail;go_ret2;exact ⟨by rw[HG.out];rfl,(zp _ _).alloc (zd _) _⟩
