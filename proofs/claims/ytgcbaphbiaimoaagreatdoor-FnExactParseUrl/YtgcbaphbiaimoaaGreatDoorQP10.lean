/- LabPlain, NamePlain, NamesPlain, EndWalk, GroupsText. -/
import Derived.Test.YtgcbaphbiaimoaaGreatDoorQP09
import Derived.Lib.Join
set_option maxHeartbeats 4000000
set_option maxRecDepth 20000
namespace Go.Proofs.YtgcbaphbiaimoaaGreatDoor
open Go.RowKit
def xXz(c:UInt8):Bool:=decide (97≤c.toNat∧c.toNat≤122)||decide (48≤c.toNat∧c.toNat≤57)||decide (c.toNat=45)
def yMz(l:List UInt8):Bool:=decide (1≤l.length)&&decide (l.length≤63)&&decide (l.head? ≠some 45)&&decide (l.getLast? ≠some 45)&&l.all xXz
theorem ylz{l:List UInt8}(h:yMz l=true):1≤l.length∧l.length≤63∧l.head? ≠some 45∧l.getLast? ≠some 45∧ ∀c∈l,xXz c=true:=by
 unfold yMz at h
 simp only[Bool.and_eq_true,decide_eq_true_eq,List.all_eq_true]at h
 exact ⟨h.1.1.1.1,h.1.1.1.2,h.1.1.2,h.1.2,h.2⟩
theorem zsbz{l:List UInt8}(h1:1≤l.length)(h2:l.length≤63)(h3:l.head? ≠some 45)(h4:l.getLast? ≠some 45)(h5: ∀c∈l,xXz c=true):yMz l=true:=by
 unfold yMz
 simp only[Bool.and_eq_true,decide_eq_true_eq,List.all_eq_true]
 exact ⟨⟨⟨⟨h1,h2⟩,h3⟩,h4⟩,h5⟩
theorem vKz{c:UInt8}(h:xXz c=true):(97≤c.toNat∧c.toNat≤122)∨(48≤c.toNat∧c.toNat≤57)∨c.toNat=45:=by
 unfold xXz at h
 simp only[Bool.or_eq_true,decide_eq_true_eq]at h
 omega
theorem zpVz{c:UInt8}{d:Nat}(hd:c.toNat=d)(h:(97≤d∧d≤122)∨(48≤d∧d≤57)∨d=45):xXz c=true:=by
 unfold xXz
 simp only[Bool.or_eq_true,decide_eq_true_eq]
 omega
theorem zm9z(s:ByteArray)(h:0<s.size):s.data.toList.head? =some s[0]:=by
 have hk:0<s.data.toList.length:=by simpa using h
 rw[List.head?_eq_getElem?,List.getElem?_eq_getElem hk]
 rfl
theorem ziPz(s:ByteArray)(h:0<s.size):s.data.toList.getLast? =some (s[s.size-1]'(by omega)):=by
 have hk:0<s.data.toList.length:=by simpa using h
 rw[List.getLast?_eq_getElem?,List.getElem?_eq_getElem (by omega)]
 rfl
theorem zj7z(s:ByteArray)(h: ¬(1≤s.size∧s.size≤63)):yMz s.data.toList=false:=by
 refine Bool.eq_false_iff.2 fun hl=>h ?_
 obtain ⟨h1,h2,_⟩:=ylz hl
 have e:s.data.toList.length=s.size:=by simp
 omega
theorem zj8z(s:ByteArray)(h:0<s.size)(h0:s[0].toNat=45):yMz s.data.toList=false:=by
 refine Bool.eq_false_iff.2 fun hl=> ?_
 obtain ⟨_,_,h3,_⟩:=ylz hl
 exact h3 ((zm9z s h).trans (congrArg some (UInt8.toNat_inj.1 (by simpa using h0))))
theorem zj9z(s:ByteArray)(h:0<s.size)(h0:(s[s.size-1]'(by omega)).toNat=45):yMz s.data.toList=false:=by
 refine Bool.eq_false_iff.2 fun hl=> ?_
 obtain ⟨_,_,_,h3,_⟩:=ylz hl
 exact h3 ((ziPz s h).trans (congrArg some (UInt8.toNat_inj.1 (by simpa using h0))))
theorem zkaz(s:ByteArray)(k:Nat)(h:k<s.size)(h0: ¬((97≤s[k].toNat∧s[k].toNat≤122)∨(48≤s[k].toNat∧s[k].toNat≤57)∨s[k].toNat=45)):yMz s.data.toList=false:=by
 refine Bool.eq_false_iff.2 fun hl=> ?_
 obtain ⟨_,_,_,_,h3⟩:=ylz hl
 have hm:s[k]∈s.data.toList:=by
  have:s[k]∈s.data:=Array.getElem_mem _
  simpa using this
 exact h0 (vKz (h3 _ hm))
theorem znaz(s:ByteArray)(hr:1≤s.size∧s.size≤63)(h0: ¬(s[0]'(by omega)).toNat=45)(h1: ¬(s[s.size-1]'(by omega)).toNat=45)(h: ∀c∈s.data.toList.take s.size,xXz c=true):yMz s.data.toList=true:=by
 have e:s.data.toList.length=s.size:=by simp
 rw[ynz s s.size (Nat.le_refl _)]at h
 refine zsbz (by omega) (by omega) (fun hh=>h0 ?_) (fun hh=>h1 ?_) h
 ·rw[zm9z s (by omega)]at hh
  have:=Option.some.inj hh
  rw[this];rfl
 rw[ziPz s (by omega)]at hh
 have:=Option.some.inj hh
 rw[this];rfl
theorem zkbz(s:ByteArray)(k:Nat)(h:k<s.size)(d:Nat)(hd:s[k].toNat=d)(hc:(97≤d∧d≤122)∨(48≤d∧d≤57)∨d=45)(h0: ∀c∈s.data.toList.take k,xXz c=true): ∀c∈s.data.toList.take (k+1),xXz c=true:=by
 intro c hm
 rw[xez s k h]at hm
 rcases List.mem_append.1 hm with h2|h2
 ·exact h0 c h2
 rw[List.mem_singleton.1 h2]
 exact zpVz hd hc
theorem xYz(x a b:Int)(w:World)(h1:a≤x)(h2:x≤b):
  Calls Tryz.prog 39 #[.int .i64 x,.int .i64 a,.int .i64 b] w fun e w'=>e=.returned (.bool true)∧w=w':=by
 go_enter Tryz.func39,Tryz.ntmps39
 go_wp2
 go_ret
 exact ⟨rfl,rfl⟩
theorem xMz(x a b:Int)(w:World)(h:x<a∨b<x):
  Calls Tryz.prog 39 #[.int .i64 x,.int .i64 a,.int .i64 b] w fun e w'=>e=.returned (.bool false)∧w=w':=by
 by_cases h1:a≤x
 ·have h2: ¬x≤b:=by omega
  clear h
  go_enter Tryz.func39,Tryz.ntmps39
  go_wp2
  go_ret
  exact ⟨zgz (by simp),rfl⟩
 have h2:x<a:=by omega
 clear h h1
 go_enter Tryz.func39,Tryz.ntmps39
 go_wp2
 go_ret
 exact ⟨rfl,rfl⟩
def xn:List UInt8:=[120,110,45,45]
def isXn(l:List UInt8):Bool:=xn.isPrefixOf l
def nat8(l:List UInt8):List Nat:=l.map UInt8.toNat
def okA(l:List UInt8):Bool:=yMz l&&(!(isXn l)||(z9z (nat8 (l.drop 4))).isSome)
def asc1(s:List UInt8):Option (List UInt8):=
 if xjz s=true then some (zdz s)
 else if (z2z ⟨(zdz s).toArray⟩).1=s.length∧(z2z ⟨(zdz s).toArray⟩).2.length≤60 then some (xn++b8 (zBz ((z2z ⟨(zdz s).toArray⟩).2.map Int.toNat)))
 else none
def y8z(s:List UInt8):Option (List UInt8):=match asc1 s with
 |some t=>if okA t=true then some t else none
 |none=>none
theorem zogz{l:List UInt8}(h: ∀c∈l,xXz c=true):zdz l=l:=by
 unfold zdz
 conv=>rhs;rw[←List.map_id l]
 refine List.map_congr_left fun c hc=> ?_
 have:=vKz (h c hc)
 unfold ysz
 rw[if_neg (by omega)]
 rfl
theorem zohz{l:List UInt8}(h: ∀c∈l,xXz c=true):xjz l=true:=by
 unfold xjz
 rw[List.all_eq_true]
 intro c hc
 have:=vKz (h c hc)
 exact decide_eq_true (by omega)
theorem ziQz{t:List UInt8}(h:okA t=true):yMz t=true:=by
 unfold okA at h
 simp only[Bool.and_eq_true]at h
 exact h.1
theorem znbz{s t:List UInt8}(h:y8z s=some t):okA t=true:=by
 unfold y8z at h
 split at h
 ·split at h
  ·rename_i h1;cases h;exact h1
  cases h
 cases h
theorem zf5z{t:List UInt8}(h:okA t=true):y8z t=some t:=by
 obtain ⟨_,_,_,_,hb⟩:=ylz (ziQz h)
 have e:asc1 t=some t:=by
  unfold asc1
  rw[if_pos (zohz hb),zogz hb]
 unfold y8z
 rw[e]
 exact if_pos h
theorem zoiz{s t:List UInt8}(h:y8z s=some t):y8z t=some t:=zf5z (znbz h)
theorem zpWz{s t:List UInt8}(h:y8z s=some t):yMz t=true:=ziQz (znbz h)
theorem zojz(l:List Nat): ∀(f n d:Nat),(l.filter (· <n)).length=l.length→yCz l f n d (l.filter (· <n)).length=[]
 |0,n,d,_=>by rw[yCz]
 |f+1,n,d,h=>by
  rw[yCz,if_neg (by omega)]
theorem zhJz{l:List UInt8}(h:isXn l=true):l=xn++l.drop 4:=by
 unfold isXn at h
 obtain ⟨r,rfl⟩:=List.isPrefixOf_iff_prefix.1 h
 simp[xn]
theorem zpXz{l:List UInt8}{x:Nat}(h:x∈nat8 l): ∃c∈l,c.toNat=x:=by
 unfold nat8 at h
 obtain ⟨c,hc,rfl⟩:=List.mem_map.1 h
 exact ⟨c,hc,rfl⟩
theorem zscz{t:List UInt8}{l:List Nat}(hx:isXn t=true)(hl:yMz t=true)(hd:z9z (nat8 (t.drop 4))=some l):
  (∃x∈l,128≤x)∧ ∀x∈l,¬(65≤x∧x≤90):=by
 obtain ⟨_,_,_,hlast,hb⟩:=ylz hl
 obtain ⟨hok,he⟩:=(zbcz _ _).1 hd
 have ht:=zhJz hx
 constructor
 ·apply Classical.byContradiction
  intro hno
  have hall: ∀x∈l,x<128:=fun x hx=>by
   apply Classical.byContradiction
   intro h
   exact hno ⟨x,hx,by omega⟩
  have hf:l.filter (· <128)=l:=List.filter_eq_self.2 fun x hx=>decide_eq_true (hall x hx)
  have hv:encV l=[]:=by
   unfold encV
   rw[zojz l l.length 128 0 (by rw[hf])]
   rw[zRz]
  unfold zBz at he
  rw[hf,hv,List.map_nil,List.append_nil]at he
  by_cases h0:0<l.length
  ·rw[if_pos h0]at he
   apply hlast
   have h2:(nat8 (t.drop 4)).getLast? =some 45:=by rw[←he];simp
   unfold nat8 at h2
   rw[List.getLast?_map]at h2
   cases h3:(t.drop 4).getLast? with
   |none=>rw[h3]at h2;cases h2
   |some c=>
    rw[h3]at h2
    have hc:c.toNat=45:=by simpa using h2
    have hc':c=45:=UInt8.toNat_inj.1 (by simpa using hc)
    subst hc'
    rw[ht,List.getLast?_append,h3]
    rfl
  rw[if_neg h0]at he
  have h2:nat8 (t.drop 4)=[]:=by rw[←he,List.append_nil];exact List.eq_nil_of_length_eq_zero (by omega)
  have h3:t.drop 4=[]:=by unfold nat8 at h2;simpa using h2
  apply hlast
  rw[ht,h3]
  rfl
 intro x hxl hx2
 have hm:x∈zBz l:=by
  unfold zBz
  rw[List.append_assoc]
  exact List.mem_append_left _ (List.mem_filter.2 ⟨hxl,decide_eq_true (by omega)⟩)
 rw[he]at hm
 obtain ⟨c,hc,hcx⟩:=zpXz hm
 have:=vKz (hb c (List.mem_of_mem_drop hc))
 omega
theorem zbIz(s:ByteArray):(⟨(zdz s.data.toList).toArray⟩:ByteArray).size=s.size:=by
 show (zdz s.data.toList).toArray.size=s.data.size
 rw[List.size_toArray,zdz,List.length_map]
 rfl
theorem zkcz(l:List UInt8):xjz (zdz l)=xjz l:=by
 unfold xjz zdz
 rw[List.all_map]
 congr 1
 funext c
 have h:=za2z c
 by_cases hc:65≤(c.toNat:Int)∧(c.toNat:Int)≤90
 ·rw[if_pos hc]at h
  rw[Function.comp,decide_eq_decide]
  omega
 rw[if_neg hc]at h
 rw[Function.comp,decide_eq_decide]
 omega
theorem ziRz{s:List UInt8}(h:xjz s=false)(h2: ¬((z2z ⟨(zdz s).toArray⟩).1=s.length∧(z2z ⟨(zdz s).toArray⟩).2.length≤60)):y8z s=none:=by
 unfold y8z asc1
 rw[if_neg (by rw[h];decide),if_neg h2]
theorem zkdz{s:List UInt8}(h:xjz s=false)(h2:(z2z ⟨(zdz s).toArray⟩).1=s.length∧(z2z ⟨(zdz s).toArray⟩).2.length≤60):
  y8z s=if okA (xn++b8 (zBz ((z2z ⟨(zdz s).toArray⟩).2.map Int.toNat)))=true then some (xn++b8 (zBz ((z2z ⟨(zdz s).toArray⟩).2.map Int.toNat)))else none:=by
 unfold y8z asc1
 rw[if_neg (by rw[h];decide),if_pos h2]
theorem zf6z{s:List UInt8}(h:xjz s=true):y8z s=if okA (zdz s)=true then some (zdz s)else none:=by
 unfold y8z asc1
 rw[if_pos h]
def yuz(r:Option (List UInt8)):Value:=match r with
 |some t=> .tuple #[.string ⟨t.toArray⟩,.bool true]
 |none=> .tuple #[.string ⟨#[]⟩,.bool false]
def j0z(s:ByteArray):Option ByteArray:=match y8z s.data.toList with
 |some t=>some ⟨t.toArray⟩
 |none=>none
def yZz:List ByteArray→Option (List ByteArray)
 |[]=>some []
 |s::r=>match j0z s,yZz r with
  |some a,some b=>some (a::b)
  |_,_=>none
def vsz(fs:List ByteArray):Option (List UInt8):=match yZz fs with
 |some ls=>if (jn 46 ls).length≤253 then some (jn 46 ls)else none
 |none=>none
def z6z(s:ByteArray):Option (List UInt8):=vsz (yDz (zaz s 46))
theorem zbJz(a b:List ByteArray):yZz (a++b)=match yZz a,yZz b with
  |some x,some y=>some (x++y)
  |_,_=>none:=by
 induction a with
 |nil=>
  simp only[List.nil_append,yZz]
  cases yZz b<;>rfl
 |cons s r ih=>
  simp only[List.cons_append,yZz,ih]
  cases j0z s<;>cases yZz r<;>cases yZz b<;>rfl
theorem jQz: ∀{fs ls:List ByteArray},yZz fs=some ls→ls.length=fs.length
 |[],ls,h=>by cases h;rfl
 |s::r,ls,h=>by
  rw[yZz]at h
  cases h1:j0z s with
  |none=>rw[h1]at h;cases h
  |some a=>
   cases h2:yZz r with
   |none=>rw[h1,h2]at h;cases h
   |some b=>
    rw[h1,h2]at h
    cases h
    rw[List.length_cons,List.length_cons,jQz h2]
theorem zkez: ∀{fs ls:List ByteArray},yZz fs=some ls→ ∀a∈ls,∃s∈fs,j0z s=some a
 |[],ls,h=>by cases h;intro a ha;simp at ha
 |s::r,ls,h=>by
  rw[yZz]at h
  cases h1:j0z s with
  |none=>rw[h1]at h;cases h
  |some x=>
   cases h2:yZz r with
   |none=>rw[h1,h2]at h;cases h
   |some b=>
    rw[h1,h2]at h
    cases h
    intro a ha
    rcases List.mem_cons.1 ha with rfl|hb
    ·exact ⟨s,List.mem_cons_self,h1⟩
    obtain ⟨q,hq,e⟩:=zkez h2 a hb
    exact ⟨q,List.mem_cons_of_mem _ hq,e⟩
theorem zdvz{s a:ByteArray}(h:j0z s=some a):yMz a.data.toList=true∧j0z a=some a:=by
 unfold j0z at h
 cases hs:y8z s.data.toList with
 |none=>rw[hs]at h;cases h
 |some t=>
  rw[hs]at h
  cases h
  refine ⟨zpWz hs,?_⟩
  unfold j0z
  rw[show (⟨t.toArray⟩:ByteArray).data.toList=t from rfl,zoiz hs]
theorem zhKz{fs ls:List ByteArray}(h:yZz fs=some ls): ∀a∈ls,yMz a.data.toList=true∧j0z a=some a:=fun a ha=>by
 obtain ⟨s,_,e⟩:=zkez h a ha
 exact zdvz e
theorem zepz: ∀{ls:List ByteArray},(∀a∈ls,j0z a=some a)→yZz ls=some ls
 |[],_=>rfl
 |a::r,h=>by
  rw[yZz,h a List.mem_cons_self,zepz fun b hb=>h b (List.mem_cons_of_mem _ hb)]
theorem jn_le(sep:UInt8)(a b:List ByteArray):(jn sep a).length≤(jn sep (a++b)).length:=by
 cases a with
 |nil=>simp[jn]
 |cons x xs=>simp[jn,List.flatMap_append]
theorem zf7z(sep:UInt8): ∀(ys:List ByteArray),(∀a∈ys,a.size≤63)→(ys.flatMap fun y=>sep::y.data.toList).length≤64*ys.length
 |[],_=>by simp
 |y::ys,hh=>by
  have h2:=hh y List.mem_cons_self
  have hy:y.data.toList.length=y.size:=by simp
  have h3:=zf7z sep ys fun a ha=>hh a (List.mem_cons_of_mem _ ha)
  rw[List.flatMap_cons,List.length_append,List.length_cons,List.length_cons]
  omega
theorem zpYz(sep:UInt8)(ls:List ByteArray)(h: ∀a∈ls,a.size≤63):(jn sep ls).length≤64*ls.length:=by
 cases ls with
 |nil=>simp[jn]
 |cons x xs=>
  have h1:=h x List.mem_cons_self
  have hx:x.data.toList.length=x.size:=by simp
  have h3:=zf7z sep xs fun a ha=>h a (List.mem_cons_of_mem _ ha)
  unfold jn
  rw[List.length_append,List.length_cons]
  omega
theorem zncz(ls:List ByteArray):Lib.join (ls.map (·.data.toList)) [46]=jn 46 ls:=by
 cases ls with
 |nil=>rfl
 |cons x xs=>
  unfold jn
  induction xs generalizing x with
  |nil=>simp[Lib.join,List.intercalate]
  |cons y ys ih=>
   have h:=ih y
   simp only[Lib.join,List.intercalate,List.map_cons]at h⊢
   rw[List.intersperse_cons_cons,List.flatten_cons,List.flatten_cons,h,List.flatMap_cons]
   simp
theorem zhLz{ls:List ByteArray}(h: ∀a∈ls,yMz a.data.toList=true∧j0z a=some a): ∀a∈ls,a.size≤63:=fun a ha=>by
 have:=(ylz (h a ha).1).2.1
 simpa using this
theorem zaKz{fs:List ByteArray}(h:yZz fs=none):vsz fs=none:=by unfold vsz;rw[h]
theorem zf8z{fs ls:List ByteArray}(h:yZz fs=some ls)(h2: ¬(jn 46 ls).length≤253):vsz fs=none:=by unfold vsz;rw[h];exact if_neg h2
theorem vLz{fs ls:List ByteArray}(h:yZz fs=some ls)(h2:(jn 46 ls).length≤253):vsz fs=some (jn 46 ls):=by unfold vsz;rw[h];exact if_pos h2
def endT(s:ByteArray):Bool:=if hxA s=true then alD 16 (s.extract 2 s.size).data.toList else if s.size=0 then false else alD 10 s.data.toList
def zaLz(s:ByteArray):ByteArray:=s.extract (zhz s 46 s.size).2 s.size
def juz(s:ByteArray):Bool:=endT (zaLz s)
theorem zlNz(s:ByteArray):(zaLz s).size≤s.size:=by
 unfold zaLz
 rw[ByteArray.size_extract]
 omega
theorem zpZz(s:ByteArray):(zaz s 46).getD ((zaz s 46).length-1) ByteArray.empty=zaLz s:=by
 unfold zaz
 rw[List.length_append,List.length_singleton,Nat.add_sub_cancel,List.getD_eq_getElem?_getD,List.getElem?_append_right (Nat.le_refl _)]
 simp[zaLz]
theorem zhMz(s:ByteArray)(p tl:List UInt8)(h:s.data.toList=p++tl)(hp:p=[]∨ ∃q,p=q++[46])(ht: ∀c∈tl,c≠46):(zaLz s).data.toList=tl:=by
 have h1:=zcLz s
 have h2: ∃xs,spl 46 s.data.toList=xs++[tl]:=by
  rw[h]
  rcases hp with rfl|⟨q,rfl⟩
  ·exact ⟨[],by rw[List.nil_append,v0z 46 ht];rfl⟩
  refine ⟨spl 46 q,?_⟩
  rw[List.append_assoc,List.singleton_append,zfhz,v0z 46 ht]
 obtain ⟨xs,h2⟩:=h2
 rw[h2]at h1
 unfold zaz at h1
 rw[List.map_append,List.map_cons,List.map_nil]at h1
 have h3:=(List.append_inj' h1 rfl).2
 exact (List.cons.inj h3).1
theorem zp0z(s:ByteArray): ∃b:Nat,b≤s.size∧Lib.lastIndexByte s 46+1=(b:Int)∧s.extract b s.size=zaLz s:=by
 have key: ∃b:Nat,b≤s.size∧Lib.lastIndexByte s 46+1=(b:Int)∧(s.data.toList.take b=[]∨ ∃q,s.data.toList.take b=q++[46])∧ ∀c∈s.data.toList.drop b,c≠46:=by
  rcases Lib.lastIndexByte_spec s 46 with ⟨h1,h2⟩|⟨i,h0,h1,h2,h3⟩
  ·refine ⟨0,Nat.zero_le _,by rw[h1];rfl,.inl (by simp),?_⟩
   intro c hc e
   rw[List.drop_zero]at hc
   obtain ⟨j,hj,rfl⟩:=List.getElem_of_mem hc
   have hj':j<s.size:=by simpa using hj
   apply h2 j hj'
   rw[getElem!_pos s.data j hj']
   have:s.data[j]=46:=by simpa using e
   rw[this];rfl
  refine ⟨i+1,h0,by rw[h1];simp,.inr ⟨s.data.toList.take i,?_⟩,?_⟩
  ·rw[xez s i h0]
   congr 2
   apply jiz
   rw[getElem!_pos s.data i h0]at h2
   show s.data[i].toNat=46
   omega
  intro c hc e
  obtain ⟨j,hj,rfl⟩:=List.getElem_of_mem hc
  rw[List.length_drop]at hj
  have hj':i+1+j<s.size:=by simp at hj;omega
  apply h3 (i+1+j) (by omega) hj'
  rw[getElem!_pos s.data _ hj']
  have:s.data[i+1+j]=46:=by simpa using e
  rw[this];rfl
 obtain ⟨b,h1,h2,h3,h4⟩:=key
 refine ⟨b,h1,h2,zIz ?_⟩
 show (s.extract b s.size).data.toList=(zaLz s).data.toList
 rw[zhMz s _ _ (List.take_append_drop b _).symm h3 h4,zAz,ynz s s.size (Nat.le_refl _)]
theorem zaMz(s:ByteArray)(w:World)(hs:s.size≤1048576):
  Calls Tryz.prog 267 #[.string s] w fun e w'=>e=.returned (.bool (juz s))∧w=w':=by
 obtain ⟨b,hb,hlb,he⟩:=zp0z s
 have CL:Hid (∀W,CS 210 #[.string s,.int .u8 46] W (.int .i64 (Lib.lastIndexByte s 46))):=fun W=>(Tryz.strings_LastIndexByte s 46 (by omega) W).mono fun e w' h=>⟨h.1,h.2.symm⟩
 have hl0:Lib.lastIndexByte s 46=(b:Int)-1:=by omega
 rw[hl0]at CL
 have hbi:(b:Int)≤(s.size:Int):=by omega
 have HT:Hid (juz s=endT (s.extract b s.size)):=by
  show _=_
  rw[he]
  rfl
 have hts:(s.extract b s.size).size≤1048576:=by rw[ByteArray.size_extract];omega
 clear hlb hl0 he
 go_enter Tryz.func267,Tryz.ntmps267
 go_wp2_with fail
 refine (CL.out _).mono ?_
 rintro e w' ⟨rfl,rfl⟩
 go_wp2_with fail
 generalize s.extract b s.size=t at HT hts⊢
 have CP:Hid (∀W,CS 283 #[.string t] W (.bool (hxA t))):=fun W=>zdfz t W
 cases hx:hxA t with
 |true=>
  have h2:1<t.size:=by
   have h:=of_decide_eq_true hx
   exact h.1
  have HZ:Hid (endT t=alD 16 (t.extract 2 t.size).data.toList):=by
   show _=_
   unfold endT
   rw[if_pos hx]
  have CD:Hid (∀W,CS 247 #[.string (t.extract 2 t.size),.int .i64 16] W (.bool (alD 16 (t.extract 2 t.size).data.toList))):=fun W=>jez _ 16 W (by rw[ByteArray.size_extract];omega)
  generalize alD 16 (t.extract 2 t.size).data.toList=R at HZ CD
  rw[hx]at CP
  clear hx
  refine (CP.out _).mono ?_
  rintro e w' ⟨rfl,rfl⟩
  go_wp2_with fail
  refine (CD.out _).mono ?_
  rintro e w' ⟨rfl,rfl⟩
  go_wp2_with fail
  go_ret
  exact ⟨by rw[HT.out,HZ.out];rfl,rfl⟩
 |false=>
  rw[hx]at CP
  by_cases h0:t.size=0
  ·have HZ:Hid (endT t=false):=by
    show _=_
    unfold endT
    rw[hx,if_neg (by decide),if_pos h0]
   have hem:=zsz h0
   clear hx h0
   refine (CP.out _).mono ?_
   rintro e w' ⟨rfl,rfl⟩
   go_wp2_with fail
   go_ret
   exact ⟨by rw[HT.out,HZ.out];rfl,rfl⟩
  have HZ:Hid (endT t=alD 10 t.data.toList):=by
   show _=_
   unfold endT
   rw[hx,if_neg (by decide),if_neg h0]
  have hem:=zvz (by omega:0<t.size)
  have CD:Hid (∀W,CS 247 #[.string t,.int .i64 10] W (.bool (alD 10 t.data.toList))):=fun W=>jez _ 10 W hts
  clear hx h0
  refine (CP.out _).mono ?_
  rintro e w' ⟨rfl,rfl⟩
  go_wp2_with fail
  refine (CD.out _).mono ?_
  rintro e w' ⟨rfl,rfl⟩
  go_wp2_with fail
  go_ret
  exact ⟨by rw[HT.out,HZ.out];rfl,rfl⟩
theorem zlOz(s:ByteArray)(k:Nat)(h:k<s.size):alD 16 (s.data.toList.drop k)=(decide (0≤zEz s[k].toNat)&&alD 16 (s.data.toList.drop (k+1))):=by
 rw[zfFz s k h]
 congr 1
 have:=(xSz s[k].toNat).2
 refine decide_eq_decide.2 ⟨fun h=>h.1,fun h=>⟨h,?_⟩⟩
 omega
theorem zp1z(s:ByteArray)(w:World)(hs:s.size≤1048576):
  Calls Tryz.prog 138 #[.string s] w fun e w'=>e=.returned (.bool (alD 16 s.data.toList))∧w=w':=by
 go_enter Tryz.func138,Tryz.ntmps138
 go_wp2
 go_loop[3] (fun i=> ∃k:Nat,k≤s.size∧i=.int .i64 k∧alD 16 (s.data.toList.drop k)=alD 16 s.data.toList) (fun i=>s.size-(intOf i).toNat)
 case atStart=>exact ⟨0,Nat.zero_le _,rfl,rfl⟩
 obtain ⟨k,hk,rfl,hf⟩:=hrel
 have HR:Hid (alD 16 (s.data.toList.drop k)=alD 16 s.data.toList):=hf
 clear hf
 by_cases hlt:k<s.size
 ·obtain ⟨d,hd⟩: ∃d:Nat,s[k].toNat=d:=⟨_,rfl⟩
  have hd1:(d:Int)≤255:=by have:=s[k].toNat_lt;omega
  have HD:Hid (alD 16 (s.data.toList.drop k)=(decide (0≤zEz d)&&alD 16 (s.data.toList.drop (k+1)))):=by
   show _=_
   rw[zlOz s k hlt,hd]
  obtain ⟨hx1,hx2⟩:=xSz d
  have CH:Hid (∀W,CS 113 #[.int .u8 (d:Int)] W (.int .i64 (zEz d))):=fun W=>zb2z d W hd1
  generalize zEz d=x at HD CH hx1 hx2
  have hki:(k:Int)<(s.size:Int):=by omega
  by_cases hx0:x<0
  ·have HZ:Hid (alD 16 s.data.toList=false):=by
    show _=_
    rw[←HR.out,HD.out,decide_eq_false (by omega)]
    rfl
   go_wp2_with fail
   refine (CH.out _).mono ?_
   rintro e w' ⟨rfl,rfl⟩
   go_wp2_with fail
   go_ret
   exact ⟨by rw[HZ.out];rfl,rfl⟩
  have HZ:Hid (alD 16 (s.data.toList.drop (k+1))=alD 16 s.data.toList):=by
   show _=_
   rw[←HR.out,HD.out,decide_eq_true (by omega)]
   rfl
  go_wp2_with fail
  refine (CH.out _).mono ?_
  rintro e w' ⟨rfl,rfl⟩
  go_wp2_with fail
  go_round
  case rel=>exact ⟨k+1,by omega,by go_num,HZ.out⟩
  case measure=>simp[intOf];omega
 have HZ:Hid (alD 16 s.data.toList=true):=by
  show _=_
  rw[←HR.out,List.drop_of_length_le (by simp;omega)]
  rfl
 have hki: ¬(k:Int)<(s.size:Int):=by omega
 go_wp2_with fail
 go_ret
 exact ⟨by rw[HZ.out];rfl,rfl⟩
theorem zcPz(s:ByteArray)(k:Nat)(h:k<s.size):alD 10 (s.data.toList.drop k)=(decide (48≤s[k].toNat∧s[k].toNat≤57)&&alD 10 (s.data.toList.drop (k+1))):=by
 rw[zfFz s k h]
 congr 1
 have:=s[k].toNat_lt
 generalize s[k].toNat=c at this
 refine decide_eq_decide.2 ?_
 unfold zEz
 split
 ·omega
 split
 ·omega
 split<;>omega
theorem zaNz(s:ByteArray)(w:World)(hs:s.size≤1048576):
  Calls Tryz.prog 87 #[.string s] w fun e w'=>e=.returned (.bool (juz s))∧Below w.heap.size w w':=by
 have CF:Hid (Calls Tryz.prog 93 #[.string s,.int .u8 46] w fun e w'=> ∃v,e=.returned v∧w'.ownsRow w.heap.size 9 1 v (zaz s 46).length (zrz (zaz s 46))∧Below w.heap.size w w'):=jJz s 46 w hs
 have hpos:0<(zaz s 46).length:=by simp[zaz]
 have hlen:(zaz s 46).length≤1048577:=by
  have:=(yAz s 46 s.size).2
  simp[zaz];omega
 have hL:(zaz s 46).getD ((zaz s 46).length-1) ByteArray.empty=zaLz s:=zpZz s
 have hts:(zaLz s).size≤1048576:=Nat.le_trans (zlNz s) hs
 have HT:Hid (juz s=endT (zaLz s)):=rfl
 generalize zaLz s=t at hL hts HT
 generalize zaz s 46=fs at CF hpos hlen hL
 go_enter Tryz.func87,Tryz.ntmps87
 go_wp2_with fail
 refine CF.out.mono ?_
 rintro e wa ⟨va,rfl,oa,ba⟩
 rcases zpz oa with ⟨h,_⟩|⟨_,g,cap,rfl⟩
 ·omega
 have hc:=z0z oa (fs.length-1) (by omega)
 rw[hL]at hc
 have hi:((fs.length:Int)-1)=((fs.length-1:Nat):Int):=by omega
 clear oa hL
 cases hx:hxA t with
 |true=>
  obtain ⟨h2,h48,hxx⟩:=of_decide_eq_true hx
  have HZ:Hid (endT t=alD 16 (t.extract 2 t.size).data.toList):=by
   show _=_
   unfold endT
   rw[if_pos hx]
  have CD:Hid (∀W,CS 138 #[.string (t.extract 2 t.size)] W (.bool (alD 16 (t.extract 2 t.size).data.toList))):=fun W=>zp1z _ W (by rw[ByteArray.size_extract];omega)
  generalize alD 16 (t.extract 2 t.size).data.toList=R at HZ CD
  have h1':1<(t.size:Int):=by omega
  obtain ⟨c,hcc⟩: ∃c:Nat,t[1].toNat=c:=⟨_,rfl⟩
  rw[hcc]at hxx
  clear hx
  rcases hxx with rfl|rfl
  ·go_wp2_with fail
   refine (CD.out _).mono ?_
   rintro e w' ⟨rfl,rfl⟩
   go_wp2_with fail
   go_ret
   exact ⟨by rw[HT.out,HZ.out];rfl,ba⟩
  go_wp2_with fail
  refine (CD.out _).mono ?_
  rintro e w' ⟨rfl,rfl⟩
  go_wp2_with fail
  go_ret
  exact ⟨by rw[HT.out,HZ.out];rfl,ba⟩
 |false=>
  have HZ:Hid (endT t=if t.size=0 then false else alD 10 t.data.toList):=by
   show _=_
   unfold endT
   rw[hx,if_neg (by decide)]
  have hno:=of_decide_eq_false hx
  clear hx
  by_cases h2:1<t.size
  ·have h1':1<(t.size:Int):=by omega
   obtain ⟨d,hd⟩: ∃d:Nat,t[0].toNat=d:=⟨_,rfl⟩
   by_cases hd0:d=48
   ·obtain ⟨c,hcc⟩: ∃c:Nat,t[1].toNat=c:=⟨_,rfl⟩
    have q1:((c:Int)==120)=false:=beq_eq_false_iff_ne.2 (fun e=>hno ⟨h2,by omega,.inl (by omega)⟩)
    have q2:((c:Int)==88)=false:=beq_eq_false_iff_ne.2 (fun e=>hno ⟨h2,by omega,.inr (by omega)⟩)
    subst hd0
    clear hno
    go_wp2_with fail
    clear q1 q2 hd hcc hc hi
    go_loop[5] (fun i=> ∃k:Nat,k≤t.size∧i=.int .i64 k∧alD 10 (t.data.toList.drop k)=alD 10 t.data.toList) (fun i=>t.size-(intOf i).toNat)
    case atStart=>exact ⟨0,Nat.zero_le _,rfl,rfl⟩
    obtain ⟨k,hk,rfl,hf⟩:=hrel
    have HR:Hid (alD 10 (t.data.toList.drop k)=alD 10 t.data.toList):=hf
    clear hf
    by_cases hlt:k<t.size
    ·obtain ⟨y,hy⟩: ∃y:Nat,t[k].toNat=y:=⟨_,rfl⟩
     have hy1:(y:Int)≤255:=by have:=t[k].toNat_lt;omega
     have HD:Hid (alD 10 (t.data.toList.drop k)=(decide (48≤y∧y≤57)&&alD 10 (t.data.toList.drop (k+1)))):=by
      show _=_
      rw[zcPz t k hlt,hy]
     have hki:(k:Int)<(t.size:Int):=by omega
     by_cases hin:48≤y∧y≤57
     ·have CI:Hid (∀W,CS 39 #[.int .i64 (y:Int),.int .i64 48,.int .i64 57] W (.bool true)):=fun W=>xYz _ _ _ W (by omega) (by omega)
      have HZ2:Hid (alD 10 (t.data.toList.drop (k+1))=alD 10 t.data.toList):=by
       show _=_
       rw[←HR.out,HD.out,decide_eq_true hin]
       rfl
      clear hin
      go_wp2_with fail
      refine (CI.out _).mono ?_
      rintro e w' ⟨rfl,rfl⟩
      go_wp2_with fail
      go_round
      case rel=>exact ⟨k+1,by omega,by go_num,HZ2.out⟩
      case measure=>simp[intOf];omega
     have CI:Hid (∀W,CS 39 #[.int .i64 (y:Int),.int .i64 48,.int .i64 57] W (.bool false)):=fun W=>xMz _ _ _ W (by omega)
     have HZ2:Hid (alD 10 t.data.toList=false):=by
      show _=_
      rw[←HR.out,HD.out,decide_eq_false hin]
      rfl
     have hne: ¬t.size=0:=by omega
     clear hin
     go_wp2_with fail
     refine (CI.out _).mono ?_
     rintro e w' ⟨rfl,rfl⟩
     go_wp2_with fail
     go_ret
     exact ⟨by rw[HT.out,HZ.out,if_neg hne,HZ2.out];rfl,ba⟩
    have HZ2:Hid (alD 10 t.data.toList=true):=by
     show _=_
     rw[←HR.out,List.drop_of_length_le (by simp;omega)]
     rfl
    have hki: ¬(k:Int)<(t.size:Int):=by omega
    by_cases h00:t.size=0
    ·have HE:Hid (t.size=0):=h00
     have hem:=zsz h00
     clear h00
     go_wp2_with fail
     go_ret
     exact ⟨by rw[HT.out,HZ.out,if_pos HE.out];rfl,ba⟩
    have HE:Hid (¬t.size=0):=h00
    have hem:=zvz (by omega:0<t.size)
    clear h00
    go_wp2_with fail
    go_ret
    exact ⟨by rw[HT.out,HZ.out,if_neg HE.out,HZ2.out];rfl,ba⟩
   have q0:((d:Int)==48)=false:=beq_eq_false_iff_ne.2 (by omega)
   clear hno hd0
   go_wp2_with fail
   clear q0 hd hc hi
   go_loop[5] (fun i=> ∃k:Nat,k≤t.size∧i=.int .i64 k∧alD 10 (t.data.toList.drop k)=alD 10 t.data.toList) (fun i=>t.size-(intOf i).toNat)
   case atStart=>exact ⟨0,Nat.zero_le _,rfl,rfl⟩
   obtain ⟨k,hk,rfl,hf⟩:=hrel
   have HR:Hid (alD 10 (t.data.toList.drop k)=alD 10 t.data.toList):=hf
   clear hf
   by_cases hlt:k<t.size
   ·obtain ⟨y,hy⟩: ∃y:Nat,t[k].toNat=y:=⟨_,rfl⟩
    have hy1:(y:Int)≤255:=by have:=t[k].toNat_lt;omega
    have HD:Hid (alD 10 (t.data.toList.drop k)=(decide (48≤y∧y≤57)&&alD 10 (t.data.toList.drop (k+1)))):=by
     show _=_
     rw[zcPz t k hlt,hy]
    have hki:(k:Int)<(t.size:Int):=by omega
    by_cases hin:48≤y∧y≤57
    ·have CI:Hid (∀W,CS 39 #[.int .i64 (y:Int),.int .i64 48,.int .i64 57] W (.bool true)):=fun W=>xYz _ _ _ W (by omega) (by omega)
     have HZ2:Hid (alD 10 (t.data.toList.drop (k+1))=alD 10 t.data.toList):=by
      show _=_
      rw[←HR.out,HD.out,decide_eq_true hin]
      rfl
     clear hin
     go_wp2_with fail
     refine (CI.out _).mono ?_
     rintro e w' ⟨rfl,rfl⟩
     go_wp2_with fail
     go_round
     case rel=>exact ⟨k+1,by omega,by go_num,HZ2.out⟩
     case measure=>simp[intOf];omega
    have CI:Hid (∀W,CS 39 #[.int .i64 (y:Int),.int .i64 48,.int .i64 57] W (.bool false)):=fun W=>xMz _ _ _ W (by omega)
    have HZ2:Hid (alD 10 t.data.toList=false):=by
     show _=_
     rw[←HR.out,HD.out,decide_eq_false hin]
     rfl
    have hne: ¬t.size=0:=by omega
    clear hin
    go_wp2_with fail
    refine (CI.out _).mono ?_
    rintro e w' ⟨rfl,rfl⟩
    go_wp2_with fail
    go_ret
    exact ⟨by rw[HT.out,HZ.out,if_neg hne,HZ2.out];rfl,ba⟩
   have HZ2:Hid (alD 10 t.data.toList=true):=by
    show _=_
    rw[←HR.out,List.drop_of_length_le (by simp;omega)]
    rfl
   have hki: ¬(k:Int)<(t.size:Int):=by omega
   by_cases h00:t.size=0
   ·have HE:Hid (t.size=0):=h00
    have hem:=zsz h00
    clear h00
    go_wp2_with fail
    go_ret
    exact ⟨by rw[HT.out,HZ.out,if_pos HE.out];rfl,ba⟩
   have HE:Hid (¬t.size=0):=h00
   have hem:=zvz (by omega:0<t.size)
   clear h00
   go_wp2_with fail
   go_ret
   exact ⟨by rw[HT.out,HZ.out,if_neg HE.out,HZ2.out];rfl,ba⟩
  have h1': ¬1<(t.size:Int):=by omega
  clear hno
  go_wp2_with fail
  clear hc hi
  go_loop[5] (fun i=> ∃k:Nat,k≤t.size∧i=.int .i64 k∧alD 10 (t.data.toList.drop k)=alD 10 t.data.toList) (fun i=>t.size-(intOf i).toNat)
  case atStart=>exact ⟨0,Nat.zero_le _,rfl,rfl⟩
  obtain ⟨k,hk,rfl,hf⟩:=hrel
  have HR:Hid (alD 10 (t.data.toList.drop k)=alD 10 t.data.toList):=hf
  clear hf
  by_cases hlt:k<t.size
  ·obtain ⟨y,hy⟩: ∃y:Nat,t[k].toNat=y:=⟨_,rfl⟩
   have hy1:(y:Int)≤255:=by have:=t[k].toNat_lt;omega
   have HD:Hid (alD 10 (t.data.toList.drop k)=(decide (48≤y∧y≤57)&&alD 10 (t.data.toList.drop (k+1)))):=by
    show _=_
    rw[zcPz t k hlt,hy]
   have hki:(k:Int)<(t.size:Int):=by omega
   by_cases hin:48≤y∧y≤57
   ·have CI:Hid (∀W,CS 39 #[.int .i64 (y:Int),.int .i64 48,.int .i64 57] W (.bool true)):=fun W=>xYz _ _ _ W (by omega) (by omega)
    have HZ2:Hid (alD 10 (t.data.toList.drop (k+1))=alD 10 t.data.toList):=by
     show _=_
     rw[←HR.out,HD.out,decide_eq_true hin]
     rfl
    clear hin
    go_wp2_with fail
    refine (CI.out _).mono ?_
    rintro e w' ⟨rfl,rfl⟩
    go_wp2_with fail
    go_round
    case rel=>exact ⟨k+1,by omega,by go_num,HZ2.out⟩
    case measure=>simp[intOf];omega
   have CI:Hid (∀W,CS 39 #[.int .i64 (y:Int),.int .i64 48,.int .i64 57] W (.bool false)):=fun W=>xMz _ _ _ W (by omega)
   have HZ2:Hid (alD 10 t.data.toList=false):=by
    show _=_
    rw[←HR.out,HD.out,decide_eq_false hin]
    rfl
   have hne: ¬t.size=0:=by omega
   clear hin
   go_wp2_with fail
   refine (CI.out _).mono ?_
   rintro e w' ⟨rfl,rfl⟩
   go_wp2_with fail
   go_ret
   exact ⟨by rw[HT.out,HZ.out,if_neg hne,HZ2.out];rfl,ba⟩
  have HZ2:Hid (alD 10 t.data.toList=true):=by
   show _=_
   rw[←HR.out,List.drop_of_length_le (by simp;omega)]
   rfl
  have hki: ¬(k:Int)<(t.size:Int):=by omega
  by_cases h00:t.size=0
  ·have HE:Hid (t.size=0):=h00
   have hem:=zsz h00
   clear h00
   go_wp2_with fail
   go_ret
   exact ⟨by rw[HT.out,HZ.out,if_pos HE.out];rfl,ba⟩
  have HE:Hid (¬t.size=0):=h00
  have hem:=zvz (by omega:0<t.size)
  clear h00
  go_wp2_with fail
  go_ret
  exact ⟨by rw[HT.out,HZ.out,if_neg HE.out,HZ2.out];rfl,ba⟩
theorem zndz(b:UInt8): ∀{l:List (List UInt8)} {x:List UInt8},l≠[]→jl b (l++[x])=jl b l++b::x
 |[],_,h=>absurd rfl h
 |[y],x,_=>rfl
 |y::z::r,x,_=>by
  have ih:=zndz b (l:=z::r) (x:=x) (by simp)
  rw[List.cons_append,List.cons_append,jl,jl,←List.cons_append,ih]
  simp
theorem ziSz(gs:List Nat)(h:0<gs.length):gtL (gs.take 1)=zCz (gs.getD 0 0):=by
 cases gs with
 |nil=>simp at h
 |cons g r=>rfl
theorem ziTz(gs:List Nat)(k:Nat)(h:k<gs.length)(hk:0<k):gtL (gs.take (k+1))=gtL (gs.take k)++[58]++zCz (gs.getD k 0):=by
 unfold gtL
 rw[List.take_succ_eq_append_getElem h,List.map_append,List.map_cons,List.map_nil,zndz]
 ·simp[List.getD,h]
 intro e
 have h1:((gs.take k).map zCz).length=0:=by rw[e];rfl
 rw[List.length_map,List.length_take]at h1
 omega
def zf9z(w:World)(g off:Nat)(gs:List Nat):Prop:= ∀j,j<gs.length→w.cell? ⟨g,off+j,none⟩=some (.int .i64 ((gs.getD j 0:Nat):Int))
theorem zf9z.later{w w':World}{g off:Nat}{gs:List Nat}(h:zf9z w g off gs)(hb:Below w.heap.size w w'):zf9z w' g off gs:=fun j hj=>cell_later hb (h j hj)
theorem xNz(g off cap:Nat)(gs:List Nat)(w:World)(hl:gs.length≤8)(hg: ∀x∈gs,x<65536)(hc:zf9z w g off gs)(hT:zJz w):
  Calls Tryz.prog 195 #[.slice (some ⟨g,off,none⟩) gs.length cap] w fun e w'=>e=.returned (.string ⟨(gtL gs).toArray⟩)∧Below w.heap.size w w':=by
 have HT:Hid (zJz w):=hT
 have HC:Hid (zf9z w g off gs):=hc
 have HG:Hid (∀x∈gs,x<65536):=hg
 clear hT hc hg
 go_enter Tryz.func195,Tryz.ntmps195
 go_wp2
 go_loopw[3,9] (fun b i wr=> ∃k:Nat,k≤gs.length∧i=.int .i64 k∧wr.ownsRow w.heap.size 5 1 b (gtL (gs.take k)).length (zcz (gtL (gs.take k)))∧Below w.heap.size w wr)
  (fun _ i _=>gs.length-(intOf i).toNat)
 case atStart=>exact ⟨0,Nat.zero_le _,rfl,World.ownsRow_lit w #[] 0 (Nat.le_refl _) (by decide) rfl,(Below.refl _ _).alloc (Nat.le_refl _) _⟩
 obtain ⟨k,hk,rfl,hown,hbel⟩:=hrel
 have hsz:=hbel.size
 have HTW:Hid (zJz wr):=zxz HT.out hbel
 have hlen:(gtL (gs.take k)).length≤100:=by
  have:=(zaqz (gs.take k)).1
  rw[List.length_take]at this
  omega
 by_cases hlt:k<gs.length
 ·have hce:=(HC.out.later hbel) k hlt
  have hm:gs.getD k 0<65536:=HG.out _ (by
   rw[List.getD_eq_getElem?_getD,List.getElem?_eq_getElem hlt]
   exact List.getElem_mem hlt)
  have HS:Hid (0<k→gtL (gs.take (k+1))=gtL (gs.take k)++[58]++zCz (gs.getD k 0)):=fun h=>ziTz gs k hlt h
  have HZ:Hid (k=0→gtL (gs.take (k+1))=gtL (gs.take k)++zCz (gs.getD k 0)):=fun h=>by
   subst h
   rw[ziSz gs hlt]
   rfl
  have CA:Hid (∀(v:Value) (l:List UInt8) (W:World),zJz W→W.ownsRow w.heap.size 5 1 v l.length (zcz l)→w.heap.size≤W.heap.size→l.length≤1000→Calls Tryz.prog 192 #[v,.int .i64 ((gs.getD k 0:Nat):Int),.int .i64 16] W fun e w'=> ∃v',e=.returned v'∧w'.ownsRow w.heap.size 5 1 v' (l++zCz (gs.getD k 0)).length (zcz (l++zCz (gs.getD k 0)))∧Below w.heap.size W w'):=fun v l W a b c d=>zlIz _ _ v l W (by omega) (by omega) a b c d
  obtain ⟨x,hx⟩: ∃x:Int,((gs.getD k 0:Nat):Int)=x:=⟨_,rfl⟩
  rw[hx]at hce CA
  have hx0:0≤x:=by omega
  have hx1:x<65536:=by omega
  generalize gs.getD k 0=y at hx CA HS HZ hm
  clear hx hm
  by_cases h0:k=0
  ·subst h0
   rw[Nat.add_zero]at hce
   go_wp2_with fail
   refine (CA.out _ _ _ HTW.out hown hsz (by omega)).mono ?_
   rintro e wb ⟨vb,rfl,o2,b2⟩
   have B2:=hbel.trans b2
   clear hown hbel b2
   go_wp2_with fail
   go_roundw
   case rel=>
    refine ⟨1,by omega,by go_num,?_,B2⟩
    rw[show gtL (gs.take 1)=gtL (gs.take 0)++zCz y from HZ.out (by trivial)]
    exact o2
   case measure=>simp[intOf];omega
  have hki:0<(k:Int):=by omega
  have HS2:Hid (gtL (gs.take (k+1))=gtL (gs.take k)++[58]++zCz y):=HS.out (by omega)
  clear HS HZ h0
  go_wp2_with (at_builtin;refine zbz _ rfl _ _ 22 rfl w.heap.size 5 (.int .u8 0) 1 Tryz.underlying22 Tryz.info5 rfl _ _ _ rfl hown #[.int .u8 58] 1 rfl rfl (by intro u hu;simp at hu;subst hu;rfl) (by omega) (by unfold maxLen;omega) hsz ?_)
  intro v' w1 o3 b3
  have R:w1.ownsRow w.heap.size 5 1 v' (gtL (gs.take k)++[58]).length (zcz (gtL (gs.take k)++[58])):=by
   rw[vWz,List.length_append]
   exact o3
  have B3:=hbel.trans b3
  have HT3:Hid (zJz w1):=zxz HT.out B3
  have z3:=B3.size
  have hl3:(gtL (gs.take k)++[58]).length≤1000:=by rw[List.length_append];simp;omega
  clear o3 b3 hown hbel
  go_wp2_with fail
  refine (CA.out _ _ _ HT3.out R z3 hl3).mono ?_
  rintro e wb ⟨vb,rfl,o2,b2⟩
  have B2:=B3.trans b2
  clear R b2 B3
  go_wp2_with fail
  go_roundw
  case rel=>
   refine ⟨k+1,by omega,by go_num,?_,B2⟩
   rw[HS2.out]
   exact o2
  case measure=>simp[intOf];omega
 have he:gs.take k=gs:=List.take_of_length_le (by omega)
 rw[he]at hown
 have hcv:=zzz (P:=Tryz.prog) wr 22 9 5 Tryz.underlying22 Tryz.underlying5 Tryz.underlying9 hown
 clear he hlen
 have hki: ¬(k:Int)<(gs.length:Int):=by omega
 go_wp2_with fail
 go_ret
 exact ⟨rfl,hbel⟩
end Go.Proofs.YtgcbaphbiaimoaaGreatDoor
