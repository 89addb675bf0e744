/- PunyLen, NamePlain, NamesPlain, NamesBack, SitePlain, RuneImpl. -/
import Derived.Test.YtijliddchoehhaaGreatDoorQA15
import Derived.Lib.Join
set_option maxHeartbeats 2000000
namespace Go.Proofs.YtijliddchoehhaaGreatDoor
theorem num_len10(bias:Nat): ∀(F f k q:Nat),q<10^f→(numF F k bias q).length≤f+1
 |0,f,k,q,_=>by simp[numF]
 |F+1,f,k,q,h=>by
  obtain ⟨l1,l2⟩:=lim_le k bias
  rw[numF]
  split
  ·simp
  next hq=>
  cases f with
  |zero=>simp at h;omega
  |succ f=>
   have h1:(q-limN k bias)/(36-limN k bias)<10^f:=by
    rw[Nat.div_lt_iff_lt_mul (by omega)]
    have h2:10^f*10≤10^f*(36-limN k bias):=Nat.mul_le_mul_left _ (by omega)
    rw[Nat.pow_succ]at h
    omega
   have:=num_len10 bias F f (k+36) _ h1
   rw[List.length_cons]
   omega
theorem codeV_len9(basic:Nat): ∀(ds:List Nat) (h bias:Nat),(∀d∈ds,d≤67960831)→(codeV basic h bias ds).length≤9*ds.length
 |[],_,_,_=>by simp[codeV]
 |d::ds,h,bias,hd=>by
  have h1:=codeV_len9 basic ds (h+1) (adaptN d (h+1) (h==basic)) (fun x hx=>hd x (List.mem_cons_of_mem _ hx))
  have h2:=num_len10 bias 28 8 36 d (by have:=hd d (List.mem_cons_self ..);have:(10:Nat)^8=100000000:=(by decide);omega)
  show (numF 28 36 bias d++codeV basic (h+1) (adaptN d (h+1) (h==basic)) ds).length≤9*(d::ds).length
  rw[List.length_append,List.length_cons]
  omega
theorem encC_600{l:List Nat}(h:encOk l=true):(encC l).length≤600:=by
 obtain ⟨h1,h2⟩:=encOk_parts h
 have h3:=enc_count l h2 l.length 128 0
 have h4:=codeV_len9 (l.filter (· <128)).length (encD l l.length 128 0 (l.filter (· <128)).length) (l.filter (· <128)).length 72 (enc_le l h1 h2 _ _ _ (by omega))
 have h5:=List.length_filter_le (fun x=>decide (x<128)) l
 unfold encC encV
 rw[List.length_append,List.length_append,List.length_map]
 have h6:(if 0<(l.filter (· <128)).length then [45]else []).length≤1:=by split<;>simp
 have h7:(l.filter (· <128)).length=0→(if 0<(l.filter (· <128)).length then [45]else []).length=0:=fun h=>by rw[if_neg (by omega)];rfl
 omega
end Go.Proofs.YtijliddchoehhaaGreatDoor
namespace Go.Proofs.YtijliddchoehhaaGreatDoor
open Go.RowKit
def xn:List UInt8:=[120,110,45,45]
def isXn(l:List UInt8):Bool:=xn.isPrefixOf l
def nat8(l:List UInt8):List Nat:=l.map UInt8.toNat
def okA(l:List UInt8):Bool:=labL l&&(!(isXn l)||(decC (nat8 (l.drop 4))).isSome)
def asc1(s:List UInt8):Option (List UInt8):=
 if asciiB s=true then some (lowerL s)
 else if (finR ⟨(lowerL s).toArray⟩).1=s.length∧(finR ⟨(lowerL s).toArray⟩).2.length≤60 then some (xn++b8 (encC ((finR ⟨(lowerL s).toArray⟩).2.map Int.toNat)))
 else none
def ascL(s:List UInt8):Option (List UInt8):=match asc1 s with
 |some t=>if okA t=true then some t else none
 |none=>none
theorem lab_lower{l:List UInt8}(h: ∀c∈l,labB c=true):lowerL l=l:=by
 unfold lowerL
 conv=>rhs;rw[←List.map_id l]
 refine List.map_congr_left fun c hc=> ?_
 have:=labB_parts (h c hc)
 unfold lowerC
 rw[if_neg (by omega)]
 rfl
theorem lab_ascii{l:List UInt8}(h: ∀c∈l,labB c=true):asciiB l=true:=by
 unfold asciiB
 rw[List.all_eq_true]
 intro c hc
 have:=labB_parts (h c hc)
 exact decide_eq_true (by omega)
theorem okA_lab{t:List UInt8}(h:okA t=true):labL t=true:=by
 unfold okA at h
 simp only[Bool.and_eq_true]at h
 exact h.1
theorem ascL_ok{s t:List UInt8}(h:ascL s=some t):okA t=true:=by
 unfold ascL at h
 split at h
 ·split at h
  ·rename_i h1;cases h;exact h1
  cases h
 cases h
theorem ascL_of_ok{t:List UInt8}(h:okA t=true):ascL t=some t:=by
 obtain ⟨_,_,_,_,hb⟩:=labL_parts (okA_lab h)
 have e:asc1 t=some t:=by
  unfold asc1
  rw[if_pos (lab_ascii hb),lab_lower hb]
 unfold ascL
 rw[e]
 exact if_pos h
theorem ascL_idem{s t:List UInt8}(h:ascL s=some t):ascL t=some t:=ascL_of_ok (ascL_ok h)
theorem ascL_lab{s t:List UInt8}(h:ascL s=some t):labL t=true:=okA_lab (ascL_ok h)
theorem encD_none(l:List Nat): ∀(f n d:Nat),(l.filter (· <n)).length=l.length→encD l f n d (l.filter (· <n)).length=[]
 |0,n,d,_=>by rw[encD]
 |f+1,n,d,h=>by
  rw[encD,if_neg (by omega)]
theorem xn_prefix{l:List UInt8}(h:isXn l=true):l=xn++l.drop 4:=by
 unfold isXn at h
 obtain ⟨r,rfl⟩:=List.isPrefixOf_iff_prefix.1 h
 simp[xn]
theorem mem_nat8{l:List UInt8}{x:Nat}(h:x∈nat8 l): ∃c∈l,c.toNat=x:=by
 unfold nat8 at h
 obtain ⟨c,hc,rfl⟩:=List.mem_map.1 h
 exact ⟨c,hc,rfl⟩
theorem dec_lab{t:List UInt8}{l:List Nat}(hx:isXn t=true)(hl:labL t=true)(hd:decC (nat8 (t.drop 4))=some l):
  (∃x∈l,128≤x)∧ ∀x∈l,¬(65≤x∧x≤90):=by
 obtain ⟨_,_,_,hlast,hb⟩:=labL_parts hl
 obtain ⟨hok,he⟩:=(dec_iff _ _).1 hd
 have ht:=xn_prefix hx
 constructor
 ·apply Classical.byContradiction
  intro hno
  have hall: ∀x∈l,x<128:=fun x hx=>by
   apply Classical.byContradiction
   intro h
   exact hno ⟨x,hx,by omega⟩
  have hf:l.filter (· <128)=l:=List.filter_eq_self.2 fun x hx=>decide_eq_true (hall x hx)
  have hv:encV l=[]:=by
   unfold encV
   rw[encD_none l l.length 128 0 (by rw[hf])]
   rw[codeV]
  unfold encC at he
  rw[hf,hv,List.map_nil,List.append_nil]at he
  by_cases h0:0<l.length
  ·rw[if_pos h0]at he
   apply hlast
   have h2:(nat8 (t.drop 4)).getLast? =some 45:=by rw[←he];simp
   unfold nat8 at h2
   rw[List.getLast?_map]at h2
   cases h3:(t.drop 4).getLast? with
   |none=>rw[h3]at h2;cases h2
   |some c=>
    rw[h3]at h2
    have hc:c.toNat=45:=by simpa using h2
    have hc':c=45:=UInt8.toNat_inj.1 (by simpa using hc)
    subst hc'
    rw[ht,List.getLast?_append,h3]
    rfl
  rw[if_neg h0]at he
  have h2:nat8 (t.drop 4)=[]:=by rw[←he,List.append_nil];exact List.eq_nil_of_length_eq_zero (by omega)
  have h3:t.drop 4=[]:=by unfold nat8 at h2;simpa using h2
  apply hlast
  rw[ht,h3]
  rfl
 intro x hxl hx2
 have hm:x∈encC l:=by
  unfold encC
  rw[List.append_assoc]
  exact List.mem_append_left _ (List.mem_filter.2 ⟨hxl,decide_eq_true (by omega)⟩)
 rw[he]at hm
 obtain ⟨c,hc,hcx⟩:=mem_nat8 hm
 have:=labB_parts (hb c (List.mem_of_mem_drop hc))
 omega
theorem low_size(s:ByteArray):(⟨(lowerL s.data.toList).toArray⟩:ByteArray).size=s.size:=by
 show (lowerL s.data.toList).toArray.size=s.data.size
 rw[List.size_toArray,lowerL,List.length_map]
 rfl
theorem lower_ascii(l:List UInt8):asciiB (lowerL l)=asciiB l:=by
 unfold asciiB lowerL
 rw[List.all_map]
 congr 1
 funext c
 have h:=lowerC_toNat c
 by_cases hc:65≤(c.toNat:Int)∧(c.toNat:Int)≤90
 ·rw[if_pos hc]at h
  rw[Function.comp,decide_eq_decide]
  omega
 rw[if_neg hc]at h
 rw[Function.comp,decide_eq_decide]
 omega
theorem asc1_no{s:List UInt8}(h:asciiB s=false)(h2: ¬((finR ⟨(lowerL s).toArray⟩).1=s.length∧(finR ⟨(lowerL s).toArray⟩).2.length≤60)):ascL s=none:=by
 unfold ascL asc1
 rw[if_neg (by rw[h];decide),if_neg h2]
theorem asc1_yes{s:List UInt8}(h:asciiB s=false)(h2:(finR ⟨(lowerL s).toArray⟩).1=s.length∧(finR ⟨(lowerL s).toArray⟩).2.length≤60):
  ascL s=if okA (xn++b8 (encC ((finR ⟨(lowerL s).toArray⟩).2.map Int.toNat)))=true then some (xn++b8 (encC ((finR ⟨(lowerL s).toArray⟩).2.map Int.toNat)))else none:=by
 unfold ascL asc1
 rw[if_neg (by rw[h];decide),if_pos h2]
theorem asc1_ascii{s:List UInt8}(h:asciiB s=true):ascL s=if okA (lowerL s)=true then some (lowerL s)else none:=by
 unfold ascL asc1
 rw[if_pos h]
def ansS(r:Option (List UInt8)):Value:=match r with
 |some t=> .tuple #[.string ⟨t.toArray⟩,.bool true]
 |none=> .tuple #[.string ⟨#[]⟩,.bool false]
def ascB(s:ByteArray):Option ByteArray:=match ascL s.data.toList with
 |some t=>some ⟨t.toArray⟩
 |none=>none
def ascs:List ByteArray→Option (List ByteArray)
 |[]=>some []
 |s::r=>match ascB s,ascs r with
  |some a,some b=>some (a::b)
  |_,_=>none
def namesL(fs:List ByteArray):Option (List UInt8):=match ascs fs with
 |some ls=>if (jn 46 ls).length≤253 then some (jn 46 ls)else none
 |none=>none
def nameL(s:ByteArray):Option (List UInt8):=namesL (dropE (fieldsL s 46))
theorem ascs_append(a b:List ByteArray):ascs (a++b)=match ascs a,ascs b with
  |some x,some y=>some (x++y)
  |_,_=>none:=by
 induction a with
 |nil=>
  simp only[List.nil_append,ascs]
  cases ascs b<;>rfl
 |cons s r ih=>
  simp only[List.cons_append,ascs,ih]
  cases ascB s<;>cases ascs r<;>cases ascs b<;>rfl
theorem ascs_len: ∀{fs ls:List ByteArray},ascs fs=some ls→ls.length=fs.length
 |[],ls,h=>by cases h;rfl
 |s::r,ls,h=>by
  rw[ascs]at h
  cases h1:ascB s with
  |none=>rw[h1]at h;cases h
  |some a=>
   cases h2:ascs r with
   |none=>rw[h1,h2]at h;cases h
   |some b=>
    rw[h1,h2]at h
    cases h
    rw[List.length_cons,List.length_cons,ascs_len h2]
theorem ascs_mem: ∀{fs ls:List ByteArray},ascs fs=some ls→ ∀a∈ls,∃s∈fs,ascB s=some a
 |[],ls,h=>by cases h;intro a ha;simp at ha
 |s::r,ls,h=>by
  rw[ascs]at h
  cases h1:ascB s with
  |none=>rw[h1]at h;cases h
  |some x=>
   cases h2:ascs r with
   |none=>rw[h1,h2]at h;cases h
   |some b=>
    rw[h1,h2]at h
    cases h
    intro a ha
    rcases List.mem_cons.1 ha with rfl|hb
    ·exact ⟨s,List.mem_cons_self,h1⟩
    obtain ⟨q,hq,e⟩:=ascs_mem h2 a hb
    exact ⟨q,List.mem_cons_of_mem _ hq,e⟩
theorem ascB_lab{s a:ByteArray}(h:ascB s=some a):labL a.data.toList=true∧ascB a=some a:=by
 unfold ascB at h
 cases hs:ascL s.data.toList with
 |none=>rw[hs]at h;cases h
 |some t=>
  rw[hs]at h
  cases h
  refine ⟨ascL_lab hs,?_⟩
  unfold ascB
  rw[show (⟨t.toArray⟩:ByteArray).data.toList=t from rfl,ascL_idem hs]
theorem ascs_labs{fs ls:List ByteArray}(h:ascs fs=some ls): ∀a∈ls,labL a.data.toList=true∧ascB a=some a:=fun a ha=>by
 obtain ⟨s,_,e⟩:=ascs_mem h a ha
 exact ascB_lab e
theorem ascs_self: ∀{ls:List ByteArray},(∀a∈ls,ascB a=some a)→ascs ls=some ls
 |[],_=>rfl
 |a::r,h=>by
  rw[ascs,h a List.mem_cons_self,ascs_self fun b hb=>h b (List.mem_cons_of_mem _ hb)]
theorem jn_le(sep:UInt8)(a b:List ByteArray):(jn sep a).length≤(jn sep (a++b)).length:=by
 cases a with
 |nil=>simp[jn]
 |cons x xs=>simp[jn,List.flatMap_append]
theorem flat_bound(sep:UInt8): ∀(ys:List ByteArray),(∀a∈ys,a.size≤63)→(ys.flatMap fun y=>sep::y.data.toList).length≤64*ys.length
 |[],_=>by simp
 |y::ys,hh=>by
  have h2:=hh y List.mem_cons_self
  have hy:y.data.toList.length=y.size:=by simp
  have h3:=flat_bound sep ys fun a ha=>hh a (List.mem_cons_of_mem _ ha)
  rw[List.flatMap_cons,List.length_append,List.length_cons,List.length_cons]
  omega
theorem jn_bound(sep:UInt8)(ls:List ByteArray)(h: ∀a∈ls,a.size≤63):(jn sep ls).length≤64*ls.length:=by
 cases ls with
 |nil=>simp[jn]
 |cons x xs=>
  have h1:=h x List.mem_cons_self
  have hx:x.data.toList.length=x.size:=by simp
  have h3:=flat_bound sep xs fun a ha=>h a (List.mem_cons_of_mem _ ha)
  unfold jn
  rw[List.length_append,List.length_cons]
  omega
theorem jn_join(ls:List ByteArray):Lib.join (ls.map (·.data.toList)) [46]=jn 46 ls:=by
 cases ls with
 |nil=>rfl
 |cons x xs=>
  unfold jn
  induction xs generalizing x with
  |nil=>simp[Lib.join,List.intercalate]
  |cons y ys ih=>
   have h:=ih y
   simp only[Lib.join,List.intercalate,List.map_cons]at h⊢
   rw[List.intersperse_cons_cons,List.flatten_cons,List.flatten_cons,h,List.flatMap_cons]
   simp
theorem labs_size{ls:List ByteArray}(h: ∀a∈ls,labL a.data.toList=true∧ascB a=some a): ∀a∈ls,a.size≤63:=fun a ha=>by
 have:=(labL_parts (h a ha).1).2.1
 simpa using this
theorem namesL_no{fs:List ByteArray}(h:ascs fs=none):namesL fs=none:=by unfold namesL;rw[h]
theorem namesL_big{fs ls:List ByteArray}(h:ascs fs=some ls)(h2: ¬(jn 46 ls).length≤253):namesL fs=none:=by unfold namesL;rw[h];exact if_neg h2
theorem namesL_yes{fs ls:List ByteArray}(h:ascs fs=some ls)(h2:(jn 46 ls).length≤253):namesL fs=some (jn 46 ls):=by unfold namesL;rw[h];exact if_pos h2
def noDot(l:List UInt8):Prop:= ∀c∈l,c≠46
theorem cut_eq: ∀{a b r q:List UInt8},noDot a→noDot b→(r=[]∨ ∃t,r=46::t)→(q=[]∨ ∃t,q=46::t)→a++r=b++q→a=b∧r=q
 |[],[],r,q,_,_,_,_,h=>⟨rfl,h⟩
 |[],y::b,r,q,_,hb,hr,_,h=>by
  exfalso
  rcases hr with rfl|⟨t,rfl⟩
  ·simp at h
  simp at h
  exact hb y List.mem_cons_self h.1.symm
 |x::a,[],r,q,ha,_,_,hq,h=>by
  exfalso
  rcases hq with rfl|⟨t,rfl⟩
  ·simp at h
  simp at h
  exact ha x List.mem_cons_self h.1
 |x::a,y::b,r,q,ha,hb,hr,hq,h=>by
  simp only[List.cons_append,List.cons.injEq]at h
  obtain ⟨h1,h2⟩:=cut_eq (fun c hc=>ha c (List.mem_cons_of_mem _ hc)) (fun c hc=>hb c (List.mem_cons_of_mem _ hc)) hr hq h.2
  exact ⟨by rw[h.1,h1],h2⟩
theorem jn_cons(x y:ByteArray)(r:List ByteArray):jn 46 (x::y::r)=x.data.toList++46::jn 46 (y::r):=by
 simp[jn]
theorem data_inj{x y:ByteArray}(h:x.data.toList=y.data.toList):x=y:=by
 apply ByteArray.ext
 exact Array.toList_inj.1 h
theorem jn_inj: ∀{xs ys:List ByteArray},xs≠[]→ys≠[]→(∀x∈xs,noDot x.data.toList)→(∀y∈ys,noDot y.data.toList)→jn 46 xs=jn 46 ys→xs=ys
 |[],_,h,_,_,_,_=>absurd rfl h
 |_::_,[],_,h,_,_,_=>absurd rfl h
 |[x],[y],_,_,_,_,h=>by
  simp only[jn,List.flatMap_nil,List.append_nil]at h
  rw[data_inj h]
 |[x],y::z::r,_,_,hx,hy,h=>by
  exfalso
  rw[jn_cons]at h
  have h':x.data.toList++[]=y.data.toList++46::jn 46 (z::r):=by rw[←h];simp[jn]
  obtain ⟨_,h2⟩:=cut_eq (hx x List.mem_cons_self) (hy y List.mem_cons_self) (.inl rfl) (.inr ⟨_,rfl⟩) h'
  cases h2
 |x::z::r,[y],_,_,hx,hy,h=>by
  exfalso
  rw[jn_cons]at h
  have h':x.data.toList++46::jn 46 (z::r)=y.data.toList++[]:=by rw[h];simp[jn]
  obtain ⟨_,h2⟩:=cut_eq (hx x List.mem_cons_self) (hy y List.mem_cons_self) (.inr ⟨_,rfl⟩) (.inl rfl) h'
  cases h2
 |x::z::r,y::u::q,_,_,hx,hy,h=>by
  rw[jn_cons,jn_cons]at h
  obtain ⟨h1,h2⟩:=cut_eq (hx x List.mem_cons_self) (hy y List.mem_cons_self) (.inr ⟨_,rfl⟩) (.inr ⟨_,rfl⟩) h
  have h3:jn 46 (z::r)=jn 46 (u::q):=by simpa using h2
  have h4:=jn_inj (by simp) (by simp) (fun a ha=>hx a (List.mem_cons_of_mem _ ha)) (fun a ha=>hy a (List.mem_cons_of_mem _ ha)) h3
  rw[data_inj h1,h4]
theorem fields_noDot(s:ByteArray): ∀k,k≤s.size→(fieldsTo s 46 k).2≤k∧(∀x∈(fieldsTo s 46 k).1,noDot x.data.toList)∧noDot ((s.data.toList.take k).drop (fieldsTo s 46 k).2)
 |0,_=>by simp[fieldsTo,noDot]
 |k+1,hk=>by
  obtain ⟨h0,h1,h2⟩:=fields_noDot s k (by omega)
  by_cases e:(s[k].toNat:Int)=46
  ·rw[fieldsTo_hit s 46 k (by omega) e]
   refine ⟨Nat.le_refl _,fun x hx=> ?_,?_⟩
   ·rcases List.mem_append.1 hx with h|h
    ·exact h1 x h
    rw[List.mem_singleton.1 h,extract_list]
    exact h2
   simp only
   rw[List.drop_of_length_le (by rw[List.length_take];omega)]
   intro c hc
   simp at hc
  rw[fieldsTo_miss s 46 k (by omega) e]
  refine ⟨by omega,h1,?_⟩
  rw[take_snoc s k (by omega),List.drop_append_of_le_length (by rw[List.length_take];simp;omega)]
  intro c hc
  rcases List.mem_append.1 hc with h|h
  ·exact h2 c h
  rw[List.mem_singleton.1 h]
  intro h3
  apply e
  rw[h3]
  rfl
theorem fieldsL_noDot(s:ByteArray): ∀x∈fieldsL s 46,noDot x.data.toList:=by
 obtain ⟨_,h1,h2⟩:=fields_noDot s s.size (Nat.le_refl _)
 intro x hx
 unfold fieldsL at hx
 rcases List.mem_append.1 hx with h|h
 ·exact h1 x h
 rw[List.mem_singleton.1 h,extract_list]
 exact h2
theorem lab_noDot{l:List UInt8}(h:labL l=true):noDot l:=fun c hc he=>by
 have:=labB_parts ((labL_parts h).2.2.2.2 c hc)
 rw[he]at this
 revert this
 decide
theorem fields_jn{ls:List ByteArray}(hne:ls≠[])(h: ∀a∈ls,labL a.data.toList=true):fieldsL ⟨(jn 46 ls).toArray⟩ 46=ls:=by
 refine jn_inj (by intro h0;have:=fieldsL_pos ⟨(jn 46 ls).toArray⟩ 46;rw[h0]at this;simp at this) hne (fieldsL_noDot _) (fun x hx=>lab_noDot (h x hx)) ?_
 exact fieldsL_join ⟨(jn 46 ls).toArray⟩ 46 (by decide) (by decide)
theorem dropE_labs{ls:List ByteArray}(h: ∀a∈ls,labL a.data.toList=true):dropE ls=ls:=by
 unfold dropE
 refine if_neg fun hh=> ?_
 have hl:ls.length-1<ls.length:=by omega
 have hm:ls.getD (ls.length-1) ByteArray.empty∈ls:=by
  rw[List.getD_eq_getElem?_getD,List.getElem?_eq_getElem hl]
  exact List.getElem_mem hl
 have:=(labL_parts (h _ hm)).1
 have e:(ls.getD (ls.length-1) ByteArray.empty).data.toList.length=(ls.getD (ls.length-1) ByteArray.empty).size:=by simp
 omega
theorem name_back{s:ByteArray}{n:List UInt8}(h:nameL s=some n): ∃ls:List ByteArray,ls≠[]∧ls.length≤253∧n.length≤253∧(∀a∈ls,labL a.data.toList=true∧a.size≤63)∧n=jn 46 ls∧
  nameL ⟨n.toArray⟩=some n∧partsL ⟨n.toArray⟩=ls.reverse∧0<n.length:=by
 unfold nameL at h
 have hp:=dropE_pos (fieldsL_pos s 46)
 generalize dropE (fieldsL s 46)=fs at h hp
 unfold namesL at h
 cases hr:ascs fs with
 |none=>rw[hr]at h;cases h
 |some ls=>
  rw[hr]at h
  simp only at h
  split at h
  ·rename_i hle
   cases h
   have hl:=ascs_len hr
   have hne:ls≠[]:=by intro h0;rw[h0]at hl;simp at hl;omega
   have hlab:=ascs_labs hr
   have hlab1: ∀a∈ls,labL a.data.toList=true:=fun a ha=>(hlab a ha).1
   have hf:=fields_jn hne hlab1
   have hpos:0<(jn 46 ls).length∧ls.length≤(jn 46 ls).length:=by
    have key: ∀ms:List ByteArray,ms.length≤(ms.flatMap fun y=>(46:UInt8)::y.data.toList).length:=by
     intro ms
     induction ms with
     |nil=>simp
     |cons m ms ih=>rw[List.flatMap_cons,List.length_append,List.length_cons,List.length_cons];omega
    match ls,hne,hlab1 with
    |x::xs,_,h1=>
     have h2:=(labL_parts (h1 x List.mem_cons_self)).1
     have h3:=key xs
     unfold jn
     rw[List.length_append,List.length_cons]
     omega
   refine ⟨ls,hne,by omega,hle,fun a ha=>⟨hlab1 a ha,labs_size hlab a ha⟩,rfl,?_,?_,hpos.1⟩
   ·unfold nameL
    rw[hf,dropE_labs hlab1]
    exact namesL_yes (ascs_self fun a ha=>(hlab a ha).2) hle
   unfold partsL
   rw[hf,if_neg]
   show ¬(jn 46 ls).toArray.size=0
   rw[List.size_toArray]
   omega
  cases h
end Go.Proofs.YtijliddchoehhaaGreatDoor
namespace Go.Proofs.YtijliddchoehhaaGreatDoor
open Go.RowKit
set_option linter.unusedVariables false
theorem most_ge(ex:Bool): ∀(l:List RV) (a:Nat),a≤l.foldl (fun m r=>if r.ex=ex then max m r.ps.length else m) a∧ ∀r∈l,r.ex=ex→r.ps.length≤l.foldl (fun m r=>if r.ex=ex then max m r.ps.length else m) a
 |[],a=>⟨Nat.le_refl _,fun r hr=>by cases hr⟩
 |x::l,a=>by
  rw[List.foldl_cons]
  obtain ⟨h1,h2⟩:=most_ge ex l (if x.ex=ex then max a x.ps.length else a)
  refine ⟨Nat.le_trans ?_ h1,fun r hr he=> ?_⟩
  ·split<;>omega
  rcases List.mem_cons.1 hr with rfl|hr
  ·refine Nat.le_trans ?_ h1
   rw[if_pos he]
   omega
  exact h2 r hr he
theorem any_iff{ex:Bool}{l:List RV}:anyX ex l=true↔ ∃r∈l,r.ex=ex:=by
 unfold anyX
 rw[List.any_eq_true]
 simp
def sufX(l:List RV)(s:ByteArray):Nat:=if anyX true (fitL l s)=true then mostX true (fitL l s)-1 else max (mostX false (fitL l s)) 1
theorem fitL_mem{l:List RV}{s:ByteArray}{r:RV}(h:r∈fitL l s):r∈l∧fitsB r s=true:=by
 unfold fitL at h
 obtain ⟨k,_,hk⟩:=List.mem_flatMap.1 h
 unfold fitK at hk
 obtain ⟨h1,h2⟩:=List.mem_filter.1 hk
 exact ⟨byL_mem h1,h2⟩
theorem fitL_of{l:List RV}{s:ByteArray}{r:RV}(hr:r∈l)(hb:ruleB r=true)(hf:fitsB r s=true):r∈fitL l s:=by
 obtain ⟨h1,_,_⟩:=ruleB_yes hb
 have hf0:fitAt r (partsL s) 0=true:=by
  unfold fitsB fitsP at hf
  simp only[Bool.and_eq_true]at hf
  exact all_range.1 hf.2 0 (by omega)
 unfold fitAt at hf0
 simp only[Bool.or_eq_true,decide_eq_true_eq]at hf0
 unfold fitL
 refine List.mem_flatMap.2 ⟨lastP r,?_,?_⟩
 ·unfold keys3
  rcases hf0 with h|h
  ·refine List.mem_cons_of_mem _ (List.mem_cons.2 (.inl ?_))
   exact ba_eq.2 h
  exact List.mem_cons.2 (.inl h)
 unfold fitK byL
 exact List.mem_filter.2 ⟨List.mem_filter.2 ⟨hr,decide_eq_true rfl⟩,hf⟩
theorem suf_most{l:List RV}{s:ByteArray}(h: ∀r∈l,ruleB r=true)(ha:anyX true (fitL l s)=true):2≤mostX true (fitL l s):=by
 obtain ⟨r,hr,he⟩:=any_iff.1 ha
 have h2:=(ruleB_yes (h r (fitL_mem hr).1)).2.1 he
 exact Nat.le_trans h2 ((most_ge true _ 0).2 r hr he)
theorem suf_pos{l:List RV}{s:ByteArray}(h: ∀r∈l,ruleB r=true):1≤sufX l s:=by
 unfold sufX
 split
 ·rename_i ha
  have:=suf_most h ha
  omega
 omega
theorem suf_most_le{l:List RV}(ex:Bool){s:ByteArray}(h: ∀r∈l,ruleB r=true):mostX ex (fitL l s)≤8:=by
 exact most_le ex _ 0 8 (by decide) fun r hr=>(ruleB_yes (h r (fitL_mem hr).1)).1.2
theorem suf_le{l:List RV}{s:ByteArray}(h: ∀r∈l,ruleB r=true):sufX l s≤8:=by
 unfold sufX
 have:=suf_most_le true (s:=s) h
 have:=suf_most_le false (s:=s) h
 split<;>omega
theorem suf_except{l:List RV}{s:ByteArray}(h: ∀r∈l,ruleB r=true){r:RV}(hr:r∈l)(hf:fitsB r s=true)(he:r.ex=false)(hn:sufX l s<r.ps.length): ∃x∈l,x.ex=true∧fitsB x s=true:=by
 cases ha:anyX true (fitL l s)with
 |true=>
  obtain ⟨x,hx,hxe⟩:=any_iff.1 ha
  exact ⟨x,(fitL_mem hx).1,hxe,(fitL_mem hx).2⟩
 |false=>
  exfalso
  unfold sufX at hn
  rw[ha,if_neg (by decide)]at hn
  have:=(most_ge false (fitL l s) 0).2 r (fitL_of hr (h r hr) hf) he
  have e:(fitL l s).foldl (fun m r=>if r.ex=false then max m r.ps.length else m) 0=mostX false (fitL l s):=rfl
  omega
theorem name_parts{s:ByteArray}(h:nameL s=some s.data.toList):partsL s≠[]∧(∀p∈partsL s,labL p.data.toList=true)∧s=⟨(jn 46 (partsL s).reverse).toArray⟩∧s.size≤253∧0<s.size:=by
 obtain ⟨ls,hne,h1,h2,h3,h4,h5,h6,h7⟩:=name_back h
 have es:(⟨s.data.toList.toArray⟩:ByteArray)=s:=ba_eq.2 (by simp)
 have hsz:s.data.toList.length=s.size:=by simp
 rw[es]at h6
 rw[h6,List.reverse_reverse]
 refine ⟨by simpa using hne,fun p hp=>(h3 p (List.mem_reverse.1 hp)).1,?_,by omega,by omega⟩
 rw[←h4]
theorem any_snoc{l:List RV}{k:Nat}(h:k<l.length)(f:RV→Bool):(l.take (k+1)).any f=((l.take k).any f||f (l.getD k rv0)):=by
 have e:l.getD k rv0=l[k]:=by rw[List.getD_eq_getElem?_getD,List.getElem?_eq_getElem h];rfl
 rw[e,List.take_succ_eq_append_getElem h,List.any_append]
 simp
def siteT(l:List RV)(s:ByteArray):ByteArray:=if (partsL s).length≤sufX l s then s else ⟨(jn 46 ((partsL s).take (sufX l s+1)).reverse).toArray⟩
theorem site_parts{l:List RV}{s:ByteArray}(h:nameL s=some s.data.toList):partsL (siteT l s)=if (partsL s).length≤sufX l s then partsL s else (partsL s).take (sufX l s+1):=by
 obtain ⟨h1,h2,h3,_⟩:=name_parts h
 unfold siteT
 split
 ·rfl
 rename_i hn
 refine (parts_back (ls:=(partsL s).take (sufX l s+1)) ?_ fun p hp=> ?_).1
 ·intro e
  have hl:=congrArg List.length e
  rw[List.length_take,List.length_nil]at hl
  omega
 have hl:=h2 p (List.mem_of_mem_take hp)
 have h9:=labL_parts hl
 have hsz:p.data.toList.length=p.size:=by simp
 exact ⟨by omega,fun c hc=> .inr (h9.2.2.2.2 c hc)⟩
end Go.Proofs.YtijliddchoehhaaGreatDoor
namespace Go.Proofs.YtijliddchoehhaaGreatDoor
open Go.RowKit Go.Shelf
def runeB(r:Int):Bool:=decide (0≤r∧r≤1114111∧(r<55296∨57343<r))
theorem runeB_iff(r:Int):runeB r=true↔runeOk r:=by unfold runeB runeOk;exact decide_eq_true_iff
theorem implIsRune(r:Int)(w:World):
  Calls Tryz.prog 156 #[.int .i64 r] w fun e w'=>e=.returned (.bool (runeB r))∧w=w':=by
 by_cases h0:r<0
 ·have HV:Hid (runeB r=false):=by show _=_;unfold runeB;rw[decide_eq_false_iff_not];omega
  go_enter Tryz.func156,Tryz.ntmps156
  go_wp2
  go_ret
  exact ⟨ret_bool HV.out.symm,rfl⟩
 by_cases h1:1114111<r
 ·have HV:Hid (runeB r=false):=by show _=_;unfold runeB;rw[decide_eq_false_iff_not];omega
  go_enter Tryz.func156,Tryz.ntmps156
  go_wp2
  go_ret
  exact ⟨ret_bool HV.out.symm,rfl⟩
 by_cases h2:r<55296
 ·have HV:Hid (runeB r=true):=by show _=_;unfold runeB;rw[decide_eq_true_iff];omega
  go_enter Tryz.func156,Tryz.ntmps156
  go_wp2
  go_ret
  exact ⟨ret_bool (by rw[HV.out]),rfl⟩
 by_cases h3:57343<r
 ·have HV:Hid (runeB r=true):=by show _=_;unfold runeB;rw[decide_eq_true_iff];omega
  go_enter Tryz.func156,Tryz.ntmps156
  go_wp2
  go_ret
  exact ⟨ret_bool (by rw[HV.out]),rfl⟩
 have HV:Hid (runeB r=false):=by show _=_;unfold runeB;rw[decide_eq_false_iff_not];omega
 go_enter Tryz.func156,Tryz.ntmps156
 go_wp2
 go_ret
 exact ⟨ret_bool (by rw[HV.out]),rfl⟩
theorem implNoRune(r:Int)(w:World):
  Calls Tryz.prog 138 #[.int .i64 r] w fun e w'=>e=.returned (.bool (!(runeB r)))∧w=w':=by
 have HC:Hid (CS 156 #[.int .i64 r] w (.bool (runeB r))):=implIsRune r w
 generalize runeB r=b at HC
 go_enter Tryz.func138,Tryz.ntmps138
 go_wp2_with fail
 refine HC.out.mono ?_
 rintro e w' ⟨rfl,rfl⟩
 go_wp2_with fail
 go_ret
 exact ⟨rfl,rfl⟩
theorem noRune_pred(w:World):PredAt Tryz.prog 138 #[] (fun z:Int=>Value.int .i64 z) (fun z=> !runeB z) w:=by
 intro W x _
 exact (implNoRune x W).mono fun e w' h=>⟨h.1,0,h.2.symm⟩
theorem implLeast(l:List Nat)(n0 N cap g:Nat)(B:Nat)(w:World)(hN:l.length=N)(hN1:N≤1048576)(hv: ∀c∈l,c≤1114111)(hex:leastN n0 l≤1114111)(hown:w.ownsRow B 3 1 (.slice (some ⟨g,0,none⟩) N cap) N (icN l)):
  Calls Tryz.prog 139 #[.slice (some ⟨g,0,none⟩) N cap,.int .i64 (n0:Int)] w fun e w'=>e=.returned (.int .i64 (leastN n0 l:Int))∧w=w':=by
 have HL:Hid (l.length=N):=hN
 have HV:Hid (∀c∈l,c≤1114111):=hv
 have H0:Hid (leastL n0 1114111 l=leastN n0 l):=by
  show _=_
  rw[leastL_eq n0 l _ (by decide)]
  split<;>omega
 clear hN hv hex
 go_enter Tryz.func139,Tryz.ntmps139
 go_wp2_with fail
 go_loop[5,10] (fun a i=> ∃k m:Nat,k≤N∧i=.int .i64 k∧a=.int .i64 m∧m≤1114112∧leastL n0 m (l.drop k)=leastN n0 l) (fun _ i=>N-(intOf i).toNat)
 case atStart=>exact ⟨0,1114111,Nat.zero_le _,rfl,rfl,by decide,H0.out⟩
 obtain ⟨k,m,hk,rfl,rfl,hm,he⟩:=hrel
 have HE:Hid (leastL n0 m (l.drop k)=leastN n0 l):=he
 clear he
 by_cases hlt:k<N
 ·have ca:=icN_at hown k hlt
  have HS:Hid (l.drop k=l.getD k 0::l.drop (k+1)):=nat_drop l k (by have:=HL.out;omega)
  have hc:=HV.out (l.getD k 0) (by
   rw[List.getD_eq_getElem?_getD,List.getElem?_eq_getElem (by have:=HL.out;omega)]
   exact List.getElem_mem _)
  generalize l.getD k 0=c at ca HS hc
  have HR:Hid (leastL n0 (if n0≤c∧c<m then c else m) (l.drop (k+1))=leastN n0 l):=by show _=_;rw[←HE.out,HS.out];rfl
  by_cases h1:(n0:Int)≤(c:Int)
  ·by_cases h2:(c:Int)<(m:Int)
   ·rw[if_pos (by omega)]at HR
    go_wp2_with fail
    go_round
    case rel=>exact ⟨k+1,c,by omega,by go_num,by go_num,by omega,HR.out⟩
    case measure=>simp[intOf];omega
   rw[if_neg (by omega)]at HR
   go_wp2_with fail
   go_round
   case rel=>exact ⟨k+1,m,by omega,by go_num,by go_num,hm,HR.out⟩
   case measure=>simp[intOf];omega
  rw[if_neg (by omega)]at HR
  go_wp2_with fail
  go_round
  case rel=>exact ⟨k+1,m,by omega,by go_num,rfl,hm,HR.out⟩
  case measure=>simp[intOf];omega
 have HR:Hid (m=leastN n0 l):=by
  show _=_
  rw[←HE.out,List.drop_of_length_le (by have:=HL.out;omega)]
  rfl
 go_wp2_with fail
 go_ret
 exact ⟨ret_int (by rw[←HR.out]),rfl⟩
end Go.Proofs.YtijliddchoehhaaGreatDoor
