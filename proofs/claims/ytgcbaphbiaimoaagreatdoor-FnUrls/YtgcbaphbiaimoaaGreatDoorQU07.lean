/- PunyPlain, AdaptWalk, PunyEnc. -/
import Derived.Test.YtgcbaphbiaimoaaGreatDoorQU02
set_option maxHeartbeats 4000000
set_option maxRecDepth 20000
namespace Go.Proofs.YtgcbaphbiaimoaaGreatDoor
open Go.RowKit
def zFz(k bias:Nat):Nat:=if k≤bias then 1 else if 26<k-bias then 26 else k-bias
theorem zaUz(k bias:Nat):1≤zFz k bias∧zFz k bias≤26:=by
 unfold zFz
 split
 ·omega
 split<;>omega
def yjz:Nat→Nat→Nat→Nat→List Nat
 |0,_,_,_=>[]
 |f+1,k,bias,q=>if q<zFz k bias then [q]else (zFz k bias+(q-zFz k bias)%(36-zFz k bias))::yjz f (k+36) bias ((q-zFz k bias)/(36-zFz k bias))
def ykz(bias:Nat):Nat→Nat→Nat→List Nat→Option (Nat×List Nat)
 |_,_,_,[]=>none
 |k,i,w,d::ds=>if 1099511627776<i∨1099511627776<w∨36≤d then none else if d<zFz k bias then some (i+d*w,ds)else ykz bias (k+36) (i+d*w) (w*(36-zFz k bias)) ds
theorem zoXz(q t:Nat)(h:t≤q):(t+(q-t)%(36-t))+(36-t)*((q-t)/(36-t))=q:=by
 have:=Nat.mod_add_div (q-t) (36-t)
 omega
theorem zjkz(q t f:Nat)(h1:1≤t)(h2:t≤26)(hq:q<2^(f+1)):(q-t)/(36-t)<2^f:=by
 have h3:(q-t)/(36-t)≤(q-t)/2:=Nat.div_le_div_left (by omega) (by omega)
 have h4:2^(f+1)=2*2^f:=by rw[Nat.pow_succ];omega
 omega
theorem zoYz(bias:Nat)(r:List Nat): ∀(f k q i w:Nat),q<2^f→i+w*q≤17179869184→w≤1099511627776→ykz bias k i w (yjz (f+1) k bias q++r)=some (i+w*q,r):=by
 intro f
 induction f with
 |zero=>
  intro k q i w hq hi hw
  have h0:q=0:=by simpa using hq
  subst h0
  have hl:=zaUz k bias
  have e:yjz (0+1) k bias 0=[0]:=by unfold yjz;rw[if_pos (by omega)]
  rw[e]
  show ykz bias k i w (0::r)=_
  unfold ykz
  rw[if_neg (by omega),if_pos (by omega)]
  simp
 |succ f ih=>
  intro k q i w hq hi hw
  obtain ⟨l1,l2⟩:=zaUz k bias
  by_cases hlt:q<zFz k bias
  ·have e:yjz (f+1+1) k bias q=[q]:=by rw[yjz,if_pos hlt]
   rw[e]
   show ykz bias k i w (q::r)=_
   unfold ykz
   rw[if_neg (by omega),if_pos hlt,Nat.mul_comm q w]
  have e:yjz (f+1+1) k bias q=(zFz k bias+(q-zFz k bias)%(36-zFz k bias))::yjz (f+1) (k+36) bias ((q-zFz k bias)/(36-zFz k bias)):=by rw[yjz,if_neg hlt]
  rw[e]
  obtain ⟨t,ht⟩: ∃t,zFz k bias=t:=⟨_,rfl⟩
  rw[ht]at hlt l1 l2⊢
  have hs:=zoXz q t (by omega)
  have hless:=zjkz q t f l1 l2 hq
  have hm:(q-t)%(36-t)<36-t:=Nat.mod_lt _ (by omega)
  have hw1:w≤w*q:=Nat.le_mul_of_pos_right w (by omega)
  generalize (q-t)%(36-t)=m at*
  generalize (q-t)/(36-t)=q' at*
  have hsum:i+(t+m)*w+w*(36-t)*q'=i+w*q:=by
   rw[←hs,Nat.mul_add,Nat.mul_comm (t+m) w,Nat.mul_assoc]
   omega
  have hw2:w*(36-t)≤w*35:=Nat.mul_le_mul_left w (by omega)
  show ykz bias k i w ((t+m)::(yjz (f+1) (k+36) bias q'++r))=_
  unfold ykz
  rw[if_neg (by omega),if_neg (by omega),ht,ih (k+36) q' _ _ hless (by omega) (by omega),hsum]
def zIz(n:Nat):Nat:=if n<26 then 97+n else 22+n
def zxz(c:Nat):Nat:=if 97≤c∧c≤122 then c-97 else if 48≤c∧c≤57 then c-22 else 36
theorem zriz{n:Nat}(h:n<36):zxz (zIz n)=n:=by
 unfold zIz zxz
 split
 ·rw[if_pos (by omega)];omega
 rw[if_neg (by omega),if_pos (by omega)];omega
theorem zdRz{n:Nat}(h:n<36):zIz n<128∧zIz n≠45:=by
 unfold zIz
 split<;>omega
theorem zsCz(bias:Nat): ∀(f k q:Nat),∀d∈yjz f k bias q,d<36:=by
 intro f
 induction f with
 |zero=>intro k q d h;simp[yjz]at h
 |succ f ih=>
  intro k q d h
  obtain ⟨l1,l2⟩:=zaUz k bias
  unfold yjz at h
  split at h
  ·rw[List.mem_singleton.1 h];omega
  rcases List.mem_cons.1 h with h|h
  ·rw[h]
   have hm:(q-zFz k bias)%(36-zFz k bias)<36-zFz k bias:=Nat.mod_lt _ (by omega)
   omega
  exact ih _ _ d h
theorem zmjz(bias f k q:Nat):yjz (f+1) k bias q≠[]:=by
 unfold yjz
 split<;>simp
def z1z:Nat→Nat→Nat→Nat
 |0,d,k=>k+36*d/(d+38)
 |f+1,d,k=>if 455<d then z1z f (d/35) (k+36)else k+36*d/(d+38)
def zvz(delta n:Nat)(first:Bool):Nat:=
 if 1000000000000<delta∨n<1∨1000000<n then 0
 else z1z 64 ((if first then delta/700 else delta/2)+(if first then delta/700 else delta/2)/n) 0
def zdz(n:Nat):List Nat→Nat→List Nat×Nat
 |[],d=>([],d)
 |c::r,d=>if c<n then zdz n r (d+1)else if c=n then (d::(zdz n r 0).1,(zdz n r 0).2)else zdz n r d
def ziz(n:Nat):List Nat→Nat
 |[]=>1114112
 |c::r=>if n≤c∧c<ziz n r then c else ziz n r
def yyz(l:List Nat):Nat→Nat→Nat→Nat→List Nat
 |0,_,_,_=>[]
 |f+1,n,d,h=>if h<l.length then (zdz (ziz n l) l (d+(ziz n l-n)*(h+1))).1++yyz l f (ziz n l+1) ((zdz (ziz n l) l (d+(ziz n l-n)*(h+1))).2+1) (h+(zdz (ziz n l) l (d+(ziz n l-n)*(h+1))).1.length)else []
def yoz(i x:Nat)(l:List Nat):List Nat:=l.take i++x::l.drop i
theorem znmz(a b:List Nat)(x:Nat):yoz a.length x (a++b)=a++x::b:=by simp[yoz]
def insD:Nat→Nat→List Nat→List Nat→Option (List Nat)
 |_,_,out,[]=>some out
 |n,i,out,d::ds=>
  if 60<out.length+1∨1114111<n+(i+d)/(out.length+1)then none
  else insD (n+(i+d)/(out.length+1)) ((i+d)%(out.length+1)+1) (yoz ((i+d)%(out.length+1)) (n+(i+d)/(out.length+1)) out) ds
theorem zoZz(n0 i0 d n pos:Nat)(out ds:List Nat)(hn:n0≤n)(hp:pos≤out.length)(hl:out.length<60)(hm:n≤1114111)(he:d+i0+n0*(out.length+1)=n*(out.length+1)+pos):
  insD n0 i0 out (d::ds)=insD n (pos+1) (yoz pos n out) ds:=by
 have hx:i0+d=(n-n0)*(out.length+1)+pos:=by
  have h1:(n-n0)*(out.length+1)+n0*(out.length+1)=n*(out.length+1):=by rw[←Nat.add_mul];congr 1;omega
  omega
 have hdiv:(i0+d)/(out.length+1)=n-n0:=by
  rw[hx,Nat.mul_comm,Nat.mul_add_div (by omega),Nat.div_eq_of_lt (by omega)];omega
 have hmod:(i0+d)%(out.length+1)=pos:=by
  rw[hx,Nat.mul_comm,Nat.mul_add_mod,Nat.mod_eq_of_lt (by omega)]
 rw[insD,hdiv,hmod,show n0+(n-n0)=n by omega,if_neg (by omega)]
theorem zo0z(n:Nat)(hn:n≤1114111): ∀(l2 l1:List Nat) (d n0 i0:Nat) (ds:List Nat),n0≤n→(l1++l2).length≤60→
  d+i0+n0*((l1.filter (· ≤n)++l2.filter (· <n)).length+1)=n*((l1.filter (· ≤n)++l2.filter (· <n)).length+1)+(l1.filter (· ≤n)).length→
  ∃n1 i1,n1≤n∧insD n0 i0 (l1.filter (· ≤n)++l2.filter (· <n)) ((zdz n l2 d).1++ds)=insD n1 i1 ((l1++l2).filter (· ≤n)) ds∧
   (zdz n l2 d).2+i1+n1*(((l1++l2).filter (· ≤n)).length+1)=n*(((l1++l2).filter (· ≤n)).length+1)+((l1++l2).filter (· ≤n)).length∧
   (l1.filter (· ≤n)++l2.filter (· <n)).length+(zdz n l2 d).1.length=((l1++l2).filter (· ≤n)).length:=by
 intro l2
 induction l2 with
 |nil=>
  intro l1 d n0 i0 ds h0 hlen he
  refine ⟨n0,i0,h0,?_,?_,?_⟩
  ·simp[zdz]
  ·simpa[zdz] using he
  simp[zdz]
 |cons c r ih=>
  intro l1 d n0 i0 ds h0 hlen he
  have hass:l1++c::r=(l1++[c])++r:=by simp
  rcases Nat.lt_trichotomy c n with hc|hc|hc
  ·have ep:zdz n (c::r) d=zdz n r (d+1):=by rw[zdz,if_pos hc]
   have e1:(l1++[c]).filter (· ≤n)=l1.filter (· ≤n)++[c]:=by simp[List.filter_append,Nat.le_of_lt hc]
   have e2:(c::r).filter (· <n)=c::r.filter (· <n):=by simp[hc]
   have e3:l1.filter (· ≤n)++(c::r).filter (· <n)=(l1++[c]).filter (· ≤n)++r.filter (· <n):=by rw[e1,e2];simp
   rw[e3]at he⊢
   rw[ep,hass]
   exact ih (l1++[c]) (d+1) n0 i0 ds h0 (by rw[←hass];exact hlen) (by
    have h1:((l1++[c]).filter (· ≤n)).length=(l1.filter (· ≤n)).length+1:=by rw[e1];simp
    omega)
  ·subst hc
   have ep:zdz c (c::r) d=(d::(zdz c r 0).1,(zdz c r 0).2):=by rw[zdz,if_neg (by omega),if_pos rfl]
   have e1:(l1++[c]).filter (· ≤c)=l1.filter (· ≤c)++[c]:=by simp[List.filter_append]
   have e2:(c::r).filter (· <c)=r.filter (· <c):=by simp
   rw[e2]at he⊢
   rw[ep,hass]
   have hout:(l1.filter (· ≤c)++r.filter (· <c)).length<60:=by
    have h1:=List.length_filter_le (fun x=>decide (x≤c)) l1
    have h2:=List.length_filter_le (fun x=>decide (x<c)) r
    simp only[List.length_append,List.length_cons]at hlen⊢
    omega
   have hst:=zoZz n0 i0 d c (l1.filter (· ≤c)).length (l1.filter (· ≤c)++r.filter (· <c)) ((zdz c r 0).1++ds) h0 (by simp) hout hn he
   have e4:yoz (l1.filter (· ≤c)).length c (l1.filter (· ≤c)++r.filter (· <c))=(l1++[c]).filter (· ≤c)++r.filter (· <c):=by rw[znmz,e1];simp
   rw[e4]at hst
   obtain ⟨n1,i1,g0,g1,g2,g3⟩:=ih (l1++[c]) 0 c ((l1.filter (· ≤c)).length+1) ds (Nat.le_refl _) (by rw[←hass];exact hlen) (by rw[e1,List.length_append];simp;omega)
   refine ⟨n1,i1,g0,?_,g2,?_⟩
   ·show insD n0 i0 _ (d::((zdz c r 0).1++ds))=_
    rw[hst,g1]
   rw[←g3,e1]
   simp;omega
  have ep:zdz n (c::r) d=zdz n r d:=by rw[zdz,if_neg (by omega),if_neg (by omega)]
  have e1:(l1++[c]).filter (· ≤n)=l1.filter (· ≤n):=by
   rw[List.filter_append,List.filter_cons_of_neg (by simp;omega)]
   simp
  have e2:(c::r).filter (· <n)=r.filter (· <n):=List.filter_cons_of_neg (by simp;omega)
  have e3:l1.filter (· ≤n)++(c::r).filter (· <n)=(l1++[c]).filter (· ≤n)++r.filter (· <n):=by rw[e1,e2]
  rw[e3]at he⊢
  rw[ep,hass]
  exact ih (l1++[c]) d n0 i0 ds h0 (by rw[←hass];exact hlen) (by rw[e1]at he⊢;exact he)
theorem zcqz(n:Nat): ∀(l:List Nat),(∀c∈l,c≤1114111)→(∃c∈l,n≤c)→ziz n l∈l∧n≤ziz n l∧ ∀c∈l,n≤c→ziz n l≤c
 |[],_,h=>by obtain ⟨c,hc,_⟩:=h;simp at hc
 |c::r,hv,h=>by
  have hc:=hv c (by simp)
  have hv': ∀c∈r,c≤1114111:=fun x hx=>hv x (by simp[hx])
  by_cases hr: ∃x∈r,n≤x
  ·obtain ⟨h1,h2,h3⟩:=zcqz n r hv' hr
   unfold ziz
   split
   ·next hlt=>
    refine ⟨by simp,hlt.1,fun x hx hn=> ?_⟩
    rcases List.mem_cons.1 hx with rfl|hx
    ·omega
    have:=h3 x hx hn;omega
   next hlt=>
   refine ⟨by simp[h1],h2,fun x hx hn=> ?_⟩
   rcases List.mem_cons.1 hx with rfl|hx
   ·omega
   exact h3 x hx hn
  have hcn:n≤c:=by
   obtain ⟨x,hx,hn⟩:=h
   rcases List.mem_cons.1 hx with rfl|hx
   ·exact hn
   exact absurd ⟨x,hx,hn⟩ hr
  have hbig: ∀(r:List Nat),(¬ ∃x∈r,n≤x)→ziz n r=1114112:=by
   intro r
   induction r with
   |nil=>intro _;rfl
   |cons y r ih=>
    intro hno
    unfold ziz
    rw[if_neg (fun hy=>hno ⟨y,by simp,hy.1⟩)]
    exact ih (fun ⟨x,hx,hn⟩=>hno ⟨x,by simp[hx],hn⟩)
  unfold ziz
  rw[hbig r hr,if_pos (by omega)]
  refine ⟨by simp,hcn,fun x hx hn=> ?_⟩
  rcases List.mem_cons.1 hx with rfl|hx
  ·omega
  exact absurd ⟨x,hx,hn⟩ hr
theorem vZz(m:Nat): ∀(l:List Nat),m∈l→(l.filter (· <m)).length<(l.filter (· ≤m)).length:=by
 have hle: ∀(l:List Nat),(l.filter (· <m)).length≤(l.filter (· ≤m)).length:=by
  intro l
  induction l with
  |nil=>simp
  |cons c r ih=>
   by_cases h1:c<m
   ·rw[List.filter_cons_of_pos (by simpa using h1),List.filter_cons_of_pos (by simp;omega)];simp;exact ih
   rw[List.filter_cons_of_neg (by simpa using h1)]
   by_cases h2:c≤m
   ·rw[List.filter_cons_of_pos (by simpa using h2)];simp;omega
   rw[List.filter_cons_of_neg (by simpa using h2)];exact ih
 intro l
 induction l with
 |nil=>intro h;simp at h
 |cons c r ih=>
  intro h
  by_cases h1:c<m
  ·have hr:m∈r:=by
    rcases List.mem_cons.1 h with rfl|h
    ·omega
    exact h
   rw[List.filter_cons_of_pos (by simpa using h1),List.filter_cons_of_pos (by simp;omega)];simp;exact ih hr
  rw[List.filter_cons_of_neg (by simpa using h1)]
  by_cases h2:c≤m
  ·rw[List.filter_cons_of_pos (by simpa using h2)]
   have:=hle r
   simp;omega
  have hr:m∈r:=by
   rcases List.mem_cons.1 h with rfl|h
   ·omega
   exact h
  rw[List.filter_cons_of_neg (by simpa using h2)];exact ih hr
theorem vOz(l:List Nat)(p q:Nat→Bool)(h: ∀c∈l,p c=q c):l.filter p=l.filter q:=List.filter_congr h
theorem zrjz(l:List Nat)(hl:l.length≤60)(hv: ∀c∈l,c≤1114111): ∀(f n d n0 i0:Nat),n0≤n→l.length≤(l.filter (· <n)).length+f→
  d+i0+n0*((l.filter (· <n)).length+1)=n*((l.filter (· <n)).length+1)→insD n0 i0 (l.filter (· <n)) (yyz l f n d (l.filter (· <n)).length)=some l:=by
 intro f
 induction f with
 |zero=>
  intro n d n0 i0 _ hf _
  have h1:=List.length_filter_le (fun x=>decide (x<n)) l
  have h2:l.filter (· <n)=l:=List.filter_eq_self.2 (List.length_filter_eq_length_iff.1 (by omega))
  rw[yyz,insD,h2]
 |succ f ih=>
  intro n d n0 i0 h0 hf he
  have hfl:=List.length_filter_le (fun x=>decide (x<n)) l
  by_cases hlt:(l.filter (· <n)).length<l.length
  ·have hex: ∃c∈l,n≤c:=by
    by_cases hx: ∃c∈l,n≤c
    ·exact hx
    have h2:l.filter (· <n)=l:=List.filter_eq_self.2 (fun c hc=>by
     simp only[decide_eq_true_eq]
     rcases Nat.lt_or_ge c n with h|h
     ·exact h
     exact absurd ⟨c,hc,h⟩ hx)
    rw[h2]at hlt
    omega
   obtain ⟨m1,m2,m3⟩:=zcqz n l hv hex
   have hd:yyz l (f+1) n d (l.filter (· <n)).length=(zdz (ziz n l) l (d+(ziz n l-n)*((l.filter (· <n)).length+1))).1++yyz l f (ziz n l+1) ((zdz (ziz n l) l (d+(ziz n l-n)*((l.filter (· <n)).length+1))).2+1) ((l.filter (· <n)).length+(zdz (ziz n l) l (d+(ziz n l-n)*((l.filter (· <n)).length+1))).1.length):=by
    rw[yyz,if_pos hlt]
   rw[hd]
   generalize ziz n l=m at*
   have hsame:l.filter (· <n)=l.filter (· <m):=vOz l _ _ (fun c hc=>by
    rcases Nat.lt_or_ge c n with h|h
    ·simp[h];omega
    have:=m3 c hc h
    rw[decide_eq_false (by omega),decide_eq_false (by omega)])
   have hle:l.filter (· <m+1)=l.filter (· ≤m):=vOz l _ _ (fun c _=>decide_eq_decide.2 (by omega))
   have hmore:=vZz m l m1
   have hmv:=hv m m1
   rw[hsame]at he hf⊢
   generalize hds:yyz l f (m+1) _ _=ds
   have hstep:=zo0z m hmv l [] (d+(m-n)*((l.filter (· <m)).length+1)) n0 i0 ds (by omega) (by simpa using hl) (by
    simp only[List.filter_nil,List.nil_append,List.length_nil,Nat.add_zero]
    have h1:(m-n)*((l.filter (· <m)).length+1)+n*((l.filter (· <m)).length+1)=m*((l.filter (· <m)).length+1):=by rw[←Nat.add_mul];congr 1;omega
    omega)
   simp only[List.filter_nil,List.nil_append]at hstep
   obtain ⟨n1,i1,g0,g1,g2,g3⟩:=hstep
   rw[g1,←hds,g3]
   have hnext:=ih (m+1) ((zdz m l (d+(m-n)*((l.filter (· <m)).length+1))).2+1) n1 i1 (by omega) (by rw[hle];omega) (by
    rw[hle,Nat.add_mul]
    omega)
   rw[hle]at hnext
   exact hnext
  have h2:l.filter (· <n)=l:=List.filter_eq_self.2 (List.length_filter_eq_length_iff.1 (by omega))
  rw[yyz,if_neg hlt,insD,h2]
theorem jYz(n:Nat): ∀(l:List Nat) (d M:Nat),d+l.length≤M→(∀x∈(zdz n l d).1,x≤M)∧(zdz n l d).2≤M
 |[],d,M,h=>⟨fun x hx=>by simp[zdz]at hx,by simpa[zdz] using h⟩
 |c::r,d,M,h=>by
  simp only[List.length_cons]at h
  unfold zdz
  split
  ·exact jYz n r (d+1) M (by omega)
  split
  ·have hr:=jYz n r 0 M (by omega)
   refine ⟨fun x hx=> ?_,hr.2⟩
   rcases List.mem_cons.1 hx with rfl|hx
   ·omega
   exact hr.1 x hx
  exact jYz n r d M (by omega)
theorem vgz(n:Nat): ∀(l:List Nat) (d:Nat),(l.filter (· <n)).length+(zdz n l d).1.length=(l.filter (· ≤n)).length
 |[],d=>by simp[zdz]
 |c::r,d=>by
  unfold zdz
  split
  ·next h=>
   have hr:=vgz n r (d+1)
   rw[List.filter_cons_of_pos (by simpa using h),List.filter_cons_of_pos (by simp;omega)]
   simp only[List.length_cons]
   omega
  next h=>
  rw[List.filter_cons_of_neg (by simpa using h)]
  split
  ·next e=>
   have hr:=vgz n r 0
   rw[List.filter_cons_of_pos (by simp;omega)]
   simp only[List.length_cons]
   omega
  next e=>
  have hr:=vgz n r d
  rw[List.filter_cons_of_neg (by simp;omega)]
  exact hr
theorem zatz(l:List Nat)(n:Nat)(hv: ∀c∈l,c≤1114111)(hlt:(l.filter (· <n)).length<l.length):ziz n l∈l∧n≤ziz n l∧ ∀c∈l,n≤c→ziz n l≤c:=by
 refine zcqz n l hv ?_
 by_cases hx: ∃c∈l,n≤c
 ·exact hx
 have h2:l.filter (· <n)=l:=List.filter_eq_self.2 (fun c hc=>by
  simp only[decide_eq_true_eq]
  rcases Nat.lt_or_ge c n with h|h
  ·exact h
  exact absurd ⟨c,hc,h⟩ hx)
 rw[h2]at hlt
 omega
theorem x8z(l:List Nat)(n m:Nat)(h2:n≤m)(h3: ∀c∈l,n≤c→m≤c):l.filter (· <n)=l.filter (· <m):=
 vOz l _ _ (fun c hc=>by
  rcases Nat.lt_or_ge c n with h|h
  ·simp[h];omega
  have:=h3 c hc h
  rw[decide_eq_false (by omega),decide_eq_false (by omega)])
theorem xpz(l:List Nat)(m:Nat):l.filter (· <m+1)=l.filter (· ≤m):=vOz l _ _ (fun c _=>decide_eq_decide.2 (by omega))
theorem zo1z(l:List Nat)(hl:l.length≤60)(hv: ∀c∈l,c≤1114111): ∀(f n d:Nat),d≤61*n→ ∀x∈yyz l f n d (l.filter (· <n)).length,x≤67960831:=by
 intro f
 induction f with
 |zero=>intro n d _ x hx;simp[yyz]at hx
 |succ f ih=>
  intro n d hd x hx
  by_cases hlt:(l.filter (· <n)).length<l.length
  ·obtain ⟨m1,m2,m3⟩:=zatz l n hv hlt
   rw[yyz,if_pos hlt]at hx
   generalize ziz n l=m at*
   have hmv:=hv m m1
   rw[x8z l n m m2 m3]at hx hlt
   have hb:d+(m-n)*((l.filter (· <m)).length+1)≤61*m:=by
    have h1:(m-n)*((l.filter (· <m)).length+1)≤(m-n)*61:=Nat.mul_le_mul_left _ (by omega)
    omega
   have hp:=jYz m l (d+(m-n)*((l.filter (· <m)).length+1)) (61*m+60) (by omega)
   have hpl:=vgz m l (d+(m-n)*((l.filter (· <m)).length+1))
   rcases List.mem_append.1 hx with hx|hx
   ·have:=hp.1 x hx;omega
   rw[hpl,←xpz]at hx
   exact ih (m+1) _ (by have:=hp.2;omega) x hx
  rw[yyz,if_neg hlt]at hx
  simp at hx
def zTz(basic:Nat):Nat→Nat→List Nat→List Nat
 |_,_,[]=>[]
 |h,bias,d::ds=>yjz 28 36 bias d++zTz basic (h+1) (zvz d (h+1) (h==basic)) ds
def vuz(basic:Nat):Nat→List Nat→Nat→Nat→Nat→List Nat→Option (List Nat)
 |_,[],_,_,_,out=>some out
 |0,_::_,_,_,_,_=>none
 |f+1,v::vs,n,i,bias,out=>
  match ykz bias 36 0 1 (v::vs)with
  |none=>none
  |some (more,rest)=>
   if 60<out.length+1∨1114111<n+(i+more)/(out.length+1)then none
   else vuz basic f rest (n+(i+more)/(out.length+1)) ((i+more)%(out.length+1)+1) (zvz more (out.length+1) (out.length==basic)) (yoz ((i+more)%(out.length+1)) (n+(i+more)/(out.length+1)) out)
theorem zoz(i x:Nat)(l:List Nat):(yoz i x l).length=l.length+1:=by
 unfold yoz
 rw[List.length_append,List.length_cons,List.length_take,List.length_drop]
 omega
theorem zjlz(basic:Nat): ∀(ds:List Nat) (f h bias n i:Nat) (out:List Nat),out.length=h→(∀d∈ds,d≤67960831)→ds.length≤f→
  vuz basic f (zTz basic h bias ds) n i bias out=insD n i out ds
 |[],f,h,bias,n,i,out,_,_,_=>by cases f<;>rfl
 |d::ds,f,h,bias,n,i,out,hh,hd,hf=>by
  obtain ⟨f,rfl⟩: ∃g,f=g+1:=⟨f-1,by simp at hf;omega⟩
  have hdd:=hd d (by simp)
  have hread:=zoYz bias (zTz basic (h+1) (zvz d (h+1) (h==basic)) ds) 27 36 d 0 1 (by simp;omega) (by omega) (by omega)
  have hne: ∃v vs,yjz (27+1) 36 bias d++zTz basic (h+1) (zvz d (h+1) (h==basic)) ds=v::vs:=by
   cases hx:yjz (27+1) 36 bias d with
   |nil=>exact absurd hx (zmjz bias 27 36 d)
   |cons v vs=>exact ⟨v,_,rfl⟩
  obtain ⟨v,vs,hv⟩:=hne
  have hcode:zTz basic h bias (d::ds)=v::vs:=hv
  rw[hv]at hread
  rw[hcode,vuz,hread]
  simp only[Nat.zero_add,Nat.one_mul]
  rw[insD]
  split
  ·rfl
  subst hh
  exact zjlz basic ds f _ _ _ _ _ (zoz _ _ _) (fun x hx=>hd x (by simp[hx])) (by simp at hf;omega)
def encV(l:List Nat):List Nat:=zTz (l.filter (· <128)).length (l.filter (· <128)).length 72 (yyz l l.length 128 0 (l.filter (· <128)).length)
theorem zdSz(l:List Nat)(hv: ∀c∈l,c≤1114111): ∀(f n d:Nat),(l.filter (· <n)).length+(yyz l f n d (l.filter (· <n)).length).length≤l.length:=by
 intro f
 induction f with
 |zero=>intro n d;simp only[yyz,List.length_nil,Nat.add_zero];exact List.length_filter_le _ _
 |succ f ih=>
  intro n d
  by_cases hlt:(l.filter (· <n)).length<l.length
  ·obtain ⟨m1,m2,m3⟩:=zatz l n hv hlt
   rw[yyz,if_pos hlt]
   generalize ziz n l=m at*
   rw[x8z l n m m2 m3]
   have hpl:=vgz m l (d+(m-n)*((l.filter (· <m)).length+1))
   rw[List.length_append,hpl,←xpz]
   rw[←xpz]at hpl
   have:=ih (m+1) ((zdz m l (d+(m-n)*((l.filter (· <m)).length+1))).2+1)
   omega
  rw[yyz,if_neg hlt]
  simp only[List.length_nil,Nat.add_zero]
  exact List.length_filter_le _ _
def zzz(l:List Nat):List Nat:=l.filter (· <128)++(if 0<(l.filter (· <128)).length then [45]else [])++(encV l).map zIz
def ydz:List Nat→Option (List Nat×List Nat)
 |[]=>none
 |c::r=>match ydz r with
  |some (a,b)=>some (c::a,b)
  |none=>if c=45 then some ([],r)else none
theorem jKz: ∀(b:List Nat),(∀c∈b,c≠45)→ydz b=none
 |[],_=>rfl
 |c::r,h=>by
  rw[ydz,jKz r (fun x hx=>h x (by simp[hx]))]
  exact if_neg (h c (by simp))
theorem zc1z(b:List Nat)(hb: ∀c∈b,c≠45): ∀(a:List Nat),ydz (a++45::b)=some (a,b)
 |[]=>by
  show ydz (45::b)=_
  rw[ydz,jKz b hb]
  rfl
 |c::a=>by
  show ydz (c::(a++45::b))=_
  rw[ydz,zc1z b hb a]
def zb1z(s:List Nat):List Nat:=match ydz s with
 |some (a,_)=>a
 |none=>[]
def zc2z(s:List Nat):List Nat:=match ydz s with
 |some (_,b)=>b
 |none=>s
def v0z(s:List Nat):Option (List Nat):=vuz (zb1z s).length s.length ((zc2z s).map zxz) 128 0 72 (zb1z s)
theorem zjmz(basic:Nat): ∀(ds:List Nat) (h bias:Nat),∀v∈zTz basic h bias ds,v<36
 |[],_,_,v,hv=>by simp[zTz]at hv
 |d::ds,h,bias,v,hv=>by
  rcases List.mem_append.1 hv with hv|hv
  ·exact zsCz bias 28 36 d v hv
  exact zjmz basic ds _ _ v hv
theorem zh6z(l:List Nat): ∀v∈encV l,v<36:=zjmz _ _ _ _
theorem zjnz: ∀(vs:List Nat),(∀v∈vs,v<36)→(vs.map zIz).map zxz=vs
 |[],_=>rfl
 |v::vs,h=>by
  rw[List.map_cons,List.map_cons,zriz (h v (by simp)),zjnz vs (fun x hx=>h x (by simp[hx]))]
theorem zo2z(vs:List Nat)(h: ∀v∈vs,v<36): ∀c∈vs.map zIz,c≠45:=by
 intro c hc
 obtain ⟨v,hv,rfl⟩:=List.mem_map.1 hc
 exact (zdRz (h v hv)).2
theorem zgSz(l:List Nat):zb1z (zzz l)=l.filter (· <128)∧zc2z (zzz l)=(encV l).map zIz:=by
 have hd:=zo2z (encV l) (zh6z l)
 unfold zb1z zc2z zzz
 by_cases h:0<(l.filter (· <128)).length
 ·rw[if_pos h,List.append_assoc]
  show (match ydz (l.filter (· <128)++45::(encV l).map zIz)with|some (a,_)=>a|none=>[])=_∧_
  rw[zc1z _ hd]
  exact ⟨rfl,by show (match ydz (l.filter (· <128)++45::(encV l).map zIz)with|some (_,b)=>b|none=>_)=_;rw[zc1z _ hd]⟩
 have he:l.filter (· <128)=[]:=List.eq_nil_of_length_eq_zero (by omega)
 rw[if_neg h,he]
 simp only[List.nil_append]
 rw[jKz _ hd]
 exact ⟨rfl,rfl⟩
theorem zmkz(bias:Nat): ∀(f k q:Nat),(yjz f k bias q).length≤f
 |0,_,_=>by simp[yjz]
 |f+1,k,q=>by
  unfold yjz
  split
  ·simp
  have:=zmkz bias f (k+36) ((q-zFz k bias)/(36-zFz k bias))
  simp;omega
theorem zjoz(basic:Nat): ∀(ds:List Nat) (h bias:Nat),ds.length≤(zTz basic h bias ds).length
 |[],_,_=>by simp
 |d::ds,h,bias=>by
  have h1:=zjoz basic ds (h+1) (zvz d (h+1) (h==basic))
  have h2:1≤(yjz 28 36 bias d).length:=by
   cases hx:yjz 28 36 bias d with
   |nil=>exact absurd hx (zmjz bias 27 36 d)
   |cons=>simp
  show (d::ds).length≤(yjz 28 36 bias d++zTz basic (h+1) (zvz d (h+1) (h==basic)) ds).length
  rw[List.length_append,List.length_cons]
  omega
theorem zo3z(l:List Nat)(hl:l.length≤60)(hv: ∀c∈l,c≤1114111):v0z (zzz l)=some l:=by
 unfold v0z
 obtain ⟨h1,h2⟩:=zgSz l
 rw[h1,h2,zjnz _ (zh6z l)]
 have hc:=zdSz l hv l.length 128 0
 have hge:=zjoz (l.filter (· <128)).length (yyz l l.length 128 0 (l.filter (· <128)).length) (l.filter (· <128)).length 72
 unfold encV
 rw[zjlz _ _ _ _ 72 128 0 _ rfl (zo1z l hl hv l.length 128 0 (by omega)) ?_]
 ·exact zrjz l hl hv l.length 128 0 128 0 (Nat.le_refl _) (by omega) (by omega)
 unfold zzz encV
 rw[List.length_append,List.length_append,List.length_map]
 omega
def zgTz(c:Nat):Bool:=decide (c≤1114111)&& !(decide (55296≤c)&&decide (c≤57343))
def yGz(l:List Nat):Bool:=decide (l.length≤60)&&l.all zgTz
def yaz(s:List Nat):Option (List Nat):=match v0z s with
 |some l=>if yGz l=true∧zzz l=s then some l else none
 |none=>none
theorem zJz{l:List Nat}(h:yGz l=true):l.length≤60∧ ∀c∈l,c≤1114111:=by
 simp only[yGz,Bool.and_eq_true,decide_eq_true_eq,List.all_eq_true]at h
 refine ⟨h.1,fun c hc=> ?_⟩
 have:=h.2 c hc
 simp only[zgTz,Bool.and_eq_true,decide_eq_true_eq]at this
 exact this.1
theorem zrkz{l:List Nat}(h:yGz l=true):yaz (zzz l)=some l:=by
 unfold yaz
 obtain ⟨h1,h2⟩:=zJz h
 rw[zo3z l h1 h2]
 exact if_pos ⟨h,rfl⟩
theorem zaVz(s l:List Nat):yaz s=some l↔yGz l=true∧zzz l=s:=by
 constructor
 ·intro h
  unfold yaz at h
  split at h
  ·split at h
   ·next hh=>cases h;exact hh
   cases h
  cases h
 rintro ⟨h,rfl⟩
 exact zrkz h
theorem jyz{l:List Nat}: ∀c∈zzz l,c<128:=by
 intro c hc
 unfold zzz at hc
 rcases List.mem_append.1 hc with hc|hc
 ·rcases List.mem_append.1 hc with hc|hc
  ·have:=(List.mem_filter.1 hc).2
   simpa using this
  split at hc
  ·rw[List.mem_singleton.1 hc];omega
  simp at hc
 obtain ⟨v,hv,rfl⟩:=List.mem_map.1 hc
 exact (zdRz (zh6z l v hv)).1
def zdTz(delta n:Int)(first:Bool):Int:=if 0≤delta∧1≤n then (zvz delta.toNat n.toNat first:Int)else 0
theorem zgUz: ∀(f d k:Nat),z1z f d k≤k+36*f+36
 |0,d,k=>by
  unfold z1z
  have:36*d/(d+38)≤36:=Nat.div_le_of_le_mul (by omega)
  omega
 |f+1,d,k=>by
  unfold z1z
  split
  ·have:=zgUz f (d/35) (k+36);omega
  have:36*d/(d+38)≤36:=Nat.div_le_of_le_mul (by omega)
  omega
theorem xkz(d n:Nat)(first:Bool):zvz d n first≤2400:=by
 unfold zvz
 split
 ·omega
 have:=zgUz 64 ((if first then d/700 else d/2)+(if first then d/700 else d/2)/n) 0
 omega
theorem jZz{f d k:Nat}(h:455<d)(hf:d<2^f): ∃g,f=g+1∧z1z f d k=z1z g (d/35) (k+36)∧d/35<2^g:=by
 cases f with
 |zero=>simp at hf;omega
 |succ g=>
  refine ⟨g,rfl,by rw[z1z,if_pos h],?_⟩
  have h4:2^(g+1)=2*2^g:=by rw[Nat.pow_succ];omega
  omega
theorem zaWz{f d k:Nat}(h:d≤455):z1z f d k=k+36*d/(d+38):=by
 cases f with
 |zero=>rfl
 |succ g=>rw[z1z,if_neg (by omega)]
theorem zgVz{delta n:Nat}{first:Bool}(h1:(delta:Int)≤1000000000000)(h2:1≤(n:Int))(h3:(n:Int)≤1000000)(x:Nat)(hx:x=if first then delta/700 else delta/2):zvz delta n first=z1z 64 (x+x/n) 0:=by
 unfold zvz
 rw[if_neg (by omega),hx]
theorem zaXz(delta n:Nat)(first:Bool)(w:World)(h1:(delta:Int)≤1000000000000)(h2:1≤(n:Int))(h3:(n:Int)≤1000000):
  Calls Tryz.prog 229 #[.int .i64 (delta:Int),.int .i64 (n:Int),.bool first] w fun e w'=>e=.returned (.int .i64 (zvz delta n first:Int))∧w=w':=by
 have h0:0≤(delta:Int):=by omega
 obtain ⟨x,hx⟩: ∃x:Nat,x=if first then delta/700 else delta/2:=⟨_,rfl⟩
 have HN:Hid (zvz delta n first=z1z 64 (x+x/n) 0):=zgVz h1 h2 h3 x hx
 have hy:x/n≤x:=Nat.div_le_self x n
 have hne: ¬(n:Int)=0:=by omega
 have hxle:(x:Int)≤500000000000:=by cases first<;>simp at hx<;>omega
 obtain ⟨z,hz⟩: ∃z:Nat,x/n=z:=⟨_,rfl⟩
 have hZ:(x:Int)/(n:Int)=(z:Int):=by rw[←hz];simp
 rw[hz]at HN hy
 have hzle:(z:Int)≤(x:Int):=by omega
 have HP:Hid (x+z<2^64):=by
  show _<_
  have:(2:Nat)^64=18446744073709551616:=by decide
  omega
 clear hz hy
 cases first with
 |true=>
  have hX:(delta:Int)/700=(x:Int):=by simp at hx;omega
  clear hx
  go_enter Tryz.func229,Tryz.ntmps229
  go_wp2_with fail
  refine (zgz _ _ _ _ h0 h1).mono ?_
  rintro e w' ⟨rfl,rfl⟩
  go_wp2_with fail
  refine (zgz _ _ _ _ h2 h3).mono ?_
  rintro e w' ⟨rfl,rfl⟩
  go_wp2_with fail
  go_loop[0,7] (fun a b=> ∃f d k:Nat,a=.int .i64 d∧b=.int .i64 k∧d≤x+z∧k+36*f≤2304∧d<2^f∧z1z f d k=z1z 64 (x+z) 0) (fun a _=>(intOf a).toNat)
  case atStart=>exact ⟨64,x+z,0,by simp,rfl,Nat.le_refl _,by omega,HP.out,rfl⟩
  obtain ⟨f,d,k,rfl,rfl,hd,hk,hf,he⟩:=hrel
  have HE:Hid (z1z f d k=z1z 64 (x+z) 0):=he
  have HF:Hid (d<2^f):=hf
  clear he hf
  by_cases hlt:455<(d:Int)
  ·obtain ⟨g,hg,he,hl⟩:=jZz (k:=k) (show 455<d by omega) HF.out
   have HE2:Hid (z1z g (d/35) (k+36)=z1z 64 (x+z) 0):=he.symm.trans HE.out
   have HF2:Hid (d/35<2^g):=hl
   clear he hl
   go_wp2
   go_round
   case rel=>exact ⟨g,d/35,k+36,by simp,by go_num,by omega,by omega,HF2.out,HE2.out⟩
   case measure=>simp[intOf];omega
  have HR:Hid (zvz delta n true=k+36*d/(d+38)):=by show _=_;rw[HN.out,←HE.out,zaWz (by omega)]
  have hnz: ¬(d:Int)+38=0:=by omega
  have hr0:36*d/(d+38)≤36:=Nat.div_le_of_le_mul (by omega)
  obtain ⟨r,hr⟩: ∃r:Nat,36*d/(d+38)=r:=⟨_,rfl⟩
  have hR:(36*(d:Int))/((d:Int)+38)=(r:Int):=by rw[←hr];simp
  rw[hr]at HR hr0
  clear hr
  go_wp2
  go_ret
  exact ⟨zqz (by rw[HR.out];simp),rfl⟩
 |false=>
  have hX:(delta:Int)/2=(x:Int):=by simp at hx;omega
  clear hx
  go_enter Tryz.func229,Tryz.ntmps229
  go_wp2_with fail
  refine (zgz _ _ _ _ h0 h1).mono ?_
  rintro e w' ⟨rfl,rfl⟩
  go_wp2_with fail
  refine (zgz _ _ _ _ h2 h3).mono ?_
  rintro e w' ⟨rfl,rfl⟩
  go_wp2_with fail
  go_loop[0,7] (fun a b=> ∃f d k:Nat,a=.int .i64 d∧b=.int .i64 k∧d≤x+z∧k+36*f≤2304∧d<2^f∧z1z f d k=z1z 64 (x+z) 0) (fun a _=>(intOf a).toNat)
  case atStart=>exact ⟨64,x+z,0,by simp,rfl,Nat.le_refl _,by omega,HP.out,rfl⟩
  obtain ⟨f,d,k,rfl,rfl,hd,hk,hf,he⟩:=hrel
  have HE:Hid (z1z f d k=z1z 64 (x+z) 0):=he
  have HF:Hid (d<2^f):=hf
  clear he hf
  by_cases hlt:455<(d:Int)
  ·obtain ⟨g,hg,he,hl⟩:=jZz (k:=k) (show 455<d by omega) HF.out
   have HE2:Hid (z1z g (d/35) (k+36)=z1z 64 (x+z) 0):=he.symm.trans HE.out
   have HF2:Hid (d/35<2^g):=hl
   clear he hl
   go_wp2
   go_round
   case rel=>exact ⟨g,d/35,k+36,by simp,by go_num,by omega,by omega,HF2.out,HE2.out⟩
   case measure=>simp[intOf];omega
  have HR:Hid (zvz delta n false=k+36*d/(d+38)):=by show _=_;rw[HN.out,←HE.out,zaWz (by omega)]
  have hnz: ¬(d:Int)+38=0:=by omega
  have hr0:36*d/(d+38)≤36:=Nat.div_le_of_le_mul (by omega)
  obtain ⟨r,hr⟩: ∃r:Nat,36*d/(d+38)=r:=⟨_,rfl⟩
  have hR:(36*(d:Int))/((d:Int)+38)=(r:Int):=by rw[←hr];simp
  rw[hr]at HR hr0
  clear hr
  go_wp2
  go_ret
  exact ⟨zqz (by rw[HR.out];simp),rfl⟩
theorem zauz{delta n:Int}{first:Bool}(h:0≤delta∧1≤n):zdTz delta n first=(zvz delta.toNat n.toNat first:Int):=if_pos h
theorem zfjz{delta n:Int}{first:Bool}(h:delta<0∨1000000000000<delta∨n<1∨1000000<n):zdTz delta n first=0:=by
 unfold zdTz
 split
 ·unfold zvz
  rw[if_pos (by omega)]
  rfl
 rfl
theorem zbOz(delta n:Int)(first:Bool)(w:World):
  Calls Tryz.prog 229 #[.int .i64 delta,.int .i64 n,.bool first] w fun e w'=>e=.returned (.int .i64 (zdTz delta n first))∧w=w':=by
 by_cases h1:0≤delta∧delta≤1000000000000
 ·by_cases h2:1≤n∧n≤1000000
  ·rw[zauz ⟨h1.1,h2.1⟩]
   obtain ⟨d,rfl⟩:=Int.eq_ofNat_of_zero_le h1.1
   obtain ⟨m,rfl⟩:=Int.eq_ofNat_of_zero_le (show 0≤n by omega)
   exact zaXz d m first w h1.2 h2.1 h2.2
  have HV:Hid (zdTz delta n first=0):=zfjz (by omega)
  have H2:Hid (n<1∨1000000<n):=by show _∨_;omega
  obtain ⟨a1,a2⟩:=h1
  clear h2
  go_enter Tryz.func229,Tryz.ntmps229
  go_wp2_with fail
  refine (zgz _ _ _ _ a1 a2).mono ?_
  rintro e w' ⟨rfl,rfl⟩
  go_wp2_with fail
  refine (zmz _ _ _ _ H2.out).mono ?_
  rintro e w' ⟨rfl,rfl⟩
  go_wp2_with fail
  go_ret
  exact ⟨zqz (by rw[HV.out]),rfl⟩
 have HV:Hid (zdTz delta n first=0):=zfjz (by omega)
 have H1:Hid (delta<0∨1000000000000<delta):=by show _∨_;omega
 clear h1
 go_enter Tryz.func229,Tryz.ntmps229
 go_wp2_with fail
 refine (zmz _ _ _ _ H1.out).mono ?_
 rintro e w' ⟨rfl,rfl⟩
 go_wp2_with fail
 go_ret
 exact ⟨zqz (by rw[HV.out]),rfl⟩
def b8(l:List Nat):List UInt8:=l.map UInt8.ofNat
theorem znnz(a b:List Nat):b8 (a++b)=b8 a++b8 b:=List.map_append
theorem zbPz(a:List Nat):(b8 a).length=a.length:=List.length_map _
theorem xqz{w1:World}{B:Nat}{e:TypeId}{v:Value}{o:List Nat}{x:Int}(c:Nat)(hc:c<256)(hx:x=(c:Int))
  (h:w1.ownsRow B e 1 v (o.length+1) (zcz (b8 o)++ #[Value.int .u8 x].toList)):w1.ownsRow B e 1 v (o++[c]).length (zcz (b8 (o++[c]))):=by
 subst hx
 have e1:((UInt8.ofNat c).toNat:Int)=(c:Int):=by simp;omega
 rw[znnz,xdz,List.length_append]
 show w1.ownsRow B e 1 v (o.length+1) (zcz (b8 o)++[Value.int .u8 ((UInt8.ofNat c).toNat:Int)])
 rw[e1]
 exact h
theorem yCz(x:Int): ∀u∈ #[Value.int .u8 x].toList,u.oneCell'=true:=by
 intro u hu;simp at hu;subst hu;rfl
theorem zgWz(n:Nat)(w:World)(h:(n:Int)<36):
  Calls Tryz.prog 255 #[.int .i64 (n:Int)] w fun e w'=>e=.returned (.int .u8 (zIz n:Int))∧w=w':=by
 by_cases h1:(n:Int)<26
 ·have HV:Hid ((zIz n:Int)=97+n):=by show _=_;unfold zIz;rw[if_pos (by omega)];omega
  go_enter Tryz.func255,Tryz.ntmps255
  go_wp2
  go_ret
  exact ⟨zqz (by rw[HV.out]<;>omega),rfl⟩
 have HV:Hid ((zIz n:Int)=22+n):=by show _=_;unfold zIz;rw[if_neg (by omega)];omega
 go_enter Tryz.func255,Tryz.ntmps255
 go_wp2
 go_ret
 exact ⟨zqz (by rw[HV.out]<;>omega),rfl⟩
theorem zgXz(k bias:Nat)(w:World)(h1:(k:Int)≤1099511627776)(h2:(bias:Int)≤1099511627776):
  Calls Tryz.prog 254 #[.int .i64 (k:Int),.int .i64 (bias:Int)] w fun e w'=>e=.returned (.int .i64 (zFz k bias:Int))∧w=w':=by
 have hk:0≤(k:Int):=by omega
 have hb:0≤(bias:Int):=by omega
 by_cases h3:(k:Int)-(bias:Int)<1
 ·have HV:Hid (zFz k bias=1):=by show _=_;unfold zFz;rw[if_pos (by omega)]
  go_enter Tryz.func254,Tryz.ntmps254
  go_wp2
  go_ret
  exact ⟨zqz (by rw[HV.out]<;>omega),rfl⟩
 by_cases h4:26<(k:Int)-(bias:Int)
 ·have HV:Hid (zFz k bias=26):=by show _=_;unfold zFz;rw[if_neg (by omega),if_pos (by omega)]
  go_enter Tryz.func254,Tryz.ntmps254
  go_wp2
  go_ret
  exact ⟨zqz (by rw[HV.out]<;>omega),rfl⟩
 have HV:Hid (zFz k bias=k-bias):=by show _=_;unfold zFz;rw[if_neg (by omega),if_neg (by omega)]
 go_enter Tryz.func254,Tryz.ntmps254
 go_wp2
 go_ret
 exact ⟨zqz (by rw[HV.out]<;>omega),rfl⟩
theorem zjpz{f k bias q:Nat}(h:q<zFz k bias):yjz (f+1) k bias q=[q]:=by rw[yjz,if_pos h]
theorem zgYz{f k bias q:Nat}(hq:q<2^f)(h: ¬q<zFz k bias): ∃g,f=g+1∧(q-zFz k bias)/(36-zFz k bias)<2^g∧
  yjz (f+1) k bias q=(zFz k bias+(q-zFz k bias)%(36-zFz k bias))::yjz (g+1) (k+36) bias ((q-zFz k bias)/(36-zFz k bias)):=by
 obtain ⟨l1,l2⟩:=zaUz k bias
 cases f with
 |zero=>simp at hq;omega
 |succ g=>exact ⟨g,rfl,zjkz q _ g l1 l2 hq,by rw[yjz,if_neg h]⟩
theorem zaYz(q0 bias:Nat)(o0:List Nat)(v0:Value)(B:Nat)(w:World)(hq:(q0:Int)≤67960831)(hb:(bias:Int)≤2400)(hown0:w.ownsRow B 5 1 v0 o0.length (zcz (b8 o0)))(hB:B≤w.heap.size)(ho:o0.length≤1099511627776):
  Calls Tryz.prog 228 #[v0,.int .i64 (q0:Int),.int .i64 (bias:Int)] w fun e w'=> ∃v',e=.returned v'∧w'.ownsRow B 5 1 v' (o0++(yjz 28 36 bias q0).map zIz).length (zcz (b8 (o0++(yjz 28 36 bias q0).map zIz)))∧Below B w w':=by
 have hb0:0≤(bias:Int):=by omega
 have HP:Hid (q0<2^27):=by
  show _<_
  have:(2:Nat)^27=134217728:=by decide
  omega
 go_enter Tryz.func228,Tryz.ntmps228
 go_wp2_with fail
 go_loopw[0,1,7] (fun v a b wr=> ∃(f q k:Nat) (o:List Nat),a=.int .i64 q∧b=.int .i64 k∧q≤q0∧k+36*f=36*28∧q<2^f∧o.length+f≤o0.length+27∧o++(yjz (f+1) k bias q).map zIz=o0++(yjz 28 36 bias q0).map zIz∧wr.ownsRow B 5 1 v o.length (zcz (b8 o))∧Below B w wr) (fun _ a _ _=>(intOf a).toNat)
 case atStart=>exact ⟨27,q0,36,o0,rfl,rfl,Nat.le_refl _,rfl,HP.out,by omega,rfl,hown0,Below.refl _ _⟩
 obtain ⟨f,q,k,o,rfl,rfl,hq1,hk,hf,hol,he,hown,hbel⟩:=hrel
 have HE:Hid (o++(yjz (f+1) k bias q).map zIz=o0++(yjz 28 36 bias q0).map zIz):=he
 have HF:Hid (q<2^f):=hf
 have hsz:=hbel.size
 obtain ⟨l1,l2⟩:=zaUz k bias
 have ct:=fun W=>zgXz k bias W (by omega) (by omega)
 clear he hf
 by_cases hlt:q<zFz k bias
 ·have HR:Hid (o++[zIz q]=o0++(yjz 28 36 bias q0).map zIz):=by show _=_;rw[←HE.out,zjpz hlt];rfl
  have cd:=fun W=>zgWz q W (by omega)
  have hdl:=(zdRz (show q<36 by omega)).1
  generalize zFz k bias=t at ct l1 l2 hlt
  generalize zIz q=c at cd HR hdl
  have CT:Hid (∀W,CS 254 #[.int .i64 (k:Int),.int .i64 (bias:Int)] W (.int .i64 (t:Int))):=ct
  have CD:Hid (∀W,CS 255 #[.int .i64 (q:Int)] W (.int .u8 (c:Int))):=cd
  have hqt:(q:Int)<(t:Int):=by omega
  clear ct cd
  go_wp2_with fail
  refine (CT.out _).mono ?_
  rintro e w' ⟨rfl,rfl⟩
  go_wp2_with fail
  refine (CD.out _).mono ?_
  rintro e w' ⟨rfl,rfl⟩
  go_wp2_with (at_builtin;refine zbz _ rfl _ _ 22 rfl B 5 (.int .u8 0) 1 Tryz.underlying22 Tryz.info5 rfl _ _ _ rfl hown #[.int .u8 (c:Int)] 1 rfl rfl (yCz _) (by omega) (by unfold maxLen;omega) (by omega) ?_)
  intro v' w1 hown' hb1
  have R:=xqz c (by omega) rfl hown'
  rw[HR.out]at R
  clear hown'
  go_wp2_with fail
  go_ret
  exact ⟨_,rfl,R,hbel.trans hb1⟩
 obtain ⟨g,hg,hl,hnum⟩:=zgYz (k:=k) (bias:=bias) HF.out hlt
 have hm:(q-zFz k bias)%(36-zFz k bias)<36-zFz k bias:=Nat.mod_lt _ (by omega)
 have hdv:(q-zFz k bias)/(36-zFz k bias)≤(q-zFz k bias):=Nat.div_le_self _ _
 have HR:Hid ((o++[zIz (zFz k bias+(q-zFz k bias)%(36-zFz k bias))])++(yjz (g+1) (k+36) bias ((q-zFz k bias)/(36-zFz k bias))).map zIz=o0++(yjz 28 36 bias q0).map zIz):=by
  show _=_
  rw[←HE.out,hnum]
  simp
 have HL:Hid ((q-zFz k bias)/(36-zFz k bias)<2^g):=hl
 clear hnum hl
 generalize zFz k bias=t at ct l1 l2 hlt HR HL hm hdv
 have hqt: ¬(q:Int)<(t:Int):=by omega
 have hc1:((q-t:Nat):Int)=(q:Int)-(t:Int):=by omega
 have hc2:((36-t:Nat):Int)=36-(t:Int):=by omega
 have hM:((q:Int)-(t:Int))%(36-(t:Int))=(((q-t)%(36-t):Nat):Int):=by rw[←hc1,←hc2];norm_cast
 have hQ:((q:Int)-(t:Int))/(36-(t:Int))=(((q-t)/(36-t):Nat):Int):=by rw[←hc1,←hc2];norm_cast
 generalize (q-t)%(36-t)=m at hM HR hm
 generalize (q-t)/(36-t)=q' at hQ HR HL hdv
 have cd:=fun W=>zgWz (t+m) W (by omega)
 have hdl:=(zdRz (show t+m<36 by omega)).1
 generalize zIz (t+m)=c at cd HR hdl
 have hne: ¬36-(t:Int)=0:=by omega
 have ht0:1≤(t:Int):=by omega
 have ht1:(t:Int)≤26:=by omega
 have hm0:(m:Int)<36-(t:Int):=by omega
 have CT:Hid (∀W,CS 254 #[.int .i64 (k:Int),.int .i64 (bias:Int)] W (.int .i64 (t:Int))):=ct
 have CD:Hid (∀W,CS 255 #[.int .i64 ((t:Int)+(m:Int))] W (.int .u8 (c:Int))):=fun W=>by
  have h:=cd W
  rw[show ((t+m:Nat):Int)=(t:Int)+(m:Int) by omega]at h
  exact h
 clear ct cd hc1 hc2
 go_wp2_with fail
 refine (CT.out _).mono ?_
 rintro e w' ⟨rfl,rfl⟩
 go_wp2_with fail
 refine (CD.out _).mono ?_
 rintro e w' ⟨rfl,rfl⟩
 go_wp2_with (at_builtin;refine zbz _ rfl _ _ 22 rfl B 5 (.int .u8 0) 1 Tryz.underlying22 Tryz.info5 rfl _ _ _ rfl hown #[.int .u8 (c:Int)] 1 rfl rfl (yCz _) (by omega) (by unfold maxLen;omega) (by omega) ?_)
 intro v' w1 hown' hb1
 have R:=xqz c (by omega) rfl hown'
 have B1:Below B w w1:=hbel.trans hb1
 clear hown' hb1 hown hbel
 go_wp2_with fail
 go_roundw
 case rel=>exact ⟨g,q',k+36,o++[c],by go_num,by go_num,by omega,by omega,HL.out,by simp;omega,HR.out,R,B1⟩
 case measure=>simp[intOf];omega
def jez(n:Nat):Nat→List Nat→Nat
 |m,[]=>m
 |m,c::r=>jez n (if n≤c∧c<m then c else m) r
theorem zdUz(n:Nat): ∀(l:List Nat) (m:Nat),m≤1114112→jez n m l=if ziz n l<m then ziz n l else m
 |[],m,h=>by rw[jez,ziz,if_neg (by omega)]
 |c::r,m,h=>by
  rw[jez,zdUz n r _ (by split<;>omega),ziz]
  generalize ziz n r=x
  by_cases h1:n≤c
  ·by_cases h2:c<m
   ·by_cases h3:c<x
    ·simp only[h1,h2,h3,and_self,if_true]
     rw[if_neg (by omega)]
    simp only[h1,h2,h3,and_self,and_false,if_true,if_false]
    split<;>split<;>omega
   by_cases h3:c<x
   ·simp only[h1,h2,h3,and_self,and_false,if_true,if_false]
    rw[if_neg (by omega)]
   simp only[h1,h2,h3,and_false,if_false]
  simp only[h1,false_and,if_false]
theorem zgZz(n:Nat): ∀(l:List Nat),ziz n l≤1114112
 |[]=>Nat.le_refl _
 |c::r=>by
  have:=zgZz n r
  unfold ziz
  split<;>omega
theorem zo4z(n:Nat)(l:List Nat):jez n 1114112 l=ziz n l:=by
 rw[zdUz n l _ (Nat.le_refl _)]
 have:=zgZz n l
 split<;>omega
def icN(l:List Nat):List Value:=zlz (l.map fun (c:Nat)=>(c:Int))
theorem vBz{w:World}{B:Nat}{e:TypeId}{g n cap:Nat}{l:List Nat}(h:w.ownsRow B e 1 (.slice (some ⟨g,0,none⟩) n cap) n (icN l))(k:Nat)(hk:k<n):w.cell? ⟨g,k,none⟩=some (.int .i64 (l.getD k 0:Int)):=by
 have hl:l.length=n:=by have:=h.1;simpa[icN,zlz] using this
 rw[zakz h k hk]
 simp[List.getD,show k<l.length by omega]
theorem jLz(l:List Nat)(k:Nat)(h:k<l.length):l.drop k=l.getD k 0::l.drop (k+1):=by
 rw[List.drop_eq_getElem_cons h]
 simp[List.getD,h]
theorem zg0z(l:List Nat)(n0 N cap g:Nat)(B:Nat)(w:World)(hN:l.length=N)(hN1:N≤1048576)(hv: ∀c∈l,c≤1114111)(hown:w.ownsRow B 3 1 (.slice (some ⟨g,0,none⟩) N cap) N (icN l)):
  Calls Tryz.prog 227 #[.slice (some ⟨g,0,none⟩) N cap,.int .i64 (n0:Int)] w fun e w'=>e=.returned (.int .i64 (ziz n0 l:Int))∧w=w':=by
 have HL:Hid (l.length=N):=hN
 have HV:Hid (∀c∈l,c≤1114111):=hv
 clear hN hv
 go_enter Tryz.func227,Tryz.ntmps227
 go_wp2_with fail
 go_loop[5,6] (fun a i=> ∃k m:Nat,k≤N∧i=.int .i64 k∧a=.int .i64 m∧m≤1114112∧jez n0 m (l.drop k)=ziz n0 l) (fun _ i=>N-(intOf i).toNat)
 case atStart=>exact ⟨0,1114112,Nat.zero_le _,rfl,rfl,Nat.le_refl _,zo4z n0 l⟩
 obtain ⟨k,m,hk,rfl,rfl,hm,he⟩:=hrel
 have HE:Hid (jez n0 m (l.drop k)=ziz n0 l):=he
 clear he
 by_cases hlt:k<N
 ·have ca:=vBz hown k hlt
  have HS:Hid (l.drop k=l.getD k 0::l.drop (k+1)):=jLz l k (by have:=HL.out;omega)
  have hc:=HV.out (l.getD k 0) (by
   rw[List.getD_eq_getElem?_getD,List.getElem?_eq_getElem (by have:=HL.out;omega)]
   exact List.getElem_mem _)
  generalize l.getD k 0=c at ca HS hc
  have HR:Hid (jez n0 (if n0≤c∧c<m then c else m) (l.drop (k+1))=ziz n0 l):=by show _=_;rw[←HE.out,HS.out];rfl
  by_cases h1:(n0:Int)≤(c:Int)
  ·by_cases h2:(c:Int)<(m:Int)
   ·rw[if_pos (by omega)]at HR
    go_wp2_with fail
    go_round
    case rel=>exact ⟨k+1,c,by omega,by go_num,rfl,by omega,HR.out⟩
    case measure=>simp[intOf];omega
   rw[if_neg (by omega)]at HR
   go_wp2_with fail
   go_round
   case rel=>exact ⟨k+1,m,by omega,by go_num,rfl,hm,HR.out⟩
   case measure=>simp[intOf];omega
  rw[if_neg (by omega)]at HR
  go_wp2_with fail
  go_round
  case rel=>exact ⟨k+1,m,by omega,by go_num,rfl,hm,HR.out⟩
  case measure=>simp[intOf];omega
 have HR:Hid (m=ziz n0 l):=by
  show _=_
  rw[←HE.out,List.drop_of_length_le (by have:=HL.out;omega)]
  rfl
 go_wp2_with fail
 go_ret
 exact ⟨zqz (by rw[←HR.out]),rfl⟩
end Go.Proofs.YtgcbaphbiaimoaaGreatDoor
