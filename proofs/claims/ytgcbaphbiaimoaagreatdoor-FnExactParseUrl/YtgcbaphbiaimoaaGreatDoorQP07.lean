/- RunesBack, PunyPlain, AdaptWalk, PunyEnc. -/
import Derived.Test.YtgcbaphbiaimoaaGreatDoorQP06
set_option maxHeartbeats 4000000
set_option maxRecDepth 20000
namespace Go.Proofs.YtgcbaphbiaimoaaGreatDoor
theorem zg5z(s:ByteArray)(p:Nat)(h:okAt s p):ytz ((Utf8.decode s p).1:Int):=by
 unfold okAt at h
 rw[Lib.decode_at]at h⊢
 generalize (s.get! p).toNat=b0 at*
 generalize (s.get! (p+1)).toNat=b1 at*
 generalize (s.get! (p+2)).toNat=b2 at*
 generalize (s.get! (p+3)).toNat=b3 at*
 unfold ytz
 rcases Lib.decodeN_shape (s.size-p) b0 b1 b2 b3 with ⟨c,e⟩|⟨c1,c2,c3,cv,e⟩|⟨c1,c2,c3,c4,cv,cs,e⟩|⟨c1,c2,c3,c4,c5,cv,cs,e⟩|e
 ·rw[e];simp only;omega
 ·rw[e];simp only;omega
 ·rw[e];simp only;omega
 ·rw[e];simp only;omega
 rw[e]at h;simp at h
theorem zpKz(s:ByteArray)(k:Nat):zdmz (stR s k).2∧zejz (stR s k).2=s.data.toList.take (stR s k).1:=by
 induction k with
 |zero=>exact ⟨fun r hr=>by simp[stR]at hr,by simp[stR,zejz]⟩
 |succ k ih=>
  obtain ⟨i1,i2⟩:=ih
  rw[stR]
  split
  ·rename_i g
   refine ⟨fun r hr=> ?_,?_⟩
   ·rcases List.mem_append.1 hr with hr|hr
    ·exact i1 r hr
    rw[List.mem_singleton.1 hr];exact zg5z s _ g.2
   have hne:s.data.toList.drop (stR s k).1≠[]:=by
    intro e
    have:=congrArg List.length e
    simp at this
    omega
   have hd:=Lib.encode_decode (s.data.toList.drop (stR s k).1) hne (by rw[Lib.decodeL_drop];exact g.2)
   rw[Lib.decodeL_drop]at hd
   simp only
   rw[zjYz,i2,hd,List.take_add]
  exact ⟨i1,i2⟩
theorem zpLz(s:ByteArray)(h:(z2z s).1=s.size):zdmz (z2z s).2∧zejz (z2z s).2=s.data.toList:=by
 obtain ⟨a,b⟩:=zpKz s s.size
 unfold z2z at h⊢
 refine ⟨a,?_⟩
 rw[b,h,ynz s _ (Nat.le_refl _)]
end Go.Proofs.YtgcbaphbiaimoaaGreatDoor
namespace Go.Proofs.YtgcbaphbiaimoaaGreatDoor
open Go.RowKit
def zFz(k bias:Nat):Nat:=if k≤bias then 1 else if 26<k-bias then 26 else k-bias
theorem zbbz(k bias:Nat):1≤zFz k bias∧zFz k bias≤26:=by
 unfold zFz
 split
 ·omega
 split<;>omega
def yiz:Nat→Nat→Nat→Nat→List Nat
 |0,_,_,_=>[]
 |f+1,k,bias,q=>if q<zFz k bias then [q]else (zFz k bias+(q-zFz k bias)%(36-zFz k bias))::yiz f (k+36) bias ((q-zFz k bias)/(36-zFz k bias))
def yjz(bias:Nat):Nat→Nat→Nat→List Nat→Option (Nat×List Nat)
 |_,_,_,[]=>none
 |k,i,w,d::ds=>if 1099511627776<i∨1099511627776<w∨36≤d then none else if d<zFz k bias then some (i+d*w,ds)else yjz bias (k+36) (i+d*w) (w*(36-zFz k bias)) ds
theorem zpMz(q t:Nat)(h:t≤q):(t+(q-t)%(36-t))+(36-t)*((q-t)/(36-t))=q:=by
 have:=Nat.mod_add_div (q-t) (36-t)
 omega
theorem zj0z(q t f:Nat)(h1:1≤t)(h2:t≤26)(hq:q<2^(f+1)):(q-t)/(36-t)<2^f:=by
 have h3:(q-t)/(36-t)≤(q-t)/2:=Nat.div_le_div_left (by omega) (by omega)
 have h4:2^(f+1)=2*2^f:=by rw[Nat.pow_succ];omega
 omega
theorem zpNz(bias:Nat)(r:List Nat): ∀(f k q i w:Nat),q<2^f→i+w*q≤17179869184→w≤1099511627776→yjz bias k i w (yiz (f+1) k bias q++r)=some (i+w*q,r):=by
 intro f
 induction f with
 |zero=>
  intro k q i w hq hi hw
  have h0:q=0:=by simpa using hq
  subst h0
  have hl:=zbbz k bias
  have e:yiz (0+1) k bias 0=[0]:=by unfold yiz;rw[if_pos (by omega)]
  rw[e]
  show yjz bias k i w (0::r)=_
  unfold yjz
  rw[if_neg (by omega),if_pos (by omega)]
  simp
 |succ f ih=>
  intro k q i w hq hi hw
  obtain ⟨l1,l2⟩:=zbbz k bias
  by_cases hlt:q<zFz k bias
  ·have e:yiz (f+1+1) k bias q=[q]:=by rw[yiz,if_pos hlt]
   rw[e]
   show yjz bias k i w (q::r)=_
   unfold yjz
   rw[if_neg (by omega),if_pos hlt,Nat.mul_comm q w]
  have e:yiz (f+1+1) k bias q=(zFz k bias+(q-zFz k bias)%(36-zFz k bias))::yiz (f+1) (k+36) bias ((q-zFz k bias)/(36-zFz k bias)):=by rw[yiz,if_neg hlt]
  rw[e]
  obtain ⟨t,ht⟩: ∃t,zFz k bias=t:=⟨_,rfl⟩
  rw[ht]at hlt l1 l2⊢
  have hs:=zpMz q t (by omega)
  have hless:=zj0z q t f l1 l2 hq
  have hm:(q-t)%(36-t)<36-t:=Nat.mod_lt _ (by omega)
  have hw1:w≤w*q:=Nat.le_mul_of_pos_right w (by omega)
  generalize (q-t)%(36-t)=m at*
  generalize (q-t)/(36-t)=q' at*
  have hsum:i+(t+m)*w+w*(36-t)*q'=i+w*q:=by
   rw[←hs,Nat.mul_add,Nat.mul_comm (t+m) w,Nat.mul_assoc]
   omega
  have hw2:w*(36-t)≤w*35:=Nat.mul_le_mul_left w (by omega)
  show yjz bias k i w ((t+m)::(yiz (f+1) (k+36) bias q'++r))=_
  unfold yjz
  rw[if_neg (by omega),if_neg (by omega),ht,ih (k+36) q' _ _ hless (by omega) (by omega),hsum]
def zKz(n:Nat):Nat:=if n<26 then 97+n else 22+n
def zyz(c:Nat):Nat:=if 97≤c∧c≤122 then c-97 else if 48≤c∧c≤57 then c-22 else 36
theorem zr8z{n:Nat}(h:n<36):zyz (zKz n)=n:=by
 unfold zKz zyz
 split
 ·rw[if_pos (by omega)];omega
 rw[if_neg (by omega),if_pos (by omega)];omega
theorem zelz{n:Nat}(h:n<36):zKz n<128∧zKz n≠45:=by
 unfold zKz
 split<;>omega
theorem ztzz(bias:Nat): ∀(f k q:Nat),∀d∈yiz f k bias q,d<36:=by
 intro f
 induction f with
 |zero=>intro k q d h;simp[yiz]at h
 |succ f ih=>
  intro k q d h
  obtain ⟨l1,l2⟩:=zbbz k bias
  unfold yiz at h
  split at h
  ·rw[List.mem_singleton.1 h];omega
  rcases List.mem_cons.1 h with h|h
  ·rw[h]
   have hm:(q-zFz k bias)%(36-zFz k bias)<36-zFz k bias:=Nat.mod_lt _ (by omega)
   omega
  exact ih _ _ d h
theorem zm6z(bias f k q:Nat):yiz (f+1) k bias q≠[]:=by
 unfold yiz
 split<;>simp
def zZz:Nat→Nat→Nat→Nat
 |0,d,k=>k+36*d/(d+38)
 |f+1,d,k=>if 455<d then zZz f (d/35) (k+36)else k+36*d/(d+38)
def zuz(delta n:Nat)(first:Bool):Nat:=
 if 1000000000000<delta∨n<1∨1000000<n then 0
 else zZz 64 ((if first then delta/700 else delta/2)+(if first then delta/700 else delta/2)/n) 0
def zez(n:Nat):List Nat→Nat→List Nat×Nat
 |[],d=>([],d)
 |c::r,d=>if c<n then zez n r (d+1)else if c=n then (d::(zez n r 0).1,(zez n r 0).2)else zez n r d
def ziz(n:Nat):List Nat→Nat
 |[]=>1114112
 |c::r=>if n≤c∧c<ziz n r then c else ziz n r
def yCz(l:List Nat):Nat→Nat→Nat→Nat→List Nat
 |0,_,_,_=>[]
 |f+1,n,d,h=>if h<l.length then (zez (ziz n l) l (d+(ziz n l-n)*(h+1))).1++yCz l f (ziz n l+1) ((zez (ziz n l) l (d+(ziz n l-n)*(h+1))).2+1) (h+(zez (ziz n l) l (d+(ziz n l-n)*(h+1))).1.length)else []
def ypz(i x:Nat)(l:List Nat):List Nat:=l.take i++x::l.drop i
theorem zobz(a b:List Nat)(x:Nat):ypz a.length x (a++b)=a++x::b:=by simp[ypz]
def insD:Nat→Nat→List Nat→List Nat→Option (List Nat)
 |_,_,out,[]=>some out
 |n,i,out,d::ds=>
  if 60<out.length+1∨1114111<n+(i+d)/(out.length+1)then none
  else insD (n+(i+d)/(out.length+1)) ((i+d)%(out.length+1)+1) (ypz ((i+d)%(out.length+1)) (n+(i+d)/(out.length+1)) out) ds
theorem zpOz(n0 i0 d n pos:Nat)(out ds:List Nat)(hn:n0≤n)(hp:pos≤out.length)(hl:out.length<60)(hm:n≤1114111)(he:d+i0+n0*(out.length+1)=n*(out.length+1)+pos):
  insD n0 i0 out (d::ds)=insD n (pos+1) (ypz pos n out) ds:=by
 have hx:i0+d=(n-n0)*(out.length+1)+pos:=by
  have h1:(n-n0)*(out.length+1)+n0*(out.length+1)=n*(out.length+1):=by rw[←Nat.add_mul];congr 1;omega
  omega
 have hdiv:(i0+d)/(out.length+1)=n-n0:=by
  rw[hx,Nat.mul_comm,Nat.mul_add_div (by omega),Nat.div_eq_of_lt (by omega)];omega
 have hmod:(i0+d)%(out.length+1)=pos:=by
  rw[hx,Nat.mul_comm,Nat.mul_add_mod,Nat.mod_eq_of_lt (by omega)]
 rw[insD,hdiv,hmod,show n0+(n-n0)=n by omega,if_neg (by omega)]
theorem zpPz(n:Nat)(hn:n≤1114111): ∀(l2 l1:List Nat) (d n0 i0:Nat) (ds:List Nat),n0≤n→(l1++l2).length≤60→
  d+i0+n0*((l1.filter (· ≤n)++l2.filter (· <n)).length+1)=n*((l1.filter (· ≤n)++l2.filter (· <n)).length+1)+(l1.filter (· ≤n)).length→
  ∃n1 i1,n1≤n∧insD n0 i0 (l1.filter (· ≤n)++l2.filter (· <n)) ((zez n l2 d).1++ds)=insD n1 i1 ((l1++l2).filter (· ≤n)) ds∧
   (zez n l2 d).2+i1+n1*(((l1++l2).filter (· ≤n)).length+1)=n*(((l1++l2).filter (· ≤n)).length+1)+((l1++l2).filter (· ≤n)).length∧
   (l1.filter (· ≤n)++l2.filter (· <n)).length+(zez n l2 d).1.length=((l1++l2).filter (· ≤n)).length:=by
 intro l2
 induction l2 with
 |nil=>
  intro l1 d n0 i0 ds h0 hlen he
  refine ⟨n0,i0,h0,?_,?_,?_⟩
  ·simp[zez]
  ·simpa[zez] using he
  simp[zez]
 |cons c r ih=>
  intro l1 d n0 i0 ds h0 hlen he
  have hass:l1++c::r=(l1++[c])++r:=by simp
  rcases Nat.lt_trichotomy c n with hc|hc|hc
  ·have ep:zez n (c::r) d=zez n r (d+1):=by rw[zez,if_pos hc]
   have e1:(l1++[c]).filter (· ≤n)=l1.filter (· ≤n)++[c]:=by simp[List.filter_append,Nat.le_of_lt hc]
   have e2:(c::r).filter (· <n)=c::r.filter (· <n):=by simp[hc]
   have e3:l1.filter (· ≤n)++(c::r).filter (· <n)=(l1++[c]).filter (· ≤n)++r.filter (· <n):=by rw[e1,e2];simp
   rw[e3]at he⊢
   rw[ep,hass]
   exact ih (l1++[c]) (d+1) n0 i0 ds h0 (by rw[←hass];exact hlen) (by
    have h1:((l1++[c]).filter (· ≤n)).length=(l1.filter (· ≤n)).length+1:=by rw[e1];simp
    omega)
  ·subst hc
   have ep:zez c (c::r) d=(d::(zez c r 0).1,(zez c r 0).2):=by rw[zez,if_neg (by omega),if_pos rfl]
   have e1:(l1++[c]).filter (· ≤c)=l1.filter (· ≤c)++[c]:=by simp[List.filter_append]
   have e2:(c::r).filter (· <c)=r.filter (· <c):=by simp
   rw[e2]at he⊢
   rw[ep,hass]
   have hout:(l1.filter (· ≤c)++r.filter (· <c)).length<60:=by
    have h1:=List.length_filter_le (fun x=>decide (x≤c)) l1
    have h2:=List.length_filter_le (fun x=>decide (x<c)) r
    simp only[List.length_append,List.length_cons]at hlen⊢
    omega
   have hst:=zpOz n0 i0 d c (l1.filter (· ≤c)).length (l1.filter (· ≤c)++r.filter (· <c)) ((zez c r 0).1++ds) h0 (by simp) hout hn he
   have e4:ypz (l1.filter (· ≤c)).length c (l1.filter (· ≤c)++r.filter (· <c))=(l1++[c]).filter (· ≤c)++r.filter (· <c):=by rw[zobz,e1];simp
   rw[e4]at hst
   obtain ⟨n1,i1,g0,g1,g2,g3⟩:=ih (l1++[c]) 0 c ((l1.filter (· ≤c)).length+1) ds (Nat.le_refl _) (by rw[←hass];exact hlen) (by rw[e1,List.length_append];simp;omega)
   refine ⟨n1,i1,g0,?_,g2,?_⟩
   ·show insD n0 i0 _ (d::((zez c r 0).1++ds))=_
    rw[hst,g1]
   rw[←g3,e1]
   simp;omega
  have ep:zez n (c::r) d=zez n r d:=by rw[zez,if_neg (by omega),if_neg (by omega)]
  have e1:(l1++[c]).filter (· ≤n)=l1.filter (· ≤n):=by
   rw[List.filter_append,List.filter_cons_of_neg (by simp;omega)]
   simp
  have e2:(c::r).filter (· <n)=r.filter (· <n):=List.filter_cons_of_neg (by simp;omega)
  have e3:l1.filter (· ≤n)++(c::r).filter (· <n)=(l1++[c]).filter (· ≤n)++r.filter (· <n):=by rw[e1,e2]
  rw[e3]at he⊢
  rw[ep,hass]
  exact ih (l1++[c]) d n0 i0 ds h0 (by rw[←hass];exact hlen) (by rw[e1]at he⊢;exact he)
theorem zcOz(n:Nat): ∀(l:List Nat),(∀c∈l,c≤1114111)→(∃c∈l,n≤c)→ziz n l∈l∧n≤ziz n l∧ ∀c∈l,n≤c→ziz n l≤c
 |[],_,h=>by obtain ⟨c,hc,_⟩:=h;simp at hc
 |c::r,hv,h=>by
  have hc:=hv c (by simp)
  have hv': ∀c∈r,c≤1114111:=fun x hx=>hv x (by simp[hx])
  by_cases hr: ∃x∈r,n≤x
  ·obtain ⟨h1,h2,h3⟩:=zcOz n r hv' hr
   unfold ziz
   split
   ·next hlt=>
    refine ⟨by simp,hlt.1,fun x hx hn=> ?_⟩
    rcases List.mem_cons.1 hx with rfl|hx
    ·omega
    have:=h3 x hx hn;omega
   next hlt=>
   refine ⟨by simp[h1],h2,fun x hx hn=> ?_⟩
   rcases List.mem_cons.1 hx with rfl|hx
   ·omega
   exact h3 x hx hn
  have hcn:n≤c:=by
   obtain ⟨x,hx,hn⟩:=h
   rcases List.mem_cons.1 hx with rfl|hx
   ·exact hn
   exact absurd ⟨x,hx,hn⟩ hr
  have hbig: ∀(r:List Nat),(¬ ∃x∈r,n≤x)→ziz n r=1114112:=by
   intro r
   induction r with
   |nil=>intro _;rfl
   |cons y r ih=>
    intro hno
    unfold ziz
    rw[if_neg (fun hy=>hno ⟨y,by simp,hy.1⟩)]
    exact ih (fun ⟨x,hx,hn⟩=>hno ⟨x,by simp[hx],hn⟩)
  unfold ziz
  rw[hbig r hr,if_pos (by omega)]
  refine ⟨by simp,hcn,fun x hx hn=> ?_⟩
  rcases List.mem_cons.1 hx with rfl|hx
  ·omega
  exact absurd ⟨x,hx,hn⟩ hr
theorem v3z(m:Nat): ∀(l:List Nat),m∈l→(l.filter (· <m)).length<(l.filter (· ≤m)).length:=by
 have hle: ∀(l:List Nat),(l.filter (· <m)).length≤(l.filter (· ≤m)).length:=by
  intro l
  induction l with
  |nil=>simp
  |cons c r ih=>
   by_cases h1:c<m
   ·rw[List.filter_cons_of_pos (by simpa using h1),List.filter_cons_of_pos (by simp;omega)];simp;exact ih
   rw[List.filter_cons_of_neg (by simpa using h1)]
   by_cases h2:c≤m
   ·rw[List.filter_cons_of_pos (by simpa using h2)];simp;omega
   rw[List.filter_cons_of_neg (by simpa using h2)];exact ih
 intro l
 induction l with
 |nil=>intro h;simp at h
 |cons c r ih=>
  intro h
  by_cases h1:c<m
  ·have hr:m∈r:=by
    rcases List.mem_cons.1 h with rfl|h
    ·omega
    exact h
   rw[List.filter_cons_of_pos (by simpa using h1),List.filter_cons_of_pos (by simp;omega)];simp;exact ih hr
  rw[List.filter_cons_of_neg (by simpa using h1)]
  by_cases h2:c≤m
  ·rw[List.filter_cons_of_pos (by simpa using h2)]
   have:=hle r
   simp;omega
  have hr:m∈r:=by
   rcases List.mem_cons.1 h with rfl|h
   ·omega
   exact h
  rw[List.filter_cons_of_neg (by simpa using h2)];exact ih hr
theorem vTz(l:List Nat)(p q:Nat→Bool)(h: ∀c∈l,p c=q c):l.filter p=l.filter q:=List.filter_congr h
theorem zr9z(l:List Nat)(hl:l.length≤60)(hv: ∀c∈l,c≤1114111): ∀(f n d n0 i0:Nat),n0≤n→l.length≤(l.filter (· <n)).length+f→
  d+i0+n0*((l.filter (· <n)).length+1)=n*((l.filter (· <n)).length+1)→insD n0 i0 (l.filter (· <n)) (yCz l f n d (l.filter (· <n)).length)=some l:=by
 intro f
 induction f with
 |zero=>
  intro n d n0 i0 _ hf _
  have h1:=List.length_filter_le (fun x=>decide (x<n)) l
  have h2:l.filter (· <n)=l:=List.filter_eq_self.2 (List.length_filter_eq_length_iff.1 (by omega))
  rw[yCz,insD,h2]
 |succ f ih=>
  intro n d n0 i0 h0 hf he
  have hfl:=List.length_filter_le (fun x=>decide (x<n)) l
  by_cases hlt:(l.filter (· <n)).length<l.length
  ·have hex: ∃c∈l,n≤c:=by
    by_cases hx: ∃c∈l,n≤c
    ·exact hx
    have h2:l.filter (· <n)=l:=List.filter_eq_self.2 (fun c hc=>by
     simp only[decide_eq_true_eq]
     rcases Nat.lt_or_ge c n with h|h
     ·exact h
     exact absurd ⟨c,hc,h⟩ hx)
    rw[h2]at hlt
    omega
   obtain ⟨m1,m2,m3⟩:=zcOz n l hv hex
   have hd:yCz l (f+1) n d (l.filter (· <n)).length=(zez (ziz n l) l (d+(ziz n l-n)*((l.filter (· <n)).length+1))).1++yCz l f (ziz n l+1) ((zez (ziz n l) l (d+(ziz n l-n)*((l.filter (· <n)).length+1))).2+1) ((l.filter (· <n)).length+(zez (ziz n l) l (d+(ziz n l-n)*((l.filter (· <n)).length+1))).1.length):=by
    rw[yCz,if_pos hlt]
   rw[hd]
   generalize ziz n l=m at*
   have hsame:l.filter (· <n)=l.filter (· <m):=vTz l _ _ (fun c hc=>by
    rcases Nat.lt_or_ge c n with h|h
    ·simp[h];omega
    have:=m3 c hc h
    rw[decide_eq_false (by omega),decide_eq_false (by omega)])
   have hle:l.filter (· <m+1)=l.filter (· ≤m):=vTz l _ _ (fun c _=>decide_eq_decide.2 (by omega))
   have hmore:=v3z m l m1
   have hmv:=hv m m1
   rw[hsame]at he hf⊢
   generalize hds:yCz l f (m+1) _ _=ds
   have hstep:=zpPz m hmv l [] (d+(m-n)*((l.filter (· <m)).length+1)) n0 i0 ds (by omega) (by simpa using hl) (by
    simp only[List.filter_nil,List.nil_append,List.length_nil,Nat.add_zero]
    have h1:(m-n)*((l.filter (· <m)).length+1)+n*((l.filter (· <m)).length+1)=m*((l.filter (· <m)).length+1):=by rw[←Nat.add_mul];congr 1;omega
    omega)
   simp only[List.filter_nil,List.nil_append]at hstep
   obtain ⟨n1,i1,g0,g1,g2,g3⟩:=hstep
   rw[g1,←hds,g3]
   have hnext:=ih (m+1) ((zez m l (d+(m-n)*((l.filter (· <m)).length+1))).2+1) n1 i1 (by omega) (by rw[hle];omega) (by
    rw[hle,Nat.add_mul]
    omega)
   rw[hle]at hnext
   exact hnext
  have h2:l.filter (· <n)=l:=List.filter_eq_self.2 (List.length_filter_eq_length_iff.1 (by omega))
  rw[yCz,if_neg hlt,insD,h2]
theorem j6z(n:Nat): ∀(l:List Nat) (d M:Nat),d+l.length≤M→(∀x∈(zez n l d).1,x≤M)∧(zez n l d).2≤M
 |[],d,M,h=>⟨fun x hx=>by simp[zez]at hx,by simpa[zez] using h⟩
 |c::r,d,M,h=>by
  simp only[List.length_cons]at h
  unfold zez
  split
  ·exact j6z n r (d+1) M (by omega)
  split
  ·have hr:=j6z n r 0 M (by omega)
   refine ⟨fun x hx=> ?_,hr.2⟩
   rcases List.mem_cons.1 hx with rfl|hx
   ·omega
   exact hr.1 x hx
  exact j6z n r d M (by omega)
theorem vqz(n:Nat): ∀(l:List Nat) (d:Nat),(l.filter (· <n)).length+(zez n l d).1.length=(l.filter (· ≤n)).length
 |[],d=>by simp[zez]
 |c::r,d=>by
  unfold zez
  split
  ·next h=>
   have hr:=vqz n r (d+1)
   rw[List.filter_cons_of_pos (by simpa using h),List.filter_cons_of_pos (by simp;omega)]
   simp only[List.length_cons]
   omega
  next h=>
  rw[List.filter_cons_of_neg (by simpa using h)]
  split
  ·next e=>
   have hr:=vqz n r 0
   rw[List.filter_cons_of_pos (by simp;omega)]
   simp only[List.length_cons]
   omega
  next e=>
  have hr:=vqz n r d
  rw[List.filter_cons_of_neg (by simp;omega)]
  exact hr
theorem zaHz(l:List Nat)(n:Nat)(hv: ∀c∈l,c≤1114111)(hlt:(l.filter (· <n)).length<l.length):ziz n l∈l∧n≤ziz n l∧ ∀c∈l,n≤c→ziz n l≤c:=by
 refine zcOz n l hv ?_
 by_cases hx: ∃c∈l,n≤c
 ·exact hx
 have h2:l.filter (· <n)=l:=List.filter_eq_self.2 (fun c hc=>by
  simp only[decide_eq_true_eq]
  rcases Nat.lt_or_ge c n with h|h
  ·exact h
  exact absurd ⟨c,hc,h⟩ hx)
 rw[h2]at hlt
 omega
theorem vjz(l:List Nat)(n m:Nat)(h2:n≤m)(h3: ∀c∈l,n≤c→m≤c):l.filter (· <n)=l.filter (· <m):=
 vTz l _ _ (fun c hc=>by
  rcases Nat.lt_or_ge c n with h|h
  ·simp[h];omega
  have:=h3 c hc h
  rw[decide_eq_false (by omega),decide_eq_false (by omega)])
theorem xvz(l:List Nat)(m:Nat):l.filter (· <m+1)=l.filter (· ≤m):=vTz l _ _ (fun c _=>decide_eq_decide.2 (by omega))
theorem zpQz(l:List Nat)(hl:l.length≤60)(hv: ∀c∈l,c≤1114111): ∀(f n d:Nat),d≤61*n→ ∀x∈yCz l f n d (l.filter (· <n)).length,x≤67960831:=by
 intro f
 induction f with
 |zero=>intro n d _ x hx;simp[yCz]at hx
 |succ f ih=>
  intro n d hd x hx
  by_cases hlt:(l.filter (· <n)).length<l.length
  ·obtain ⟨m1,m2,m3⟩:=zaHz l n hv hlt
   rw[yCz,if_pos hlt]at hx
   generalize ziz n l=m at*
   have hmv:=hv m m1
   rw[vjz l n m m2 m3]at hx hlt
   have hb:d+(m-n)*((l.filter (· <m)).length+1)≤61*m:=by
    have h1:(m-n)*((l.filter (· <m)).length+1)≤(m-n)*61:=Nat.mul_le_mul_left _ (by omega)
    omega
   have hp:=j6z m l (d+(m-n)*((l.filter (· <m)).length+1)) (61*m+60) (by omega)
   have hpl:=vqz m l (d+(m-n)*((l.filter (· <m)).length+1))
   rcases List.mem_append.1 hx with hx|hx
   ·have:=hp.1 x hx;omega
   rw[hpl,←xvz]at hx
   exact ih (m+1) _ (by have:=hp.2;omega) x hx
  rw[yCz,if_neg hlt]at hx
  simp at hx
def zRz(basic:Nat):Nat→Nat→List Nat→List Nat
 |_,_,[]=>[]
 |h,bias,d::ds=>yiz 28 36 bias d++zRz basic (h+1) (zuz d (h+1) (h==basic)) ds
def vCz(basic:Nat):Nat→List Nat→Nat→Nat→Nat→List Nat→Option (List Nat)
 |_,[],_,_,_,out=>some out
 |0,_::_,_,_,_,_=>none
 |f+1,v::vs,n,i,bias,out=>
  match yjz bias 36 0 1 (v::vs)with
  |none=>none
  |some (more,rest)=>
   if 60<out.length+1∨1114111<n+(i+more)/(out.length+1)then none
   else vCz basic f rest (n+(i+more)/(out.length+1)) ((i+more)%(out.length+1)+1) (zuz more (out.length+1) (out.length==basic)) (ypz ((i+more)%(out.length+1)) (n+(i+more)/(out.length+1)) out)
theorem zoz(i x:Nat)(l:List Nat):(ypz i x l).length=l.length+1:=by
 unfold ypz
 rw[List.length_append,List.length_cons,List.length_take,List.length_drop]
 omega
theorem zj1z(basic:Nat): ∀(ds:List Nat) (f h bias n i:Nat) (out:List Nat),out.length=h→(∀d∈ds,d≤67960831)→ds.length≤f→
  vCz basic f (zRz basic h bias ds) n i bias out=insD n i out ds
 |[],f,h,bias,n,i,out,_,_,_=>by cases f<;>rfl
 |d::ds,f,h,bias,n,i,out,hh,hd,hf=>by
  obtain ⟨f,rfl⟩: ∃g,f=g+1:=⟨f-1,by simp at hf;omega⟩
  have hdd:=hd d (by simp)
  have hread:=zpNz bias (zRz basic (h+1) (zuz d (h+1) (h==basic)) ds) 27 36 d 0 1 (by simp;omega) (by omega) (by omega)
  have hne: ∃v vs,yiz (27+1) 36 bias d++zRz basic (h+1) (zuz d (h+1) (h==basic)) ds=v::vs:=by
   cases hx:yiz (27+1) 36 bias d with
   |nil=>exact absurd hx (zm6z bias 27 36 d)
   |cons v vs=>exact ⟨v,_,rfl⟩
  obtain ⟨v,vs,hv⟩:=hne
  have hcode:zRz basic h bias (d::ds)=v::vs:=hv
  rw[hv]at hread
  rw[hcode,vCz,hread]
  simp only[Nat.zero_add,Nat.one_mul]
  rw[insD]
  split
  ·rfl
  subst hh
  exact zj1z basic ds f _ _ _ _ _ (zoz _ _ _) (fun x hx=>hd x (by simp[hx])) (by simp at hf;omega)
def encV(l:List Nat):List Nat:=zRz (l.filter (· <128)).length (l.filter (· <128)).length 72 (yCz l l.length 128 0 (l.filter (· <128)).length)
theorem zemz(l:List Nat)(hv: ∀c∈l,c≤1114111): ∀(f n d:Nat),(l.filter (· <n)).length+(yCz l f n d (l.filter (· <n)).length).length≤l.length:=by
 intro f
 induction f with
 |zero=>intro n d;simp only[yCz,List.length_nil,Nat.add_zero];exact List.length_filter_le _ _
 |succ f ih=>
  intro n d
  by_cases hlt:(l.filter (· <n)).length<l.length
  ·obtain ⟨m1,m2,m3⟩:=zaHz l n hv hlt
   rw[yCz,if_pos hlt]
   generalize ziz n l=m at*
   rw[vjz l n m m2 m3]
   have hpl:=vqz m l (d+(m-n)*((l.filter (· <m)).length+1))
   rw[List.length_append,hpl,←xvz]
   rw[←xvz]at hpl
   have:=ih (m+1) ((zez m l (d+(m-n)*((l.filter (· <m)).length+1))).2+1)
   omega
  rw[yCz,if_neg hlt]
  simp only[List.length_nil,Nat.add_zero]
  exact List.length_filter_le _ _
def zBz(l:List Nat):List Nat:=l.filter (· <128)++(if 0<(l.filter (· <128)).length then [45]else [])++(encV l).map zKz
def ycz:List Nat→Option (List Nat×List Nat)
 |[]=>none
 |c::r=>match ycz r with
  |some (a,b)=>some (c::a,b)
  |none=>if c=45 then some ([],r)else none
theorem jOz: ∀(b:List Nat),(∀c∈b,c≠45)→ycz b=none
 |[],_=>rfl
 |c::r,h=>by
  rw[ycz,jOz r (fun x hx=>h x (by simp[hx]))]
  exact if_neg (h c (by simp))
theorem zdoz(b:List Nat)(hb: ∀c∈b,c≠45): ∀(a:List Nat),ycz (a++45::b)=some (a,b)
 |[]=>by
  show ycz (45::b)=_
  rw[ycz,jOz b hb]
  rfl
 |c::a=>by
  show ycz (c::(a++45::b))=_
  rw[ycz,zdoz b hb a]
def zctz(s:List Nat):List Nat:=match ycz s with
 |some (a,_)=>a
 |none=>[]
def zdpz(s:List Nat):List Nat:=match ycz s with
 |some (_,b)=>b
 |none=>s
def v4z(s:List Nat):Option (List Nat):=vCz (zctz s).length s.length ((zdpz s).map zyz) 128 0 72 (zctz s)
theorem zj2z(basic:Nat): ∀(ds:List Nat) (h bias:Nat),∀v∈zRz basic h bias ds,v<36
 |[],_,_,v,hv=>by simp[zRz]at hv
 |d::ds,h,bias,v,hv=>by
  rcases List.mem_append.1 hv with hv|hv
  ·exact ztzz bias 28 36 d v hv
  exact zj2z basic ds _ _ v hv
theorem ziMz(l:List Nat): ∀v∈encV l,v<36:=zj2z _ _ _ _
theorem zj3z: ∀(vs:List Nat),(∀v∈vs,v<36)→(vs.map zKz).map zyz=vs
 |[],_=>rfl
 |v::vs,h=>by
  rw[List.map_cons,List.map_cons,zr8z (h v (by simp)),zj3z vs (fun x hx=>h x (by simp[hx]))]
theorem zpRz(vs:List Nat)(h: ∀v∈vs,v<36): ∀c∈vs.map zKz,c≠45:=by
 intro c hc
 obtain ⟨v,hv,rfl⟩:=List.mem_map.1 hc
 exact (zelz (h v hv)).2
theorem zhxz(l:List Nat):zctz (zBz l)=l.filter (· <128)∧zdpz (zBz l)=(encV l).map zKz:=by
 have hd:=zpRz (encV l) (ziMz l)
 unfold zctz zdpz zBz
 by_cases h:0<(l.filter (· <128)).length
 ·rw[if_pos h,List.append_assoc]
  show (match ycz (l.filter (· <128)++45::(encV l).map zKz)with|some (a,_)=>a|none=>[])=_∧_
  rw[zdoz _ hd]
  exact ⟨rfl,by show (match ycz (l.filter (· <128)++45::(encV l).map zKz)with|some (_,b)=>b|none=>_)=_;rw[zdoz _ hd]⟩
 have he:l.filter (· <128)=[]:=List.eq_nil_of_length_eq_zero (by omega)
 rw[if_neg h,he]
 simp only[List.nil_append]
 rw[jOz _ hd]
 exact ⟨rfl,rfl⟩
theorem zm7z(bias:Nat): ∀(f k q:Nat),(yiz f k bias q).length≤f
 |0,_,_=>by simp[yiz]
 |f+1,k,q=>by
  unfold yiz
  split
  ·simp
  have:=zm7z bias f (k+36) ((q-zFz k bias)/(36-zFz k bias))
  simp;omega
theorem zj4z(basic:Nat): ∀(ds:List Nat) (h bias:Nat),ds.length≤(zRz basic h bias ds).length
 |[],_,_=>by simp
 |d::ds,h,bias=>by
  have h1:=zj4z basic ds (h+1) (zuz d (h+1) (h==basic))
  have h2:1≤(yiz 28 36 bias d).length:=by
   cases hx:yiz 28 36 bias d with
   |nil=>exact absurd hx (zm6z bias 27 36 d)
   |cons=>simp
  show (d::ds).length≤(yiz 28 36 bias d++zRz basic (h+1) (zuz d (h+1) (h==basic)) ds).length
  rw[List.length_append,List.length_cons]
  omega
theorem zpSz(l:List Nat)(hl:l.length≤60)(hv: ∀c∈l,c≤1114111):v4z (zBz l)=some l:=by
 unfold v4z
 obtain ⟨h1,h2⟩:=zhxz l
 rw[h1,h2,zj3z _ (ziMz l)]
 have hc:=zemz l hv l.length 128 0
 have hge:=zj4z (l.filter (· <128)).length (yCz l l.length 128 0 (l.filter (· <128)).length) (l.filter (· <128)).length 72
 unfold encV
 rw[zj1z _ _ _ _ 72 128 0 _ rfl (zpQz l hl hv l.length 128 0 (by omega)) ?_]
 ·exact zr9z l hl hv l.length 128 0 128 0 (Nat.le_refl _) (by omega) (by omega)
 unfold zBz encV
 rw[List.length_append,List.length_append,List.length_map]
 omega
def zhyz(c:Nat):Bool:=decide (c≤1114111)&& !(decide (55296≤c)&&decide (c≤57343))
def yPz(l:List Nat):Bool:=decide (l.length≤60)&&l.all zhyz
def z9z(s:List Nat):Option (List Nat):=match v4z s with
 |some l=>if yPz l=true∧zBz l=s then some l else none
 |none=>none
theorem zLz{l:List Nat}(h:yPz l=true):l.length≤60∧ ∀c∈l,c≤1114111:=by
 simp only[yPz,Bool.and_eq_true,decide_eq_true_eq,List.all_eq_true]at h
 refine ⟨h.1,fun c hc=> ?_⟩
 have:=h.2 c hc
 simp only[zhyz,Bool.and_eq_true,decide_eq_true_eq]at this
 exact this.1
theorem zsaz{l:List Nat}(h:yPz l=true):z9z (zBz l)=some l:=by
 unfold z9z
 obtain ⟨h1,h2⟩:=zLz h
 rw[zpSz l h1 h2]
 exact if_pos ⟨h,rfl⟩
theorem zbcz(s l:List Nat):z9z s=some l↔yPz l=true∧zBz l=s:=by
 constructor
 ·intro h
  unfold z9z at h
  split at h
  ·split at h
   ·next hh=>cases h;exact hh
   cases h
  cases h
 rintro ⟨h,rfl⟩
 exact zsaz h
theorem jEz{l:List Nat}: ∀c∈zBz l,c<128:=by
 intro c hc
 unfold zBz at hc
 rcases List.mem_append.1 hc with hc|hc
 ·rcases List.mem_append.1 hc with hc|hc
  ·have:=(List.mem_filter.1 hc).2
   simpa using this
  split at hc
  ·rw[List.mem_singleton.1 hc];omega
  simp at hc
 obtain ⟨v,hv,rfl⟩:=List.mem_map.1 hc
 exact (zelz (ziMz l v hv)).1
def zenz(delta n:Int)(first:Bool):Int:=if 0≤delta∧1≤n then (zuz delta.toNat n.toNat first:Int)else 0
theorem zhzz: ∀(f d k:Nat),zZz f d k≤k+36*f+36
 |0,d,k=>by
  unfold zZz
  have:36*d/(d+38)≤36:=Nat.div_le_of_le_mul (by omega)
  omega
 |f+1,d,k=>by
  unfold zZz
  split
  ·have:=zhzz f (d/35) (k+36);omega
  have:36*d/(d+38)≤36:=Nat.div_le_of_le_mul (by omega)
  omega
theorem xnz(d n:Nat)(first:Bool):zuz d n first≤2400:=by
 unfold zuz
 split
 ·omega
 have:=zhzz 64 ((if first then d/700 else d/2)+(if first then d/700 else d/2)/n) 0
 omega
theorem j7z{f d k:Nat}(h:455<d)(hf:d<2^f): ∃g,f=g+1∧zZz f d k=zZz g (d/35) (k+36)∧d/35<2^g:=by
 cases f with
 |zero=>simp at hf;omega
 |succ g=>
  refine ⟨g,rfl,by rw[zZz,if_pos h],?_⟩
  have h4:2^(g+1)=2*2^g:=by rw[Nat.pow_succ];omega
  omega
theorem zbdz{f d k:Nat}(h:d≤455):zZz f d k=k+36*d/(d+38):=by
 cases f with
 |zero=>rfl
 |succ g=>rw[zZz,if_neg (by omega)]
theorem zhAz{delta n:Nat}{first:Bool}(h1:(delta:Int)≤1000000000000)(h2:1≤(n:Int))(h3:(n:Int)≤1000000)(x:Nat)(hx:x=if first then delta/700 else delta/2):zuz delta n first=zZz 64 (x+x/n) 0:=by
 unfold zuz
 rw[if_neg (by omega),hx]
theorem zbez(delta n:Nat)(first:Bool)(w:World)(h1:(delta:Int)≤1000000000000)(h2:1≤(n:Int))(h3:(n:Int)≤1000000):
  Calls Tryz.prog 229 #[.int .i64 (delta:Int),.int .i64 (n:Int),.bool first] w fun e w'=>e=.returned (.int .i64 (zuz delta n first:Int))∧w=w':=by
 have h0:0≤(delta:Int):=by omega
 obtain ⟨x,hx⟩: ∃x:Nat,x=if first then delta/700 else delta/2:=⟨_,rfl⟩
 have HN:Hid (zuz delta n first=zZz 64 (x+x/n) 0):=zhAz h1 h2 h3 x hx
 have hy:x/n≤x:=Nat.div_le_self x n
 have hne: ¬(n:Int)=0:=by omega
 have hxle:(x:Int)≤500000000000:=by cases first<;>simp at hx<;>omega
 obtain ⟨z,hz⟩: ∃z:Nat,x/n=z:=⟨_,rfl⟩
 have hZ:(x:Int)/(n:Int)=(z:Int):=by rw[←hz];simp
 rw[hz]at HN hy
 have hzle:(z:Int)≤(x:Int):=by omega
 have HP:Hid (x+z<2^64):=by
  show _<_
  have:(2:Nat)^64=18446744073709551616:=by decide
  omega
 clear hz hy
 cases first with
 |true=>
  have hX:(delta:Int)/700=(x:Int):=by simp at hx;omega
  clear hx
  go_enter Tryz.func229,Tryz.ntmps229
  go_wp2_with fail
  refine (zfz _ _ _ _ h0 h1).mono ?_
  rintro e w' ⟨rfl,rfl⟩
  go_wp2_with fail
  refine (zfz _ _ _ _ h2 h3).mono ?_
  rintro e w' ⟨rfl,rfl⟩
  go_wp2_with fail
  go_loop[0,7] (fun a b=> ∃f d k:Nat,a=.int .i64 d∧b=.int .i64 k∧d≤x+z∧k+36*f≤2304∧d<2^f∧zZz f d k=zZz 64 (x+z) 0) (fun a _=>(intOf a).toNat)
  case atStart=>exact ⟨64,x+z,0,by simp,rfl,Nat.le_refl _,by omega,HP.out,rfl⟩
  obtain ⟨f,d,k,rfl,rfl,hd,hk,hf,he⟩:=hrel
  have HE:Hid (zZz f d k=zZz 64 (x+z) 0):=he
  have HF:Hid (d<2^f):=hf
  clear he hf
  by_cases hlt:455<(d:Int)
  ·obtain ⟨g,hg,he,hl⟩:=j7z (k:=k) (show 455<d by omega) HF.out
   have HE2:Hid (zZz g (d/35) (k+36)=zZz 64 (x+z) 0):=he.symm.trans HE.out
   have HF2:Hid (d/35<2^g):=hl
   clear he hl
   go_wp2
   go_round
   case rel=>exact ⟨g,d/35,k+36,by simp,by go_num,by omega,by omega,HF2.out,HE2.out⟩
   case measure=>simp[intOf];omega
  have HR:Hid (zuz delta n true=k+36*d/(d+38)):=by show _=_;rw[HN.out,←HE.out,zbdz (by omega)]
  have hnz: ¬(d:Int)+38=0:=by omega
  have hr0:36*d/(d+38)≤36:=Nat.div_le_of_le_mul (by omega)
  obtain ⟨r,hr⟩: ∃r:Nat,36*d/(d+38)=r:=⟨_,rfl⟩
  have hR:(36*(d:Int))/((d:Int)+38)=(r:Int):=by rw[←hr];simp
  rw[hr]at HR hr0
  clear hr
  go_wp2
  go_ret
  exact ⟨znz (by rw[HR.out];simp),rfl⟩
 |false=>
  have hX:(delta:Int)/2=(x:Int):=by simp at hx;omega
  clear hx
  go_enter Tryz.func229,Tryz.ntmps229
  go_wp2_with fail
  refine (zfz _ _ _ _ h0 h1).mono ?_
  rintro e w' ⟨rfl,rfl⟩
  go_wp2_with fail
  refine (zfz _ _ _ _ h2 h3).mono ?_
  rintro e w' ⟨rfl,rfl⟩
  go_wp2_with fail
  go_loop[0,7] (fun a b=> ∃f d k:Nat,a=.int .i64 d∧b=.int .i64 k∧d≤x+z∧k+36*f≤2304∧d<2^f∧zZz f d k=zZz 64 (x+z) 0) (fun a _=>(intOf a).toNat)
  case atStart=>exact ⟨64,x+z,0,by simp,rfl,Nat.le_refl _,by omega,HP.out,rfl⟩
  obtain ⟨f,d,k,rfl,rfl,hd,hk,hf,he⟩:=hrel
  have HE:Hid (zZz f d k=zZz 64 (x+z) 0):=he
  have HF:Hid (d<2^f):=hf
  clear he hf
  by_cases hlt:455<(d:Int)
  ·obtain ⟨g,hg,he,hl⟩:=j7z (k:=k) (show 455<d by omega) HF.out
   have HE2:Hid (zZz g (d/35) (k+36)=zZz 64 (x+z) 0):=he.symm.trans HE.out
   have HF2:Hid (d/35<2^g):=hl
   clear he hl
   go_wp2
   go_round
   case rel=>exact ⟨g,d/35,k+36,by simp,by go_num,by omega,by omega,HF2.out,HE2.out⟩
   case measure=>simp[intOf];omega
  have HR:Hid (zuz delta n false=k+36*d/(d+38)):=by show _=_;rw[HN.out,←HE.out,zbdz (by omega)]
  have hnz: ¬(d:Int)+38=0:=by omega
  have hr0:36*d/(d+38)≤36:=Nat.div_le_of_le_mul (by omega)
  obtain ⟨r,hr⟩: ∃r:Nat,36*d/(d+38)=r:=⟨_,rfl⟩
  have hR:(36*(d:Int))/((d:Int)+38)=(r:Int):=by rw[←hr];simp
  rw[hr]at HR hr0
  clear hr
  go_wp2
  go_ret
  exact ⟨znz (by rw[HR.out];simp),rfl⟩
theorem zaIz{delta n:Int}{first:Bool}(h:0≤delta∧1≤n):zenz delta n first=(zuz delta.toNat n.toNat first:Int):=if_pos h
theorem zfXz{delta n:Int}{first:Bool}(h:delta<0∨1000000000000<delta∨n<1∨1000000<n):zenz delta n first=0:=by
 unfold zenz
 split
 ·unfold zuz
  rw[if_pos (by omega)]
  rfl
 rfl
theorem zcbz(delta n:Int)(first:Bool)(w:World):
  Calls Tryz.prog 229 #[.int .i64 delta,.int .i64 n,.bool first] w fun e w'=>e=.returned (.int .i64 (zenz delta n first))∧w=w':=by
 by_cases h1:0≤delta∧delta≤1000000000000
 ·by_cases h2:1≤n∧n≤1000000
  ·rw[zaIz ⟨h1.1,h2.1⟩]
   obtain ⟨d,rfl⟩:=Int.eq_ofNat_of_zero_le h1.1
   obtain ⟨m,rfl⟩:=Int.eq_ofNat_of_zero_le (show 0≤n by omega)
   exact zbez d m first w h1.2 h2.1 h2.2
  have HV:Hid (zenz delta n first=0):=zfXz (by omega)
  have H2:Hid (n<1∨1000000<n):=by show _∨_;omega
  obtain ⟨a1,a2⟩:=h1
  clear h2
  go_enter Tryz.func229,Tryz.ntmps229
  go_wp2_with fail
  refine (zfz _ _ _ _ a1 a2).mono ?_
  rintro e w' ⟨rfl,rfl⟩
  go_wp2_with fail
  refine (zlz _ _ _ _ H2.out).mono ?_
  rintro e w' ⟨rfl,rfl⟩
  go_wp2_with fail
  go_ret
  exact ⟨znz (by rw[HV.out]),rfl⟩
 have HV:Hid (zenz delta n first=0):=zfXz (by omega)
 have H1:Hid (delta<0∨1000000000000<delta):=by show _∨_;omega
 clear h1
 go_enter Tryz.func229,Tryz.ntmps229
 go_wp2_with fail
 refine (zlz _ _ _ _ H1.out).mono ?_
 rintro e w' ⟨rfl,rfl⟩
 go_wp2_with fail
 go_ret
 exact ⟨znz (by rw[HV.out]),rfl⟩
def b8(l:List Nat):List UInt8:=l.map UInt8.ofNat
theorem zocz(a b:List Nat):b8 (a++b)=b8 a++b8 b:=List.map_append
theorem zccz(a:List Nat):(b8 a).length=a.length:=List.length_map _
theorem xwz{w1:World}{B:Nat}{e:TypeId}{v:Value}{o:List Nat}{x:Int}(c:Nat)(hc:c<256)(hx:x=(c:Int))
  (h:w1.ownsRow B e 1 v (o.length+1) (zcz (b8 o)++ #[Value.int .u8 x].toList)):w1.ownsRow B e 1 v (o++[c]).length (zcz (b8 (o++[c]))):=by
 subst hx
 have e1:((UInt8.ofNat c).toNat:Int)=(c:Int):=by simp;omega
 rw[zocz,xhz,List.length_append]
 show w1.ownsRow B e 1 v (o.length+1) (zcz (b8 o)++[Value.int .u8 ((UInt8.ofNat c).toNat:Int)])
 rw[e1]
 exact h
theorem yGz(x:Int): ∀u∈ #[Value.int .u8 x].toList,u.oneCell'=true:=by
 intro u hu;simp at hu;subst hu;rfl
theorem zhBz(n:Nat)(w:World)(h:(n:Int)<36):
  Calls Tryz.prog 255 #[.int .i64 (n:Int)] w fun e w'=>e=.returned (.int .u8 (zKz n:Int))∧w=w':=by
 by_cases h1:(n:Int)<26
 ·have HV:Hid ((zKz n:Int)=97+n):=by show _=_;unfold zKz;rw[if_pos (by omega)];omega
  go_enter Tryz.func255,Tryz.ntmps255
  go_wp2
  go_ret
  exact ⟨znz (by rw[HV.out]<;>omega),rfl⟩
 have HV:Hid ((zKz n:Int)=22+n):=by show _=_;unfold zKz;rw[if_neg (by omega)];omega
 go_enter Tryz.func255,Tryz.ntmps255
 go_wp2
 go_ret
 exact ⟨znz (by rw[HV.out]<;>omega),rfl⟩
theorem zhCz(k bias:Nat)(w:World)(h1:(k:Int)≤1099511627776)(h2:(bias:Int)≤1099511627776):
  Calls Tryz.prog 254 #[.int .i64 (k:Int),.int .i64 (bias:Int)] w fun e w'=>e=.returned (.int .i64 (zFz k bias:Int))∧w=w':=by
 have hk:0≤(k:Int):=by omega
 have hb:0≤(bias:Int):=by omega
 by_cases h3:(k:Int)-(bias:Int)<1
 ·have HV:Hid (zFz k bias=1):=by show _=_;unfold zFz;rw[if_pos (by omega)]
  go_enter Tryz.func254,Tryz.ntmps254
  go_wp2
  go_ret
  exact ⟨znz (by rw[HV.out]<;>omega),rfl⟩
 by_cases h4:26<(k:Int)-(bias:Int)
 ·have HV:Hid (zFz k bias=26):=by show _=_;unfold zFz;rw[if_neg (by omega),if_pos (by omega)]
  go_enter Tryz.func254,Tryz.ntmps254
  go_wp2
  go_ret
  exact ⟨znz (by rw[HV.out]<;>omega),rfl⟩
 have HV:Hid (zFz k bias=k-bias):=by show _=_;unfold zFz;rw[if_neg (by omega),if_neg (by omega)]
 go_enter Tryz.func254,Tryz.ntmps254
 go_wp2
 go_ret
 exact ⟨znz (by rw[HV.out]<;>omega),rfl⟩
theorem zj5z{f k bias q:Nat}(h:q<zFz k bias):yiz (f+1) k bias q=[q]:=by rw[yiz,if_pos h]
theorem zhDz{f k bias q:Nat}(hq:q<2^f)(h: ¬q<zFz k bias): ∃g,f=g+1∧(q-zFz k bias)/(36-zFz k bias)<2^g∧
  yiz (f+1) k bias q=(zFz k bias+(q-zFz k bias)%(36-zFz k bias))::yiz (g+1) (k+36) bias ((q-zFz k bias)/(36-zFz k bias)):=by
 obtain ⟨l1,l2⟩:=zbbz k bias
 cases f with
 |zero=>simp at hq;omega
 |succ g=>exact ⟨g,rfl,zj0z q _ g l1 l2 hq,by rw[yiz,if_neg h]⟩
theorem zbfz(q0 bias:Nat)(o0:List Nat)(v0:Value)(B:Nat)(w:World)(hq:(q0:Int)≤67960831)(hb:(bias:Int)≤2400)(hown0:w.ownsRow B 5 1 v0 o0.length (zcz (b8 o0)))(hB:B≤w.heap.size)(ho:o0.length≤1099511627776):
  Calls Tryz.prog 228 #[v0,.int .i64 (q0:Int),.int .i64 (bias:Int)] w fun e w'=> ∃v',e=.returned v'∧w'.ownsRow B 5 1 v' (o0++(yiz 28 36 bias q0).map zKz).length (zcz (b8 (o0++(yiz 28 36 bias q0).map zKz)))∧Below B w w':=by
 have hb0:0≤(bias:Int):=by omega
 have HP:Hid (q0<2^27):=by
  show _<_
  have:(2:Nat)^27=134217728:=by decide
  omega
 go_enter Tryz.func228,Tryz.ntmps228
 go_wp2_with fail
 go_loopw[0,1,7] (fun v a b wr=> ∃(f q k:Nat) (o:List Nat),a=.int .i64 q∧b=.int .i64 k∧q≤q0∧k+36*f=36*28∧q<2^f∧o.length+f≤o0.length+27∧o++(yiz (f+1) k bias q).map zKz=o0++(yiz 28 36 bias q0).map zKz∧wr.ownsRow B 5 1 v o.length (zcz (b8 o))∧Below B w wr) (fun _ a _ _=>(intOf a).toNat)
 case atStart=>exact ⟨27,q0,36,o0,rfl,rfl,Nat.le_refl _,rfl,HP.out,by omega,rfl,hown0,Below.refl _ _⟩
 obtain ⟨f,q,k,o,rfl,rfl,hq1,hk,hf,hol,he,hown,hbel⟩:=hrel
 have HE:Hid (o++(yiz (f+1) k bias q).map zKz=o0++(yiz 28 36 bias q0).map zKz):=he
 have HF:Hid (q<2^f):=hf
 have hsz:=hbel.size
 obtain ⟨l1,l2⟩:=zbbz k bias
 have ct:=fun W=>zhCz k bias W (by omega) (by omega)
 clear he hf
 by_cases hlt:q<zFz k bias
 ·have HR:Hid (o++[zKz q]=o0++(yiz 28 36 bias q0).map zKz):=by show _=_;rw[←HE.out,zj5z hlt];rfl
  have cd:=fun W=>zhBz q W (by omega)
  have hdl:=(zelz (show q<36 by omega)).1
  generalize zFz k bias=t at ct l1 l2 hlt
  generalize zKz q=c at cd HR hdl
  have CT:Hid (∀W,CS 254 #[.int .i64 (k:Int),.int .i64 (bias:Int)] W (.int .i64 (t:Int))):=ct
  have CD:Hid (∀W,CS 255 #[.int .i64 (q:Int)] W (.int .u8 (c:Int))):=cd
  have hqt:(q:Int)<(t:Int):=by omega
  clear ct cd
  go_wp2_with fail
  refine (CT.out _).mono ?_
  rintro e w' ⟨rfl,rfl⟩
  go_wp2_with fail
  refine (CD.out _).mono ?_
  rintro e w' ⟨rfl,rfl⟩
  go_wp2_with (at_builtin;refine zbz _ rfl _ _ 22 rfl B 5 (.int .u8 0) 1 Tryz.underlying22 Tryz.info5 rfl _ _ _ rfl hown #[.int .u8 (c:Int)] 1 rfl rfl (yGz _) (by omega) (by unfold maxLen;omega) (by omega) ?_)
  intro v' w1 hown' hb1
  have R:=xwz c (by omega) rfl hown'
  rw[HR.out]at R
  clear hown'
  go_wp2_with fail
  go_ret
  exact ⟨_,rfl,R,hbel.trans hb1⟩
 obtain ⟨g,hg,hl,hnum⟩:=zhDz (k:=k) (bias:=bias) HF.out hlt
 have hm:(q-zFz k bias)%(36-zFz k bias)<36-zFz k bias:=Nat.mod_lt _ (by omega)
 have hdv:(q-zFz k bias)/(36-zFz k bias)≤(q-zFz k bias):=Nat.div_le_self _ _
 have HR:Hid ((o++[zKz (zFz k bias+(q-zFz k bias)%(36-zFz k bias))])++(yiz (g+1) (k+36) bias ((q-zFz k bias)/(36-zFz k bias))).map zKz=o0++(yiz 28 36 bias q0).map zKz):=by
  show _=_
  rw[←HE.out,hnum]
  simp
 have HL:Hid ((q-zFz k bias)/(36-zFz k bias)<2^g):=hl
 clear hnum hl
 generalize zFz k bias=t at ct l1 l2 hlt HR HL hm hdv
 have hqt: ¬(q:Int)<(t:Int):=by omega
 have hc1:((q-t:Nat):Int)=(q:Int)-(t:Int):=by omega
 have hc2:((36-t:Nat):Int)=36-(t:Int):=by omega
 have hM:((q:Int)-(t:Int))%(36-(t:Int))=(((q-t)%(36-t):Nat):Int):=by rw[←hc1,←hc2];norm_cast
 have hQ:((q:Int)-(t:Int))/(36-(t:Int))=(((q-t)/(36-t):Nat):Int):=by rw[←hc1,←hc2];norm_cast
 generalize (q-t)%(36-t)=m at hM HR hm
 generalize (q-t)/(36-t)=q' at hQ HR HL hdv
 have cd:=fun W=>zhBz (t+m) W (by omega)
 have hdl:=(zelz (show t+m<36 by omega)).1
 generalize zKz (t+m)=c at cd HR hdl
 have hne: ¬36-(t:Int)=0:=by omega
 have ht0:1≤(t:Int):=by omega
 have ht1:(t:Int)≤26:=by omega
 have hm0:(m:Int)<36-(t:Int):=by omega
 have CT:Hid (∀W,CS 254 #[.int .i64 (k:Int),.int .i64 (bias:Int)] W (.int .i64 (t:Int))):=ct
 have CD:Hid (∀W,CS 255 #[.int .i64 ((t:Int)+(m:Int))] W (.int .u8 (c:Int))):=fun W=>by
  have h:=cd W
  rw[show ((t+m:Nat):Int)=(t:Int)+(m:Int) by omega]at h
  exact h
 clear ct cd hc1 hc2
 go_wp2_with fail
 refine (CT.out _).mono ?_
 rintro e w' ⟨rfl,rfl⟩
 go_wp2_with fail
 refine (CD.out _).mono ?_
 rintro e w' ⟨rfl,rfl⟩
 go_wp2_with (at_builtin;refine zbz _ rfl _ _ 22 rfl B 5 (.int .u8 0) 1 Tryz.underlying22 Tryz.info5 rfl _ _ _ rfl hown #[.int .u8 (c:Int)] 1 rfl rfl (yGz _) (by omega) (by unfold maxLen;omega) (by omega) ?_)
 intro v' w1 hown' hb1
 have R:=xwz c (by omega) rfl hown'
 have B1:Below B w w1:=hbel.trans hb1
 clear hown' hb1 hown hbel
 go_wp2_with fail
 go_roundw
 case rel=>exact ⟨g,q',k+36,o++[c],by go_num,by go_num,by omega,by omega,HL.out,by simp;omega,HR.out,R,B1⟩
 case measure=>simp[intOf];omega
def jgz(n:Nat):Nat→List Nat→Nat
 |m,[]=>m
 |m,c::r=>jgz n (if n≤c∧c<m then c else m) r
theorem zeoz(n:Nat): ∀(l:List Nat) (m:Nat),m≤1114112→jgz n m l=if ziz n l<m then ziz n l else m
 |[],m,h=>by rw[jgz,ziz,if_neg (by omega)]
 |c::r,m,h=>by
  rw[jgz,zeoz n r _ (by split<;>omega),ziz]
  generalize ziz n r=x
  by_cases h1:n≤c
  ·by_cases h2:c<m
   ·by_cases h3:c<x
    ·simp only[h1,h2,h3,and_self,if_true]
     rw[if_neg (by omega)]
    simp only[h1,h2,h3,and_self,and_false,if_true,if_false]
    split<;>split<;>omega
   by_cases h3:c<x
   ·simp only[h1,h2,h3,and_self,and_false,if_true,if_false]
    rw[if_neg (by omega)]
   simp only[h1,h2,h3,and_false,if_false]
  simp only[h1,false_and,if_false]
theorem zhEz(n:Nat): ∀(l:List Nat),ziz n l≤1114112
 |[]=>Nat.le_refl _
 |c::r=>by
  have:=zhEz n r
  unfold ziz
  split<;>omega
theorem zpTz(n:Nat)(l:List Nat):jgz n 1114112 l=ziz n l:=by
 rw[zeoz n l _ (Nat.le_refl _)]
 have:=zhEz n l
 split<;>omega
def icN(l:List Nat):List Value:=zkz (l.map fun (c:Nat)=>(c:Int))
theorem vIz{w:World}{B:Nat}{e:TypeId}{g n cap:Nat}{l:List Nat}(h:w.ownsRow B e 1 (.slice (some ⟨g,0,none⟩) n cap) n (icN l))(k:Nat)(hk:k<n):w.cell? ⟨g,k,none⟩=some (.int .i64 (l.getD k 0:Int)):=by
 have hl:l.length=n:=by have:=h.1;simpa[icN,zkz] using this
 rw[zawz h k hk]
 simp[List.getD,show k<l.length by omega]
theorem jPz(l:List Nat)(k:Nat)(h:k<l.length):l.drop k=l.getD k 0::l.drop (k+1):=by
 rw[List.drop_eq_getElem_cons h]
 simp[List.getD,h]
theorem zhFz(l:List Nat)(n0 N cap g:Nat)(B:Nat)(w:World)(hN:l.length=N)(hN1:N≤1048576)(hv: ∀c∈l,c≤1114111)(hown:w.ownsRow B 3 1 (.slice (some ⟨g,0,none⟩) N cap) N (icN l)):
  Calls Tryz.prog 227 #[.slice (some ⟨g,0,none⟩) N cap,.int .i64 (n0:Int)] w fun e w'=>e=.returned (.int .i64 (ziz n0 l:Int))∧w=w':=by
 have HL:Hid (l.length=N):=hN
 have HV:Hid (∀c∈l,c≤1114111):=hv
 clear hN hv
 go_enter Tryz.func227,Tryz.ntmps227
 go_wp2_with fail
 go_loop[5,6] (fun a i=> ∃k m:Nat,k≤N∧i=.int .i64 k∧a=.int .i64 m∧m≤1114112∧jgz n0 m (l.drop k)=ziz n0 l) (fun _ i=>N-(intOf i).toNat)
 case atStart=>exact ⟨0,1114112,Nat.zero_le _,rfl,rfl,Nat.le_refl _,zpTz n0 l⟩
 obtain ⟨k,m,hk,rfl,rfl,hm,he⟩:=hrel
 have HE:Hid (jgz n0 m (l.drop k)=ziz n0 l):=he
 clear he
 by_cases hlt:k<N
 ·have ca:=vIz hown k hlt
  have HS:Hid (l.drop k=l.getD k 0::l.drop (k+1)):=jPz l k (by have:=HL.out;omega)
  have hc:=HV.out (l.getD k 0) (by
   rw[List.getD_eq_getElem?_getD,List.getElem?_eq_getElem (by have:=HL.out;omega)]
   exact List.getElem_mem _)
  generalize l.getD k 0=c at ca HS hc
  have HR:Hid (jgz n0 (if n0≤c∧c<m then c else m) (l.drop (k+1))=ziz n0 l):=by show _=_;rw[←HE.out,HS.out];rfl
  by_cases h1:(n0:Int)≤(c:Int)
  ·by_cases h2:(c:Int)<(m:Int)
   ·rw[if_pos (by omega)]at HR
    go_wp2_with fail
    go_round
    case rel=>exact ⟨k+1,c,by omega,by go_num,rfl,by omega,HR.out⟩
    case measure=>simp[intOf];omega
   rw[if_neg (by omega)]at HR
   go_wp2_with fail
   go_round
   case rel=>exact ⟨k+1,m,by omega,by go_num,rfl,hm,HR.out⟩
   case measure=>simp[intOf];omega
  rw[if_neg (by omega)]at HR
  go_wp2_with fail
  go_round
  case rel=>exact ⟨k+1,m,by omega,by go_num,rfl,hm,HR.out⟩
  case measure=>simp[intOf];omega
 have HR:Hid (m=ziz n0 l):=by
  show _=_
  rw[←HE.out,List.drop_of_length_le (by have:=HL.out;omega)]
  rfl
 go_wp2_with fail
 go_ret
 exact ⟨znz (by rw[←HR.out]),rfl⟩
end Go.Proofs.YtgcbaphbiaimoaaGreatDoor
