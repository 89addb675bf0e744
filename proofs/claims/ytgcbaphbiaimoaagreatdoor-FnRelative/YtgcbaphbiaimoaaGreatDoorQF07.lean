/- PunyPlain, AdaptWalk, PunyEnc. -/
import Derived.Test.YtgcbaphbiaimoaaGreatDoorQF02
set_option maxHeartbeats 4000000
set_option maxRecDepth 20000
namespace Go.Proofs.YtgcbaphbiaimoaaGreatDoor
open Go.Value renaming int->I
open Go.IntKind renaming i64->J
open _root_.Bool renaming and_eq_true->zv
open _root_.Int renaming eq_ofNat_of_zero_le->zn
open _root_.List renaming filter_append->zm,filter_cons_of_neg->zc,filter_cons_of_pos->za,filter_eq_self->zj,filter_nil->zy,length_append->zd,length_cons->zg,length_filter_eq_length_iff->zk,length_filter_le->ze,length_map->zz,length_nil->zr,mem_append->zl,mem_cons->zf,mem_singleton->zt,nil_append->zq
open _root_.Nat renaming add_mul->zw,add_zero->zu,div_le_of_le_mul->zi,le_refl->zh,lt_or_ge->zp,mod_lt->z0,mul_comm->zo,mul_le_mul_left->zs
open _root_.UInt8 renaming ofNat->zx
open _root_.Go.Proofs.Tryz
open _root_.Go.Proofs.YtgcbaphbiaimoaaGreatDoor.Tryz
open Go.RowKit
def bF(k bias:Nat):Nat:=if k<=bias then 1 else if 26<k-bias then 26 else k-bias
theorem qI(k bias:Nat):1<=bF k bias/\bF k bias<=26:=by
 unfold bF;split
 .omega
 split<;>omega
def cY:Nat->Nat->Nat->Nat->List Nat
 |0,_,_,_=>[]
 |f+1,k,bias,q=>if q<bF k bias then [q]else (bF k bias+(q-bF k bias)%(36-bF k bias))::cY f (k+36) bias ((q-bF k bias)/(36-bF k bias))
def dA(bias:Nat):Nat->Nat->Nat->List Nat->Option (Nat×List Nat)
 |_,_,_,[]=>none
 |k,i,w,d::ds=>if 1099511627776<i∨1099511627776<w∨36<=d then none else if d<bF k bias then some (i+d*w,ds)else dA bias (k+36) (i+d*w) (w*(36-bF k bias)) ds
theorem N5(q t:Nat)(h:t<=q):(t+(q-t)%(36-t))+(36-t)*((q-t)/(36-t))=q:=by
 have:=Nat.mod_add_div (q-t) (36-t)
 omega
theorem OP(q t f:Nat)(h1:1<=t)(h2:t<=26)(hq:q<2^(f+1)):(q-t)/(36-t)<2^f:=by
 have h3:(q-t)/(36-t)<=(q-t)/2:=Nat.div_le_div_left om om;have h4:2^(f+1)=2*2^f:=by rw[Nat.pow_succ];omega
 omega
theorem N6(bias:Nat)(r:List Nat): ∀(f k q i w:Nat),q<2^f->i+w*q<=17179869184->w<=1099511627776->dA bias k i w (cY (f+1) k bias q++r)=some (i+w*q,r):=by
 intro f
 induction f with
 |zero=>
  intro k q i w hq hi hw;have h0:q=0:=by simpa using hq
  subst h0;have hl:=qI k bias;have e:cY (0+1) k bias 0=[0]:=by unfold cY;rw[if_pos om]
  rw[e];show dA bias k i w (0::r)=_;unfold dA;rw[if_neg om,if_pos om];simp
 |succ f ih=>
  intro k q i w hq hi hw;obtain ⟨l1,l2⟩:=qI k bias
  by_cases hlt:q<bF k bias
  .have e:cY (f+1+1) k bias q=[q]:=by rw[cY,if_pos hlt]
   rw[e];show dA bias k i w (q::r)=_;unfold dA;rw[if_neg om,if_pos hlt,zo q w]
  have e:cY (f+1+1) k bias q=(bF k bias+(q-bF k bias)%(36-bF k bias))::cY (f+1) (k+36) bias ((q-bF k bias)/(36-bF k bias)):=by rw[cY,if_neg hlt]
  rw[e];obtain ⟨t,ht⟩: ∃t,bF k bias=t:=⟨_,rfl⟩;rw[ht]at hlt l1 l2⊢;have hs:=N5 q t om;have hless:=OP q t f l1 l2 hq;have hm:(q-t)%(36-t)<36-t:=z0 _ om;have hw1:w<=w*q:=Nat.le_mul_of_pos_right w om;generalize (q-t)%(36-t)=m at*;generalize (q-t)/(36-t)=q' at*;have hsum:i+(t+m)*w+w*(36-t)*q'=i+w*q:=by
   rw[<-hs,Nat.mul_add,zo (t+m) w,Nat.mul_assoc];omega
  have hw2:w*(36-t)<=w*35:=zs w om;show dA bias k i w ((t+m)::(cY (f+1) (k+36) bias q'++r))=_;unfold dA;rw[if_neg om,if_neg om,ht,ih (k+36) q' _ _ hless om om,hsum]
def bH(n:Nat):Nat:=if n<26 then 97+n else 22+n
def aW(c:Nat):Nat:=if 97<=c/\c<=122 then c-97 else if 48<=c/\c<=57 then c-22 else 36
theorem Cw{n:Nat}(h:n<36):aW (bH n)=n:=by
 unfold bH aW;split
 .rw[if_pos om];omega
 rw[if_neg om,if_pos om];omega
theorem yC{n:Nat}(h:n<36):bH n<128/\bH n≠45:=by
 unfold bH;split<;>omega
theorem Gr(bias:Nat): ∀(f k q:Nat),∀d∈cY f k bias q,d<36:=by
 intro f
 induction f with
 |zero=>intro k q d h;simp[cY]at h
 |succ f ih=>
  intro k q d h;obtain ⟨l1,l2⟩:=qI k bias;unfold cY at h;split at h
  .rw[zt.1 h];omega
  rcases zf.1 h with h|h
  .rw[h]
   have hm:(q-bF k bias)%(36-bF k bias)<36-bF k bias:=z0 _ om;omega
  exact ih _ _ d h
theorem XC(bias f k q:Nat):cY (f+1) k bias q≠[]:=by
 unfold cY;split<;>simp
def cC:Nat->Nat->Nat->Nat
 |0,d,k=>k+36*d/(d+38)
 |f+1,d,k=>if 455<d then cC f (d/35) (k+36)else k+36*d/(d+38)
def aU(delta n:Nat)(first:Bool):Nat:=
 if 1000000000000<delta∨n<1∨1000000<n then 0
 else cC 64 ((if first then delta/700 else delta/2)+(if first then delta/700 else delta/2)/n) 0
def aE(n:Nat):List Nat->Nat->List Nat×Nat
 |[],d=>([],d)
 |c::r,d=>if c<n then aE n r (d+1)else if c=n then (d::(aE n r 0).1,(aE n r 0).2)else aE n r d
def aK(n:Nat):List Nat->Nat
 |[]=>1114112
 |c::r=>if n<=c/\c<aK n r then c else aK n r
def dN(l:List Nat):Nat->Nat->Nat->Nat->List Nat
 |0,_,_,_=>[]
 |f+1,n,d,h=>if h<l.length then (aE (aK n l) l (d+(aK n l-n)*(h+1))).1++dN l f (aK n l+1) ((aE (aK n l) l (d+(aK n l-n)*(h+1))).2+1) (h+(aE (aK n l) l (d+(aK n l-n)*(h+1))).1.length)else []
def dF(i x:Nat)(l:List Nat):List Nat:=l.take i++x::l.drop i
theorem A4(a b:List Nat)(x:Nat):dF a.length x (a++b)=a++x::b:=by simp[dF]
def AC:Nat->Nat->List Nat->List Nat->Option (List Nat)
 |_,_,out,[]=>some out
 |n,i,out,d::ds=>
  if 60<out.length+1∨1114111<n+(i+d)/(out.length+1)then none
  else AC (n+(i+d)/(out.length+1)) ((i+d)%(out.length+1)+1) (dF ((i+d)%(out.length+1)) (n+(i+d)/(out.length+1)) out) ds
theorem N7(n0 i0 d n pos:Nat)(out ds:List Nat)(hn:n0<=n)(hp:pos<=out.length)(hl:out.length<60)(hm:n<=1114111)(he:d+i0+n0*(out.length+1)=n*(out.length+1)+pos):
  AC n0 i0 out (d::ds)=AC n (pos+1) (dF pos n out) ds:=by
 have hx:i0+d=(n-n0)*(out.length+1)+pos:=by
  have h1:(n-n0)*(out.length+1)+n0*(out.length+1)=n*(out.length+1):=by rw[<-zw];congr 1;omega
  omega
 have hdiv:(i0+d)/(out.length+1)=n-n0:=by
  rw[hx,zo,Nat.mul_add_div om,Nat.div_eq_of_lt om];omega
 have hmod:(i0+d)%(out.length+1)=pos:=by
  rw[hx,zo,Nat.mul_add_mod,Nat.mod_eq_of_lt om]
 rw[AC,hdiv,hmod,show n0+(n-n0)=n by omega,if_neg om]
theorem N8(n:Nat)(hn:n<=1114111): ∀(l2 l1:List Nat) (d n0 i0:Nat) (ds:List Nat),n0<=n->(l1++l2).length<=60->
  d+i0+n0*((l1.filter (· <=n)++l2.filter (· <n)).length+1)=n*((l1.filter (· <=n)++l2.filter (· <n)).length+1)+(l1.filter (· <=n)).length->
  ∃n1 i1,n1<=n/\AC n0 i0 (l1.filter (· <=n)++l2.filter (· <n)) ((aE n l2 d).1++ds)=AC n1 i1 ((l1++l2).filter (· <=n)) ds/\
   (aE n l2 d).2+i1+n1*(((l1++l2).filter (· <=n)).length+1)=n*(((l1++l2).filter (· <=n)).length+1)+((l1++l2).filter (· <=n)).length/\
   (l1.filter (· <=n)++l2.filter (· <n)).length+(aE n l2 d).1.length=((l1++l2).filter (· <=n)).length:=by
 intro l2
 induction l2 with
 |nil=>
  intro l1 d n0 i0 ds h0 hlen he;refine ⟨n0,i0,h0,?_,?_,?_⟩
  .simp[aE]
  .simpa[aE] using he
  simp[aE]
 |cons c r ih=>
  intro l1 d n0 i0 ds h0 hlen he;have hass:l1++c::r=(l1++[c])++r:=by simp
  rcases Nat.lt_trichotomy c n with hc|hc|hc
  .have ep:aE n (c::r) d=aE n r (d+1):=by rw[aE,if_pos hc]
   have e1:(l1++[c]).filter (· <=n)=l1.filter (· <=n)++[c]:=by simp[zm,Nat.le_of_lt hc]
   have e2:(c::r).filter (· <n)=c::r.filter (· <n):=by simp[hc]
   have e3:l1.filter (· <=n)++(c::r).filter (· <n)=(l1++[c]).filter (· <=n)++r.filter (· <n):=by rw[e1,e2];simp
   rw[e3]at he⊢;rw[ep,hass];exact ih (l1++[c]) (d+1) n0 i0 ds h0 (by rw[<-hass];exact hlen) (by
    have h1:((l1++[c]).filter (· <=n)).length=(l1.filter (· <=n)).length+1:=by rw[e1];simp
    omega)
  .subst hc
   have ep:aE c (c::r) d=(d::(aE c r 0).1,(aE c r 0).2):=by rw[aE,if_neg om,if_pos rfl]
   have e1:(l1++[c]).filter (· <=c)=l1.filter (· <=c)++[c]:=by simp[zm]
   have e2:(c::r).filter (· <c)=r.filter (· <c):=by simp
   rw[e2]at he⊢;rw[ep,hass];have hout:(l1.filter (· <=c)++r.filter (· <c)).length<60:=by
    have h1:=ze (fun x=>decide (x<=c)) l1;have h2:=ze (fun x=>decide (x<c)) r;simp only[zd,zg]at hlen⊢;omega
   have hst:=N7 n0 i0 d c (l1.filter (· <=c)).length (l1.filter (· <=c)++r.filter (· <c)) ((aE c r 0).1++ds) h0 j2 hout hn he;have e4:dF (l1.filter (· <=c)).length c (l1.filter (· <=c)++r.filter (· <c))=(l1++[c]).filter (· <=c)++r.filter (· <c):=by rw[A4,e1];simp
   rw[e4]at hst;obtain ⟨n1,i1,g0,g1,g2,g3⟩:=ih (l1++[c]) 0 c ((l1.filter (· <=c)).length+1) ds (zh _) (by rw[<-hass];exact hlen) (by rw[e1,zd];simp;omega);refine ⟨n1,i1,g0,?_,g2,?_⟩
   .show AC n0 i0 _ (d::((aE c r 0).1++ds))=_
    rw[hst,g1]
   rw[<-g3,e1];simp;omega
  have ep:aE n (c::r) d=aE n r d:=by rw[aE,if_neg om,if_neg om]
  have e1:(l1++[c]).filter (· <=n)=l1.filter (· <=n):=by
   rw[zm,zc (by simp;omega)];simp
  have e2:(c::r).filter (· <n)=r.filter (· <n):=zc (by simp;omega);have e3:l1.filter (· <=n)++(c::r).filter (· <n)=(l1++[c]).filter (· <=n)++r.filter (· <n):=by rw[e1,e2]
  rw[e3]at he⊢;rw[ep,hass];exact ih (l1++[c]) d n0 i0 ds h0 (by rw[<-hass];exact hlen) (by rw[e1]at he⊢;exact he)
theorem uJ(n:Nat): ∀(l:List Nat),(∀c∈l,c<=1114111)->(∃c∈l,n<=c)->aK n l∈l/\n<=aK n l/\ ∀c∈l,n<=c->aK n l<=c
 |[],_,h=>by obtain ⟨c,hc,_⟩:=h;simp at hc
 |c::r,hv,h=>by
  have hc:=hv c j2;have hv': ∀c∈r,c<=1114111:=fun x hx=>hv x (by simp[hx])
  by_cases hr: ∃x∈r,n<=x
  .obtain ⟨h1,h2,h3⟩:=uJ n r hv' hr
   unfold aK;split
   .next hlt=>
    refine ⟨by simp,hlt.1,fun x hx hn=> ?_⟩
    rcases zf.1 hx with rfl|hx
    .omega
    have:=h3 x hx hn;omega
   next hlt=>
   refine ⟨by simp[h1],h2,fun x hx hn=> ?_⟩
   rcases zf.1 hx with rfl|hx
   .omega
   exact h3 x hx hn
  have hcn:n<=c:=by
   obtain ⟨x,hx,hn⟩:=h
   rcases zf.1 hx with rfl|hx
   .exact hn
   exact absurd ⟨x,hx,hn⟩ hr
  have hbig: ∀(r:List Nat),(¬ ∃x∈r,n<=x)->aK n r=1114112:=by
   intro r
   induction r with
   |nil=>intro _;rfl
   |cons y r ih=>
    intro hno;unfold aK;rw[if_neg (fun hy=>hno ⟨y,by simp,hy.1⟩)];exact ih (fun ⟨x,hx,hn⟩=>hno ⟨x,by simp[hx],hn⟩)
  unfold aK;rw[hbig r hr,if_pos om];refine ⟨by simp,hcn,fun x hx hn=> ?_⟩
  rcases zf.1 hx with rfl|hx
  .omega
  exact absurd ⟨x,hx,hn⟩ hr
theorem kY(m:Nat): ∀(l:List Nat),m∈l->(l.filter (· <m)).length<(l.filter (· <=m)).length:=by
 have hle: ∀(l:List Nat),(l.filter (· <m)).length<=(l.filter (· <=m)).length:=by
  intro l
  induction l with
  |nil=>simp
  |cons c r ih=>
   by_cases h1:c<m
   .rw[za (by simpa using h1),za (by simp;omega)];simp;exact ih
   rw[zc (by simpa using h1)]
   by_cases h2:c<=m
   .rw[za (by simpa using h2)];simp;omega
   rw[zc (by simpa using h2)];exact ih
 intro l
 induction l with
 |nil=>intro h;simp at h
 |cons c r ih=>
  intro h
  by_cases h1:c<m
  .have hr:m∈r:=by
    rcases zf.1 h with rfl|h
    .omega
    exact h
   rw[za (by simpa using h1),za (by simp;omega)];simp;exact ih hr
  rw[zc (by simpa using h1)]
  by_cases h2:c<=m
  .rw[za (by simpa using h2)]
   have:=hle r
   simp;omega
  have hr:m∈r:=by
   rcases zf.1 h with rfl|h
   .omega
   exact h
  rw[zc (by simpa using h2)];exact ih hr
theorem kL(l:List Nat)(p q:Nat->Bool)(h: ∀c∈l,p c=q c):l.filter p=l.filter q:=List.filter_congr h
theorem Cx(l:List Nat)(hl:l.length<=60)(hv: ∀c∈l,c<=1114111): ∀(f n d n0 i0:Nat),n0<=n->l.length<=(l.filter (· <n)).length+f->
  d+i0+n0*((l.filter (· <n)).length+1)=n*((l.filter (· <n)).length+1)->AC n0 i0 (l.filter (· <n)) (dN l f n d (l.filter (· <n)).length)=some l:=by
 intro f
 induction f with
 |zero=>
  intro n d n0 i0 _ hf _;have h1:=ze (fun x=>decide (x<n)) l;have h2:l.filter (· <n)=l:=zj.2 (zk.1 om);rw[dN,AC,h2]
 |succ f ih=>
  intro n d n0 i0 h0 hf he;have hfl:=ze (fun x=>decide (x<n)) l
  by_cases hlt:(l.filter (· <n)).length<l.length
  .have hex: ∃c∈l,n<=c:=by
    by_cases hx: ∃c∈l,n<=c
    .exact hx
    have h2:l.filter (· <n)=l:=zj.2 (fun c hc=>by
     simp only[decide_eq_true_eq]
     rcases zp c n with h|h
     .exact h
     exact absurd ⟨c,hc,h⟩ hx)
    rw[h2]at hlt;omega
   obtain ⟨m1,m2,m3⟩:=uJ n l hv hex;have hd:dN l (f+1) n d (l.filter (· <n)).length=(aE (aK n l) l (d+(aK n l-n)*((l.filter (· <n)).length+1))).1++dN l f (aK n l+1) ((aE (aK n l) l (d+(aK n l-n)*((l.filter (· <n)).length+1))).2+1) ((l.filter (· <n)).length+(aE (aK n l) l (d+(aK n l-n)*((l.filter (· <n)).length+1))).1.length):=by
    rw[dN,if_pos hlt]
   rw[hd];generalize aK n l=m at*;have hsame:l.filter (· <n)=l.filter (· <m):=kL l _ _ (fun c hc=>by
    rcases zp c n with h|h
    .simp[h];omega
    have:=m3 c hc h
    rw[decide_eq_false om,decide_eq_false om])
   have hle:l.filter (· <m+1)=l.filter (· <=m):=kL l _ _ (fun c _=>decide_eq_decide.2 om);have hmore:=kY m l m1;have hmv:=hv m m1;rw[hsame]at he hf⊢;generalize hds:dN l f (m+1) _ _=ds;have hstep:=N8 m hmv l [] (d+(m-n)*((l.filter (· <m)).length+1)) n0 i0 ds om (by simpa using hl) (by
    simp only[zy,zq,zr,zu];have h1:(m-n)*((l.filter (· <m)).length+1)+n*((l.filter (· <m)).length+1)=m*((l.filter (· <m)).length+1):=by rw[<-zw];congr 1;omega
    omega)
   simp only[zy,zq]at hstep;obtain ⟨n1,i1,g0,g1,g2,g3⟩:=hstep;rw[g1,<-hds,g3];have hnext:=ih (m+1) ((aE m l (d+(m-n)*((l.filter (· <m)).length+1))).2+1) n1 i1 om (by rw[hle];omega) (by
    rw[hle,zw];omega)
   rw[hle]at hnext;exact hnext
  have h2:l.filter (· <n)=l:=zj.2 (zk.1 om);rw[dN,if_neg hlt,AC,h2]
theorem nY(n:Nat): ∀(l:List Nat) (d M:Nat),d+l.length<=M->(∀x∈(aE n l d).1,x<=M)/\(aE n l d).2<=M
 |[],d,M,h=>⟨fun x hx=>by simp[aE]at hx,by simpa[aE] using h⟩
 |c::r,d,M,h=>by
  simp only[zg]at h;unfold aE;split
  .exact nY n r (d+1) M om
  split
  .have hr:=nY n r 0 M om
   refine ⟨fun x hx=> ?_,hr.2⟩
   rcases zf.1 hx with rfl|hx
   .omega
   exact hr.1 x hx
  exact nY n r d M om
theorem jC(n:Nat): ∀(l:List Nat) (d:Nat),(l.filter (· <n)).length+(aE n l d).1.length=(l.filter (· <=n)).length
 |[],d=>by simp[aE]
 |c::r,d=>by
  unfold aE;split
  .next h=>
   have hr:=jC n r (d+1);rw[za (by simpa using h),za (by simp;omega)];simp only[zg];omega
  next h=>
  rw[zc (by simpa using h)];split
  .next e=>
   have hr:=jC n r 0;rw[za (by simp;omega)];simp only[zg];omega
  next e=>
  have hr:=jC n r d;rw[zc (by simp;omega)];exact hr
theorem pE(l:List Nat)(n:Nat)(hv: ∀c∈l,c<=1114111)(hlt:(l.filter (· <n)).length<l.length):aK n l∈l/\n<=aK n l/\ ∀c∈l,n<=c->aK n l<=c:=by
 refine uJ n l hv ?_
 by_cases hx: ∃c∈l,n<=c
 .exact hx
 have h2:l.filter (· <n)=l:=zj.2 (fun c hc=>by
  simp only[decide_eq_true_eq]
  rcases zp c n with h|h
  .exact h
  exact absurd ⟨c,hc,h⟩ hx)
 rw[h2]at hlt;omega
theorem iN(l:List Nat)(n m:Nat)(h2:n<=m)(h3: ∀c∈l,n<=c->m<=c):l.filter (· <n)=l.filter (· <m):=
 kL l _ _ (fun c hc=>by
  rcases zp c n with h|h
  .simp[h];omega
  have:=h3 c hc h
  rw[decide_eq_false om,decide_eq_false om])
theorem fO(l:List Nat)(m:Nat):l.filter (· <m+1)=l.filter (· <=m):=kL l _ _ (fun c _=>decide_eq_decide.2 om)
theorem N9(l:List Nat)(hl:l.length<=60)(hv: ∀c∈l,c<=1114111): ∀(f n d:Nat),d<=61*n-> ∀x∈dN l f n d (l.filter (· <n)).length,x<=67960831:=by
 intro f
 induction f with
 |zero=>intro n d _ x hx;simp[dN]at hx
 |succ f ih=>
  intro n d hd x hx
  by_cases hlt:(l.filter (· <n)).length<l.length
  .obtain ⟨m1,m2,m3⟩:=pE l n hv hlt
   rw[dN,if_pos hlt]at hx;generalize aK n l=m at*;have hmv:=hv m m1;rw[iN l n m m2 m3]at hx hlt;have hb:d+(m-n)*((l.filter (· <m)).length+1)<=61*m:=by
    have h1:(m-n)*((l.filter (· <m)).length+1)<=(m-n)*61:=zs _ om;omega
   have hp:=nY m l (d+(m-n)*((l.filter (· <m)).length+1)) (61*m+60) om;have hpl:=jC m l (d+(m-n)*((l.filter (· <m)).length+1))
   rcases zl.1 hx with hx|hx
   .have:=hp.1 x hx;omega
   rw[hpl,<-fO]at hx;exact ih (m+1) _ (by have:=hp.2;omega) x hx
  rw[dN,if_neg hlt]at hx;simp at hx
def bT(basic:Nat):Nat->Nat->List Nat->List Nat
 |_,_,[]=>[]
 |h,bias,d::ds=>cY 28 36 bias d++bT basic (h+1) (aU d (h+1) (h==basic)) ds
def jR(basic:Nat):Nat->List Nat->Nat->Nat->Nat->List Nat->Option (List Nat)
 |_,[],_,_,_,out=>some out
 |0,_::_,_,_,_,_=>none
 |f+1,v::vs,n,i,bias,out=>
  match dA bias 36 0 1 (v::vs)with
  |none=>none
  |some (more,rest)=>
   if 60<out.length+1∨1114111<n+(i+more)/(out.length+1)then none
   else jR basic f rest (n+(i+more)/(out.length+1)) ((i+more)%(out.length+1)+1) (aU more (out.length+1) (out.length==basic)) (dF ((i+more)%(out.length+1)) (n+(i+more)/(out.length+1)) out)
theorem aP(i x:Nat)(l:List Nat):(dF i x l).length=l.length+1:=by
 unfold dF;rw[zd,zg,List.length_take,List.length_drop];omega
theorem OQ(basic:Nat): ∀(ds:List Nat) (f h bias n i:Nat) (out:List Nat),out.length=h->(∀d∈ds,d<=67960831)->ds.length<=f->
  jR basic f (bT basic h bias ds) n i bias out=AC n i out ds
 |[],f,h,bias,n,i,out,_,_,_=>by cases f<;>rfl
 |d::ds,f,h,bias,n,i,out,hh,hd,hf=>by
  obtain ⟨f,rfl⟩: ∃g,f=g+1:=⟨f-1,by simp at hf;omega⟩;have hdd:=hd d j2;have hread:=N6 bias (bT basic (h+1) (aU d (h+1) (h==basic)) ds) 27 36 d 0 1 (by simp;omega) om om;have hne: ∃v vs,cY (27+1) 36 bias d++bT basic (h+1) (aU d (h+1) (h==basic)) ds=v::vs:=by
   cases hx:cY (27+1) 36 bias d with
   |nil=>exact absurd hx (XC bias 27 36 d)
   |cons v vs=>exact ⟨v,_,rfl⟩
  obtain ⟨v,vs,hv⟩:=hne;have hcode:bT basic h bias (d::ds)=v::vs:=hv;rw[hv]at hread;rw[hcode,jR,hread];simp only[Nat.zero_add,Nat.one_mul];rw[AC];split
  .rfl
  subst hh;exact OQ basic ds f _ _ _ _ _ (aP _ _ _) (fun x hx=>hd x (by simp[hx])) (by simp at hf;omega)
def rS(l:List Nat):List Nat:=bT (l.filter (· <128)).length (l.filter (· <128)).length 72 (dN l l.length 128 0 (l.filter (· <128)).length)
theorem yD(l:List Nat)(hv: ∀c∈l,c<=1114111): ∀(f n d:Nat),(l.filter (· <n)).length+(dN l f n d (l.filter (· <n)).length).length<=l.length:=by
 intro f
 induction f with
 |zero=>intro n d;simp only[dN,zr,zu];exact ze _ _
 |succ f ih=>
  intro n d
  by_cases hlt:(l.filter (· <n)).length<l.length
  .obtain ⟨m1,m2,m3⟩:=pE l n hv hlt
   rw[dN,if_pos hlt];generalize aK n l=m at*;rw[iN l n m m2 m3];have hpl:=jC m l (d+(m-n)*((l.filter (· <m)).length+1));rw[zd,hpl,<-fO];rw[<-fO]at hpl
   have:=ih (m+1) ((aE m l (d+(m-n)*((l.filter (· <m)).length+1))).2+1)
   omega
  rw[dN,if_neg hlt];simp only[zr,zu];exact ze _ _
def bC(l:List Nat):List Nat:=l.filter (· <128)++(if 0<(l.filter (· <128)).length then [45]else [])++(rS l).map bH
def cP:List Nat->Option (List Nat×List Nat)
 |[]=>none
 |c::r=>match cP r with
  |some (a,b)=>some (c::a,b)
  |none=>if c=45 then some ([],r)else none
theorem nG: ∀(b:List Nat),(∀c∈b,c≠45)->cP b=none
 |[],_=>rfl
 |c::r,h=>by
  rw[cP,nG r (fun x hx=>h x (by simp[hx]))];exact if_neg (h c j2)
theorem vU(b:List Nat)(hb: ∀c∈b,c≠45): ∀(a:List Nat),cP (a++45::b)=some (a,b)
 |[]=>by
  show cP (45::b)=_;rw[cP,nG b hb];rfl
 |c::a=>by
  show cP (c::(a++45::b))=_;rw[cP,vU b hb a]
def headD(s:List Nat):List Nat:=match cP s with
 |some (a,_)=>a
 |none=>[]
def vV(s:List Nat):List Nat:=match cP s with
 |some (_,b)=>b
 |none=>s
def kZ(s:List Nat):Option (List Nat):=jR (headD s).length s.length ((vV s).map aW) 128 0 72 (headD s)
theorem OR(basic:Nat): ∀(ds:List Nat) (h bias:Nat),∀v∈bT basic h bias ds,v<36
 |[],_,_,v,hv=>by simp[bT]at hv
 |d::ds,h,bias,v,hv=>by
  rcases zl.1 hv with hv|hv
  .exact Gr bias 28 36 d v hv
  exact OR basic ds _ _ v hv
theorem LM(l:List Nat): ∀v∈rS l,v<36:=OR _ _ _ _
theorem OS: ∀(vs:List Nat),(∀v∈vs,v<36)->(vs.map bH).map aW=vs
 |[],_=>rfl
 |v::vs,h=>by
  rw[List.map_cons,List.map_cons,Cw (h v j2),OS vs (fun x hx=>h x (by simp[hx]))]
theorem O0(vs:List Nat)(h: ∀v∈vs,v<36): ∀c∈vs.map bH,c≠45:=by
 intro c hc;obtain ⟨v,hv,rfl⟩:=List.mem_map.1 hc;exact (yC (h v hv)).2
theorem IG(l:List Nat):headD (bC l)=l.filter (· <128)/\vV (bC l)=(rS l).map bH:=by
 have hd:=O0 (rS l) (LM l);unfold headD vV bC
 by_cases h:0<(l.filter (· <128)).length
 .rw[if_pos h,List.append_assoc]
  show (match cP (l.filter (· <128)++45::(rS l).map bH)with|some (a,_)=>a|none=>[])=_/\_;rw[vU _ hd];exact ⟨rfl,by show (match cP (l.filter (· <128)++45::(rS l).map bH)with|some (_,b)=>b|none=>_)=_;rw[vU _ hd]⟩
 have he:l.filter (· <128)=[]:=List.eq_nil_of_length_eq_zero om;rw[if_neg h,he];simp only[zq];rw[nG _ hd];exact ⟨rfl,rfl⟩
theorem XD(bias:Nat): ∀(f k q:Nat),(cY f k bias q).length<=f
 |0,_,_=>by simp[cY]
 |f+1,k,q=>by
  unfold cY;split
  .simp
  have:=XD bias f (k+36) ((q-bF k bias)/(36-bF k bias))
  simp;omega
theorem OT(basic:Nat): ∀(ds:List Nat) (h bias:Nat),ds.length<=(bT basic h bias ds).length
 |[],_,_=>by simp
 |d::ds,h,bias=>by
  have h1:=OT basic ds (h+1) (aU d (h+1) (h==basic));have h2:1<=(cY 28 36 bias d).length:=by
   cases hx:cY 28 36 bias d with
   |nil=>exact absurd hx (XC bias 27 36 d)
   |cons=>simp
  show (d::ds).length<=(cY 28 36 bias d++bT basic (h+1) (aU d (h+1) (h==basic)) ds).length;rw[zd,zg];omega
theorem O8(l:List Nat)(hl:l.length<=60)(hv: ∀c∈l,c<=1114111):kZ (bC l)=some l:=by
 unfold kZ;obtain ⟨h1,h2⟩:=IG l;rw[h1,h2,OS _ (LM l)];have hc:=yD l hv l.length 128 0;have hge:=OT (l.filter (· <128)).length (dN l l.length 128 0 (l.filter (· <128)).length) (l.filter (· <128)).length 72;unfold rS;rw[OQ _ _ _ _ 72 128 0 _ rfl (N9 l hl hv l.length 128 0 om) ?_]
 .exact Cx l hl hv l.length 128 0 128 0 (zh _) om om
 unfold bC rS;rw[zd,zd,zz];omega
def IH(c:Nat):Bool:=decide (c<=1114111)&& !(decide (55296<=c)&&decide (c<=57343))
def dY(l:List Nat):Bool:=decide (l.length<=60)&&l.all IH
def cL(s:List Nat):Option (List Nat):=match kZ s with
 |some l=>if dY l=true/\bC l=s then some l else none
 |none=>none
theorem bI{l:List Nat}(h:dY l=true):l.length<=60/\ ∀c∈l,c<=1114111:=by
 simp only[dY,zv,decide_eq_true_eq,List.all_eq_true]at h;refine ⟨h.1,fun c hc=> ?_⟩
 have:=h.2 c hc
 simp only[IH,zv,decide_eq_true_eq]at this;exact this.1
theorem Cy{l:List Nat}(h:dY l=true):cL (bC l)=some l:=by
 unfold cL;obtain ⟨h1,h2⟩:=bI h;rw[O8 l h1 h2];exact if_pos ⟨h,rfl⟩
theorem qJ(s l:List Nat):cL s=some l↔dY l=true/\bC l=s:=by
 constructor
 .intro h
  unfold cL at h;split at h
  .split at h
   .next hh=>cases h;exact hh
   cases h
  cases h
 rintro ⟨h,rfl⟩;exact Cy h
theorem mO{l:List Nat}: ∀c∈bC l,c<128:=by
 intro c hc;unfold bC at hc
 rcases zl.1 hc with hc|hc
 .rcases zl.1 hc with hc|hc
  .have:=(List.mem_filter.1 hc).2
   simpa using this
  split at hc
  .rw[zt.1 hc];omega
  simp at hc
 obtain ⟨v,hv,rfl⟩:=List.mem_map.1 hc;exact (yC (LM l v hv)).1
def yE(delta n:Int)(first:Bool):Int:=if 0<=delta/\1<=n then (aU delta.toNat n.toNat first:Int)else 0
theorem II: ∀(f d k:Nat),cC f d k<=k+36*f+36
 |0,d,k=>by
  unfold cC
  have:36*d/(d+38)<=36:=zi om
  omega
 |f+1,d,k=>by
  unfold cC;split
  .have:=II f (d/35) (k+36);omega
  have:36*d/(d+38)<=36:=zi om
  omega
theorem fI(d n:Nat)(first:Bool):aU d n first<=2400:=by
 unfold aU;split
 .omega
 have:=II 64 ((if first then d/700 else d/2)+(if first then d/700 else d/2)/n) 0
 omega
theorem nZ{f d k:Nat}(h:455<d)(hf:d<2^f): ∃g,f=g+1/\cC f d k=cC g (d/35) (k+36)/\d/35<2^g:=by
 cases f with
 |zero=>simp at hf;omega
 |succ g=>
  refine ⟨g,rfl,by rw[cC,if_pos h],?_⟩;have h4:2^(g+1)=2*2^g:=by rw[Nat.pow_succ];omega
  omega
theorem qK{f d k:Nat}(h:d<=455):cC f d k=k+36*d/(d+38):=by
 cases f with
 |zero=>rfl
 |succ g=>rw[cC,if_neg om]
theorem IJ{delta n:Nat}{first:Bool}(h1:(delta:Int)<=1000000000000)(h2:1<=(n:Int))(h3:(n:Int)<=1000000)(x:Nat)(hx:x=if first then delta/700 else delta/2):aU delta n first=cC 64 (x+x/n) 0:=by
 unfold aU;rw[if_neg om,hx]
theorem qL(delta n:Nat)(first:Bool)(w:World)(h1:(delta:Int)<=1000000000000)(h2:1<=(n:Int))(h3:(n:Int)<=1000000):Calls prog 229 #[I J (delta:Int),I J (n:Int),.bool first] w fun e w'=>e=.returned (I J (aU delta n first:Int))/\w=w':=by
 have h0:0<=(delta:Int):=om;obtain ⟨x,hx⟩: ∃x:Nat,x=if first then delta/700 else delta/2:=⟨_,rfl⟩
 have HN:Hid (aU delta n first=cC 64 (x+x/n) 0):=IJ h1 h2 h3 x hx;have hy:x/n<=x:=Nat.div_le_self x n;have hne: ¬(n:Int)=0:=om;have hxle:(x:Int)<=500000000000:=by cases first<;>simp at hx<;>omega
 obtain ⟨z,hz⟩: ∃z:Nat,x/n=z:=⟨_,rfl⟩;have hZ:(x:Int)/(n:Int)=(z:Int):=by rw[<-hz];simp
 rw[hz]at HN hy;have hzle:(z:Int)<=(x:Int):=om;have HP:Hid (x+z<2^64):=by
  show _<_
  have:(2:Nat)^64=18446744073709551616:=de
  omega
 clear hz hy
 cases first with
 |true=>
  have hX:(delta:Int)/700=(x:Int):=by simp at hx;omega
  clear hx;go_enter func229,ntmps229;go_wp2_with fail;refine j5 (aJ _ _ _ _ h0 h1) ?_;go_wp2_with fail;refine j5 (aJ _ _ _ _ h2 h3) ?_;go_wp2_with fail
  go_loop[0,7] (fun a b=> ∃f d k:Nat,a=I J d/\b=I J k/\d<=x+z/\k+36*f<=2304/\d<2^f/\cC f d k=cC 64 (x+z) 0) (fun a _=>(intOf a).toNat)
  case atStart=>exact ⟨64,x+z,0,by simp,rfl,zh _,om,HP.out,rfl⟩
  obtain ⟨f,d,k,rfl,rfl,hd,hk,hf,he⟩:=hrel;have HE:Hid (cC f d k=cC 64 (x+z) 0):=he;have HF:Hid (d<2^f):=hf;clear he hf
  by_cases hlt:455<(d:Int)
  .obtain ⟨g,hg,he,hl⟩:=nZ (k:=k) (show 455<d by omega) HF.out
   have HE2:Hid (cC g (d/35) (k+36)=cC 64 (x+z) 0):=he.symm.trans HE.out;have HF2:Hid (d/35<2^g):=hl;clear he hl;go_wp2;go_round
   case rel=>exact ⟨g,d/35,k+36,by simp,gn,om,om,HF2.out,HE2.out⟩
   case measure=>exact j1
  have HR:Hid (aU delta n true=k+36*d/(d+38)):=by show _=_;rw[HN.out,<-HE.out,qK om]
  have hnz: ¬(d:Int)+38=0:=om;have hr0:36*d/(d+38)<=36:=zi om;obtain ⟨r,hr⟩: ∃r:Nat,36*d/(d+38)=r:=⟨_,rfl⟩;have hR:(36*(d:Int))/((d:Int)+38)=(r:Int):=by rw[<-hr];simp
  rw[hr]at HR hr0;clear hr;go_wp2;go_ret;exact ⟨aR (by rw[HR.out];simp),rfl⟩
 |false=>
  have hX:(delta:Int)/2=(x:Int):=by simp at hx;omega
  clear hx;go_enter func229,ntmps229;go_wp2_with fail;refine j5 (aJ _ _ _ _ h0 h1) ?_;go_wp2_with fail;refine j5 (aJ _ _ _ _ h2 h3) ?_;go_wp2_with fail
  go_loop[0,7] (fun a b=> ∃f d k:Nat,a=I J d/\b=I J k/\d<=x+z/\k+36*f<=2304/\d<2^f/\cC f d k=cC 64 (x+z) 0) (fun a _=>(intOf a).toNat)
  case atStart=>exact ⟨64,x+z,0,by simp,rfl,zh _,om,HP.out,rfl⟩
  obtain ⟨f,d,k,rfl,rfl,hd,hk,hf,he⟩:=hrel;have HE:Hid (cC f d k=cC 64 (x+z) 0):=he;have HF:Hid (d<2^f):=hf;clear he hf
  by_cases hlt:455<(d:Int)
  .obtain ⟨g,hg,he,hl⟩:=nZ (k:=k) (show 455<d by omega) HF.out
   have HE2:Hid (cC g (d/35) (k+36)=cC 64 (x+z) 0):=he.symm.trans HE.out;have HF2:Hid (d/35<2^g):=hl;clear he hl;go_wp2;go_round
   case rel=>exact ⟨g,d/35,k+36,by simp,gn,om,om,HF2.out,HE2.out⟩
   case measure=>exact j1
  have HR:Hid (aU delta n false=k+36*d/(d+38)):=by show _=_;rw[HN.out,<-HE.out,qK om]
  have hnz: ¬(d:Int)+38=0:=om;have hr0:36*d/(d+38)<=36:=zi om;obtain ⟨r,hr⟩: ∃r:Nat,36*d/(d+38)=r:=⟨_,rfl⟩;have hR:(36*(d:Int))/((d:Int)+38)=(r:Int):=by rw[<-hr];simp
  rw[hr]at HR hr0;clear hr;go_wp2;go_ret;exact ⟨aR (by rw[HR.out];simp),rfl⟩
theorem pF{delta n:Int}{first:Bool}(h:0<=delta/\1<=n):yE delta n first=(aU delta.toNat n.toNat first:Int):=if_pos h
theorem DI{delta n:Int}{first:Bool}(h:delta<0∨1000000000000<delta∨n<1∨1000000<n):yE delta n first=0:=by
 unfold yE;split
 .unfold aU
  rw[if_pos om];rfl
 rfl
theorem sS(delta n:Int)(first:Bool)(w:World):Calls prog 229 #[I J delta,I J n,.bool first] w fun e w'=>e=.returned (I J (yE delta n first))/\w=w':=by
 by_cases h1:0<=delta/\delta<=1000000000000
 .by_cases h2:1<=n/\n<=1000000
  .rw[pF ⟨h1.1,h2.1⟩]
   obtain ⟨d,rfl⟩:=zn h1.1;obtain ⟨m,rfl⟩:=zn (show 0<=n by omega);exact qL d m first w h1.2 h2.1 h2.2
  have HV:Hid (yE delta n first=0):=DI om;have H2:Hid (n<1∨1000000<n):=by show _∨_;omega
  obtain ⟨a1,a2⟩:=h1;clear h2;go_enter func229,ntmps229;go_wp2_with fail;refine j5 (aJ _ _ _ _ a1 a2) ?_;go_wp2_with fail;refine j5 (aN _ _ _ _ H2.out) ?_;go_wp2_with fail;go_ret;exact ⟨aR (by rw[HV.out]),rfl⟩
 have HV:Hid (yE delta n first=0):=DI om;have H1:Hid (delta<0∨1000000000000<delta):=by show _∨_;omega
 clear h1;go_enter func229,ntmps229;go_wp2_with fail;refine j5 (aN _ _ _ _ H1.out) ?_;go_wp2_with fail;go_ret;exact ⟨aR (by rw[HV.out]),rfl⟩
def b8(l:List Nat):List UInt8:=l.map zx
theorem A5(a b:List Nat):b8 (a++b)=b8 a++b8 b:=List.map_append
theorem sT(a:List Nat):(b8 a).length=a.length:=zz _
theorem fP{w1:World}{B:Nat}{e:TypeId}{v:Value}{o:List Nat}{x:Int}(c:Nat)(hc:c<256)(hx:x=(c:Int))
  (h:w1.ownsRow B e 1 v (o.length+1) (aD (b8 o)++ #[Value.int .u8 x].toList)):w1.ownsRow B e 1 v (o++[c]).length (aD (b8 (o++[c]))):=by
 subst hx;have e1:((zx c).toNat:Int)=(c:Int):=by simp;omega
 rw[A5,fC,zd];show w1.ownsRow B e 1 v (o.length+1) (aD (b8 o)++[Value.int .u8 ((zx c).toNat:Int)]);rw[e1];exact h
theorem dS(x:Int): ∀u∈ #[Value.int .u8 x].toList,u.oneCell'=true:=by
 intro u hu;simp at hu;subst hu;rfl
theorem IK(n:Nat)(w:World)(h:(n:Int)<36):Calls prog 255 #[I J (n:Int)] w fun e w'=>e=.returned (.int .u8 (bH n:Int))/\w=w':=by
 by_cases h1:(n:Int)<26
 .have HV:Hid ((bH n:Int)=97+n):=by show _=_;unfold bH;rw[if_pos om];omega
  go_enter func255,ntmps255;go_wp2;go_ret;exact ⟨aR (by rw[HV.out]<;>omega),rfl⟩
 have HV:Hid ((bH n:Int)=22+n):=by show _=_;unfold bH;rw[if_neg om];omega
 go_enter func255,ntmps255;go_wp2;go_ret;exact ⟨aR (by rw[HV.out]<;>omega),rfl⟩
theorem IL(k bias:Nat)(w:World)(h1:(k:Int)<=1099511627776)(h2:(bias:Int)<=1099511627776):Calls prog 254 #[I J (k:Int),I J (bias:Int)] w fun e w'=>e=.returned (I J (bF k bias:Int))/\w=w':=by
 have hk:0<=(k:Int):=om;have hb:0<=(bias:Int):=om
 by_cases h3:(k:Int)-(bias:Int)<1
 .have HV:Hid (bF k bias=1):=by show _=_;unfold bF;rw[if_pos om]
  go_enter func254,ntmps254;go_wp2;go_ret;exact ⟨aR (by rw[HV.out]<;>omega),rfl⟩
 by_cases h4:26<(k:Int)-(bias:Int)
 .have HV:Hid (bF k bias=26):=by show _=_;unfold bF;rw[if_neg om,if_pos om]
  go_enter func254,ntmps254;go_wp2;go_ret;exact ⟨aR (by rw[HV.out]<;>omega),rfl⟩
 have HV:Hid (bF k bias=k-bias):=by show _=_;unfold bF;rw[if_neg om,if_neg om]
 go_enter func254,ntmps254;go_wp2;go_ret;exact ⟨aR (by rw[HV.out]<;>omega),rfl⟩
theorem OX{f k bias q:Nat}(h:q<bF k bias):cY (f+1) k bias q=[q]:=by rw[cY,if_pos h]
theorem IM{f k bias q:Nat}(hq:q<2^f)(h: ¬q<bF k bias): ∃g,f=g+1/\(q-bF k bias)/(36-bF k bias)<2^g/\
  cY (f+1) k bias q=(bF k bias+(q-bF k bias)%(36-bF k bias))::cY (g+1) (k+36) bias ((q-bF k bias)/(36-bF k bias)):=by
 obtain ⟨l1,l2⟩:=qI k bias
 cases f with
 |zero=>simp at hq;omega
 |succ g=>exact ⟨g,rfl,OP q _ g l1 l2 hq,by rw[cY,if_neg h]⟩
theorem qM(q0 bias:Nat)(o0:List Nat)(v0:Value)(B:Nat)(w:World)(hq:(q0:Int)<=67960831)(hb:(bias:Int)<=2400)(hown0:w.ownsRow B 5 1 v0 o0.length (aD (b8 o0)))(hB:B<=w.heap.size)(ho:o0.length<=1099511627776):Calls prog 228 #[v0,I J (q0:Int),I J (bias:Int)] w fun e w'=> ∃v',e=.returned v'/\w'.ownsRow B 5 1 v' (o0++(cY 28 36 bias q0).map bH).length (aD (b8 (o0++(cY 28 36 bias q0).map bH)))/\Below B w w':=by
 have hb0:0<=(bias:Int):=om;have HP:Hid (q0<2^27):=by
  show _<_
  have:(2:Nat)^27=134217728:=de
  omega
 go_enter func228,ntmps228;go_wp2_with fail
 go_loopw[0,1,7] (fun v a b wr=> ∃(f q k:Nat) (o:List Nat),a=I J q/\b=I J k/\q<=q0/\k+36*f=36*28/\q<2^f/\o.length+f<=o0.length+27/\o++(cY (f+1) k bias q).map bH=o0++(cY 28 36 bias q0).map bH/\wr.ownsRow B 5 1 v o.length (aD (b8 o))/\Below B w wr) (fun _ a _ _=>(intOf a).toNat)
 case atStart=>exact ⟨27,q0,36,o0,rfl,rfl,zh _,rfl,HP.out,om,rfl,hown0,Below.refl _ _⟩
 obtain ⟨f,q,k,o,rfl,rfl,hq1,hk,hf,hol,he,hown,hbel⟩:=hrel;have HE:Hid (o++(cY (f+1) k bias q).map bH=o0++(cY 28 36 bias q0).map bH):=he;have HF:Hid (q<2^f):=hf;have hsz:=hbel.size;obtain ⟨l1,l2⟩:=qI k bias;have ct:=fun W=>IL k bias W om om
 clear he hf
 by_cases hlt:q<bF k bias
 .have HR:Hid (o++[bH q]=o0++(cY 28 36 bias q0).map bH):=by show _=_;rw[<-HE.out,OX hlt];rfl
  have cd:=fun W=>IK q W om
  have hdl:=(yC (show q<36 by omega)).1;generalize bF k bias=t at ct l1 l2 hlt;generalize bH q=c at cd HR hdl;have CT:Hid (∀W,CS 254 #[I J (k:Int),I J (bias:Int)] W (I J (t:Int))):=ct;have CD:Hid (∀W,CS 255 #[I J (q:Int)] W (.int .u8 (c:Int))):=cd;have hqt:(q:Int)<(t:Int):=om;clear ct cd;go_wp2_with fail;refine (CT.out _).mono ?_;rintro e w' ⟨rfl,rfl⟩;go_wp2_with fail;refine (CD.out _).mono ?_;rintro e w' ⟨rfl,rfl⟩;go_wp2_with (at_builtin;refine aB _ rfl _ _ 22 rfl B 5 (.int .u8 0) 1 underlying22 info5 rfl _ _ _ rfl hown #[.int .u8 (c:Int)] 1 rfl rfl (dS _) om (by unfold maxLen;omega) om ?_);intro v' w1 hown' hb1;have R:=fP c om rfl hown';rw[HR.out]at R;clear hown';go_wp2_with fail;go_ret;exact ⟨_,rfl,R,hbel.trans hb1⟩
 obtain ⟨g,hg,hl,hnum⟩:=IM (k:=k) (bias:=bias) HF.out hlt;have hm:(q-bF k bias)%(36-bF k bias)<36-bF k bias:=z0 _ om;have hdv:(q-bF k bias)/(36-bF k bias)<=(q-bF k bias):=Nat.div_le_self _ _;have HR:Hid ((o++[bH (bF k bias+(q-bF k bias)%(36-bF k bias))])++(cY (g+1) (k+36) bias ((q-bF k bias)/(36-bF k bias))).map bH=o0++(cY 28 36 bias q0).map bH):=by
  show _=_;rw[<-HE.out,hnum];simp
 have HL:Hid ((q-bF k bias)/(36-bF k bias)<2^g):=hl;clear hnum hl;generalize bF k bias=t at ct l1 l2 hlt HR HL hm hdv;have hqt: ¬(q:Int)<(t:Int):=om;have hc1:((q-t:Nat):Int)=(q:Int)-(t:Int):=om;have hc2:((36-t:Nat):Int)=36-(t:Int):=om;have hM:((q:Int)-(t:Int))%(36-(t:Int))=(((q-t)%(36-t):Nat):Int):=by rw[<-hc1,<-hc2];norm_cast
 have hQ:((q:Int)-(t:Int))/(36-(t:Int))=(((q-t)/(36-t):Nat):Int):=by rw[<-hc1,<-hc2];norm_cast
 generalize (q-t)%(36-t)=m at hM HR hm;generalize (q-t)/(36-t)=q' at hQ HR HL hdv;have cd:=fun W=>IK (t+m) W om
 have hdl:=(yC (show t+m<36 by omega)).1;generalize bH (t+m)=c at cd HR hdl;have hne: ¬36-(t:Int)=0:=om;have ht0:1<=(t:Int):=om;have ht1:(t:Int)<=26:=om;have hm0:(m:Int)<36-(t:Int):=om;have CT:Hid (∀W,CS 254 #[I J (k:Int),I J (bias:Int)] W (I J (t:Int))):=ct;have CD:Hid (∀W,CS 255 #[I J ((t:Int)+(m:Int))] W (.int .u8 (c:Int))):=fun W=>by
  have h:=cd W;rw[show ((t+m:Nat):Int)=(t:Int)+(m:Int) by omega]at h;exact h
 clear ct cd hc1 hc2;go_wp2_with fail;refine (CT.out _).mono ?_;rintro e w' ⟨rfl,rfl⟩;go_wp2_with fail;refine (CD.out _).mono ?_;rintro e w' ⟨rfl,rfl⟩;go_wp2_with (at_builtin;refine aB _ rfl _ _ 22 rfl B 5 (.int .u8 0) 1 underlying22 info5 rfl _ _ _ rfl hown #[.int .u8 (c:Int)] 1 rfl rfl (dS _) om (by unfold maxLen;omega) om ?_);intro v' w1 hown' hb1;have R:=fP c om rfl hown';have B1:Below B w w1:=hbel.trans hb1;clear hown' hb1 hown hbel;go_wp2_with fail;go_roundw
 case rel=>exact ⟨g,q',k+36,o++[c],gn,gn,om,om,HL.out,by simp;omega,HR.out,R,B1⟩
 case measure=>exact j1
def lM(n:Nat):Nat->List Nat->Nat
 |m,[]=>m
 |m,c::r=>lM n (if n<=c/\c<m then c else m) r
theorem yF(n:Nat): ∀(l:List Nat) (m:Nat),m<=1114112->lM n m l=if aK n l<m then aK n l else m
 |[],m,h=>by rw[lM,aK,if_neg om]
 |c::r,m,h=>by
  rw[lM,yF n r _ (by split<;>omega),aK];generalize aK n r=x
  by_cases h1:n<=c
  .by_cases h2:c<m
   .by_cases h3:c<x
    .simp only[h1,h2,h3,and_self,if_true]
     rw[if_neg om]
    simp only[h1,h2,h3,and_self,and_false,if_true,if_false];split<;>split<;>omega
   by_cases h3:c<x
   .simp only[h1,h2,h3,and_self,and_false,if_true,if_false]
    rw[if_neg om]
   simp only[h1,h2,h3,and_false,if_false]
  simp only[h1,false_and,if_false]
theorem IN(n:Nat): ∀(l:List Nat),aK n l<=1114112
 |[]=>zh _
 |c::r=>by
  have:=IN n r
  unfold aK;split<;>omega
theorem O9(n:Nat)(l:List Nat):lM n 1114112 l=aK n l:=by
 rw[yF n l _ (zh _)]
 have:=IN n l
 split<;>omega
def icN(l:List Nat):List Value:=aL (l.map fun (c:Nat)=>(c:Int))
theorem jZ{w:World}{B:Nat}{e:TypeId}{g n cap:Nat}{l:List Nat}(h:w.ownsRow B e 1 (.slice (some ⟨g,0,none⟩) n cap) n (icN l))(k:Nat)(hk:k<n):w.cell? ⟨g,k,none⟩=some (I J (l.getD k 0:Int)):=by
 have hl:l.length=n:=by have:=h.1;simpa[icN,aL] using this
 rw[oX h k hk];simp[List.getD,show k<l.length by omega]
theorem nH(l:List Nat)(k:Nat)(h:k<l.length):l.drop k=l.getD k 0::l.drop (k+1):=by
 rw[List.drop_eq_getElem_cons h];simp[List.getD,h]
theorem IP(l:List Nat)(n0 N cap g:Nat)(B:Nat)(w:World)(hN:l.length=N)(hN1:N<=1048576)(hv: ∀c∈l,c<=1114111)(hown:w.ownsRow B 3 1 (.slice (some ⟨g,0,none⟩) N cap) N (icN l)):Calls prog 227 #[.slice (some ⟨g,0,none⟩) N cap,I J (n0:Int)] w fun e w'=>e=.returned (I J (aK n0 l:Int))/\w=w':=by
 have HL:Hid (l.length=N):=hN;have HV:Hid (∀c∈l,c<=1114111):=hv;clear hN hv;go_enter func227,ntmps227;go_wp2_with fail
 go_loop[5,6] (fun a i=> ∃k m:Nat,k<=N/\i=I J k/\a=I J m/\m<=1114112/\lM n0 m (l.drop k)=aK n0 l) (fun _ i=>N-(intOf i).toNat)
 case atStart=>exact ⟨0,1114112,Nat.zero_le _,rfl,rfl,zh _,O9 n0 l⟩
 obtain ⟨k,m,hk,rfl,rfl,hm,he⟩:=hrel;have HE:Hid (lM n0 m (l.drop k)=aK n0 l):=he;clear he
 by_cases hlt:k<N
 .have ca:=jZ hown k hlt
  have HS:Hid (l.drop k=l.getD k 0::l.drop (k+1)):=nH l k (by have:=HL.out;omega);have hc:=HV.out (l.getD k 0) (by
   rw[List.getD_eq_getElem?_getD,List.getElem?_eq_getElem (by have:=HL.out;omega)];exact List.getElem_mem _)
  generalize l.getD k 0=c at ca HS hc;have HR:Hid (lM n0 (if n0<=c/\c<m then c else m) (l.drop (k+1))=aK n0 l):=by show _=_;rw[<-HE.out,HS.out];rfl
  by_cases h1:(n0:Int)<=(c:Int)
  .by_cases h2:(c:Int)<(m:Int)
   .rw[if_pos om]at HR
    go_wp2_with fail;go_round
    case rel=>exact ⟨k+1,c,om,gn,rfl,om,HR.out⟩
    case measure=>exact j1
   rw[if_neg om]at HR;go_wp2_with fail;go_round
   case rel=>exact ⟨k+1,m,om,gn,rfl,hm,HR.out⟩
   case measure=>exact j1
  rw[if_neg om]at HR;go_wp2_with fail;go_round
  case rel=>exact ⟨k+1,m,om,gn,rfl,hm,HR.out⟩
  case measure=>exact j1
 have HR:Hid (m=aK n0 l):=by
  show _=_;rw[<-HE.out,List.drop_of_length_le (by have:=HL.out;omega)];rfl
 go_wp2_with fail;go_ret;exact ⟨aR (by rw[<-HR.out]),rfl⟩
