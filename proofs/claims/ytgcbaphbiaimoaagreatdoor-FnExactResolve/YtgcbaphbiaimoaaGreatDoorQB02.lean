/- HexWalk, SplPlain, NumWalk, CloneWalk, FieldsWalk, ExtPlain, JoinPlain, RowMore, DropWalk, FieldSpl, Bits. -/
import Derived.Test.YtgcbaphbiaimoaaGreatDoorQB01
import Derived.BigQuiet
import Derived.Laws.BitsAllLaws
set_option maxHeartbeats 1000000
namespace Go.Proofs.YtgcbaphbiaimoaaGreatDoor
open Go.Value renaming int->I,string->L,bool->Z
open Go.IntKind renaming i64->J
open Go.Ending renaming returned->Y
open _root_.ByteArray renaming empty->zd,ext->z0,size_extract->zf
open _root_.Go.ByteArray renaming toList_eq->zh
open _root_.Int renaming eq_ofNat_of_zero_le->zi
open _root_.List renaming cons_append->zk,drop_eq_getElem_cons->zq,drop_of_length_le->ze,getD_eq_getElem?_getD->zp,getElem?_eq_getElem->zs,isEmpty_iff_length_eq_zero->zj,length_append->zv,length_take->zl,map_append->zz,mem_append->zy,mem_cons_of_mem->zu,mem_cons_self->zn,mem_singleton->zw,take_append_drop->zt
open _root_.Nat renaming le_refl->za,lt_of_lt_of_le->zo,mod_eq_of_lt->zm,mul_le_mul_left->zg,zero_le->zr
open _root_.UInt8 renaming ofNat->zc
open _root_.Go.World renaming ownsRow_lit->zx
open _root_.Go.Proofs.Tryz
open _root_.Go.Proofs.YtgcbaphbiaimoaaGreatDoor.Tryz
section
open Go.RowKit
theorem ER(x a b:Int)(w:World):Calls prog 39 #[I J x,I J a,I J b] w fun e w'=>e=Y (Z (decide (a<=x/\x<=b)))/\w=w':=by
 by_cases h:a<=x/\x<=b
 .rw[decide_eq_true h];exact aI x a b w h.1 h.2
 rw[decide_eq_false h];exact aP x a b w om
theorem D0{c:Nat}(h1:48<=(c:Int))(h2:(c:Int)<=57):bP c=(c:Int)-48:=by unfold bP;rw[if_pos om]
theorem D6{c:Nat}(h1:97<=(c:Int))(h2:(c:Int)<=102):bP c=(c:Int)-87:=by unfold bP;rw[if_neg om,if_pos om]
theorem D7{c:Nat}(h1:65<=(c:Int))(h2:(c:Int)<=70):bP c=(c:Int)-55:=by unfold bP;rw[if_neg om,if_neg om,if_pos om]
theorem D8{c:Nat}(h1: ¬(48<=(c:Int)/\(c:Int)<=57))(h2: ¬(97<=(c:Int)/\(c:Int)<=102))(h3: ¬(65<=(c:Int)/\(c:Int)<=70)):bP c= -1:=by unfold bP;rw[if_neg om,if_neg om,if_neg om]
theorem fG(c:Nat)(w:World)(hc:c<=255):Calls prog 218 #[.int .u8 (c:Int)] w fun e w'=>e=Y (Z (decide (48<=(c:Int)/\(c:Int)<=57)))/\w=w':=by
 by_cases h1:48<=(c:Int)
 .go_enter func218,ntmps218
  go_wp2;go_ret;exact ⟨aF (by simp[h1]<;>omega),rfl⟩
 go_enter func218,ntmps218;go_wp2;go_ret;exact ⟨aF (by simp<;>omega),rfl⟩
theorem DQ(c:Nat)(w:World)(hc:c<=255):Calls prog 215 #[.int .u8 (c:Int)] w fun e w'=>e=Y (I J (bP c))/\w=w':=by
 by_cases h1:48<=(c:Int)/\(c:Int)<=57
 .obtain ⟨a1,a2⟩:=h1
  go_enter func215,ntmps215;go_wp2_with fail;refine j5 (fG c _ hc) ?_;rw[decide_eq_true (show 48<=(c:Int)/\(c:Int)<=57 from ⟨a1,a2⟩)];go_wp2;go_ret;exact ⟨aV (by rw[D0 a1 a2]),rfl⟩
 by_cases h2:97<=(c:Int)/\(c:Int)<=102
 .obtain ⟨a1,a2⟩:=h2
  have H1:Hid (¬(48<=(c:Int)/\(c:Int)<=57)):=h1;clear h1;go_enter func215,ntmps215;go_wp2_with fail;refine j5 (fG c _ hc) ?_;rw[decide_eq_false H1.out];go_wp2;go_ret;exact ⟨aV (by rw[D6 a1 a2]<;>omega),rfl⟩
 by_cases h3:65<=(c:Int)/\(c:Int)<=70
 .obtain ⟨a1,a2⟩:=h3
  have H1:Hid (¬(48<=(c:Int)/\(c:Int)<=57)):=h1;clear h1 h2;have h4: ¬97<=(c:Int):=om;go_enter func215,ntmps215;go_wp2_with fail;refine j5 (fG c _ hc) ?_;rw[decide_eq_false H1.out];go_wp2;go_ret;exact ⟨aV (by rw[D7 a1 a2]<;>omega),rfl⟩
 have H1:Hid (¬(48<=(c:Int)/\(c:Int)<=57)):=h1;have H0:Hid (bP c= -1):=D8 h1 h2 h3;clear h1
 rcases Int.lt_or_le (c:Int) 97 with h4|h4
 .rcases Int.lt_or_le (c:Int) 65 with h5|h5
  .clear h2 h3
   go_enter func215,ntmps215;go_wp2_with fail;refine j5 (fG c _ hc) ?_;rw[decide_eq_false H1.out];go_wp2;go_ret;exact ⟨aV (by rw[H0.out]),rfl⟩
  have h6: ¬(c:Int)<=70:=om;clear h2 h3;go_enter func215,ntmps215;go_wp2_with fail;refine j5 (fG c _ hc) ?_;rw[decide_eq_false H1.out];go_wp2;go_ret;exact ⟨aV (by rw[H0.out]),rfl⟩
 have h6: ¬(c:Int)<=102:=om;have h7: ¬(c:Int)<=70:=om;have h8:65<=(c:Int):=om;clear h2 h3;go_enter func215,ntmps215;go_wp2_with fail;refine j5 (fG c _ hc) ?_;rw[decide_eq_false H1.out];go_wp2;go_ret;exact ⟨aV (by rw[H0.out]),rfl⟩
theorem tQ(c:Nat)(w:World)(hc:(c:Int)<=255):Calls prog 113 #[.int .u8 (c:Int)] w fun e w'=>e=Y (I J (bP c))/\w=w':=by
 by_cases h1:48<=(c:Int)/\(c:Int)<=57
 .obtain ⟨a1,a2⟩:=h1
  go_enter func113,ntmps113;go_wp2_with (go_at_call 39;refine j5 (aI _ _ _ _ a1 a2) ?_);go_ret;exact ⟨aV (by rw[D0 a1 a2]),rfl⟩
 have g1:(c:Int)<48∨57<(c:Int):=om
 by_cases h2:97<=(c:Int)/\(c:Int)<=102
 .obtain ⟨a1,a2⟩:=h2
  clear h1;have H1:Hid ((c:Int)<48∨57<(c:Int)):=g1;clear g1;go_enter func113,ntmps113;go_wp2_with fail;refine j5 (aP _ _ _ _ H1.out) ?_;go_wp2_with fail;refine j5 (aI _ _ _ _ a1 a2) ?_;go_wp2;go_ret;exact ⟨aV (by rw[D6 a1 a2]<;>omega),rfl⟩
 have g2:(c:Int)<97∨102<(c:Int):=om;have H1:Hid ((c:Int)<48∨57<(c:Int)):=g1;have H2:Hid ((c:Int)<97∨102<(c:Int)):=g2
 by_cases h3:65<=(c:Int)/\(c:Int)<=70
 .obtain ⟨a1,a2⟩:=h3
  clear h1 h2 g1 g2;go_enter func113,ntmps113;go_wp2_with fail;refine j5 (aP _ _ _ _ H1.out) ?_;go_wp2_with fail;refine j5 (aP _ _ _ _ H2.out) ?_;go_wp2_with fail;refine j5 (aI _ _ _ _ a1 a2) ?_;go_wp2;go_ret;exact ⟨aV (by rw[D7 a1 a2]<;>omega),rfl⟩
 have H0:Hid (bP c= -1):=D8 h1 h2 h3;have H3:Hid ((c:Int)<65∨70<(c:Int)):=by show _∨_;omega
 clear h1 h2 h3 g1 g2;go_enter func113,ntmps113;go_wp2_with fail;refine j5 (aP _ _ _ _ H1.out) ?_;go_wp2_with fail;refine j5 (aP _ _ _ _ H2.out) ?_;go_wp2_with fail;refine j5 (aP _ _ _ _ H3.out) ?_;go_wp2;go_ret;exact ⟨aV (by rw[H0.out]),rfl⟩
def spl(b:UInt8):List UInt8->List (List UInt8)
 |[]=>[[]]
 |c::r=>if c=b then []::spl b r else match spl b r with
  |[]=>[[c]]
  |x::xs=>(c::x)::xs
theorem sJ(b:UInt8): ∀l,∃xs y,spl b l=xs++[y]/\ ∀c,spl b (l++[c])=if c=b then xs++[y,[]]else xs++[y++[c]]
 |[]=>⟨[],[],rfl,fun c=>by
   by_cases h:c=b
   .simp[spl,h]
   simp[spl,h]⟩
 |d::r=>by
  obtain ⟨xs,y,h1,h2⟩:=sJ b r
  by_cases hd:d=b
  .refine ⟨[]::xs,y,by simp[spl,hd,h1],fun c=> ?_⟩
   rw[zk,spl,if_pos hd,h2 c];split<;>simp
  cases xs with
  |nil=>
   refine ⟨[],d::y,by simp[spl,hd,h1],fun c=> ?_⟩;rw[zk,spl,if_neg hd,h2 c]
   by_cases hc:c=b<;>simp[hc]
  |cons x xs=>
   refine ⟨(d::x)::xs,y,by simp[spl,hd,h1],fun c=> ?_⟩;rw[zk,spl,if_neg hd,h2 c]
   by_cases hc:c=b<;>simp[hc]
theorem Hk(b:UInt8){l xs:List _}{y:List UInt8}(h:spl b l=xs++[y])(c:UInt8):spl b (l++[c])=if c=b then xs++[y,[]]else xs++[y++[c]]:=by
 obtain ⟨xs',y',h1,h2⟩:=sJ b l;have e:=h.symm.trans h1;obtain ⟨e1,e2⟩:=List.append_inj' e rfl
 cases e2
 subst e1;exact h2 c
theorem lV(b:UInt8): ∀{l:List UInt8},(∀c∈l,c≠b)->spl b l=[l]
 |[],_=>rfl
 |c::r,h=>by
  rw[spl,if_neg (h c zn),lV b (fun d hd=>h d (zu _ hd))]
theorem DR(b:UInt8)(m:List UInt8): ∀l,spl b (l++b::m)=spl b l++spl b m
 |[]=>by simp[spl]
 |c::r=>by
  rw[zk,spl,spl,DR b m r];split
  .simp
  obtain ⟨xs,y,h,_⟩:=sJ b r;rw[h]
  cases xs<;>simp
def jl(b:UInt8):List (List UInt8)->List UInt8
 |[]=>[]
 |[x]=>x
 |x::y::r=>x++b::jl b (y::r)
theorem Z5(b:UInt8): ∀l,jl b (spl b l)=l
 |[]=>rfl
 |c::r=>by
  have ih:=Z5 b r;obtain ⟨xs,y,h,_⟩:=sJ b r
  by_cases hc:c=b
  .rw[spl,if_pos hc]
   rw[h]at ih⊢
   cases xs with
   |nil=>simp[jl]at ih⊢;exact ⟨hc.symm,ih⟩
   |cons x xs=>simp[jl]at ih⊢;exact ⟨hc.symm,ih⟩
  rw[spl,if_neg hc];rw[h]at ih⊢
  cases xs with
  |nil=>simp[jl]at ih⊢;exact ih
  |cons x xs=>cases xs<;>simp[jl]at ih⊢ <;>exact ih
theorem zV(b:UInt8): ∀{fs:List (List UInt8)},fs≠[]->(∀x∈fs,∀c∈x,c≠b)->spl b (jl b fs)=fs
 |[],h,_=>absurd rfl h
 |[x],_,h=>lV b (h x zn)
 |x::y::r,_,h=>by
  rw[jl,DR,lV b (h x zn),zV b j2 (fun z hz=>h z (zu _ hz))];rfl
def fB(base:Nat):Nat->List UInt8->Option Nat
 |n,[]=>some n
 |n,c::r=>if 0<=bP c.toNat/\bP c.toNat<(base:Int)then fB base (n*base+(bP c.toNat).toNat) r else none
def cU(base most:Nat)(l:List UInt8):Option Nat:=if l.length<=most then fB base 0 l else none
def bR(v:Nat):List UInt8:=if v<10 then [zc (48+v)]else if v<100 then [zc (48+v/10),zc (48+v%10)]else [zc (48+v/100),zc (48+v/10%10),zc (48+v%10)]
def wY(l:List UInt8):Option Nat:=if l.isEmpty then none else match cU 10 3 l with
 |none=>none
 |some v=>if 255<v∨1<l.length/\l.head? =some 48 then none else some v
def XJ:List UInt8->Option Nat
 |[]=>cU 8 11 []
 |d::q=>if d=120∨d=88 then cU 16 8 q else cU 8 11 (d::q)
def cJ:List UInt8->Option Nat
 |[]=>none
 |c::r=>if c=48 then XJ r else cU 10 10 (c::r)
theorem wZ: ∀v,v<256->wY (bR v)=some v:=by decide+kernel
theorem rE: ∀v,v<256->cJ (bR v)=some v:=by decide+kernel
theorem Hl: ∀v,v<256-> ∀c∈bR v,48<=c.toNat/\c.toNat<=57:=by decide+kernel
theorem Hm: ∀v,v<256->bR v≠[]:=by decide+kernel
theorem dY(v:Nat):(bR v).length<=3:=by unfold bR;split;simp;split<;>simp
def dgU(i:Nat):UInt8:=zc (48+i)
def Z6(l:List UInt8):Bool:=match wY l with
 |none=>true
 |some v=>decide (v<256)&&decide (l=bR v)
theorem fit1: ∀i,i<10->Z6 [dgU i]=true:=by decide+kernel
theorem fit2: ∀i,i<10-> ∀j,j<10->Z6 [dgU i,dgU j]=true:=by decide+kernel
theorem fit3: ∀i,i<10-> ∀j,j<10-> ∀k,k<10->Z6 [dgU i,dgU j,dgU k]=true:=by decide+kernel
theorem tR{c:UInt8}(h:0<=bP c.toNat/\bP c.toNat<((10:Nat):Int)): ∃i,i<10/\c=dgU i:=by
 unfold bP at h;refine ⟨c.toNat-48,?_,?_⟩
 .split at h
  .omega
  split at h
  .omega
  split at h<;>omega
 unfold dgU
 have:48+(c.toNat-48)=c.toNat:=by
  split at h
  .omega
  split at h
  .omega
  split at h<;>omega
 rw[this,UInt8.ofNat_toNat]
theorem RT{base:Nat}: ∀{l:List UInt8} {n v:Nat},fB base n l=some v-> ∀c∈l,0<=bP c.toNat/\bP c.toNat<(base:Int)
 |[],_,_,_,c,hc=>by simp at hc
 |d::r,n,v,h,c,hc=>by
  rw[fB]at h;split at h
  .rename_i hd
   rcases List.mem_cons.1 hc with rfl|hc
   .exact hd
   exact RT h c hc
  cases h
theorem Ls{l:List UInt8}{v:Nat}(h:wY l=some v)(hb:Z6 l=true):v<256/\l=bR v:=by
 unfold Z6 at hb;rw[h]at hb;simpa using hb
theorem xA{l:List UInt8}{v:Nat}(h:wY l=some v):v<256/\l=bR v:=by
 refine Ls h ?_;unfold wY at h;split at h
 .cases h
 rename_i he;unfold cU at h
 by_cases h3:l.length<=3
 .rw[if_pos h3]at h
  cases hd:fB 10 0 l with
  |none=>rw[hd]at h;cases h
  |some x=>
   have hall:=RT hd
   match l,h3,he,hall with
   |[],_,he,_=>simp at he
   |[a],_,_,hall=>
    obtain ⟨i,hi,rfl⟩:=tR (hall a j2);exact fit1 i hi
   |[a,b],_,_,hall=>
    obtain ⟨i,hi,rfl⟩:=tR (hall a j2);obtain ⟨j,hj,rfl⟩:=tR (hall b j2);exact fit2 i hi j hj
   |[a,b,c],_,_,hall=>
    obtain ⟨i,hi,rfl⟩:=tR (hall a j2);obtain ⟨j,hj,rfl⟩:=tR (hall b j2);obtain ⟨k,hk,rfl⟩:=tR (hall c j2);exact fit3 i hi j hj k hk
   |_::_::_::_::_,h3,_,_=>simp at h3
 rw[if_neg h3]at h
 cases h
def stF:Nat->List (List UInt8)->Option Nat
 |n,[]=>some n
 |n,x::r=>match wY x with
  |none=>none
  |some v=>stF (n*256+v) r
def p4(l:List UInt8):Option Nat:=if (spl 46 l).length=4 then stF 0 (spl 46 l)else none
def iE(n:Nat):List UInt8:=bR (n/16777216)++46::(bR (n/65536%256)++46::(bR (n/256%256)++46::bR (n%256)))
theorem Z7(n:Nat):iE n=jl 46 [bR (n/16777216),bR (n/65536%256),bR (n/256%256),bR (n%256)]:=rfl
theorem D9{v:Nat}(hv:v<256): ∀c∈bR v,c≠46:=by
 intro c hc h
 have:=Hl v hv c hc
 rw[h]at this;exact absurd this.1 de
theorem DS{n:Nat}(h:n<4294967296):spl 46 (iE n)=[bR (n/16777216),bR (n/65536%256),bR (n/256%256),bR (n%256)]:=by
 rw[Z7];refine zV 46 j2 ?_;intro x hx;simp only[List.mem_cons,List.not_mem_nil,or_false]at hx
 rcases hx with rfl|rfl|rfl|rfl<;>exact D9 om
theorem Lt{n:Nat}(h:n<4294967296):p4 (iE n)=some n:=by
 unfold p4;rw[DS h,if_pos j2];simp only[stF];rw[wZ _ om,wZ _ om,wZ _ om,wZ _ om];simp only
 congr 1
 omega
theorem oV{l:List UInt8}{n:Nat}(h:p4 l=some n):n<4294967296/\l=iE n:=by
 unfold p4 at h;split at h
 .rename_i h4
  have hj:=Z5 46 l;generalize spl 46 l=fs at h h4 hj
  match fs,h4 with
  |[a,b,c,d],_=>
   simp only[stF]at h
   cases ha:wY a with
   |none=>rw[ha]at h;cases h
   |some x=>
    rw[ha]at h;simp only at h
    cases hb:wY b with
    |none=>rw[hb]at h;cases h
    |some y=>
     rw[hb]at h;simp only at h
     cases hc:wY c with
     |none=>rw[hc]at h;cases h
     |some z=>
      rw[hc]at h;simp only at h
      cases hd:wY d with
      |none=>rw[hd]at h;cases h
      |some u=>
       rw[hd]at h;simp only[Option.some.injEq]at h;obtain ⟨h1,rfl⟩:=xA ha;obtain ⟨h2,rfl⟩:=xA hb;obtain ⟨h3,rfl⟩:=xA hc;obtain ⟨h5,rfl⟩:=xA hd;refine ⟨om,?_⟩;rw[<-hj,Z7,<-h]
       congr 5<;>congr 1<;>omega
 cases h
def loF:Nat->Nat->List (List UInt8)->Option Nat
 |_,_,[]=>none
 |n,room,[x]=>match cJ x with
  |none=>none
  |some v=>if v<room then some (n*room+v)else none
 |n,room,x::y::r=>match cJ x with
  |none=>none
  |some v=>if v<256 then loF (n*256+v) (room/256) (y::r)else none
def lo4(fs:List (List UInt8)):Option Nat:=if fs.length<=4 then loF 0 4294967296 fs else none
theorem Z8: ∀{fs:List (List UInt8)} {n room m:Nat},loF n room fs=some m->m<(n+1)*room
 |[],_,_,_,h=>by cases h
 |[x],n,room,m,h=>by
  rw[loF]at h
  cases hx:cJ x with
  |none=>rw[hx]at h;cases h
  |some v=>
   rw[hx]at h;simp only at h;split at h
   .cases h
    rw[Nat.add_mul,Nat.one_mul];omega
   cases h
 |x::y::r,n,room,m,h=>by
  rw[loF]at h
  cases hx:cJ x with
  |none=>rw[hx]at h;cases h
  |some v=>
   rw[hx]at h;simp only at h;split at h
   .rename_i hv
    have ih:=Z8 h;refine zo ih ?_;have h1:(n*256+v+1)*(room/256)<=(n*256+256)*(room/256):=Nat.mul_le_mul_right _ om;have h2:(n*256+256)*(room/256)=(n+1)*(256*(room/256)):=by rw[<-Nat.mul_assoc,Nat.add_mul n 1 256,Nat.one_mul]
    have h3:256*(room/256)<=room:=Nat.mul_div_le room 256;exact Nat.le_trans h1 (h2▸zg _ h3)
   cases h
theorem Lu{fs:List (List UInt8)}{m:Nat}(h:lo4 fs=some m):m<4294967296:=by
 unfold lo4 at h;split at h
 .have:=Z8 h
  omega
 cases h
theorem Hn{n:Nat}(h:n<4294967296):lo4 (spl 46 (iE n))=some n:=by
 rw[DS h];unfold lo4;rw[if_pos j2];simp only[loF];rw[rE _ om,rE _ om,rE _ om,rE _ om];simp only;rw[if_pos om,if_pos om,if_pos om,if_pos om]
 congr 1
 omega
def eQ(r:Option Nat):Int:=match r with
 |none=> -1
 |some n=>n
theorem KN(s:ByteArray)(k:Nat)(h:k<s.size)(base n:Nat):fB base n (s.data.toList.drop k)=
  if 0<=bP s[k].toNat/\bP s[k].toNat<(base:Int)then fB base (n*base+(bP s[k].toNat).toNat) (s.data.toList.drop (k+1))else none:=by
 rw[zq (by simpa using h),fB];rfl
theorem Z9{base most:Nat}{l:List UInt8}(h:most<l.length):cU base most l=none:=by unfold cU;rw[if_neg om]
theorem E0{base most:Nat}{l:List UInt8}(h:l.length<=most):cU base most l=fB base 0 l:=by unfold cU;rw[if_pos h]
theorem ES{n base d k:Nat}(hb:base<=16)(hd:d<base)(hn:n<16^k):n*base+d<16^(k+1):=by
 have h1:n*base<=n*16:=zg _ hb;rw[Nat.pow_succ];omega
theorem Aa{k:Nat}(h:k<=11):16^k<=17592186044416:=Nat.pow_le_pow_right de h
theorem jU(s:ByteArray)(base most:Nat)(w:World)(hb:base<=16)(hm:most<=11):Calls prog 57 #[L s,I J (base:Int),I J (most:Int)] w fun e w'=>e=Y (I J (eQ (cU base most s.data.toList)))/\w=w':=by
 have hsl:s.data.toList.length=s.size:=by simp
 by_cases hlen:most<s.size
 .have HF:Hid (cU base most s.data.toList=none):=Z9 om
  have hlen':(most:Int)<(s.size:Int):=om;clear hsl;go_enter func57,ntmps57;go_wp2;go_ret;exact ⟨by rw[HF.out];rfl,rfl⟩
 have HF:Hid (cU base most s.data.toList=fB base 0 s.data.toList):=E0 om;have hlen': ¬(most:Int)<(s.size:Int):=om;clear hsl;go_enter func57,ntmps57;go_wp2
 go_loop[7,8] (fun x i=> ∃k n:Nat,k<=s.size/\n<16^k/\i=I J k/\x=I J n/\fB base n (s.data.toList.drop k)=fB base 0 s.data.toList) (fun _ i=>s.size-(intOf i).toNat)
 case atStart=>exact ⟨0,0,zr _,de,rfl,rfl,rfl⟩
 obtain ⟨k,n,hk,hn,rfl,rfl,hf⟩:=hrel;have HR:Hid (fB base n (s.data.toList.drop k)=fB base 0 s.data.toList):=hf;have HN:Hid (n<16^k):=hn;have hk11:k<=11:=om;have hn2:n<17592186044416:=zo hn (Aa hk11);clear hf hn
 by_cases hlt:k<s.size
 .obtain ⟨d,hd⟩: ∃d:Nat,s[k].toNat=d:=⟨_,rfl⟩
  have hd1:(d:Int)<=255:=by have:=s[k].toNat_lt;omega
  have HD:Hid (fB base n (s.data.toList.drop k)=if 0<=bP d/\bP d<(base:Int)then fB base (n*base+(bP d).toNat) (s.data.toList.drop (k+1))else none):=by
   show _=_;rw[KN s k hlt base n,hd]
  obtain ⟨hx1,hx2⟩:=iN d;have CH:Hid (∀W,CS 113 #[.int .u8 (d:Int)] W (I J (bP d))):=fun W=>tQ d W hd1
  generalize bP d=x at HD CH hx1 hx2;have hki:(k:Int)<(s.size:Int):=om
  by_cases hx:0<=x/\x<(base:Int)
  .obtain ⟨y,rfl⟩: ∃y:Nat,x=(y:Int):=⟨x.toNat,om⟩
   obtain ⟨p,hp⟩: ∃p:Nat,n*base=p:=⟨_,rfl⟩;have HP:Hid (n*base=p):=hp;have hp2:(n:Int)*(base:Int)=(p:Int):=by rw[<-hp];simp
   have hp3:p+y<281474976710656:=by
    have h1:n*base<=n*16:=zg _ hb;omega
   have hyb: ¬(base:Int)<=(y:Int):=om;have HX:Hid (y<base):=by show _<_;omega
   clear hx hp;go_wp2_with fail;refine (CH.out _).mono ?_;rintro e w' ⟨rfl,rfl⟩;go_wp2_with fail;go_round
   case rel=>
    refine ⟨k+1,n*base+y,om,ES hb HX.out HN.out,gn,by rw[HP.out];go_num,?_⟩;rw[<-HR.out,HD.out,if_pos ⟨om,by have:=HX.out;omega⟩];simp
   case measure=>exact j1
  have HZ:Hid (fB base 0 s.data.toList=none):=by
   show _=_;rw[<-HR.out,HD.out,if_neg hx]
  have HX:Hid (¬(0<=x/\x<(base:Int))):=hx;clear hx
  by_cases hx0:x<0
  .go_wp2_with fail
   refine (CH.out _).mono ?_;rintro e w' ⟨rfl,rfl⟩;go_wp2_with fail;go_ret;exact ⟨by rw[HF.out,HZ.out];rfl,rfl⟩
  have hx3:(base:Int)<=x:=by have:=HX.out;omega
  go_wp2_with fail;refine (CH.out _).mono ?_;rintro e w' ⟨rfl,rfl⟩;go_wp2_with fail;go_ret;exact ⟨by rw[HF.out,HZ.out];rfl,rfl⟩
 have HZ:Hid (fB base 0 s.data.toList=some n):=by
  show _=_;rw[<-HR.out,ze (by simp;omega)];rfl
 have hki: ¬(k:Int)<(s.size:Int):=om;go_wp2_with fail;go_ret;exact ⟨by rw[HF.out,HZ.out];rfl,rfl⟩
def fL(r:Option Nat):Value:=match r with
 |none=> .tuple #[I J 0,Z false]
 |some n=> .tuple #[I J n,Z true]
def alD(base:Nat)(l:List UInt8):Bool:=l.all fun c=>decide (0<=bP c.toNat/\bP c.toNat<(base:Int))
theorem ET(s:ByteArray)(k:Nat)(h:k<s.size)(base:Nat):alD base (s.data.toList.drop k)=(decide (0<=bP s[k].toNat/\bP s[k].toNat<(base:Int))&&alD base (s.data.toList.drop (k+1))):=by
 rw[zq (by simpa using h)];rfl
theorem E1{base:Nat}: ∀{l:List UInt8} {n:Nat},alD base l=false->fB base n l=none
 |[],_,h=>by simp[alD]at h
 |c::r,n,h=>by
  rw[fB];split
  .rename_i hc
   refine E1 ?_;have h2:(decide (0<=bP c.toNat/\bP c.toNat<(base:Int))&&alD base r)=false:=h;rw[decide_eq_true hc]at h2;simpa using h2
  rfl
theorem Lv{base:Nat}{s:ByteArray}(h:alD base s.data.toList=true)(k:Nat)(hk:k<s.size):0<=bP s[k].toNat/\bP s[k].toNat<(base:Int):=
 of_decide_eq_true (List.all_eq_true.1 h s[k] (by
  have hk2:k<s.data.toList.length:=by simpa using hk
  exact List.getElem_mem hk2))
theorem mM(s:ByteArray)(base:Nat)(w:World)(hs:s.size<=1048576):Calls prog 247 #[L s,I J (base:Int)] w fun e w'=>e=Y (Z (alD base s.data.toList))/\w=w':=by
 go_enter func247,ntmps247;go_wp2
 go_loop[9] (fun i=> ∃k:Nat,k<=s.size/\i=I J k/\alD base (s.data.toList.drop k)=alD base s.data.toList) (fun i=>s.size-(intOf i).toNat)
 case atStart=>exact ⟨0,zr _,rfl,rfl⟩
 obtain ⟨k,hk,rfl,hf⟩:=hrel;have HR:Hid (alD base (s.data.toList.drop k)=alD base s.data.toList):=hf;clear hf
 by_cases hlt:k<s.size
 .obtain ⟨d,hd⟩: ∃d:Nat,s[k].toNat=d:=⟨_,rfl⟩
  have hd1:(d:Int)<=255:=by have:=s[k].toNat_lt;omega
  have HD:Hid (alD base (s.data.toList.drop k)=(decide (0<=bP d/\bP d<(base:Int))&&alD base (s.data.toList.drop (k+1)))):=by
   show _=_;rw[ET s k hlt base,hd]
  obtain ⟨hx1,hx2⟩:=iN d;have CH:Hid (∀W,CS 215 #[.int .u8 (d:Int)] W (I J (bP d))):=fun W=>DQ d W om
  generalize bP d=x at HD CH hx1 hx2;have hki:(k:Int)<(s.size:Int):=om
  by_cases hx0:x<0
  .have HZ:Hid (alD base s.data.toList=false):=by
    show _=_;rw[<-HR.out,HD.out,decide_eq_false om];rfl
   go_wp2_with fail;refine (CH.out _).mono ?_;rintro e w' ⟨rfl,rfl⟩;go_wp2_with fail;go_ret;exact ⟨by rw[HZ.out];rfl,rfl⟩
  by_cases hx3:(base:Int)<=x
  .have HZ:Hid (alD base s.data.toList=false):=by
    show _=_;rw[<-HR.out,HD.out,decide_eq_false om];rfl
   go_wp2_with fail;refine (CH.out _).mono ?_;rintro e w' ⟨rfl,rfl⟩;go_wp2_with fail;go_ret;exact ⟨by rw[HZ.out];rfl,rfl⟩
  have HZ:Hid (alD base (s.data.toList.drop (k+1))=alD base s.data.toList):=by
   show _=_;rw[<-HR.out,HD.out,decide_eq_true om];rfl
  go_wp2_with fail;refine (CH.out _).mono ?_;rintro e w' ⟨rfl,rfl⟩;go_wp2_with fail;go_round
  case rel=>exact ⟨k+1,om,gn,HZ.out⟩
  case measure=>exact j1
 have HZ:Hid (alD base s.data.toList=true):=by
  show _=_;rw[<-HR.out,ze (by simp;omega)];rfl
 have hki: ¬(k:Int)<(s.size:Int):=om;go_wp2_with fail;go_ret;exact ⟨by rw[HZ.out];rfl,rfl⟩
theorem nT(s:ByteArray)(base most:Nat)(w:World)(hb:base<=16)(hm:most<=11):Calls prog 211 #[L s,I J (base:Int),I J (most:Int)] w fun e w'=>e=Y (fL (cU base most s.data.toList))/\w=w':=by
 have hsl:s.data.toList.length=s.size:=by simp
 by_cases hlen:most<s.size
 .have HF:Hid (cU base most s.data.toList=none):=Z9 om
  have hlen':(most:Int)<(s.size:Int):=om;clear hsl;go_enter func211,ntmps211;go_wp2;go_ret2;exact ⟨by rw[HF.out];rfl,rfl⟩
 have HF:Hid (cU base most s.data.toList=fB base 0 s.data.toList):=E0 om;have hlen': ¬(most:Int)<(s.size:Int):=om;have hs11:s.size<=11:=om;have CA:Hid (∀W,CS 247 #[L s,I J (base:Int)] W (Z (alD base s.data.toList))):=fun W=>mM s base W om
 clear hsl
 cases ha:alD base s.data.toList with
 |false=>
  have HZ:Hid (fB base 0 s.data.toList=none):=E1 ha;rw[ha]at CA;clear ha;go_enter func211,ntmps211;go_wp2_with fail;refine (CA.out _).mono ?_;rintro e w' ⟨rfl,rfl⟩;go_wp2_with fail;go_ret2;exact ⟨by rw[HF.out,HZ.out];rfl,rfl⟩
 |true=>
  have HA:Hid (∀k (hk:k<s.size),0<=bP s[k].toNat/\bP s[k].toNat<(base:Int)):=Lv ha;rw[ha]at CA;clear ha;go_enter func211,ntmps211;go_wp2_with fail;refine (CA.out _).mono ?_;rintro e w' ⟨rfl,rfl⟩;go_wp2_with fail
  go_loop[8,22] (fun x i=> ∃k n:Nat,k<=s.size/\n<16^k/\i=I J k/\x=I J n/\fB base n (s.data.toList.drop k)=fB base 0 s.data.toList) (fun _ i=>s.size-(intOf i).toNat)
  case atStart=>exact ⟨0,0,zr _,de,rfl,rfl,rfl⟩
  obtain ⟨k,n,hk,hn,rfl,rfl,hf⟩:=hrel;have HR:Hid (fB base n (s.data.toList.drop k)=fB base 0 s.data.toList):=hf;have HN:Hid (n<16^k):=hn;have hk11:k<=11:=om;have hn2:n<17592186044416:=zo hn (Aa hk11);clear hf hn
  by_cases hlt:k<s.size
  .have hx:=HA.out k hlt
   obtain ⟨d,hd⟩: ∃d:Nat,s[k].toNat=d:=⟨_,rfl⟩;rw[hd]at hx;have hd1:(d:Int)<=255:=by have:=s[k].toNat_lt;omega
   have HD:Hid (fB base n (s.data.toList.drop k)=if 0<=bP d/\bP d<(base:Int)then fB base (n*base+(bP d).toNat) (s.data.toList.drop (k+1))else none):=by
    show _=_;rw[KN s k hlt base n,hd]
   obtain ⟨hx1,hx2⟩:=iN d;have CH:Hid (∀W,CS 215 #[.int .u8 (d:Int)] W (I J (bP d))):=fun W=>DQ d W om
   generalize bP d=x at HD CH hx1 hx2 hx;have hki:(k:Int)<(s.size:Int):=om;obtain ⟨y,rfl⟩: ∃y:Nat,x=(y:Int):=⟨x.toNat,om⟩;obtain ⟨p,hp⟩: ∃p:Nat,n*base=p:=⟨_,rfl⟩;have HP:Hid (n*base=p):=hp;have hp2:(n:Int)*(base:Int)=(p:Int):=by rw[<-hp];simp
   have hp3:p+y<281474976710656:=by
    have h1:n*base<=n*16:=zg _ hb;omega
   have HX:Hid (y<base):=by show _<_;omega
   clear hx hp;go_wp2_with fail;refine (CH.out _).mono ?_;rintro e w' ⟨rfl,rfl⟩;go_wp2_with fail;go_round
   case rel=>
    refine ⟨k+1,n*base+y,om,ES hb HX.out HN.out,gn,by rw[HP.out];go_num,?_⟩;rw[<-HR.out,HD.out,if_pos ⟨om,by have:=HX.out;omega⟩];simp
   case measure=>exact j1
  have HZ:Hid (fB base 0 s.data.toList=some n):=by
   show _=_;rw[<-HR.out,ze (by simp;omega)];rfl
  have hki: ¬(k:Int)<(s.size:Int):=om;go_wp2_with fail;go_ret2;exact ⟨by rw[HF.out,HZ.out];rfl,rfl⟩
theorem kF(s:ByteArray)(w:World)(hlim:s.size<=281474976710656):Calls prog 133 #[L s] w fun e w'=>e=Y (L s)/\Below w.heap.size w w':=by
 go_enter func133,ntmps133;go_wp2_with (go_at_call 182;refine (stringslite_Clone _ _ hlim).mono ?_;rintro e w1 ⟨rfl,hb1⟩);go_ret;exact ⟨rfl,hb1⟩
def aK(s:ByteArray)(b:Int):Nat->List ByteArray×Nat
 |0=>([],0)
 |k+1=>if ((s.data.toList.getD k 0).toNat:Int)=b then ((aK s b k).1++[s.extract (aK s b k).2 k],k+1)else aK s b k
def aB(s:ByteArray)(b:Int):List ByteArray:=(aK s b s.size).1++[s.extract (aK s b s.size).2 s.size]
theorem eF(s:ByteArray)(b:Int)(k:Nat):(aK s b k).2<=k/\(aK s b k).1.length<=k:=by
 induction k with
 |zero=>simp[aK]
 |succ k ih=>
  unfold aK;split
  .simp;omega
  omega
theorem jL(s:ByteArray)(k:Nat)(h:k<s.size):s.data.toList.getD k 0=s[k]:=by
 have hk:k<s.data.toList.length:=by simpa using h
 rw[zp,zs hk];rfl
theorem iO(s:ByteArray)(b:Int)(k:Nat)(h:k<s.size)(e:(s[k].toNat:Int)=b):aK s b (k+1)=((aK s b k).1++[s.extract (aK s b k).2 k],k+1):=by
 rw[aK,jL s k h,if_pos e]
theorem fX(s:ByteArray)(b:Int)(k:Nat)(h:k<s.size)(e: ¬(s[k].toNat:Int)=b):aK s b (k+1)=aK s b k:=by
 rw[aK,jL s k h,if_neg e]
theorem Tryz.infoStr:(prog.info? 9).map (fun i=>(i.zero,i.size,i.bytes))=some (some (L ⟨#[]⟩),1,16):=kr
theorem lJ(s:ByteArray): ∀u∈ #[Value.string s].toList,u.oneCell'=true:=by
 intro u hu;simp at hu;subst hu;rfl
theorem EU(s:ByteArray)(b:Int)(k:Nat)(hk:k=s.size){w1:World}{B:Nat}{v:Value}{e:TypeId}
  (hown:w1.ownsRow B e 1 v ((aK s b k).1.length+1) (aZ (aK s b k).1++[L (s.extract (aK s b k).2 k)])):
  w1.ownsRow B e 1 v (aB s b).length (aZ (aB s b)):=by
 subst hk;unfold aB;rw[lS,zv];exact hown
theorem EV(s:ByteArray)(b:Int)(k:Nat)(hk:k<s.size)(h:(s[k].toNat:Int)=b){w1:World}{B:Nat}{v:Value}{e:TypeId}
  (hown:w1.ownsRow B e 1 v ((aK s b k).1.length+1) (aZ (aK s b k).1++[L (s.extract (aK s b k).2 k)])):
  w1.ownsRow B e 1 v (aK s b (k+1)).1.length (aZ (aK s b (k+1)).1):=by
 rw[iO s b k hk h];simp only;rw[lS,zv];exact hown
theorem BI(s:ByteArray)(b:Int)(w:World)(hs:s.size<=16777216):Calls prog 93 #[L s,.int .u8 b] w fun e w'=> ∃v,e=Y v/\w'.ownsRow w.heap.size 9 1 v (aB s b).length (aZ (aB s b))/\Below w.heap.size w w':=by
 go_enter func93,ntmps93;go_wp2
 go_loopw[5,6,7] (fun v f i wr=> ∃k:Nat,k<=s.size+1/\i=I J k/\(k<=s.size->f=I J (aK s b k).2/\wr.ownsRow w.heap.size 9 1 v (aK s b k).1.length (aZ (aK s b k).1))/\
   (k=s.size+1->wr.ownsRow w.heap.size 9 1 v (aB s b).length (aZ (aB s b)))/\Below w.heap.size w wr)
  (fun _ _ i _=>s.size+1-(intOf i).toNat)
 case atStart=>exact ⟨0,zr _,rfl,fun _=>⟨rfl,zx w #[] 0 (za _) de rfl⟩,fun h=>by omega,(Below.refl _ _).alloc (za _) _⟩
 obtain ⟨k,hk,rfl,hin,hend,hbel⟩:=hrel
 by_cases hle:k<=s.size
 .obtain ⟨rfl,hown⟩:=hin hle
  clear hend;have hsz:=hbel.size;obtain ⟨hf1,hf2⟩:=eF s b k
  by_cases heq:k=s.size
  .have hkk:((k:Int)==(s.size:Int))=true:=by simp[heq]
   have HE:Hid (k=s.size):=heq;clear heq;go_wp2_with (at_builtin;refine aC _ rfl _ _ 86 rfl w.heap.size 9 (L ⟨#[]⟩) 16 underlying86 infoStr rfl _ _ _ rfl hown #[L (s.extract (aK s b k).2 k)] 1 rfl rfl (lJ _) om (by unfold maxLen;omega) om ?_);intro v' w1 hown' hb1;have R:=EU s b k HE.out hown';have B1:Below w.heap.size w w1:=hbel.trans hb1;clear hown' hb1 hown hbel hin;go_wp2;go_roundw
   case rel=>exact ⟨k+1,om,gn,fun h=>by have:=HE.out;omega,fun _=>R,B1⟩
   case measure=>exact j1
  have hkk:((k:Int)==(s.size:Int))=false:=by simp;omega
  have hlt:k<s.size:=om;clear heq
  by_cases hb:(s[k].toNat:Int)=b
  .have hbb:((s[k].toNat:Int)==b)=true:=by simp[hb]
   have HB:Hid ((s[k].toNat:Int)=b):=hb;clear hb;go_wp2_with (at_builtin;refine aC _ rfl _ _ 86 rfl w.heap.size 9 (L ⟨#[]⟩) 16 underlying86 infoStr rfl _ _ _ rfl hown #[L (s.extract (aK s b k).2 k)] 1 rfl rfl (lJ _) om (by unfold maxLen;omega) om ?_);intro v' w1 hown' hb1;have R:=EV s b k hlt HB.out hown';have B1:Below w.heap.size w w1:=hbel.trans hb1;clear hown' hb1 hown hbel hin;go_wp2;go_roundw
   case rel=>exact ⟨k+1,om,gn,fun _=>⟨by rw[iO s b k hlt HB.out];go_num,R⟩,fun h=>by omega,B1⟩
   case measure=>exact j1
  have hbb:((s[k].toNat:Int)==b)=false:=by simp[hb]
  have HB:Hid (¬(s[k].toNat:Int)=b):=hb;clear hb hin;go_wp2;go_roundw
  case rel=>exact ⟨k+1,om,gn,fun _=>⟨by rw[fX s b k hlt HB.out],by rw[fX s b k hlt HB.out];exact hown⟩,fun h=>by omega,hbel⟩
  case measure=>exact j1
 have hown:=hend om;clear hin hend;go_wp2;go_ret;exact ⟨_,rfl,hown,hbel⟩
theorem BJ(s:ByteArray)(b:Int)(w:World)(hs:s.size<=16777216):Calls prog 135 #[L s,.int .u8 b] w fun e w'=> ∃v,e=Y v/\w'.ownsRow w.heap.size 9 1 v (aB s b).length (aZ (aB s b))/\Below w.heap.size w w':=by
 go_enter func135,ntmps135;go_wp2
 go_loopw[5,6,11] (fun v f i wr=> ∃k:Nat,k<=s.size/\i=I J k/\f=I J (aK s b k).2/\wr.ownsRow w.heap.size 9 1 v (aK s b k).1.length (aZ (aK s b k).1)/\Below w.heap.size w wr)
  (fun _ _ i _=>s.size-(intOf i).toNat)
 case atStart=>exact ⟨0,zr _,rfl,rfl,zx w #[] 0 (za _) de rfl,(Below.refl _ _).alloc (za _) _⟩
 obtain ⟨k,hk,rfl,rfl,hown,hbel⟩:=hrel;have hsz:=hbel.size;obtain ⟨hf1,hf2⟩:=eF s b k;have hes:(s.extract (aK s b k).2 k).size<=281474976710656:=by rw[zf];omega
 by_cases hlt:k<s.size
 .by_cases hb:(s[k].toNat:Int)=b
  .have hbb:((s[k].toNat:Int)==b)=true:=by simp[hb]
   have HB:Hid ((s[k].toNat:Int)=b):=hb;clear hb;go_wp2_with (first|(go_at_call 133;refine j6 (kF _ _ hes) fun wc hbc=>?_;have hown2:=aN hown hbc;have hsc:=hbc.size)|(at_builtin;refine aC _ rfl _ _ 86 rfl w.heap.size 9 (L ⟨#[]⟩) 16 underlying86 infoStr rfl _ _ _ rfl hown2 #[L (s.extract (aK s b k).2 k)] 1 rfl rfl (lJ _) om (by unfold maxLen;omega) om ?_));intro v' w1 hown' hb1;have R:=EV s b k hlt HB.out hown';have B1:Below w.heap.size w w1:=(hbel.trans (hbc.mono hsz)).trans hb1;clear hown' hb1 hown hbel hown2 hbc;go_wp2;go_roundw
   case rel=>exact ⟨k+1,om,gn,by rw[iO s b k hlt HB.out];go_num,R,B1⟩
   case measure=>exact j1
  have hbb:((s[k].toNat:Int)==b)=false:=by simp[hb]
  have HB:Hid (¬(s[k].toNat:Int)=b):=hb;clear hb;go_wp2;go_roundw
  case rel=>exact ⟨k+1,om,gn,by rw[fX s b k hlt HB.out],by rw[fX s b k hlt HB.out];exact hown,hbel⟩
  case measure=>exact j1
 have he:k=s.size:=om;have hes2:(s.extract (aK s b k).2 s.size).size<=281474976710656:=by rw[zf];omega
 have HE:Hid (k=s.size):=he;clear he;go_wp2_with (first|(go_at_call 133;refine j6 (kF _ _ hes2) fun wc hbc=>?_;have hown2:=aN hown hbc;have hsc:=hbc.size)|(at_builtin;refine aC _ rfl _ _ 86 rfl w.heap.size 9 (L ⟨#[]⟩) 16 underlying86 infoStr rfl _ _ _ rfl hown2 #[L (s.extract (aK s b k).2 s.size)] 1 rfl rfl (lJ _) om (by unfold maxLen;omega) om ?_));intro v' w1 hown' hb1;have R:=EU s b k HE.out (by rw[HE.out]at hown'⊢;exact hown');have B1:Below w.heap.size w w1:=(hbel.trans (hbc.mono hsz)).trans hb1;clear hown' hb1 hown hbel hown2 hbc;go_wp2;go_ret;exact ⟨_,rfl,R,B1⟩
theorem nU(s:ByteArray)(b:Int)(w:World)(hs:s.size<=1048576):Calls prog 93 #[L s,.int .u8 b] w fun e w'=> ∃v,e=Y v/\w'.ownsRow w.heap.size 9 1 v (aB s b).length (aZ (aB s b))/\Below w.heap.size w w':=
 BI s b w om
theorem vR(s:ByteArray)(b:Int)(w:World)(hs:s.size<=1048576):Calls prog 135 #[L s,.int .u8 b] w fun e w'=> ∃v,e=Y v/\w'.ownsRow w.heap.size 9 1 v (aB s b).length (aZ (aB s b))/\Below w.heap.size w w':=
 BJ s b w om
theorem bE(s:ByteArray)(a b:Nat):(s.extract a b).data.toList=(s.data.toList.take b).drop a:=by
 rw[ByteArray.data_extract,Array.toList_extract,List.drop_take]
theorem iP(s:ByteArray)(k:Nat):(s.extract 0 k).data.toList=s.data.toList.take k:=by rw[bE];rfl
theorem fV(s:ByteArray)(k:Nat):(s.extract k s.size).data.toList=s.data.toList.drop k:=by rw[bE,dD s s.size (za _)]
theorem rF(s:ByteArray):(⟨s.data.toList.toArray⟩:ByteArray)=s:=by cases s;simp
theorem KO{p:UInt8->Bool}{l:List UInt8}{k:Nat}(h: ∀c∈l.take k,p c=true):l.takeWhile p=l.take k++(l.drop k).takeWhile p/\l.dropWhile p=(l.drop k).dropWhile p:=by
 induction k generalizing l with
 |zero=>simp
 |succ k ih=>
  cases l with
  |nil=>simp
  |cons c r=>
   rw[List.take_succ_cons]at h;have hc:=h c j2;obtain ⟨h1,h2⟩:=ih (l:=r) fun x hx=>h x (by simp[hx])
   rw[List.takeWhile_cons,List.dropWhile_cons,hc,if_pos rfl,if_pos rfl,h1,h2];simp
def jn(sep:UInt8):List ByteArray->List UInt8
 |[]=>[]
 |x::xs=>x.data.toList++xs.flatMap fun y=>sep::y.data.toList
theorem EW(sep:UInt8)(x:ByteArray):jn sep ([]++[x])=x.data.toList:=by simp[jn]
theorem xB(sep:UInt8)(l:List ByteArray)(x:ByteArray)(h:l≠[]):jn sep (l++[x])=jn sep l++[sep]++x.data.toList:=by
 cases l with
 |nil=>exact absurd rfl h
 |cons y ys=>simp[jn,List.flatMap_append]
theorem BK(s:ByteArray)(b:Int)(hb0:0<=b)(hb1:b<=255): ∀k,k<=s.size->
  (aK s b k).2<=k/\((aK s b k).1=[]->(aK s b k).2=0)/\((aK s b k).1≠[]->jn (zc b.toNat) (aK s b k).1++[zc b.toNat]=s.data.toList.take (aK s b k).2)
 |0,_=>by simp[aK]
 |k+1,hk=>by
  obtain ⟨h1,h2,h3⟩:=BK s b hb0 hb1 k om
  by_cases e:(s[k].toNat:Int)=b
  .rw[iO s b k om e]
   refine ⟨za _,fun h=>by simp at h,fun _=> ?_⟩;have hsep:s[k]=zc b.toNat:=by
    rw[<-e];simp
   have hx:(s.extract (aK s b k).2 k).data.toList=(s.data.toList.take k).drop (aK s b k).2:=bE s _ _;have hcat:s.data.toList.take (aK s b k).2++(s.data.toList.take k).drop (aK s b k).2=s.data.toList.take k:=by
    have:=zt (aK s b k).2 (s.data.toList.take k)
    rw[List.take_take,Nat.min_eq_left h1]at this;exact this
   simp only
   by_cases hn:(aK s b k).1=[]
   .rw[hn,EW,hx,h2 hn,eW s k om,hsep]
    simp
   rw[xB _ _ _ hn,h3 hn,hx,hcat,eW s k om,hsep]
  rw[fX s b k om e];exact ⟨om,h2,h3⟩
theorem xC(s:ByteArray)(b:Int)(hb0:0<=b)(hb1:b<=255):jn (zc b.toNat) (aB s b)=s.data.toList:=by
 obtain ⟨h1,h2,h3⟩:=BK s b hb0 hb1 s.size (za _);have hx:=bE s (aK s b s.size).2 s.size;rw[dD s s.size (za _)]at hx;unfold aB
 by_cases hn:(aK s b s.size).1=[]
 .rw[hn,EW,hx,h2 hn];rfl
 rw[xB _ _ _ hn,h3 hn,hx,zt]
theorem nV(s:ByteArray)(b:Int): ∀k,∀x∈(aK s b k).1,x.size<=s.size
 |0,x,hx=>by simp[aK]at hx
 |k+1,x,hx=>by
  rw[aK]at hx;split at hx
  .rcases zy.1 hx with h|h
   .exact nV s b k x h
   rw[zw.1 h,zf];omega
  exact nV s b k x hx
theorem lK(s:ByteArray)(b:Int): ∀x∈aB s b,x.size<=s.size:=by
 intro x hx;unfold aB at hx
 rcases zy.1 hx with h|h
 .exact nV s b _ x h
 rw[zw.1 h,zf];omega
theorem vS(l:List ByteArray)(k:Nat)(h:k<l.length):l.take (k+1)=l.take k++[l.getD k zd]:=by
 rw[List.take_succ_eq_append_getElem h];simp[List.getD,h]
theorem rG{a b:ByteArray}(h: ¬a=b):(a.toList==b.toList)=false:=by
 rw[beq_eq_false_iff_ne];intro e;apply h;apply z0;apply Array.ext';rw[<-zh,<-zh,e]
theorem XK{a b:ByteArray}(h:a=b):(a.toList==b.toList)=true:=by rw[h];exact beq_self_eq_true _
theorem aS{u:ByteArray}(h:u.size=0):u.toList.isEmpty=true:=by
 rw[zh,zj];simpa using h
theorem aW{u:ByteArray}(h:0<u.size):u.toList.isEmpty=false:=by
 cases he:u.toList.isEmpty with
 |false=>rfl
 |true=>
  rw[zh,zj]at he
  have:u.size=0:=by simpa using he
  omega
theorem sK{w:World}{B:Nat}{e:TypeId}{g n cap:Nat}{xs:List Value}(h:w.ownsRow B e 1 (.slice (some ⟨g,0,none⟩) n cap) n xs)(m:Nat)(hm:m<=n):
  w.ownsRow B e 1 (.slice (some ⟨g,0,none⟩) m cap) m (xs.take m):=by
 have hl:=h.1
 rcases h.2 with ⟨hh,_⟩|⟨g',cap',cur,hh,h1,h2,h3,h4,h5,h6⟩
 .cases hh
 cases hh
 refine ⟨by rw[zl];omega,.inr ⟨g,cap,cur,rfl,h1,h2,om,h4,h5,?_⟩⟩;rw[<-h6,List.take_take,Nat.mul_one,Nat.mul_one,Nat.min_eq_left hm]
theorem lW(fs:List ByteArray)(m:Nat):(aZ fs).take m=aZ (fs.take m):=by
 unfold aZ;rw[List.map_take]
theorem mY{w:World}{B:Nat}{e:TypeId}{g n cap:Nat}{xs:List Value}(h:w.ownsRow B e 1 (.slice (some ⟨g,0,none⟩) n cap) n xs):n<=cap:=by
 rcases h.2 with ⟨h,_⟩|⟨_,_,_,h,_,_,h3,_⟩
 .cases h
 cases h;exact h3
def eJ(fs:List ByteArray):List ByteArray:=if 1<fs.length/\(fs.getD (fs.length-1) zd).size=0 then fs.take (fs.length-1)else fs
theorem zW{fs:List ByteArray}(h:0<fs.length):0<(eJ fs).length:=by
 unfold eJ;split
 .rw[zl];omega
 exact h
theorem RU(fs:List ByteArray):(eJ fs).length<=fs.length:=by
 unfold eJ;split
 .rw[zl];omega
 exact za _
theorem BL{fs:List ByteArray}{n:Nat}(h: ∀x∈fs,x.size<=n): ∀x∈eJ fs,x.size<=n:=by
 intro x hx;unfold eJ at hx;split at hx
 .exact h x (List.mem_of_mem_take hx)
 exact h x hx
theorem iF(s:ByteArray)(hs:s.size<=1048576): ∀x∈aB s 46,x.size<=1048576:=fun x hx=>Nat.le_trans (lK s 46 x hx) hs
theorem BM(f0:List ByteArray)(B:Nat)(v:Value)(w:World)(hpos:0<f0.length)(hlen:f0.length<=1048577)(hown:w.ownsRow B 9 1 v f0.length (aZ f0)):Calls prog 280 #[v] w fun e w'=> ∃v',e=Y v'/\w.ownsRow B 9 1 v' (eJ f0).length (aZ (eJ f0))/\w=w':=by
 rcases aY hown with ⟨h,_⟩|⟨_,g,cap,rfl⟩
 .omega
 have hcap:=mY hown
 by_cases hd:1<f0.length/\(f0.getD (f0.length-1) zd).size=0
 .have OV:=sK hown (f0.length-1) om
  rw[lW]at OV;have HD:Hid (eJ f0=f0.take (f0.length-1)):=by show _=_;unfold eJ;rw[if_pos hd]
  have HL:Hid ((f0.take (f0.length-1)).length=f0.length-1):=by show _=_;rw[zl];omega
  have hl1:0<(f0.length:Int)-1:=om;have hem:=aS hd.2;have hc:=cO hown (f0.length-1) om;have hi:((f0.length:Int)-1)=((f0.length-1:Nat):Int):=om;generalize f0.getD (f0.length-1) zd=q at hc hem;have HOV:Hid (w.ownsRow B 9 1 (.slice (some ⟨g,0,none⟩) (f0.length-1) cap) (f0.length-1) (aZ (f0.take (f0.length-1)))):=OV;clear OV hown hd;go_enter func280,ntmps280;go_wp2_with fail;go_ret;rw[HD.out,HL.out];exact ⟨_,rfl,HOV.out,rfl⟩
 have HD:Hid (eJ f0=f0):=by show _=_;unfold eJ;rw[if_neg hd]
 have HOV:Hid (w.ownsRow B 9 1 (.slice (some ⟨g,0,none⟩) f0.length cap) f0.length (aZ f0)):=hown
 by_cases hl1:1<f0.length
 .have hl1':0<(f0.length:Int)-1:=om
  have hem:=aW (u:=f0.getD (f0.length-1) zd) (by apply Nat.pos_of_ne_zero;intro h;exact hd ⟨hl1,h⟩);have hc:=cO hown (f0.length-1) om;have hi:((f0.length:Int)-1)=((f0.length-1:Nat):Int):=om;generalize f0.getD (f0.length-1) zd=q at hc hem;clear hown hd;go_enter func280,ntmps280;go_wp2_with fail;go_ret;rw[HD.out];exact ⟨_,rfl,HOV.out,rfl⟩
 have hl1': ¬0<(f0.length:Int)-1:=om;clear hown hd;go_enter func280,ntmps280;go_wp2_with fail;go_ret;rw[HD.out];exact ⟨_,rfl,HOV.out,rfl⟩
def toL(x:ByteArray):List UInt8:=x.data.toList
theorem xD(s:ByteArray)(b:UInt8): ∀k,k<=s.size->(aK s (b.toNat:Int) k).2<=k/\spl b (s.data.toList.take k)=(aK s (b.toNat:Int) k).1.map toL++[(s.data.toList.take k).drop (aK s (b.toNat:Int) k).2]
 |0,_=>by simp[aK,spl]
 |k+1,hk=>by
  obtain ⟨h0,h1⟩:=xD s b k om;rw[eW s k om,Hk b h1 s[k]]
  by_cases e:s[k]=b
  .rw[if_pos e,iO s _ k om (by rw[e])]
   refine ⟨za _,?_⟩;simp only[zz,List.map_cons,List.map_nil,toL,bE];rw[ze (i:=k+1) (by simp;omega)];simp
  have e': ¬(s[k].toNat:Int)=(b.toNat:Int):=fun h=>e (UInt8.toNat_inj.1 om)
  rw[if_neg e,fX s _ k om e'];refine ⟨om,?_⟩;rw[List.drop_append_of_le_length (by simp;omega)]
theorem sL(s:ByteArray)(b:UInt8):(aB s (b.toNat:Int)).map toL=spl b s.data.toList:=by
 obtain ⟨_,h⟩:=xD s b s.size (za _);rw[dD s s.size (za _)]at h;rw[h];unfold aB;rw[zz];simp only[List.map_cons,List.map_nil,toL,bE,dD s s.size (za _)]
theorem vT(s:ByteArray):(aB s 46).map toL=spl 46 s.data.toList:=sL s 46
theorem XL(s:ByteArray):(aB s 58).map toL=spl 58 s.data.toList:=sL s 58
def loA(s:ByteArray):Option Nat:=lo4 ((eJ (aB s 46)).map toL)
theorem XM{s:ByteArray}{n:Nat}(h:loA s=some n):n<4294967296:=Lu h
theorem bL{a b:ByteArray}(h:toL a=toL b):a=b:=by
 apply z0;exact Array.toList_inj.1 h
theorem NQ{s:ByteArray}{n:Nat}(hn:n<4294967296)(h:s.data.toList=iE n):loA s=some n:=by
 have h1:=vT s;rw[h,DS hn]at h1;have hd:eJ (aB s 46)=aB s 46:=by
  unfold eJ;rw[if_neg];rintro ⟨_,h2⟩;have hl:(aB s 46).length=4:=by
   have:=congrArg List.length h1
   simpa using this
  rw[hl]at h2;have h3:toL ((aB s 46).getD (4-1) zd)=bR (n%256):=by
   have:=congrArg (fun l=>l.getD 3 []) h1
   simp only[zp,List.getElem?_map]at this⊢;rw[zs om]at this⊢;simpa using this
  have h4:=Hm (n%256) om;apply h4;rw[<-h3];exact List.eq_nil_of_length_eq_zero (by simpa[toL] using h2)
 unfold loA;rw[hd,h1,<-DS hn];exact Hn hn
theorem N2{s:ByteArray}{n:Nat}(h:loA s=some n)(h2:iE n=s.data.toList):p4 s.data.toList=some n:=by
 rw[<-h2];exact Lt (XM h)
theorem Ab{s:ByteArray}{n:Nat}(h:loA s=some n)(h2: ¬iE n=s.data.toList):p4 s.data.toList=none:=by
 cases hp:p4 s.data.toList with
 |none=>rfl
 |some m=>
  obtain ⟨h3,h4⟩:=oV hp;rw[NQ h3 h4]at h
  cases h
  exact absurd h4.symm h2
theorem XN{s:ByteArray}(h:loA s=none):p4 s.data.toList=none:=by
 cases hp:p4 s.data.toList with
 |none=>rfl
 |some m=>
  obtain ⟨h3,h4⟩:=oV hp;rw[NQ h3 h4]at h
  cases h
end
section
theorem dZ(n:Int)(h0:0<=n)(h1:n<9223372036854775808):IntKind.i64.wrap n=n:=by
 simp[IntKind.wrap,IntKind.bits,IntKind.signed];omega
theorem RV(a b:Nat)(ha:a<9223372036854775808)(hb:b<9223372036854775808):bits .and .i64 (a:Int) (b:Int)=((a&&&b:Nat):Int):=by
 have hx:a&&&b<2^63:=Nat.and_lt_two_pow _ om;have h1:(BitVec.ofInt 64 (a:Int)).toNat=a:=by
  rw[BitVec.ofInt_natCast,BitVec.toNat_ofNat];exact zm om
 have h2:(BitVec.ofInt 64 (b:Int)).toNat=b:=by
  rw[BitVec.ofInt_natCast,BitVec.toNat_ofNat];exact zm om
 show IntKind.i64.wrap ((BitVec.ofInt 64 (a:Int)&&&BitVec.ofInt 64 (b:Int)).toNat:Int)=_;rw[BitVec.toNat_and,h1,h2,dZ _ om om]
theorem XO(a b:Nat)(ha:a<9223372036854775808)(hb:b<9223372036854775808):bits .or .i64 (a:Int) (b:Int)=((a|||b:Nat):Int):=by
 have hx:a|||b<2^63:=Nat.or_lt_two_pow om om;have h1:(BitVec.ofInt 64 (a:Int)).toNat=a:=by
  rw[BitVec.ofInt_natCast,BitVec.toNat_ofNat];exact zm om
 have h2:(BitVec.ofInt 64 (b:Int)).toNat=b:=by
  rw[BitVec.ofInt_natCast,BitVec.toNat_ofNat];exact zm om
 show IntKind.i64.wrap ((BitVec.ofInt 64 (a:Int)|||BitVec.ofInt 64 (b:Int)).toNat:Int)=_;rw[BitVec.toNat_or,h1,h2,dZ _ om om]
theorem mZ(i:Nat)(m:Nat)(hm:m=2^i-1)(x:Int)(h0:0<=x)(h1:x<9223372036854775808)(hi:m<9223372036854775808):bits .and .i64 x (m:Int)=x%((2^i:Nat):Int):=by
 obtain ⟨a,rfl⟩:=zi h0;rw[RV a m om hi,hm,Nat.and_two_pow_sub_one_eq_mod];omega
theorem zX(x:Int)(h0:0<=x)(h1:x<9223372036854775808):bits .and .i64 x 63=x%64:=mZ 6 63 rfl x h0 h1 om
theorem N3(x:Int)(h0:0<=x)(h1:x<9223372036854775808):bits .and .i64 x 31=x%32:=mZ 5 31 rfl x h0 h1 om
theorem N4(x:Int)(h0:0<=x)(h1:x<9223372036854775808):bits .and .i64 x 15=x%16:=mZ 4 15 rfl x h0 h1 om
theorem Ac(x:Int)(h0:0<=x)(h1:x<9223372036854775808):bits .and .i64 x 7=x%8:=mZ 3 7 rfl x h0 h1 om
theorem jD(i:Nat)(x y:Int)(hx0:0<=x)(hx1:x<9223372036854775808)(hx:x.toNat%2^i=0)(hy0:0<=y)(hy1:y<9223372036854775808)(hy:y.toNat<2^i):bits .or .i64 x y=x+y:=by
 obtain ⟨a,rfl⟩:=zi hx0;obtain ⟨b,rfl⟩:=zi hy0;rw[XO a b om om,nat_join i a b (by simpa using hx) (by simpa using hy)];omega
