/- PctPlain, HexWalk, SplPlain, NumWalk, CloneWalk, FieldsWalk, ExtPlain. -/
import Derived.Test.YtgcbaphbiaimoaaGreatDoorQF01
import Derived.BigQuiet
set_option maxHeartbeats 1000000
namespace Go.Proofs.YtgcbaphbiaimoaaGreatDoor
open Go.Value renaming int->I,string->L,bool->Z
open Go.IntKind renaming i64->J
open Go.Ending renaming returned->Y
open _root_.ByteArray renaming size_extract->zm
open _root_.List renaming all_append->zp,cons_append->zh,drop_eq_getElem_cons->zd,drop_of_length_le->zc,length_append->zf,length_cons->zg,mem_cons_of_mem->zn,mem_cons_self->zi
open _root_.Nat renaming le_refl->zl,lt_of_lt_of_le->zj,mul_le_mul_left->ze,zero_le->zk
open _root_.UInt8 renaming ofNat->za
open _root_.Go.World renaming ownsRow_lit->zo
open _root_.Go.Proofs.Tryz
open _root_.Go.Proofs.YtgcbaphbiaimoaaGreatDoor.Tryz
open Go.RowKit
def cD(c:Nat):Bool:=decide (97<=c/\c<=122)||decide (65<=c/\c<=90)
def fZ(c:Nat):Bool:=decide (48<=c/\c<=57)
def iZ(c:Nat):Bool:=decide (c=45∨c=46∨c=95∨c=126)
def eF(c:Nat):Bool:=cD c||fZ c||iZ c
def oY(c:Nat):Bool:=decide (c=33∨c=36∨c=38∨c=39∨c=40∨c=41∨c=42∨c=43∨c=44∨c=59∨c=61∨c=58∨c=64)
def dV(set:Int)(c:Nat):Bool:=decide (1<=set/\set<=3)&&(eF c||oY c||(decide (c=47)&&decide (set≠3))||(decide (c=63)&&decide (set=2)))
def jU(set c:Int):Bool:=decide (0<=c)&&dV set c.toNat
def bE(c:Nat):Int:=if 48<=c/\c<=57 then (c:Int)-48 else if 97<=c/\c<=102 then (c:Int)-87 else if 65<=c/\c<=70 then (c:Int)-55 else-1
def oS(n:Nat):UInt8:=za (if n<10 then 48+n else 55+n)
def oZ(c:UInt8):List UInt8:=[37,oS (c.toNat/16),oS (c.toNat%16)]
def gX(a b c:Nat):Int:=if a=37/\0<=bE b/\0<=bE c then bE b*16+bE c else-1
def nV:List UInt8->Int
 |a::b::c::_=>gX a.toNat b.toNat c.toNat
 |_=> -1
theorem gM(c:Nat): -1<=bE c/\bE c<=15:=by
 unfold bE;split
 .omega
 split
 .omega
 split<;>omega
theorem Cc(a b c:Nat): -1<=gX a b c/\gX a b c<=255:=by
 have h1:=gM b;have h2:=gM c;unfold gX;split<;>omega
def fN{α:Type}(f g:UInt8->List α):List UInt8->List α
 |a::b::c::r=>if 0<=gX a.toNat b.toNat c.toNat then f (za (gX a.toNat b.toNat c.toNat).toNat)++fN f g r else g a++fN f g (b::c::r)
 |[a,b]=>g a++g b
 |[a]=>g a
 |[]=>[]
theorem qA{α:Type}(f g:UInt8->List α)(a b c:UInt8)(r:List UInt8)(h:0<=gX a.toNat b.toNat c.toNat):
  fN f g (a::b::c::r)=f (za (gX a.toNat b.toNat c.toNat).toNat)++fN f g r:=by
 rw[fN,if_pos h]
theorem jA{α:Type}(f g:UInt8->List α)(a:UInt8)(r:List UInt8)(h:nV (a::r)<0):fN f g (a::r)=g a++fN f g r:=by
 match r,h with
 |[],_=>simp[fN]
 |[b],_=>simp[fN]
 |b::c::r,h=>
  have h': ¬0<=gX a.toNat b.toNat c.toNat:=by have h2:gX a.toNat b.toNat c.toNat<0:=h;omega
  rw[fN,if_neg h']
theorem NR(a:UInt8)(r:List UInt8)(h:a.toNat≠37):nV (a::r)<0:=by
 match r with
 |[]=>simp[nV]
 |[b]=>simp[nV]
 |b::c::r=>simp[nV,gX,h]
theorem lU(P:List UInt8->Prop)(h0:P [])(h1: ∀a b c r,0<=gX a.toNat b.toNat c.toNat->P r->P (a::b::c::r))(h2: ∀a r,nV (a::r)<0->P r->P (a::r)): ∀l,P l
 |[]=>h0
 |[a]=>h2 a [] (by simp[nV]) h0
 |[a,b]=>h2 a [b] (by simp[nV]) (h2 b [] (by simp[nV]) h0)
 |a::b::c::r=>
  if h:0<=gX a.toNat b.toNat c.toNat then h1 a b c r h (lU P h0 h1 h2 r)
  else h2 a (b::c::r) (by show gX a.toNat b.toNat c.toNat<0;omega) (lU P h0 h1 h2 (b::c::r))
theorem Cd: ∀n,n<256->gX 37 (oS (n/16)).toNat (oS (n%16)).toNat=(n:Int):=by decide+kernel
theorem J4(c:UInt8):gX (37:UInt8).toNat (oS (c.toNat/16)).toNat (oS (c.toNat%16)).toNat=(c.toNat:Int):=Cd c.toNat c.toNat_lt
theorem WO{α:Type}(f g:UInt8->List α)(c:UInt8)(r:List UInt8):fN f g (oZ c++r)=f c++fN f g r:=by
 have h:=J4 c;show fN f g (37::oS (c.toNat/16)::oS (c.toNat%16)::r)=_;rw[qA f g _ _ _ _ (by rw[h];omega),h];simp
def unL:List UInt8->List UInt8:=fN (fun c=>[c]) (fun a=>[a])
def gZ(c:UInt8):List UInt8:=if eF c.toNat then [c]else oZ c
def fH(set:Int)(c:UInt8):List UInt8:=if dV set c.toNat then [c]else oZ c
def plL(set:Int):List UInt8->List UInt8:=fN gZ (fH set)
def okT(set:Int):List UInt8->List Bool:=fN (fun _=>[]) (fun a=>[dV set a.toNat])
def okL(set:Int)(l:List UInt8):Bool:=(okT set l).all id
theorem Gg(set:Int):dV set 37=false:=by
 simp[dV,eF,cD,fZ,iZ,oY]
theorem Ce{set:Int}{c:Nat}(h:dV set c=true):c≠37:=by
 intro e;rw[e,Gg]at h
 cases h
theorem Cf{c:Nat}(h:eF c=true):c≠37:=by
 intro e;subst e
 revert h
 decide
theorem xR{set:Int}{c:Nat}(hs:1<=set/\set<=3)(h:eF c=true):dV set c=true:=by
 simp[dV,hs,h]
theorem J5{set:Int}{c:Nat}(hs: ¬(1<=set/\set<=3)):dV set c=false:=by
 unfold dV;rw[decide_eq_false hs];rfl
theorem Cg{c:Nat}(h:eF c=true):c<128:=by
 simp[eF,cD,fZ,iZ]at h;omega
theorem Ch{set:Int}{c:Nat}(h:dV set c=true):c<128:=by
 simp[dV,eF,cD,fZ,iZ,oY]at h;omega
theorem NS{α:Type}(f g:UInt8->List α)(set:Int)(c:UInt8)(r:List UInt8):fN f g (fH set c++r)=(if dV set c.toNat then g c else f c)++fN f g r:=by
 unfold fH;split
 .next h=>exact jA f g c r (NR c r (Ce h))
 exact WO f g c r
theorem NT{α:Type}(f g:UInt8->List α)(c:UInt8)(r:List UInt8):fN f g (gZ c++r)=(if eF c.toNat then g c else f c)++fN f g r:=by
 unfold gZ;split
 .next h=>exact jA f g c r (NR c r (Cf h))
 exact WO f g c r
theorem BO(set:Int)(c:UInt8):1<=(fH set c).length/\(fH set c).length<=3:=by
 unfold fH;split<;>simp[oZ]
theorem J6(c:UInt8):1<=(gZ c).length/\(gZ c).length<=3:=by
 unfold gZ;split<;>simp[oZ]
theorem KV(set:Int)(a b c:UInt8)(r:List UInt8)(h:0<=gX a.toNat b.toNat c.toNat):plL set (a::b::c::r)=gZ (za (gX a.toNat b.toNat c.toNat).toNat)++plL set r:=qA _ _ a b c r h
theorem vD(set:Int)(a:UInt8)(r:List UInt8)(h:nV (a::r)<0):plL set (a::r)=fH set a++plL set r:=jA _ _ a r h
theorem Gh(a b c:UInt8)(r:List UInt8)(h:0<=gX a.toNat b.toNat c.toNat):unL (a::b::c::r)=za (gX a.toNat b.toNat c.toNat).toNat::unL r:=qA _ _ a b c r h
theorem WP(a:UInt8)(r:List UInt8)(h:nV (a::r)<0):unL (a::r)=a::unL r:=jA _ _ a r h
theorem NU(set:Int)(hs:1<=set/\set<=3)(l:List UInt8):okL set (plL set l)=true:=by
 induction l using lU with
 |h0=>rfl
 |h1 a b c r h ih=>
  rw[KV set a b c r h];generalize za (gX a.toNat b.toNat c.toNat).toNat=d;unfold okL okT at ih⊢;rw[NT,zp,ih];split
  .next h=>simp[xR hs h]
  rfl
 |h2 a r h ih=>
  rw[vD set a r h];unfold okL okT at ih⊢;rw[NS,zp,ih];split
  .next h=>simp[h]
  rfl
theorem J7(set:Int)(hs:1<=set/\set<=3)(l:List UInt8):plL set (plL set l)=plL set l:=by
 induction l using lU with
 |h0=>rfl
 |h1 a b c r h ih=>
  rw[KV set a b c r h];generalize za (gX a.toNat b.toNat c.toNat).toNat=d;have e:plL set (gZ d++plL set r)=(if eF d.toNat then fH set d else gZ d)++plL set (plL set r):=NT _ _ d _;rw[e,ih]
  congr 1
  split
  .next h=>unfold fH gZ;rw[xR hs h,h]
  rfl
 |h2 a r h ih=>
  rw[vD set a r h];have e:plL set (fH set a++plL set r)=(if dV set a.toNat then fH set a else gZ a)++plL set (plL set r):=NS _ _ set a _;rw[e,ih]
  congr 1
  split
  .rfl
  next h=>
  have hf:eF a.toNat=false:=by
   cases hx:eF a.toNat with
   |false=>rfl
   |true=>exact absurd (xR hs hx) h
  unfold fH gZ;rw[hf];simp[h]
theorem TO(set:Int)(l:List UInt8):(plL set l).length<=3*l.length:=by
 induction l using lU with
 |h0=>simp[plL,fN]
 |h1 a b c r h ih=>
  rw[KV set a b c r h,zf]
  have:=J6 (za (gX a.toNat b.toNat c.toNat).toNat)
  simp only[zg];omega
 |h2 a r h ih=>
  rw[vD set a r h,zf]
  have:=BO set a
  simp only[zg];omega
theorem Gi(l:List UInt8):(unL l).length<=l.length:=by
 induction l using lU with
 |h0=>simp[unL,fN]
 |h1 a b c r h ih=>rw[Gh a b c r h];simp only[zg];omega
 |h2 a r h ih=>rw[WP a r h];simp only[zg];omega
def cM(s:ByteArray)(k:Nat):Int:=nV (s.data.toList.drop k)
theorem gC(s:ByteArray)(k:Nat)(h:k<s.size):s.data.toList.drop k=s[k]::s.data.toList.drop (k+1):=by
 have hk:k<s.data.toList.length:=by simpa using h
 rw[zd hk];rfl
theorem mT(s:ByteArray)(k:Nat)(h:k+2<s.size):cM s k=gX s[k].toNat s[k+1].toNat s[k+2].toNat:=by
 unfold cM;rw[gC s k om,gC s (k+1) om,gC s (k+2) om];rfl
theorem pA(s:ByteArray)(k:Nat)(h:s.size<=k+2):cM s k= -1:=by
 unfold cM;have hl:(s.data.toList.drop k).length<=2:=by
  rw[List.length_drop]
  have:s.data.toList.length=s.size:=by simp
  omega
 match s.data.toList.drop k,hl with
 |[],_=>rfl
 |[_],_=>rfl
 |[_,_],_=>rfl
theorem rJ(s:ByteArray)(k:Nat): -1<=cM s k/\cM s k<=255:=by
 by_cases h:k+2<s.size
 .rw[mT s k h];exact Cc _ _ _
 rw[pA s k om];omega
theorem pB{s:ByteArray}{k:Nat}(h:0<=cM s k):k+2<s.size:=by
 rcases Nat.lt_or_ge (k+2) s.size with h1|h1
 .exact h1
 rw[pA s k h1]at h;omega
theorem AJ{α:Type}(f g:UInt8->List α)(s:ByteArray)(k:Nat)(h:0<=cM s k):fN f g (s.data.toList.drop k)=f (za (cM s k).toNat)++fN f g (s.data.toList.drop (k+3)):=by
 have hk:=pB h;rw[mT s k hk]at h⊢;rw[gC s k om,gC s (k+1) om,gC s (k+2) om];exact qA f g _ _ _ _ h
theorem vF{α:Type}(f g:UInt8->List α)(s:ByteArray)(k:Nat)(hk:k<s.size)(h:cM s k<0):fN f g (s.data.toList.drop k)=g s[k]++fN f g (s.data.toList.drop (k+1)):=by
 unfold cM at h;rw[gC s k hk]at h⊢;exact jA f g _ _ h
theorem WQ{α:Type}(f g:UInt8->List α)(s:ByteArray)(k:Nat)(hk:s.size<=k):fN f g (s.data.toList.drop k)=[]:=by
 rw[zc (by simpa using hk)];rfl
theorem J8(x a b:Int)(w:World):Calls prog 39 #[I J x,I J a,I J b] w fun e w'=>e=Y (Z (decide (a<=x/\x<=b)))/\w=w':=by
 by_cases h:a<=x/\x<=b
 .rw[decide_eq_true h];exact aJ x a b w h.1 h.2
 rw[decide_eq_false h];exact aN x a b w om
theorem WR{c:Nat}(h1:48<=(c:Int))(h2:(c:Int)<=57):bE c=(c:Int)-48:=by unfold bE;rw[if_pos om]
theorem WS{c:Nat}(h1:97<=(c:Int))(h2:(c:Int)<=102):bE c=(c:Int)-87:=by unfold bE;rw[if_neg om,if_pos om]
theorem WT{c:Nat}(h1:65<=(c:Int))(h2:(c:Int)<=70):bE c=(c:Int)-55:=by unfold bE;rw[if_neg om,if_neg om,if_pos om]
theorem WU{c:Nat}(h1: ¬(48<=(c:Int)/\(c:Int)<=57))(h2: ¬(97<=(c:Int)/\(c:Int)<=102))(h3: ¬(65<=(c:Int)/\(c:Int)<=70)):bE c= -1:=by unfold bE;rw[if_neg om,if_neg om,if_neg om]
theorem eG(c:Nat)(w:World)(hc:c<=255):Calls prog 218 #[.int .u8 (c:Int)] w fun e w'=>e=Y (Z (decide (48<=(c:Int)/\(c:Int)<=57)))/\w=w':=by
 by_cases h1:48<=(c:Int)
 .go_enter func218,ntmps218
  go_wp2;go_ret;exact ⟨aG (by simp[h1]<;>omega),rfl⟩
 go_enter func218,ntmps218;go_wp2;go_ret;exact ⟨aG (by simp<;>omega),rfl⟩
theorem AK(c:Nat)(w:World)(hc:c<=255):Calls prog 215 #[.int .u8 (c:Int)] w fun e w'=>e=Y (I J (bE c))/\w=w':=by
 by_cases h1:48<=(c:Int)/\(c:Int)<=57
 .obtain ⟨a1,a2⟩:=h1
  go_enter func215,ntmps215;go_wp2_with fail;refine j5 (eG c _ hc) ?_;rw[decide_eq_true (show 48<=(c:Int)/\(c:Int)<=57 from ⟨a1,a2⟩)];go_wp2;go_ret;exact ⟨aR (by rw[WR a1 a2]),rfl⟩
 by_cases h2:97<=(c:Int)/\(c:Int)<=102
 .obtain ⟨a1,a2⟩:=h2
  have H1:Hid (¬(48<=(c:Int)/\(c:Int)<=57)):=h1;clear h1;go_enter func215,ntmps215;go_wp2_with fail;refine j5 (eG c _ hc) ?_;rw[decide_eq_false H1.out];go_wp2;go_ret;exact ⟨aR (by rw[WS a1 a2]<;>omega),rfl⟩
 by_cases h3:65<=(c:Int)/\(c:Int)<=70
 .obtain ⟨a1,a2⟩:=h3
  have H1:Hid (¬(48<=(c:Int)/\(c:Int)<=57)):=h1;clear h1 h2;have h4: ¬97<=(c:Int):=om;go_enter func215,ntmps215;go_wp2_with fail;refine j5 (eG c _ hc) ?_;rw[decide_eq_false H1.out];go_wp2;go_ret;exact ⟨aR (by rw[WT a1 a2]<;>omega),rfl⟩
 have H1:Hid (¬(48<=(c:Int)/\(c:Int)<=57)):=h1;have H0:Hid (bE c= -1):=WU h1 h2 h3;clear h1
 rcases Int.lt_or_le (c:Int) 97 with h4|h4
 .rcases Int.lt_or_le (c:Int) 65 with h5|h5
  .clear h2 h3
   go_enter func215,ntmps215;go_wp2_with fail;refine j5 (eG c _ hc) ?_;rw[decide_eq_false H1.out];go_wp2;go_ret;exact ⟨aR (by rw[H0.out]),rfl⟩
  have h6: ¬(c:Int)<=70:=om;clear h2 h3;go_enter func215,ntmps215;go_wp2_with fail;refine j5 (eG c _ hc) ?_;rw[decide_eq_false H1.out];go_wp2;go_ret;exact ⟨aR (by rw[H0.out]),rfl⟩
 have h6: ¬(c:Int)<=102:=om;have h7: ¬(c:Int)<=70:=om;have h8:65<=(c:Int):=om;clear h2 h3;go_enter func215,ntmps215;go_wp2_with fail;refine j5 (eG c _ hc) ?_;rw[decide_eq_false H1.out];go_wp2;go_ret;exact ⟨aR (by rw[H0.out]),rfl⟩
theorem sI(c:Nat)(w:World)(hc:(c:Int)<=255):Calls prog 113 #[.int .u8 (c:Int)] w fun e w'=>e=Y (I J (bE c))/\w=w':=by
 by_cases h1:48<=(c:Int)/\(c:Int)<=57
 .obtain ⟨a1,a2⟩:=h1
  go_enter func113,ntmps113;go_wp2_with (go_at_call 39;refine j5 (aJ _ _ _ _ a1 a2) ?_);go_ret;exact ⟨aR (by rw[WR a1 a2]),rfl⟩
 have g1:(c:Int)<48∨57<(c:Int):=om
 by_cases h2:97<=(c:Int)/\(c:Int)<=102
 .obtain ⟨a1,a2⟩:=h2
  clear h1;have H1:Hid ((c:Int)<48∨57<(c:Int)):=g1;clear g1;go_enter func113,ntmps113;go_wp2_with fail;refine j5 (aN _ _ _ _ H1.out) ?_;go_wp2_with fail;refine j5 (aJ _ _ _ _ a1 a2) ?_;go_wp2;go_ret;exact ⟨aR (by rw[WS a1 a2]<;>omega),rfl⟩
 have g2:(c:Int)<97∨102<(c:Int):=om;have H1:Hid ((c:Int)<48∨57<(c:Int)):=g1;have H2:Hid ((c:Int)<97∨102<(c:Int)):=g2
 by_cases h3:65<=(c:Int)/\(c:Int)<=70
 .obtain ⟨a1,a2⟩:=h3
  clear h1 h2 g1 g2;go_enter func113,ntmps113;go_wp2_with fail;refine j5 (aN _ _ _ _ H1.out) ?_;go_wp2_with fail;refine j5 (aN _ _ _ _ H2.out) ?_;go_wp2_with fail;refine j5 (aJ _ _ _ _ a1 a2) ?_;go_wp2;go_ret;exact ⟨aR (by rw[WT a1 a2]<;>omega),rfl⟩
 have H0:Hid (bE c= -1):=WU h1 h2 h3;have H3:Hid ((c:Int)<65∨70<(c:Int)):=by show _∨_;omega
 clear h1 h2 h3 g1 g2;go_enter func113,ntmps113;go_wp2_with fail;refine j5 (aN _ _ _ _ H1.out) ?_;go_wp2_with fail;refine j5 (aN _ _ _ _ H2.out) ?_;go_wp2_with fail;refine j5 (aN _ _ _ _ H3.out) ?_;go_wp2;go_ret;exact ⟨aR (by rw[H0.out]),rfl⟩
def spl(b:UInt8):List UInt8->List (List UInt8)
 |[]=>[[]]
 |c::r=>if c=b then []::spl b r else match spl b r with
  |[]=>[[c]]
  |x::xs=>(c::x)::xs
theorem rK(b:UInt8): ∀l,∃xs y,spl b l=xs++[y]/\ ∀c,spl b (l++[c])=if c=b then xs++[y,[]]else xs++[y++[c]]
 |[]=>⟨[],[],rfl,fun c=>by
   by_cases h:c=b
   .simp[spl,h]
   simp[spl,h]⟩
 |d::r=>by
  obtain ⟨xs,y,h1,h2⟩:=rK b r
  by_cases hd:d=b
  .refine ⟨[]::xs,y,by simp[spl,hd,h1],fun c=> ?_⟩
   rw[zh,spl,if_pos hd,h2 c];split<;>simp
  cases xs with
  |nil=>
   refine ⟨[],d::y,by simp[spl,hd,h1],fun c=> ?_⟩;rw[zh,spl,if_neg hd,h2 c]
   by_cases hc:c=b<;>simp[hc]
  |cons x xs=>
   refine ⟨(d::x)::xs,y,by simp[spl,hd,h1],fun c=> ?_⟩;rw[zh,spl,if_neg hd,h2 c]
   by_cases hc:c=b<;>simp[hc]
theorem Ci(b:UInt8){l xs:List _}{y:List UInt8}(h:spl b l=xs++[y])(c:UInt8):spl b (l++[c])=if c=b then xs++[y,[]]else xs++[y++[c]]:=by
 obtain ⟨xs',y',h1,h2⟩:=rK b l;have e:=h.symm.trans h1;obtain ⟨e1,e2⟩:=List.append_inj' e rfl
 cases e2
 subst e1;exact h2 c
theorem kV(b:UInt8): ∀{l:List UInt8},(∀c∈l,c≠b)->spl b l=[l]
 |[],_=>rfl
 |c::r,h=>by
  rw[spl,if_neg (h c zi),kV b (fun d hd=>h d (zn _ hd))]
theorem AL(b:UInt8)(m:List UInt8): ∀l,spl b (l++b::m)=spl b l++spl b m
 |[]=>by simp[spl]
 |c::r=>by
  rw[zh,spl,spl,AL b m r];split
  .simp
  obtain ⟨xs,y,h,_⟩:=rK b r;rw[h]
  cases xs<;>simp
def jl(b:UInt8):List (List UInt8)->List UInt8
 |[]=>[]
 |[x]=>x
 |x::y::r=>x++b::jl b (y::r)
theorem J9(b:UInt8): ∀l,jl b (spl b l)=l
 |[]=>rfl
 |c::r=>by
  have ih:=J9 b r;obtain ⟨xs,y,h,_⟩:=rK b r
  by_cases hc:c=b
  .rw[spl,if_pos hc]
   rw[h]at ih⊢
   cases xs with
   |nil=>simp[jl]at ih⊢;exact ⟨hc.symm,ih⟩
   |cons x xs=>simp[jl]at ih⊢;exact ⟨hc.symm,ih⟩
  rw[spl,if_neg hc];rw[h]at ih⊢
  cases xs with
  |nil=>simp[jl]at ih⊢;exact ih
  |cons x xs=>cases xs<;>simp[jl]at ih⊢ <;>exact ih
theorem xS(b:UInt8): ∀{fs:List (List UInt8)},fs≠[]->(∀x∈fs,∀c∈x,c≠b)->spl b (jl b fs)=fs
 |[],h,_=>absurd rfl h
 |[x],_,h=>kV b (h x zi)
 |x::y::r,_,h=>by
  rw[jl,AL,kV b (h x zi),xS b j2 (fun z hz=>h z (zn _ hz))];rfl
def eU(base:Nat):Nat->List UInt8->Option Nat
 |n,[]=>some n
 |n,c::r=>if 0<=bE c.toNat/\bE c.toNat<(base:Int)then eU base (n*base+(bE c.toNat).toNat) r else none
def cU(base most:Nat)(l:List UInt8):Option Nat:=if l.length<=most then eU base 0 l else none
def bP(v:Nat):List UInt8:=if v<10 then [za (48+v)]else if v<100 then [za (48+v/10),za (48+v%10)]else [za (48+v/100),za (48+v/10%10),za (48+v%10)]
def vG(l:List UInt8):Option Nat:=if l.isEmpty then none else match cU 10 3 l with
 |none=>none
 |some v=>if 255<v∨1<l.length/\l.head? =some 48 then none else some v
def TQ:List UInt8->Option Nat
 |[]=>cU 8 11 []
 |d::q=>if d=120∨d=88 then cU 16 8 q else cU 8 11 (d::q)
def bZ:List UInt8->Option Nat
 |[]=>none
 |c::r=>if c=48 then TQ r else cU 10 10 (c::r)
theorem vH: ∀v,v<256->vG (bP v)=some v:=by decide+kernel
theorem qB: ∀v,v<256->bZ (bP v)=some v:=by decide+kernel
theorem Cj: ∀v,v<256-> ∀c∈bP v,48<=c.toNat/\c.toNat<=57:=by decide+kernel
theorem Ck: ∀v,v<256->bP v≠[]:=by decide+kernel
theorem eZ(v:Nat):(bP v).length<=3:=by unfold bP;split;simp;split<;>simp
def dgU(i:Nat):UInt8:=za (48+i)
def K2(l:List UInt8):Bool:=match vG l with
 |none=>true
 |some v=>decide (v<256)&&decide (l=bP v)
theorem fit1: ∀i,i<10->K2 [dgU i]=true:=by decide+kernel
theorem fit2: ∀i,i<10-> ∀j,j<10->K2 [dgU i,dgU j]=true:=by decide+kernel
theorem fit3: ∀i,i<10-> ∀j,j<10-> ∀k,k<10->K2 [dgU i,dgU j,dgU k]=true:=by decide+kernel
theorem sJ{c:UInt8}(h:0<=bE c.toNat/\bE c.toNat<((10:Nat):Int)): ∃i,i<10/\c=dgU i:=by
 unfold bE at h;refine ⟨c.toNat-48,?_,?_⟩
 .split at h
  .omega
  split at h
  .omega
  split at h<;>omega
 unfold dgU
 have:48+(c.toNat-48)=c.toNat:=by
  split at h
  .omega
  split at h
  .omega
  split at h<;>omega
 rw[this,UInt8.ofNat_toNat]
theorem NV{base:Nat}: ∀{l:List UInt8} {n v:Nat},eU base n l=some v-> ∀c∈l,0<=bE c.toNat/\bE c.toNat<(base:Int)
 |[],_,_,_,c,hc=>by simp at hc
 |d::r,n,v,h,c,hc=>by
  rw[eU]at h;split at h
  .rename_i hd
   rcases List.mem_cons.1 hc with rfl|hc
   .exact hd
   exact NV h c hc
  cases h
theorem Gj{l:List UInt8}{v:Nat}(h:vG l=some v)(hb:K2 l=true):v<256/\l=bP v:=by
 unfold K2 at hb;rw[h]at hb;simpa using hb
theorem vI{l:List UInt8}{v:Nat}(h:vG l=some v):v<256/\l=bP v:=by
 refine Gj h ?_;unfold vG at h;split at h
 .cases h
 rename_i he;unfold cU at h
 by_cases h3:l.length<=3
 .rw[if_pos h3]at h
  cases hd:eU 10 0 l with
  |none=>rw[hd]at h;cases h
  |some x=>
   have hall:=NV hd
   match l,h3,he,hall with
   |[],_,he,_=>simp at he
   |[a],_,_,hall=>
    obtain ⟨i,hi,rfl⟩:=sJ (hall a j2);exact fit1 i hi
   |[a,b],_,_,hall=>
    obtain ⟨i,hi,rfl⟩:=sJ (hall a j2);obtain ⟨j,hj,rfl⟩:=sJ (hall b j2);exact fit2 i hi j hj
   |[a,b,c],_,_,hall=>
    obtain ⟨i,hi,rfl⟩:=sJ (hall a j2);obtain ⟨j,hj,rfl⟩:=sJ (hall b j2);obtain ⟨k,hk,rfl⟩:=sJ (hall c j2);exact fit3 i hi j hj k hk
   |_::_::_::_::_,h3,_,_=>simp at h3
 rw[if_neg h3]at h
 cases h
def stF:Nat->List (List UInt8)->Option Nat
 |n,[]=>some n
 |n,x::r=>match vG x with
  |none=>none
  |some v=>stF (n*256+v) r
def p4(l:List UInt8):Option Nat:=if (spl 46 l).length=4 then stF 0 (spl 46 l)else none
def hF(n:Nat):List UInt8:=bP (n/16777216)++46::(bP (n/65536%256)++46::(bP (n/256%256)++46::bP (n%256)))
theorem K3(n:Nat):hF n=jl 46 [bP (n/16777216),bP (n/65536%256),bP (n/256%256),bP (n%256)]:=rfl
theorem WV{v:Nat}(hv:v<256): ∀c∈bP v,c≠46:=by
 intro c hc h
 have:=Cj v hv c hc
 rw[h]at this;exact absurd this.1 de
theorem AM{n:Nat}(h:n<4294967296):spl 46 (hF n)=[bP (n/16777216),bP (n/65536%256),bP (n/256%256),bP (n%256)]:=by
 rw[K3];refine xS 46 j2 ?_;intro x hx;simp only[List.mem_cons,List.not_mem_nil,or_false]at hx
 rcases hx with rfl|rfl|rfl|rfl<;>exact WV om
theorem Gk{n:Nat}(h:n<4294967296):p4 (hF n)=some n:=by
 unfold p4;rw[AM h,if_pos j2];simp only[stF];rw[vH _ om,vH _ om,vH _ om,vH _ om];simp only
 congr 1
 omega
theorem nX{l:List UInt8}{n:Nat}(h:p4 l=some n):n<4294967296/\l=hF n:=by
 unfold p4 at h;split at h
 .rename_i h4
  have hj:=J9 46 l;generalize spl 46 l=fs at h h4 hj
  match fs,h4 with
  |[a,b,c,d],_=>
   simp only[stF]at h
   cases ha:vG a with
   |none=>rw[ha]at h;cases h
   |some x=>
    rw[ha]at h;simp only at h
    cases hb:vG b with
    |none=>rw[hb]at h;cases h
    |some y=>
     rw[hb]at h;simp only at h
     cases hc:vG c with
     |none=>rw[hc]at h;cases h
     |some z=>
      rw[hc]at h;simp only at h
      cases hd:vG d with
      |none=>rw[hd]at h;cases h
      |some u=>
       rw[hd]at h;simp only[Option.some.injEq]at h;obtain ⟨h1,rfl⟩:=vI ha;obtain ⟨h2,rfl⟩:=vI hb;obtain ⟨h3,rfl⟩:=vI hc;obtain ⟨h5,rfl⟩:=vI hd;refine ⟨om,?_⟩;rw[<-hj,K3,<-h]
       congr 5<;>congr 1<;>omega
 cases h
def loF:Nat->Nat->List (List UInt8)->Option Nat
 |_,_,[]=>none
 |n,room,[x]=>match bZ x with
  |none=>none
  |some v=>if v<room then some (n*room+v)else none
 |n,room,x::y::r=>match bZ x with
  |none=>none
  |some v=>if v<256 then loF (n*256+v) (room/256) (y::r)else none
def lo4(fs:List (List UInt8)):Option Nat:=if fs.length<=4 then loF 0 4294967296 fs else none
theorem K4: ∀{fs:List (List UInt8)} {n room m:Nat},loF n room fs=some m->m<(n+1)*room
 |[],_,_,_,h=>by cases h
 |[x],n,room,m,h=>by
  rw[loF]at h
  cases hx:bZ x with
  |none=>rw[hx]at h;cases h
  |some v=>
   rw[hx]at h;simp only at h;split at h
   .cases h
    rw[Nat.add_mul,Nat.one_mul];omega
   cases h
 |x::y::r,n,room,m,h=>by
  rw[loF]at h
  cases hx:bZ x with
  |none=>rw[hx]at h;cases h
  |some v=>
   rw[hx]at h;simp only at h;split at h
   .rename_i hv
    have ih:=K4 h;refine zj ih ?_;have h1:(n*256+v+1)*(room/256)<=(n*256+256)*(room/256):=Nat.mul_le_mul_right _ om;have h2:(n*256+256)*(room/256)=(n+1)*(256*(room/256)):=by rw[<-Nat.mul_assoc,Nat.add_mul n 1 256,Nat.one_mul]
    have h3:256*(room/256)<=room:=Nat.mul_div_le room 256;exact Nat.le_trans h1 (h2▸ze _ h3)
   cases h
theorem Gl{fs:List (List UInt8)}{m:Nat}(h:lo4 fs=some m):m<4294967296:=by
 unfold lo4 at h;split at h
 .have:=K4 h
  omega
 cases h
theorem Cl{n:Nat}(h:n<4294967296):lo4 (spl 46 (hF n))=some n:=by
 rw[AM h];unfold lo4;rw[if_pos j2];simp only[loF];rw[qB _ om,qB _ om,qB _ om,qB _ om];simp only;rw[if_pos om,if_pos om,if_pos om,if_pos om]
 congr 1
 omega
def eM(r:Option Nat):Int:=match r with
 |none=> -1
 |some n=>n
theorem GV(s:ByteArray)(k:Nat)(h:k<s.size)(base n:Nat):eU base n (s.data.toList.drop k)=
  if 0<=bE s[k].toNat/\bE s[k].toNat<(base:Int)then eU base (n*base+(bE s[k].toNat).toNat) (s.data.toList.drop (k+1))else none:=by
 rw[zd (by simpa using h),eU];rfl
theorem K5{base most:Nat}{l:List UInt8}(h:most<l.length):cU base most l=none:=by unfold cU;rw[if_neg om]
theorem WW{base most:Nat}{l:List UInt8}(h:l.length<=most):cU base most l=eU base 0 l:=by unfold cU;rw[if_pos h]
theorem BP{n base d k:Nat}(hb:base<=16)(hd:d<base)(hn:n<16^k):n*base+d<16^(k+1):=by
 have h1:n*base<=n*16:=ze _ hb;rw[Nat.pow_succ];omega
theorem K6{k:Nat}(h:k<=11):16^k<=17592186044416:=Nat.pow_le_pow_right de h
theorem kW(s:ByteArray)(base most:Nat)(w:World)(hb:base<=16)(hm:most<=11):Calls prog 57 #[L s,I J (base:Int),I J (most:Int)] w fun e w'=>e=Y (I J (eM (cU base most s.data.toList)))/\w=w':=by
 have hsl:s.data.toList.length=s.size:=by simp
 by_cases hlen:most<s.size
 .have HF:Hid (cU base most s.data.toList=none):=K5 om
  have hlen':(most:Int)<(s.size:Int):=om;clear hsl;go_enter func57,ntmps57;go_wp2;go_ret;exact ⟨by rw[HF.out];rfl,rfl⟩
 have HF:Hid (cU base most s.data.toList=eU base 0 s.data.toList):=WW om;have hlen': ¬(most:Int)<(s.size:Int):=om;clear hsl;go_enter func57,ntmps57;go_wp2
 go_loop[7,8] (fun x i=> ∃k n:Nat,k<=s.size/\n<16^k/\i=I J k/\x=I J n/\eU base n (s.data.toList.drop k)=eU base 0 s.data.toList) (fun _ i=>s.size-(intOf i).toNat)
 case atStart=>exact ⟨0,0,zk _,de,rfl,rfl,rfl⟩
 obtain ⟨k,n,hk,hn,rfl,rfl,hf⟩:=hrel;have HR:Hid (eU base n (s.data.toList.drop k)=eU base 0 s.data.toList):=hf;have HN:Hid (n<16^k):=hn;have hk11:k<=11:=om;have hn2:n<17592186044416:=zj hn (K6 hk11);clear hf hn
 by_cases hlt:k<s.size
 .obtain ⟨d,hd⟩: ∃d:Nat,s[k].toNat=d:=⟨_,rfl⟩
  have hd1:(d:Int)<=255:=by have:=s[k].toNat_lt;omega
  have HD:Hid (eU base n (s.data.toList.drop k)=if 0<=bE d/\bE d<(base:Int)then eU base (n*base+(bE d).toNat) (s.data.toList.drop (k+1))else none):=by
   show _=_;rw[GV s k hlt base n,hd]
  obtain ⟨hx1,hx2⟩:=gM d;have CH:Hid (∀W,CS 113 #[.int .u8 (d:Int)] W (I J (bE d))):=fun W=>sI d W hd1
  generalize bE d=x at HD CH hx1 hx2;have hki:(k:Int)<(s.size:Int):=om
  by_cases hx:0<=x/\x<(base:Int)
  .obtain ⟨y,rfl⟩: ∃y:Nat,x=(y:Int):=⟨x.toNat,om⟩
   obtain ⟨p,hp⟩: ∃p:Nat,n*base=p:=⟨_,rfl⟩;have HP:Hid (n*base=p):=hp;have hp2:(n:Int)*(base:Int)=(p:Int):=by rw[<-hp];simp
   have hp3:p+y<281474976710656:=by
    have h1:n*base<=n*16:=ze _ hb;omega
   have hyb: ¬(base:Int)<=(y:Int):=om;have HX:Hid (y<base):=by show _<_;omega
   clear hx hp;go_wp2_with fail;refine (CH.out _).mono ?_;rintro e w' ⟨rfl,rfl⟩;go_wp2_with fail;go_round
   case rel=>
    refine ⟨k+1,n*base+y,om,BP hb HX.out HN.out,gn,by rw[HP.out];go_num,?_⟩;rw[<-HR.out,HD.out,if_pos ⟨om,by have:=HX.out;omega⟩];simp
   case measure=>exact j1
  have HZ:Hid (eU base 0 s.data.toList=none):=by
   show _=_;rw[<-HR.out,HD.out,if_neg hx]
  have HX:Hid (¬(0<=x/\x<(base:Int))):=hx;clear hx
  by_cases hx0:x<0
  .go_wp2_with fail
   refine (CH.out _).mono ?_;rintro e w' ⟨rfl,rfl⟩;go_wp2_with fail;go_ret;exact ⟨by rw[HF.out,HZ.out];rfl,rfl⟩
  have hx3:(base:Int)<=x:=by have:=HX.out;omega
  go_wp2_with fail;refine (CH.out _).mono ?_;rintro e w' ⟨rfl,rfl⟩;go_wp2_with fail;go_ret;exact ⟨by rw[HF.out,HZ.out];rfl,rfl⟩
 have HZ:Hid (eU base 0 s.data.toList=some n):=by
  show _=_;rw[<-HR.out,zc (by simp;omega)];rfl
 have hki: ¬(k:Int)<(s.size:Int):=om;go_wp2_with fail;go_ret;exact ⟨by rw[HF.out,HZ.out];rfl,rfl⟩
def eN(r:Option Nat):Value:=match r with
 |none=> .tuple #[I J 0,Z false]
 |some n=> .tuple #[I J n,Z true]
def alD(base:Nat)(l:List UInt8):Bool:=l.all fun c=>decide (0<=bE c.toNat/\bE c.toNat<(base:Int))
theorem BQ(s:ByteArray)(k:Nat)(h:k<s.size)(base:Nat):alD base (s.data.toList.drop k)=(decide (0<=bE s[k].toNat/\bE s[k].toNat<(base:Int))&&alD base (s.data.toList.drop (k+1))):=by
 rw[zd (by simpa using h)];rfl
theorem WX{base:Nat}: ∀{l:List UInt8} {n:Nat},alD base l=false->eU base n l=none
 |[],_,h=>by simp[alD]at h
 |c::r,n,h=>by
  rw[eU];split
  .rename_i hc
   refine WX ?_;have h2:(decide (0<=bE c.toNat/\bE c.toNat<(base:Int))&&alD base r)=false:=h;rw[decide_eq_true hc]at h2;simpa using h2
  rfl
theorem Gm{base:Nat}{s:ByteArray}(h:alD base s.data.toList=true)(k:Nat)(hk:k<s.size):0<=bE s[k].toNat/\bE s[k].toNat<(base:Int):=
 of_decide_eq_true (List.all_eq_true.1 h s[k] (by
  have hk2:k<s.data.toList.length:=by simpa using hk
  exact List.getElem_mem hk2))
theorem lK(s:ByteArray)(base:Nat)(w:World)(hs:s.size<=1048576):Calls prog 247 #[L s,I J (base:Int)] w fun e w'=>e=Y (Z (alD base s.data.toList))/\w=w':=by
 go_enter func247,ntmps247;go_wp2
 go_loop[9] (fun i=> ∃k:Nat,k<=s.size/\i=I J k/\alD base (s.data.toList.drop k)=alD base s.data.toList) (fun i=>s.size-(intOf i).toNat)
 case atStart=>exact ⟨0,zk _,rfl,rfl⟩
 obtain ⟨k,hk,rfl,hf⟩:=hrel;have HR:Hid (alD base (s.data.toList.drop k)=alD base s.data.toList):=hf;clear hf
 by_cases hlt:k<s.size
 .obtain ⟨d,hd⟩: ∃d:Nat,s[k].toNat=d:=⟨_,rfl⟩
  have hd1:(d:Int)<=255:=by have:=s[k].toNat_lt;omega
  have HD:Hid (alD base (s.data.toList.drop k)=(decide (0<=bE d/\bE d<(base:Int))&&alD base (s.data.toList.drop (k+1)))):=by
   show _=_;rw[BQ s k hlt base,hd]
  obtain ⟨hx1,hx2⟩:=gM d;have CH:Hid (∀W,CS 215 #[.int .u8 (d:Int)] W (I J (bE d))):=fun W=>AK d W om
  generalize bE d=x at HD CH hx1 hx2;have hki:(k:Int)<(s.size:Int):=om
  by_cases hx0:x<0
  .have HZ:Hid (alD base s.data.toList=false):=by
    show _=_;rw[<-HR.out,HD.out,decide_eq_false om];rfl
   go_wp2_with fail;refine (CH.out _).mono ?_;rintro e w' ⟨rfl,rfl⟩;go_wp2_with fail;go_ret;exact ⟨by rw[HZ.out];rfl,rfl⟩
  by_cases hx3:(base:Int)<=x
  .have HZ:Hid (alD base s.data.toList=false):=by
    show _=_;rw[<-HR.out,HD.out,decide_eq_false om];rfl
   go_wp2_with fail;refine (CH.out _).mono ?_;rintro e w' ⟨rfl,rfl⟩;go_wp2_with fail;go_ret;exact ⟨by rw[HZ.out];rfl,rfl⟩
  have HZ:Hid (alD base (s.data.toList.drop (k+1))=alD base s.data.toList):=by
   show _=_;rw[<-HR.out,HD.out,decide_eq_true om];rfl
  go_wp2_with fail;refine (CH.out _).mono ?_;rintro e w' ⟨rfl,rfl⟩;go_wp2_with fail;go_round
  case rel=>exact ⟨k+1,om,gn,HZ.out⟩
  case measure=>exact j1
 have HZ:Hid (alD base s.data.toList=true):=by
  show _=_;rw[<-HR.out,zc (by simp;omega)];rfl
 have hki: ¬(k:Int)<(s.size:Int):=om;go_wp2_with fail;go_ret;exact ⟨by rw[HZ.out];rfl,rfl⟩
theorem mW(s:ByteArray)(base most:Nat)(w:World)(hb:base<=16)(hm:most<=11):Calls prog 211 #[L s,I J (base:Int),I J (most:Int)] w fun e w'=>e=Y (eN (cU base most s.data.toList))/\w=w':=by
 have hsl:s.data.toList.length=s.size:=by simp
 by_cases hlen:most<s.size
 .have HF:Hid (cU base most s.data.toList=none):=K5 om
  have hlen':(most:Int)<(s.size:Int):=om;clear hsl;go_enter func211,ntmps211;go_wp2;go_ret2;exact ⟨by rw[HF.out];rfl,rfl⟩
 have HF:Hid (cU base most s.data.toList=eU base 0 s.data.toList):=WW om;have hlen': ¬(most:Int)<(s.size:Int):=om;have hs11:s.size<=11:=om;have CA:Hid (∀W,CS 247 #[L s,I J (base:Int)] W (Z (alD base s.data.toList))):=fun W=>lK s base W om
 clear hsl
 cases ha:alD base s.data.toList with
 |false=>
  have HZ:Hid (eU base 0 s.data.toList=none):=WX ha;rw[ha]at CA;clear ha;go_enter func211,ntmps211;go_wp2_with fail;refine (CA.out _).mono ?_;rintro e w' ⟨rfl,rfl⟩;go_wp2_with fail;go_ret2;exact ⟨by rw[HF.out,HZ.out];rfl,rfl⟩
 |true=>
  have HA:Hid (∀k (hk:k<s.size),0<=bE s[k].toNat/\bE s[k].toNat<(base:Int)):=Gm ha;rw[ha]at CA;clear ha;go_enter func211,ntmps211;go_wp2_with fail;refine (CA.out _).mono ?_;rintro e w' ⟨rfl,rfl⟩;go_wp2_with fail
  go_loop[8,22] (fun x i=> ∃k n:Nat,k<=s.size/\n<16^k/\i=I J k/\x=I J n/\eU base n (s.data.toList.drop k)=eU base 0 s.data.toList) (fun _ i=>s.size-(intOf i).toNat)
  case atStart=>exact ⟨0,0,zk _,de,rfl,rfl,rfl⟩
  obtain ⟨k,n,hk,hn,rfl,rfl,hf⟩:=hrel;have HR:Hid (eU base n (s.data.toList.drop k)=eU base 0 s.data.toList):=hf;have HN:Hid (n<16^k):=hn;have hk11:k<=11:=om;have hn2:n<17592186044416:=zj hn (K6 hk11);clear hf hn
  by_cases hlt:k<s.size
  .have hx:=HA.out k hlt
   obtain ⟨d,hd⟩: ∃d:Nat,s[k].toNat=d:=⟨_,rfl⟩;rw[hd]at hx;have hd1:(d:Int)<=255:=by have:=s[k].toNat_lt;omega
   have HD:Hid (eU base n (s.data.toList.drop k)=if 0<=bE d/\bE d<(base:Int)then eU base (n*base+(bE d).toNat) (s.data.toList.drop (k+1))else none):=by
    show _=_;rw[GV s k hlt base n,hd]
   obtain ⟨hx1,hx2⟩:=gM d;have CH:Hid (∀W,CS 215 #[.int .u8 (d:Int)] W (I J (bE d))):=fun W=>AK d W om
   generalize bE d=x at HD CH hx1 hx2 hx;have hki:(k:Int)<(s.size:Int):=om;obtain ⟨y,rfl⟩: ∃y:Nat,x=(y:Int):=⟨x.toNat,om⟩;obtain ⟨p,hp⟩: ∃p:Nat,n*base=p:=⟨_,rfl⟩;have HP:Hid (n*base=p):=hp;have hp2:(n:Int)*(base:Int)=(p:Int):=by rw[<-hp];simp
   have hp3:p+y<281474976710656:=by
    have h1:n*base<=n*16:=ze _ hb;omega
   have HX:Hid (y<base):=by show _<_;omega
   clear hx hp;go_wp2_with fail;refine (CH.out _).mono ?_;rintro e w' ⟨rfl,rfl⟩;go_wp2_with fail;go_round
   case rel=>
    refine ⟨k+1,n*base+y,om,BP hb HX.out HN.out,gn,by rw[HP.out];go_num,?_⟩;rw[<-HR.out,HD.out,if_pos ⟨om,by have:=HX.out;omega⟩];simp
   case measure=>exact j1
  have HZ:Hid (eU base 0 s.data.toList=some n):=by
   show _=_;rw[<-HR.out,zc (by simp;omega)];rfl
  have hki: ¬(k:Int)<(s.size:Int):=om;go_wp2_with fail;go_ret2;exact ⟨by rw[HF.out,HZ.out];rfl,rfl⟩
theorem jB(s:ByteArray)(w:World)(hlim:s.size<=281474976710656):Calls prog 133 #[L s] w fun e w'=>e=Y (L s)/\Below w.heap.size w w':=by
 go_enter func133,ntmps133;go_wp2_with (go_at_call 182;refine (stringslite_Clone _ _ hlim).mono ?_;rintro e w1 ⟨rfl,hb1⟩);go_ret;exact ⟨rfl,hb1⟩
def aI(s:ByteArray)(b:Int):Nat->List ByteArray×Nat
 |0=>([],0)
 |k+1=>if ((s.data.toList.getD k 0).toNat:Int)=b then ((aI s b k).1++[s.extract (aI s b k).2 k],k+1)else aI s b k
def aA(s:ByteArray)(b:Int):List ByteArray:=(aI s b s.size).1++[s.extract (aI s b s.size).2 s.size]
theorem dL(s:ByteArray)(b:Int)(k:Nat):(aI s b k).2<=k/\(aI s b k).1.length<=k:=by
 induction k with
 |zero=>simp[aI]
 |succ k ih=>
  unfold aI;split
  .simp;omega
  omega
theorem sK(s:ByteArray)(k:Nat)(h:k<s.size):s.data.toList.getD k 0=s[k]:=by
 have hk:k<s.data.toList.length:=by simpa using h
 rw[List.getD_eq_getElem?_getD,List.getElem?_eq_getElem hk];rfl
theorem gN(s:ByteArray)(b:Int)(k:Nat)(h:k<s.size)(e:(s[k].toNat:Int)=b):aI s b (k+1)=((aI s b k).1++[s.extract (aI s b k).2 k],k+1):=by
 rw[aI,sK s k h,if_pos e]
theorem fD(s:ByteArray)(b:Int)(k:Nat)(h:k<s.size)(e: ¬(s[k].toNat:Int)=b):aI s b (k+1)=aI s b k:=by
 rw[aI,sK s k h,if_neg e]
theorem Tryz.infoStr:(prog.info? 9).map (fun i=>(i.zero,i.size,i.bytes))=some (some (L ⟨#[]⟩),1,16):=kr
theorem gO(s:ByteArray): ∀u∈ #[Value.string s].toList,u.oneCell'=true:=by
 intro u hu;simp at hu;subst hu;rfl
theorem BR(s:ByteArray)(b:Int)(k:Nat)(hk:k=s.size){w1:World}{B:Nat}{v:Value}{e:TypeId}
  (hown:w1.ownsRow B e 1 v ((aI s b k).1.length+1) (aM (aI s b k).1++[L (s.extract (aI s b k).2 k)])):
  w1.ownsRow B e 1 v (aA s b).length (aM (aA s b)):=by
 subst hk;unfold aA;rw[kS,zf];exact hown
theorem BS(s:ByteArray)(b:Int)(k:Nat)(hk:k<s.size)(h:(s[k].toNat:Int)=b){w1:World}{B:Nat}{v:Value}{e:TypeId}
  (hown:w1.ownsRow B e 1 v ((aI s b k).1.length+1) (aM (aI s b k).1++[L (s.extract (aI s b k).2 k)])):
  w1.ownsRow B e 1 v (aI s b (k+1)).1.length (aM (aI s b (k+1)).1):=by
 rw[gN s b k hk h];simp only;rw[kS,zf];exact hown
theorem zD(s:ByteArray)(b:Int)(w:World)(hs:s.size<=16777216):Calls prog 93 #[L s,.int .u8 b] w fun e w'=> ∃v,e=Y v/\w'.ownsRow w.heap.size 9 1 v (aA s b).length (aM (aA s b))/\Below w.heap.size w w':=by
 go_enter func93,ntmps93;go_wp2
 go_loopw[5,6,7] (fun v f i wr=> ∃k:Nat,k<=s.size+1/\i=I J k/\(k<=s.size->f=I J (aI s b k).2/\wr.ownsRow w.heap.size 9 1 v (aI s b k).1.length (aM (aI s b k).1))/\
   (k=s.size+1->wr.ownsRow w.heap.size 9 1 v (aA s b).length (aM (aA s b)))/\Below w.heap.size w wr)
  (fun _ _ i _=>s.size+1-(intOf i).toNat)
 case atStart=>exact ⟨0,zk _,rfl,fun _=>⟨rfl,zo w #[] 0 (zl _) de rfl⟩,fun h=>by omega,(Below.refl _ _).alloc (zl _) _⟩
 obtain ⟨k,hk,rfl,hin,hend,hbel⟩:=hrel
 by_cases hle:k<=s.size
 .obtain ⟨rfl,hown⟩:=hin hle
  clear hend;have hsz:=hbel.size;obtain ⟨hf1,hf2⟩:=dL s b k
  by_cases heq:k=s.size
  .have hkk:((k:Int)==(s.size:Int))=true:=by simp[heq]
   have HE:Hid (k=s.size):=heq;clear heq;go_wp2_with (at_builtin;refine aB _ rfl _ _ 86 rfl w.heap.size 9 (L ⟨#[]⟩) 16 underlying86 infoStr rfl _ _ _ rfl hown #[L (s.extract (aI s b k).2 k)] 1 rfl rfl (gO _) om (by unfold maxLen;omega) om ?_);intro v' w1 hown' hb1;have R:=BR s b k HE.out hown';have B1:Below w.heap.size w w1:=hbel.trans hb1;clear hown' hb1 hown hbel hin;go_wp2;go_roundw
   case rel=>exact ⟨k+1,om,gn,fun h=>by have:=HE.out;omega,fun _=>R,B1⟩
   case measure=>exact j1
  have hkk:((k:Int)==(s.size:Int))=false:=by simp;omega
  have hlt:k<s.size:=om;clear heq
  by_cases hb:(s[k].toNat:Int)=b
  .have hbb:((s[k].toNat:Int)==b)=true:=by simp[hb]
   have HB:Hid ((s[k].toNat:Int)=b):=hb;clear hb;go_wp2_with (at_builtin;refine aB _ rfl _ _ 86 rfl w.heap.size 9 (L ⟨#[]⟩) 16 underlying86 infoStr rfl _ _ _ rfl hown #[L (s.extract (aI s b k).2 k)] 1 rfl rfl (gO _) om (by unfold maxLen;omega) om ?_);intro v' w1 hown' hb1;have R:=BS s b k hlt HB.out hown';have B1:Below w.heap.size w w1:=hbel.trans hb1;clear hown' hb1 hown hbel hin;go_wp2;go_roundw
   case rel=>exact ⟨k+1,om,gn,fun _=>⟨by rw[gN s b k hlt HB.out];go_num,R⟩,fun h=>by omega,B1⟩
   case measure=>exact j1
  have hbb:((s[k].toNat:Int)==b)=false:=by simp[hb]
  have HB:Hid (¬(s[k].toNat:Int)=b):=hb;clear hb hin;go_wp2;go_roundw
  case rel=>exact ⟨k+1,om,gn,fun _=>⟨by rw[fD s b k hlt HB.out],by rw[fD s b k hlt HB.out];exact hown⟩,fun h=>by omega,hbel⟩
  case measure=>exact j1
 have hown:=hend om;clear hin hend;go_wp2;go_ret;exact ⟨_,rfl,hown,hbel⟩
theorem zE(s:ByteArray)(b:Int)(w:World)(hs:s.size<=16777216):Calls prog 135 #[L s,.int .u8 b] w fun e w'=> ∃v,e=Y v/\w'.ownsRow w.heap.size 9 1 v (aA s b).length (aM (aA s b))/\Below w.heap.size w w':=by
 go_enter func135,ntmps135;go_wp2
 go_loopw[5,6,11] (fun v f i wr=> ∃k:Nat,k<=s.size/\i=I J k/\f=I J (aI s b k).2/\wr.ownsRow w.heap.size 9 1 v (aI s b k).1.length (aM (aI s b k).1)/\Below w.heap.size w wr)
  (fun _ _ i _=>s.size-(intOf i).toNat)
 case atStart=>exact ⟨0,zk _,rfl,rfl,zo w #[] 0 (zl _) de rfl,(Below.refl _ _).alloc (zl _) _⟩
 obtain ⟨k,hk,rfl,rfl,hown,hbel⟩:=hrel;have hsz:=hbel.size;obtain ⟨hf1,hf2⟩:=dL s b k;have hes:(s.extract (aI s b k).2 k).size<=281474976710656:=by rw[zm];omega
 by_cases hlt:k<s.size
 .by_cases hb:(s[k].toNat:Int)=b
  .have hbb:((s[k].toNat:Int)==b)=true:=by simp[hb]
   have HB:Hid ((s[k].toNat:Int)=b):=hb;clear hb;go_wp2_with (first|(go_at_call 133;refine j6 (jB _ _ hes) fun wc hbc=>?_;have hown2:=aH hown hbc;have hsc:=hbc.size)|(at_builtin;refine aB _ rfl _ _ 86 rfl w.heap.size 9 (L ⟨#[]⟩) 16 underlying86 infoStr rfl _ _ _ rfl hown2 #[L (s.extract (aI s b k).2 k)] 1 rfl rfl (gO _) om (by unfold maxLen;omega) om ?_));intro v' w1 hown' hb1;have R:=BS s b k hlt HB.out hown';have B1:Below w.heap.size w w1:=(hbel.trans (hbc.mono hsz)).trans hb1;clear hown' hb1 hown hbel hown2 hbc;go_wp2;go_roundw
   case rel=>exact ⟨k+1,om,gn,by rw[gN s b k hlt HB.out];go_num,R,B1⟩
   case measure=>exact j1
  have hbb:((s[k].toNat:Int)==b)=false:=by simp[hb]
  have HB:Hid (¬(s[k].toNat:Int)=b):=hb;clear hb;go_wp2;go_roundw
  case rel=>exact ⟨k+1,om,gn,by rw[fD s b k hlt HB.out],by rw[fD s b k hlt HB.out];exact hown,hbel⟩
  case measure=>exact j1
 have he:k=s.size:=om;have hes2:(s.extract (aI s b k).2 s.size).size<=281474976710656:=by rw[zm];omega
 have HE:Hid (k=s.size):=he;clear he;go_wp2_with (first|(go_at_call 133;refine j6 (jB _ _ hes2) fun wc hbc=>?_;have hown2:=aH hown hbc;have hsc:=hbc.size)|(at_builtin;refine aB _ rfl _ _ 86 rfl w.heap.size 9 (L ⟨#[]⟩) 16 underlying86 infoStr rfl _ _ _ rfl hown2 #[L (s.extract (aI s b k).2 s.size)] 1 rfl rfl (gO _) om (by unfold maxLen;omega) om ?_));intro v' w1 hown' hb1;have R:=BR s b k HE.out (by rw[HE.out]at hown'⊢;exact hown');have B1:Below w.heap.size w w1:=(hbel.trans (hbc.mono hsz)).trans hb1;clear hown' hb1 hown hbel hown2 hbc;go_wp2;go_ret;exact ⟨_,rfl,R,B1⟩
theorem mX(s:ByteArray)(b:Int)(w:World)(hs:s.size<=1048576):Calls prog 93 #[L s,.int .u8 b] w fun e w'=> ∃v,e=Y v/\w'.ownsRow w.heap.size 9 1 v (aA s b).length (aM (aA s b))/\Below w.heap.size w w':=
 zD s b w om
theorem uD(s:ByteArray)(b:Int)(w:World)(hs:s.size<=1048576):Calls prog 135 #[L s,.int .u8 b] w fun e w'=> ∃v,e=Y v/\w'.ownsRow w.heap.size 9 1 v (aA s b).length (aM (aA s b))/\Below w.heap.size w w':=
 zE s b w om
theorem aZ(s:ByteArray)(a b:Nat):(s.extract a b).data.toList=(s.data.toList.take b).drop a:=by
 rw[ByteArray.data_extract,Array.toList_extract,List.drop_take]
theorem mM(s:ByteArray)(k:Nat):(s.extract 0 k).data.toList=s.data.toList.take k:=by rw[aZ];rfl
theorem iL(s:ByteArray)(k:Nat):(s.extract k s.size).data.toList=s.data.toList.drop k:=by rw[aZ,cS s s.size (zl _)]
theorem sL(s:ByteArray):(⟨s.data.toList.toArray⟩:ByteArray)=s:=by cases s;simp
theorem GW{p:UInt8->Bool}{l:List UInt8}{k:Nat}(h: ∀c∈l.take k,p c=true):l.takeWhile p=l.take k++(l.drop k).takeWhile p/\l.dropWhile p=(l.drop k).dropWhile p:=by
 induction k generalizing l with
 |zero=>simp
 |succ k ih=>
  cases l with
  |nil=>simp
  |cons c r=>
   rw[List.take_succ_cons]at h;have hc:=h c j2;obtain ⟨h1,h2⟩:=ih (l:=r) fun x hx=>h x (by simp[hx])
   rw[List.takeWhile_cons,List.dropWhile_cons,hc,if_pos rfl,if_pos rfl,h1,h2];simp
