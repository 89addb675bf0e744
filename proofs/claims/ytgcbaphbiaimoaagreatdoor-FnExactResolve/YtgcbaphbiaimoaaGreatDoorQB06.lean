/- PunyEnc, PunyEncWalk, PunyDec. -/
import Derived.Test.YtgcbaphbiaimoaaGreatDoorQB05
import Derived.Deep.DeepCutAuto
set_option maxHeartbeats 8000000
set_option maxRecDepth 20000
namespace Go.Proofs.YtgcbaphbiaimoaaGreatDoor
open Go.Value renaming int->I,tuple->Y,bool->Z
open Go.IntKind renaming i64->J
open Go.Ending renaming returned->L
open _root_.Go.RowKit.Below renaming refl->zq
open _root_.List renaming append_assoc->zs,append_nil->zw,drop_eq_getElem_cons->zi,drop_of_length_le->ze,getD->zx,getD_eq_getElem?_getD->zh,getElem?_eq_getElem->zk,getElem_mem->zt,length->zp,length_append->zc,length_cons->zm,length_filter_le->za,length_map->zv,map_append->zo,take_of_length_le->zn
open _root_.Nat renaming le_refl->zd,lt_trichotomy->zr,mul_le_mul_left->zg,zero_le->zf
open _root_.UInt8 renaming ofNat->zu
open _root_.Go.World renaming ownsRow_lit->zj
open _root_.Go.Proofs.Tryz
open _root_.Go.Proofs.YtgcbaphbiaimoaaGreatDoor.Tryz
open Go.RowKit
def b8(l:List Nat):List UInt8:=l.map zu
theorem O7(a b:List Nat):b8 (a++b)=b8 a++b8 b:=zo
theorem tZ(a:List Nat):(b8 a).length=a.length:=zv _
theorem gO{w1:World}{B:Nat}{e:TypeId}{v:Value}{o:List Nat}{x:Int}(c:Nat)(hc:c<256)(hx:x=(c:Int))
  (h:w1.ownsRow B e 1 v (o.length+1) (aD (b8 o)++ #[Value.int .u8 x].toList)):w1.ownsRow B e 1 v (o++[c]).length (aD (b8 (o++[c]))):=by
 subst hx;have e1:((zu c).toNat:Int)=(c:Int):=by simp;omega
 rw[O7,fW,zc];show w1.ownsRow B e 1 v (o.length+1) (aD (b8 o)++[Value.int .u8 ((zu c).toNat:Int)]);rw[e1];exact h
theorem eM(x:Int): ∀u∈ #[Value.int .u8 x].toList,u.oneCell'=true:=by
 intro u hu;simp at hu;subst hu;rfl
theorem LC(n:Nat)(w:World)(h:(n:Int)<36):Calls prog 255 #[I J (n:Int)] w fun e w'=>e=L (.int .u8 (bT n:Int))/\w=w':=by
 by_cases h1:(n:Int)<26
 .have HV:Hid ((bT n:Int)=97+n):=by show _=_;unfold bT;rw[if_pos om];omega
  go_enter func255,ntmps255;go_wp2;go_ret;exact ⟨aV (by rw[HV.out]<;>omega),rfl⟩
 have HV:Hid ((bT n:Int)=22+n):=by show _=_;unfold bT;rw[if_neg om];omega
 go_enter func255,ntmps255;go_wp2;go_ret;exact ⟨aV (by rw[HV.out]<;>omega),rfl⟩
theorem LD(k bias:Nat)(w:World)(h1:(k:Int)<=1099511627776)(h2:(bias:Int)<=1099511627776):Calls prog 254 #[I J (k:Int),I J (bias:Int)] w fun e w'=>e=L (I J (bQ k bias:Int))/\w=w':=by
 have hk:0<=(k:Int):=om;have hb:0<=(bias:Int):=om
 by_cases h3:(k:Int)-(bias:Int)<1
 .have HV:Hid (bQ k bias=1):=by show _=_;unfold bQ;rw[if_pos om]
  go_enter func254,ntmps254;go_wp2;go_ret;exact ⟨aV (by rw[HV.out]<;>omega),rfl⟩
 by_cases h4:26<(k:Int)-(bias:Int)
 .have HV:Hid (bQ k bias=26):=by show _=_;unfold bQ;rw[if_neg om,if_pos om]
  go_enter func254,ntmps254;go_wp2;go_ret;exact ⟨aV (by rw[HV.out]<;>omega),rfl⟩
 have HV:Hid (bQ k bias=k-bias):=by show _=_;unfold bQ;rw[if_neg om,if_neg om]
 go_enter func254,ntmps254;go_wp2;go_ret;exact ⟨aV (by rw[HV.out]<;>omega),rfl⟩
theorem SW{f k bias q:Nat}(h:q<bQ k bias):dK (f+1) k bias q=[q]:=by rw[dK,if_pos h]
theorem LE{f k bias q:Nat}(hq:q<2^f)(h: ¬q<bQ k bias): ∃g,f=g+1/\(q-bQ k bias)/(36-bQ k bias)<2^g/\
  dK (f+1) k bias q=(bQ k bias+(q-bQ k bias)%(36-bQ k bias))::dK (g+1) (k+36) bias ((q-bQ k bias)/(36-bQ k bias)):=by
 obtain ⟨l1,l2⟩:=rL k bias
 cases f with
 |zero=>simp at hq;omega
 |succ g=>exact ⟨g,rfl,SR q _ g l1 l2 hq,by rw[dK,if_neg h]⟩
theorem rP(q0 bias:Nat)(o0:List Nat)(v0:Value)(B:Nat)(w:World)(hq:(q0:Int)<=67960831)(hb:(bias:Int)<=2400)(hown0:w.ownsRow B 5 1 v0 o0.length (aD (b8 o0)))(hB:B<=w.heap.size)(ho:o0.length<=1099511627776):Calls prog 228 #[v0,I J (q0:Int),I J (bias:Int)] w fun e w'=> ∃v',e=L v'/\w'.ownsRow B 5 1 v' (o0++(dK 28 36 bias q0).map bT).length (aD (b8 (o0++(dK 28 36 bias q0).map bT)))/\Below B w w':=by
 have hb0:0<=(bias:Int):=om;have HP:Hid (q0<2^27):=by
  show _<_
  have:(2:Nat)^27=134217728:=de
  omega
 go_enter func228,ntmps228;go_wp2_with fail
 go_loopw[0,1,7] (fun v a b wr=> ∃(f q k:Nat) (o:List Nat),a=I J q/\b=I J k/\q<=q0/\k+36*f=36*28/\q<2^f/\o.length+f<=o0.length+27/\o++(dK (f+1) k bias q).map bT=o0++(dK 28 36 bias q0).map bT/\wr.ownsRow B 5 1 v o.length (aD (b8 o))/\Below B w wr) (fun _ a _ _=>(intOf a).toNat)
 case atStart=>exact ⟨27,q0,36,o0,rfl,rfl,zd _,rfl,HP.out,om,rfl,hown0,zq _ _⟩
 obtain ⟨f,q,k,o,rfl,rfl,hq1,hk,hf,hol,he,hown,hbel⟩:=hrel;have HE:Hid (o++(dK (f+1) k bias q).map bT=o0++(dK 28 36 bias q0).map bT):=he;have HF:Hid (q<2^f):=hf;have hsz:=hbel.size;obtain ⟨l1,l2⟩:=rL k bias;have ct:=fun W=>LD k bias W om om
 clear he hf
 by_cases hlt:q<bQ k bias
 .have HR:Hid (o++[bT q]=o0++(dK 28 36 bias q0).map bT):=by show _=_;rw[<-HE.out,SW hlt];rfl
  have cd:=fun W=>LC q W om
  have hdl:=(AC (show q<36 by omega)).1;generalize bQ k bias=t at ct l1 l2 hlt;generalize bT q=c at cd HR hdl;have CT:Hid (∀W,CS 254 #[I J (k:Int),I J (bias:Int)] W (I J (t:Int))):=ct;have CD:Hid (∀W,CS 255 #[I J (q:Int)] W (.int .u8 (c:Int))):=cd;have hqt:(q:Int)<(t:Int):=om;clear ct cd;go_wp2_with fail;refine (CT.out _).mono ?_;rintro e w' ⟨rfl,rfl⟩;go_wp2_with fail;refine (CD.out _).mono ?_;rintro e w' ⟨rfl,rfl⟩;go_wp2_with (at_builtin;refine aC _ rfl _ _ 22 rfl B 5 (.int .u8 0) 1 underlying22 info5 rfl _ _ _ rfl hown #[.int .u8 (c:Int)] 1 rfl rfl (eM _) om (by unfold maxLen;omega) om ?_);intro v' w1 hown' hb1;have R:=gO c om rfl hown';rw[HR.out]at R;clear hown';go_wp2_with fail;go_ret;exact ⟨_,rfl,R,hbel.trans hb1⟩
 obtain ⟨g,hg,hl,hnum⟩:=LE (k:=k) (bias:=bias) HF.out hlt;have hm:(q-bQ k bias)%(36-bQ k bias)<36-bQ k bias:=Nat.mod_lt _ om;have hdv:(q-bQ k bias)/(36-bQ k bias)<=(q-bQ k bias):=Nat.div_le_self _ _;have HR:Hid ((o++[bT (bQ k bias+(q-bQ k bias)%(36-bQ k bias))])++(dK (g+1) (k+36) bias ((q-bQ k bias)/(36-bQ k bias))).map bT=o0++(dK 28 36 bias q0).map bT):=by
  show _=_;rw[<-HE.out,hnum];simp
 have HL:Hid ((q-bQ k bias)/(36-bQ k bias)<2^g):=hl;clear hnum hl;generalize bQ k bias=t at ct l1 l2 hlt HR HL hm hdv;have hqt: ¬(q:Int)<(t:Int):=om;have hc1:((q-t:Nat):Int)=(q:Int)-(t:Int):=om;have hc2:((36-t:Nat):Int)=36-(t:Int):=om;have hM:((q:Int)-(t:Int))%(36-(t:Int))=(((q-t)%(36-t):Nat):Int):=by rw[<-hc1,<-hc2];norm_cast
 have hQ:((q:Int)-(t:Int))/(36-(t:Int))=(((q-t)/(36-t):Nat):Int):=by rw[<-hc1,<-hc2];norm_cast
 generalize (q-t)%(36-t)=m at hM HR hm;generalize (q-t)/(36-t)=q' at hQ HR HL hdv;have cd:=fun W=>LC (t+m) W om
 have hdl:=(AC (show t+m<36 by omega)).1;generalize bT (t+m)=c at cd HR hdl;have hne: ¬36-(t:Int)=0:=om;have ht0:1<=(t:Int):=om;have ht1:(t:Int)<=26:=om;have hm0:(m:Int)<36-(t:Int):=om;have CT:Hid (∀W,CS 254 #[I J (k:Int),I J (bias:Int)] W (I J (t:Int))):=ct;have CD:Hid (∀W,CS 255 #[I J ((t:Int)+(m:Int))] W (.int .u8 (c:Int))):=fun W=>by
  have h:=cd W;rw[show ((t+m:Nat):Int)=(t:Int)+(m:Int) by omega]at h;exact h
 clear ct cd hc1 hc2;go_wp2_with fail;refine (CT.out _).mono ?_;rintro e w' ⟨rfl,rfl⟩;go_wp2_with fail;refine (CD.out _).mono ?_;rintro e w' ⟨rfl,rfl⟩;go_wp2_with (at_builtin;refine aC _ rfl _ _ 22 rfl B 5 (.int .u8 0) 1 underlying22 info5 rfl _ _ _ rfl hown #[.int .u8 (c:Int)] 1 rfl rfl (eM _) om (by unfold maxLen;omega) om ?_);intro v' w1 hown' hb1;have R:=gO c om rfl hown';have B1:Below B w w1:=hbel.trans hb1;clear hown' hb1 hown hbel;go_wp2_with fail;go_roundw
 case rel=>exact ⟨g,q',k+36,o++[c],gn,gn,om,om,HL.out,by simp;omega,HR.out,R,B1⟩
 case measure=>exact j1
def mO(n:Nat):Nat->List Nat->Nat
 |m,[]=>m
 |m,c::r=>mO n (if n<=c/\c<m then c else m) r
theorem AF(n:Nat): ∀(l:List Nat) (m:Nat),m<=1114112->mO n m l=if aL n l<m then aL n l else m
 |[],m,h=>by rw[mO,aL,if_neg om]
 |c::r,m,h=>by
  rw[mO,AF n r _ (by split<;>omega),aL];generalize aL n r=x
  by_cases h1:n<=c
  .by_cases h2:c<m
   .by_cases h3:c<x
    .simp only[h1,h2,h3,and_self,if_true]
     rw[if_neg om]
    simp only[h1,h2,h3,and_self,and_false,if_true,if_false];split<;>split<;>omega
   by_cases h3:c<x
   .simp only[h1,h2,h3,and_self,and_false,if_true,if_false]
    rw[if_neg om]
   simp only[h1,h2,h3,and_false,if_false]
  simp only[h1,false_and,if_false]
theorem LF(n:Nat): ∀(l:List Nat),aL n l<=1114112
 |[]=>zd _
 |c::r=>by
  have:=LF n r
  unfold aL;split<;>omega
theorem Az(n:Nat)(l:List Nat):mO n 1114112 l=aL n l:=by
 rw[AF n l _ (zd _)]
 have:=LF n l
 split<;>omega
def icN(l:List Nat):List Value:=aO (l.map fun (c:Nat)=>(c:Int))
theorem lC{w:World}{B:Nat}{e:TypeId}{g n cap:Nat}{l:List Nat}(h:w.ownsRow B e 1 (.slice (some ⟨g,0,none⟩) n cap) n (icN l))(k:Nat)(hk:k<n):w.cell? ⟨g,k,none⟩=some (I J (l.getD k 0:Int)):=by
 have hl:l.length=n:=by have:=h.1;simpa[icN,aO] using this
 rw[pU h k hk];simp[zx,show k<l.length by omega]
theorem oB(l:List Nat)(k:Nat)(h:k<l.length):l.drop k=l.getD k 0::l.drop (k+1):=by
 rw[zi h];simp[zx,h]
theorem LG(l:List Nat)(n0 N cap g:Nat)(B:Nat)(w:World)(hN:l.length=N)(hN1:N<=1048576)(hv: ∀c∈l,c<=1114111)(hown:w.ownsRow B 3 1 (.slice (some ⟨g,0,none⟩) N cap) N (icN l)):Calls prog 227 #[.slice (some ⟨g,0,none⟩) N cap,I J (n0:Int)] w fun e w'=>e=L (I J (aL n0 l:Int))/\w=w':=by
 have HL:Hid (l.length=N):=hN;have HV:Hid (∀c∈l,c<=1114111):=hv;clear hN hv;go_enter func227,ntmps227;go_wp2_with fail
 go_loop[5,6] (fun a i=> ∃k m:Nat,k<=N/\i=I J k/\a=I J m/\m<=1114112/\mO n0 m (l.drop k)=aL n0 l) (fun _ i=>N-(intOf i).toNat)
 case atStart=>exact ⟨0,1114112,zf _,rfl,rfl,zd _,Az n0 l⟩
 obtain ⟨k,m,hk,rfl,rfl,hm,he⟩:=hrel;have HE:Hid (mO n0 m (l.drop k)=aL n0 l):=he;clear he
 by_cases hlt:k<N
 .have ca:=lC hown k hlt
  have HS:Hid (l.drop k=l.getD k 0::l.drop (k+1)):=oB l k (by have:=HL.out;omega);have hc:=HV.out (l.getD k 0) (by
   rw[zh,zk (by have:=HL.out;omega)];exact zt _)
  generalize l.getD k 0=c at ca HS hc;have HR:Hid (mO n0 (if n0<=c/\c<m then c else m) (l.drop (k+1))=aL n0 l):=by show _=_;rw[<-HE.out,HS.out];rfl
  by_cases h1:(n0:Int)<=(c:Int)
  .by_cases h2:(c:Int)<(m:Int)
   .rw[if_pos om]at HR
    go_wp2_with fail;go_round
    case rel=>exact ⟨k+1,c,om,gn,rfl,om,HR.out⟩
    case measure=>exact j1
   rw[if_neg om]at HR;go_wp2_with fail;go_round
   case rel=>exact ⟨k+1,m,om,gn,rfl,hm,HR.out⟩
   case measure=>exact j1
  rw[if_neg om]at HR;go_wp2_with fail;go_round
  case rel=>exact ⟨k+1,m,om,gn,rfl,hm,HR.out⟩
  case measure=>exact j1
 have HR:Hid (m=aL n0 l):=by
  show _=_;rw[<-HE.out,ze (by have:=HL.out;omega)];rfl
 go_wp2_with fail;go_ret;exact ⟨aV (by rw[<-HR.out]),rfl⟩
theorem iR{w:World}{B:Nat}{e:TypeId}{v:Value}{n:Nat}{xs:List Value}(h:w.ownsRow B e 1 v n xs): ∃ao cap,v=.slice ao n cap:=by
 rcases aY h with ⟨rfl,_,ao,cap,rfl⟩|⟨_,g,cap,rfl⟩
 .exact ⟨ao,cap,rfl⟩
 exact ⟨_,cap,rfl⟩
theorem BO(l:List Nat)(k:Nat)(h:k<l.length):(l.take (k+1)).filter (· <128)=(l.take k).filter (· <128)++(if l.getD k 0<128 then [l.getD k 0]else []):=by
 have e:l.take (k+1)=l.take k++[l.getD k 0]:=by
  rw[List.take_succ_eq_append_getElem h];simp[zx,h]
 rw[e,List.filter_append]
 congr 1
 split
 .next hc=>rw[List.filter_cons_of_pos (by simpa using hc)];rfl
 next hc=>rw[List.filter_cons_of_neg (by simpa using hc)];rfl
theorem LH(basic:Nat): ∀(ds:List Nat) (h bias:Nat),(cF basic h bias ds).length<=28*ds.length
 |[],_,_=>by simp[cF]
 |d::ds,h,bias=>by
  have h1:=LH basic ds (h+1) (bB d (h+1) (h==basic));have h2:=E8 bias 28 36 d;show (dK 28 36 bias d++cF basic (h+1) (bB d (h+1) (h==basic)) ds).length<=28*(d::ds).length;rw[zc,zm];omega
theorem mB{l:List Nat}(h:eU l=true):(bJ l).length<=2000:=by
 obtain ⟨h1,h2⟩:=bU h;have h3:=AD l h2 l.length 128 0;have h4:=LH (l.filter (· <128)).length (eG l l.length 128 0 (l.filter (· <128)).length) (l.filter (· <128)).length 72;have h5:=za (fun x=>decide (x<128)) l;unfold bJ sR;rw[zc,zc,zv];have h6:(if 0<(l.filter (· <128)).length then [45]else []).length<=1:=by split<;>simp
 omega
theorem xP(l:List Nat)(f n d basic bias:Nat)(h:l.length<=(l.filter (· <n)).length):cF basic (l.filter (· <n)).length bias (eG l f n d (l.filter (· <n)).length)=[]:=by
 cases f with
 |zero=>rfl
 |succ f=>rw[eG,if_neg om];rfl
theorem xQ{c:Nat}(h:KZ c=true):dU (c:Int):=by
 simp[KZ]at h;unfold dU;omega
theorem FL{l:List Nat}(h:eU l=true)(k:Nat)(hk:k<l.length):KZ (l.getD k 0)=true:=by
 simp only[eU,Bool.and_eq_true,List.all_eq_true]at h;refine h.2 _ ?_;rw[zh,zk hk];exact zt _
theorem jQ(l:List Nat)(N g cap B:Nat)(w:World)(hok:eU l=true)(hN:l.length=N)(hown0:w.ownsRow B 3 1 (.slice (some ⟨g,0,none⟩) N cap) N (icN l)):Calls prog 189 #[.slice (some ⟨g,0,none⟩) N cap] w fun e w'=>e=L (Y #[.string ⟨(b8 (bJ l)).toArray⟩,Z true])/\Below w.heap.size w w':=by
 have hN60:(N:Int)<=60:=by have:=(bU hok).1;omega
 have HOK:Hid (eU l=true):=hok;have HL:Hid (l.length=N):=hN;have HW:Hid (w.ownsRow B 3 1 (.slice (some ⟨g,0,none⟩) N cap) N (icN l)):=hown0;clear hok hN hown0;go_enter func189,ntmps189;go_wp2_with fail
 go_loopw[4,5] (fun v i wr=> ∃k:Nat,k<=N/\i=I J k/\wr.ownsRow w.heap.size 5 1 v ((l.take k).filter (· <128)).length (aD (b8 ((l.take k).filter (· <128))))/\Below w.heap.size w wr)
  (fun _ i _=>N-(intOf i).toNat)
 case atStart=>exact ⟨0,zf _,rfl,zj w #[] 0 (zd _) de rfl,(zq _ _).alloc (zd _) _⟩
 obtain ⟨k,hk,rfl,hown,hbel⟩:=hrel;have hsz:=hbel.size
 by_cases hlt:k<N
 .have ca:=lC (aN HW.out hbel) k hlt
  have hr:=FL HOK.out k (by have:=HL.out;omega);have hfl:((l.take k).filter (· <128)).length<=k:=Nat.le_trans (za _ _) (List.length_take_le _ _);have HS:Hid ((l.take (k+1)).filter (· <128)=(l.take k).filter (· <128)++(if l.getD k 0<128 then [l.getD k 0]else [])):=BO l k (by have:=HL.out;omega);generalize (l.take k).filter (· <128)=o at hown HS hfl;generalize l.getD k 0=c at ca HS hr;have HR:Hid (dU (c:Int)):=xQ hr;have hc1:(c:Int)<=1114111:=HR.out.2.1;clear hr
  by_cases hc:(c:Int)<128
  .rw[if_pos om]at HS
   go_wp2_with fail;refine j5 (eL _ _ HR.out) ?_;go_wp2_with (first|(at_builtin;refine aC _ rfl _ _ 22 rfl w.heap.size 5 (.int .u8 0) 1 underlying22 info5 rfl _ _ _ rfl hown #[.int .u8 (c:Int)] 1 rfl rfl (eM _) om (by unfold maxLen;omega) om ?_));intro v' w1 hown' hb1;have R:=gO c om rfl hown';have B1:Below w.heap.size w w1:=hbel.trans hb1;clear hown' hb1 hown hbel;go_wp2_with fail;go_roundw
   case rel=>exact ⟨k+1,om,gn,by rw[HS.out];exact R,B1⟩
   case measure=>exact j1
  rw[if_neg om,zw]at HS;go_wp2_with fail;refine j5 (eL _ _ HR.out) ?_;go_wp2_with fail;go_roundw
  case rel=>exact ⟨k+1,om,gn,by rw[HS.out];exact hown,hbel⟩
  case measure=>exact j1
 rw[zn (by have:=HL.out;omega)]at hown;have hfl:=za (fun x=>decide (x<128)) l;obtain ⟨basic,hbs⟩: ∃b,(l.filter (· <128)).length=b:=⟨_,rfl⟩;have hb60:(basic:Int)<=60:=by have:=HL.out;omega
 obtain ⟨ao,cp,hu⟩:=iR hown;rw[hbs]at hu;subst hu;have HBS:Hid ((l.filter (· <128)).length=basic):=hbs;have hO:=hown;rw[hbs]at hO;have HO:Hid (wr.ownsRow w.heap.size 5 1 (.slice ao basic cp) basic (aD (b8 (l.filter (· <128))))):=hO;clear hown hO hfl hbs
 by_cases hbz:0<basic
 .have hbzi:0<(basic:Int):=om
  have HPRE:Hid ((l.filter (· <128)++[45])++(cF basic basic 72 (eG l N 128 0 basic)).map bT=bJ l):=by
   show _=_;unfold bJ sR;rw[HBS.out,if_pos hbz,HL.out]
  have hO:=HO.out;have hlen:(l.filter (· <128)).length=basic:=HBS.out;go_wp2_with (at_builtin;refine aC _ rfl _ _ 22 rfl w.heap.size 5 (.int .u8 0) 1 underlying22 info5 rfl _ _ _ rfl hO #[.int .u8 45] 1 rfl rfl (eM _) om (by unfold maxLen;omega) om ?_);intro v' w1 hown' hb1;have HO1:Hid (w1.ownsRow w.heap.size 5 1 v' (l.filter (· <128)++[45]).length (aD (b8 (l.filter (· <128)++[45])))):=gO 45 om rfl (by rw[hlen];exact hown');have B1:Below w.heap.size w w1:=hbel.trans hb1;clear hown' hb1 hO hbel hsz hlen;generalize l.filter (· <128)++[45]=o1 at HPRE HO1;go_wp2_with fail
  go_loopw[4,7,8,9,10] (fun v a b c e wr=> ∃(f n d bi h:Nat) (o:List Nat),a=I J h/\b=I J n/\c=I J d/\e=I J bi/\(l.filter (· <n)).length=h/\n<=1114112/\d<=61*n/\bi<=2400/\N<=h+f/\o++(cF basic h bi (eG l f n d h)).map bT=bJ l/\wr.ownsRow w.heap.size 5 1 v o.length (aD (b8 o))/\Below w.heap.size w wr)
   (fun _ a _ _ _ _=>N-(intOf a).toNat)
  case atStart=>exact ⟨N,128,0,72,basic,o1,rfl,rfl,rfl,rfl,HBS.out,om,om,om,om,HPRE.out,HO1.out,B1⟩
  clear B1;obtain ⟨f,n,d,bi,h,o,rfl,rfl,rfl,rfl,hh,hn,hd,hbi,hf,he,hown,hbel⟩:=hrel;have HE:Hid (o++(cF basic h bi (eG l f n d h)).map bT=bJ l):=he;have HH:Hid ((l.filter (· <n)).length=h):=hh;have hsz:=hbel.size;have hol:o.length<=2000:=by
   have h1:=congrArg zp HE.out;rw[zc]at h1
   have:=mB HOK.out
   omega
  have hhN:h<=N:=by
   have:=za (fun x=>decide (x<n)) l
   have:=HL.out
   omega
  clear he hh
  by_cases hlt2:h<N
  .obtain ⟨m1,m2,m3⟩:=qE l n (bU HOK.out).2 (by have:=HL.out;have:=HH.out;omega)
   have hmv:=(bU HOK.out).2 _ m1;have HFS:Hid (l.filter (· <n)=l.filter (· <aL n l)):=jW l n _ m2 m3;have HMO:Hid ((l.filter (· <aL n l)).length<(l.filter (· <=aL n l)).length):=lY _ l m1;have ctl:=LG l n N cap g B wr HL.out om (bU HOK.out).2 (aN HW.out hbel);obtain ⟨f',rfl⟩: ∃q,f=q+1:=⟨f-1,om⟩;have HD:Hid (eG l (f'+1) n d h=(aH (aL n l) l (d+(aL n l-n)*(h+1))).1++eG l f' (aL n l+1) ((aH (aL n l) l (d+(aL n l-n)*(h+1))).2+1) (h+(aH (aL n l) l (d+(aL n l-n)*(h+1))).1.length)):=by
    show _=_;rw[eG,if_pos (by have:=HL.out;omega)]
   clear m1 m3;generalize aL n l=m at*;have hxb:(m-n)*(h+1)<=(m-n)*61:=zg _ om;have hc1:((m-n:Nat):Int)=(m:Int)-(n:Int):=om;have hx61:d+(m-n)*(h+1)<=61*m:=om;have hX:((m:Int)-(n:Int))*((h:Int)+1)=(((m-n)*(h+1):Nat):Int):=by rw[<-hc1];norm_cast
   generalize (m-n)*(h+1)=x at*;have HPL:Hid ((l.filter (· <m)).length+(aH m l (d+x)).1.length=(l.filter (· <=m)).length):=kH m l (d+x);have HPB:Hid ((aH m l (d+x)).2<=61*m+60):=(oW m l (d+x) (61*m+60) (by have:=HL.out;omega)).2;obtain ⟨hE,HHE⟩: ∃q,Hid (h+(aH m l (d+x)).1.length=q):=⟨_,rfl⟩;obtain ⟨dE,HDE⟩: ∃q,Hid ((aH m l (d+x)).2=q):=⟨_,rfl⟩;have hhE:(l.filter (· <=m)).length=hE:=by
    have h1:=HPL.out;have h2:=HHE.out;have h3:=HH.out;rw[HFS.out]at h3;omega
   have hEN:hE<=N:=by
    have:=za (fun x=>decide (x<=m)) l
    have:=HL.out
    omega
   have hgr:h<hE:=by
    have h1:=HMO.out;have h3:=HH.out;rw[HFS.out]at h3;omega
   have HFE:Hid ((l.filter (· <m+1)).length=hE):=by show _=_;rw[gN];exact hhE
   obtain ⟨T,HT⟩: ∃q,Hid (eG l f' (m+1) (dE+1) hE=q):=⟨_,rfl⟩;have HE2:Hid (o++(cF basic h bi ((aH m l (d+x)).1++T)).map bT=bJ l):=by
    show _=_;rw[<-HE.out,HD.out,<-HT.out,HHE.out,HDE.out]
   have hdE:dE<=61*m+60:=by have h1:=HPB.out;rw[HDE.out]at h1;exact h1
   have CTL:Hid (CS 227 #[.slice (some ⟨g,0,none⟩) N cap,I J (n:Int)] wr (I J (m:Int))):=ctl;clear ctl HFS HMO HPL HPB HD HE hc1 hxb hhE;go_wp2_with fail;refine CTL.out.mono ?_;rintro e w' ⟨rfl,rfl⟩;go_wp2_with fail
   go_loopw[4,7,9,10,12] (fun v a c e i wi=> ∃(j d' h' b':Nat) (o':List Nat),a=I J h'/\c=I J d'/\e=I J b'/\i=I J j/\j<=N/\d'<=61*m+j/\b'<=2400/\h'+(aH m (l.drop j) d').1.length=hE/\(aH m (l.drop j) d').2=dE/\o'++(cF basic h' b' ((aH m (l.drop j) d').1++T)).map bT=bJ l/\wi.ownsRow w.heap.size 5 1 v o'.length (aD (b8 o'))/\Below w.heap.size w wi)
    (fun _ _ _ _ i _=>N-(intOf i).toNat)
   case atStart=>exact ⟨0,d+x,h,bi,o,rfl,gn,rfl,rfl,zf _,om,hbi,HHE.out,HDE.out,HE2.out,hown,hbel⟩
   clear hown hbel hsz;obtain ⟨j,d',h',b',o',rfl,rfl,rfl,rfl,hj,hd',hb',q1,q2,q3,hown,hbel⟩:=hrel;have Q1:Hid (h'+(aH m (l.drop j) d').1.length=hE):=q1;have Q2:Hid ((aH m (l.drop j) d').2=dE):=q2;have Q3:Hid (o'++(cF basic h' b' ((aH m (l.drop j) d').1++T)).map bT=bJ l):=q3;have hsz:=hbel.size;have hh':h'<=hE:=om;have hol':o'.length<=2000:=by
    have h1:=congrArg zp Q3.out;rw[zc]at h1
    have:=mB HOK.out
    omega
   clear q1 q2 q3
   by_cases hlj:j<N
   .have ca:=lC (aN HW.out hbel) j hlj
    have HS:Hid (l.drop j=l.getD j 0::l.drop (j+1)):=oB l j (by have:=HL.out;omega);generalize l.getD j 0=c at ca HS
    rcases zr c m with hc|hc|hc
    .have EP:Hid (aH m (l.drop j) d'=aH m (l.drop (j+1)) (d'+1)):=by show _=_;rw[HS.out,aH,if_pos hc]
     rw[EP.out]at Q1 Q2 Q3;have hci:(c:Int)<(m:Int):=om;have hcn: ¬(c:Int)=(m:Int):=om;go_wp2_with fail;go_roundw
     case rel=>exact ⟨j+1,d'+1,h',b',o',rfl,gn,rfl,gn,om,om,hb',Q1.out,Q2.out,Q3.out,hown,hbel⟩
     case measure=>exact j1
    .subst hc
     have EP:Hid (aH c (l.drop j) d'=(d'::(aH c (l.drop (j+1)) 0).1,(aH c (l.drop (j+1)) 0).2)):=by show _=_;rw[HS.out,aH,if_neg om,if_pos rfl]
     rw[EP.out]at Q1 Q2 Q3;have Q4:Hid ((o'++(dK 28 36 b' d').map bT)++(cF basic (h'+1) (bB d' (h'+1) (h'==basic)) ((aH c (l.drop (j+1)) 0).1++T)).map bT=bJ l):=by
      show _=_;rw[<-Q3.out];show _=o'++(dK 28 36 b' d'++cF basic (h'+1) (bB d' (h'+1) (h'==basic)) ((aH c (l.drop (j+1)) 0).1++T)).map bT;rw[zo,zs]
     have Q5:Hid (h'+1+(aH c (l.drop (j+1)) 0).1.length=hE):=by
      show _=_;have h1:=Q1.out;simp only[zm]at h1;omega
     have hh1:h'+1<=hE:=by have:=Q5.out;omega
     have cta:=fun (first:Bool) (W:World)=>rO d' (h'+1) first W om om om
     have hal:=gB d' (h'+1) (h'==basic);simp only[show ((h'+1:Nat):Int)=(h':Int)+1 by omega]at cta;have CTA:Hid (∀(first:Bool) (W:World),CS 229 #[I J (d':Int),I J ((h':Int)+1),Z first] W (I J (bB d' (h'+1) first:Int))):=cta;clear cta Q3 Q1
     by_cases hbq:h'=basic
     .subst hbq
      rw[show (h'==h')=true by simp]at Q4 hal;go_wp2_with fail;refine (rP d' b' o' _ w.heap.size _ om om hown hsz om).mono ?_;rintro e w1 ⟨v',rfl,own1,hb1⟩;have B2:Below w.heap.size w w1:=hbel.trans hb1;clear hb1 hown hbel;go_wp2_with fail;refine (CTA.out _ _).mono ?_;rintro e w' ⟨rfl,rfl⟩;go_wp2_with fail;go_roundw
      case rel=>exact ⟨j+1,0,h'+1,_,_,gn,rfl,rfl,gn,om,om,hal,Q5.out,Q2.out,Q4.out,own1,B2⟩
      case measure=>exact j1
     have hbi2:((h':Int)==(basic:Int))=false:=by simp;omega
     rw[show (h'==basic)=false by simpa using hbq]at Q4 hal;clear hbq;go_wp2_with fail;refine (rP d' b' o' _ w.heap.size _ om om hown hsz om).mono ?_;rintro e w1 ⟨v',rfl,own1,hb1⟩;have B2:Below w.heap.size w w1:=hbel.trans hb1;clear hb1 hown hbel;go_wp2_with fail;refine (CTA.out _ _).mono ?_;rintro e w' ⟨rfl,rfl⟩;go_wp2_with fail;go_roundw
     case rel=>exact ⟨j+1,0,h'+1,_,_,gn,rfl,rfl,gn,om,om,hal,Q5.out,Q2.out,Q4.out,own1,B2⟩
     case measure=>exact j1
    have EP:Hid (aH m (l.drop j) d'=aH m (l.drop (j+1)) d'):=by show _=_;rw[HS.out,aH,if_neg om,if_neg om]
    rw[EP.out]at Q1 Q2 Q3;have hci: ¬(c:Int)<(m:Int):=om;have hcn: ¬(c:Int)=(m:Int):=om;go_wp2_with fail;go_roundw
    case rel=>exact ⟨j+1,d',h',b',o',rfl,rfl,rfl,gn,om,om,hb',Q1.out,Q2.out,Q3.out,hown,hbel⟩
    case measure=>exact j1
   have HNI:Hid (l.drop j=[]):=ze (by have:=HL.out;omega);rw[HNI.out]at Q1 Q2 Q3;have z1:h'=hE:=by have:=Q1.out;simpa[aH] using this
   have z2:d'=dE:=by have:=Q2.out;simpa[aH] using this
   have Q4:Hid (o'++(cF basic hE b' (eG l f' (m+1) (dE+1) hE)).map bT=bJ l):=by
    show _=_;rw[HT.out,<-z1];exact Q3.out
   clear Q1 Q2 Q3;subst z1 z2;go_wp2_with fail;go_roundw
   case rel=>exact ⟨f',m+1,d'+1,b',h',o',rfl,gn,gn,rfl,HFE.out,om,om,hb',om,Q4.out,hown,hbel⟩
   case measure=>exact j1
  have HR:Hid (o=bJ l):=by
   show _=_;have h1:=HE.out;have h2:=xP l f n d basic bi (by have:=HL.out;have:=HH.out;omega);rw[HH.out]at h2;rw[h2]at h1;simpa using h1
  have hcv:=bG (P:=prog) wr 22 9 5 underlying22 underlying5 underlying9 hown;go_wp2_with fail;go_ret2;exact ⟨by rw[HR.out];rfl,hbel⟩
 have hbzi: ¬0<(basic:Int):=om;have HPRE:Hid (l.filter (· <128)++(cF basic basic 72 (eG l N 128 0 basic)).map bT=bJ l):=by
  show _=_;unfold bJ sR;rw[HBS.out,if_neg hbz,HL.out,zw]
 have HO1:Hid (wr.ownsRow w.heap.size 5 1 (.slice ao basic cp) (l.filter (· <128)).length (aD (b8 (l.filter (· <128))))):=by
  have h1:=HO.out;rw[<-HBS.out]at h1⊢;exact h1
 have B1:Below w.heap.size w wr:=hbel;clear hbel hsz HO;obtain ⟨o1,ho1⟩: ∃q,l.filter (· <128)=q:=⟨_,rfl⟩;rw[ho1]at HPRE HO1;go_wp2_with fail
 go_loopw[4,7,8,9,10] (fun v a b c e wr=> ∃(f n d bi h:Nat) (o:List Nat),a=I J h/\b=I J n/\c=I J d/\e=I J bi/\(l.filter (· <n)).length=h/\n<=1114112/\d<=61*n/\bi<=2400/\N<=h+f/\o++(cF basic h bi (eG l f n d h)).map bT=bJ l/\wr.ownsRow w.heap.size 5 1 v o.length (aD (b8 o))/\Below w.heap.size w wr)
  (fun _ a _ _ _ _=>N-(intOf a).toNat)
 case atStart=>exact ⟨N,128,0,72,basic,o1,rfl,rfl,rfl,rfl,HBS.out,om,om,om,om,HPRE.out,HO1.out,B1⟩
 clear B1;obtain ⟨f,n,d,bi,h,o,rfl,rfl,rfl,rfl,hh,hn,hd,hbi,hf,he,hown,hbel⟩:=hrel;have HE:Hid (o++(cF basic h bi (eG l f n d h)).map bT=bJ l):=he;have HH:Hid ((l.filter (· <n)).length=h):=hh;have hsz:=hbel.size;have hol:o.length<=2000:=by
  have h1:=congrArg zp HE.out;rw[zc]at h1
  have:=mB HOK.out
  omega
 have hhN:h<=N:=by
  have:=za (fun x=>decide (x<n)) l
  have:=HL.out
  omega
 clear he hh
 by_cases hlt2:h<N
 .obtain ⟨m1,m2,m3⟩:=qE l n (bU HOK.out).2 (by have:=HL.out;have:=HH.out;omega)
  have hmv:=(bU HOK.out).2 _ m1;have HFS:Hid (l.filter (· <n)=l.filter (· <aL n l)):=jW l n _ m2 m3;have HMO:Hid ((l.filter (· <aL n l)).length<(l.filter (· <=aL n l)).length):=lY _ l m1;have ctl:=LG l n N cap g B wr HL.out om (bU HOK.out).2 (aN HW.out hbel);obtain ⟨f',rfl⟩: ∃q,f=q+1:=⟨f-1,om⟩;have HD:Hid (eG l (f'+1) n d h=(aH (aL n l) l (d+(aL n l-n)*(h+1))).1++eG l f' (aL n l+1) ((aH (aL n l) l (d+(aL n l-n)*(h+1))).2+1) (h+(aH (aL n l) l (d+(aL n l-n)*(h+1))).1.length)):=by
   show _=_;rw[eG,if_pos (by have:=HL.out;omega)]
  clear m1 m3;generalize aL n l=m at*;have hxb:(m-n)*(h+1)<=(m-n)*61:=zg _ om;have hc1:((m-n:Nat):Int)=(m:Int)-(n:Int):=om;have hx61:d+(m-n)*(h+1)<=61*m:=om;have hX:((m:Int)-(n:Int))*((h:Int)+1)=(((m-n)*(h+1):Nat):Int):=by rw[<-hc1];norm_cast
  generalize (m-n)*(h+1)=x at*;have HPL:Hid ((l.filter (· <m)).length+(aH m l (d+x)).1.length=(l.filter (· <=m)).length):=kH m l (d+x);have HPB:Hid ((aH m l (d+x)).2<=61*m+60):=(oW m l (d+x) (61*m+60) (by have:=HL.out;omega)).2;obtain ⟨hE,HHE⟩: ∃q,Hid (h+(aH m l (d+x)).1.length=q):=⟨_,rfl⟩;obtain ⟨dE,HDE⟩: ∃q,Hid ((aH m l (d+x)).2=q):=⟨_,rfl⟩;have hhE:(l.filter (· <=m)).length=hE:=by
   have h1:=HPL.out;have h2:=HHE.out;have h3:=HH.out;rw[HFS.out]at h3;omega
  have hEN:hE<=N:=by
   have:=za (fun x=>decide (x<=m)) l
   have:=HL.out
   omega
  have hgr:h<hE:=by
   have h1:=HMO.out;have h3:=HH.out;rw[HFS.out]at h3;omega
  have HFE:Hid ((l.filter (· <m+1)).length=hE):=by show _=_;rw[gN];exact hhE
  obtain ⟨T,HT⟩: ∃q,Hid (eG l f' (m+1) (dE+1) hE=q):=⟨_,rfl⟩;have HE2:Hid (o++(cF basic h bi ((aH m l (d+x)).1++T)).map bT=bJ l):=by
   show _=_;rw[<-HE.out,HD.out,<-HT.out,HHE.out,HDE.out]
  have hdE:dE<=61*m+60:=by have h1:=HPB.out;rw[HDE.out]at h1;exact h1
  have CTL:Hid (CS 227 #[.slice (some ⟨g,0,none⟩) N cap,I J (n:Int)] wr (I J (m:Int))):=ctl;clear ctl HFS HMO HPL HPB HD HE hc1 hxb hhE;go_wp2_with fail;refine CTL.out.mono ?_;rintro e w' ⟨rfl,rfl⟩;go_wp2_with fail
  go_loopw[4,7,9,10,12] (fun v a c e i wi=> ∃(j d' h' b':Nat) (o':List Nat),a=I J h'/\c=I J d'/\e=I J b'/\i=I J j/\j<=N/\d'<=61*m+j/\b'<=2400/\h'+(aH m (l.drop j) d').1.length=hE/\(aH m (l.drop j) d').2=dE/\o'++(cF basic h' b' ((aH m (l.drop j) d').1++T)).map bT=bJ l/\wi.ownsRow w.heap.size 5 1 v o'.length (aD (b8 o'))/\Below w.heap.size w wi)
   (fun _ _ _ _ i _=>N-(intOf i).toNat)
  case atStart=>exact ⟨0,d+x,h,bi,o,rfl,gn,rfl,rfl,zf _,om,hbi,HHE.out,HDE.out,HE2.out,hown,hbel⟩
  clear hown hbel hsz;obtain ⟨j,d',h',b',o',rfl,rfl,rfl,rfl,hj,hd',hb',q1,q2,q3,hown,hbel⟩:=hrel;have Q1:Hid (h'+(aH m (l.drop j) d').1.length=hE):=q1;have Q2:Hid ((aH m (l.drop j) d').2=dE):=q2;have Q3:Hid (o'++(cF basic h' b' ((aH m (l.drop j) d').1++T)).map bT=bJ l):=q3;have hsz:=hbel.size;have hh':h'<=hE:=om;have hol':o'.length<=2000:=by
   have h1:=congrArg zp Q3.out;rw[zc]at h1
   have:=mB HOK.out
   omega
  clear q1 q2 q3
  by_cases hlj:j<N
  .have ca:=lC (aN HW.out hbel) j hlj
   have HS:Hid (l.drop j=l.getD j 0::l.drop (j+1)):=oB l j (by have:=HL.out;omega);generalize l.getD j 0=c at ca HS
   rcases zr c m with hc|hc|hc
   .have EP:Hid (aH m (l.drop j) d'=aH m (l.drop (j+1)) (d'+1)):=by show _=_;rw[HS.out,aH,if_pos hc]
    rw[EP.out]at Q1 Q2 Q3;have hci:(c:Int)<(m:Int):=om;have hcn: ¬(c:Int)=(m:Int):=om;go_wp2_with fail;go_roundw
    case rel=>exact ⟨j+1,d'+1,h',b',o',rfl,gn,rfl,gn,om,om,hb',Q1.out,Q2.out,Q3.out,hown,hbel⟩
    case measure=>exact j1
   .subst hc
    have EP:Hid (aH c (l.drop j) d'=(d'::(aH c (l.drop (j+1)) 0).1,(aH c (l.drop (j+1)) 0).2)):=by show _=_;rw[HS.out,aH,if_neg om,if_pos rfl]
    rw[EP.out]at Q1 Q2 Q3;have Q4:Hid ((o'++(dK 28 36 b' d').map bT)++(cF basic (h'+1) (bB d' (h'+1) (h'==basic)) ((aH c (l.drop (j+1)) 0).1++T)).map bT=bJ l):=by
     show _=_;rw[<-Q3.out];show _=o'++(dK 28 36 b' d'++cF basic (h'+1) (bB d' (h'+1) (h'==basic)) ((aH c (l.drop (j+1)) 0).1++T)).map bT;rw[zo,zs]
    have Q5:Hid (h'+1+(aH c (l.drop (j+1)) 0).1.length=hE):=by
     show _=_;have h1:=Q1.out;simp only[zm]at h1;omega
    have hh1:h'+1<=hE:=by have:=Q5.out;omega
    have cta:=fun (first:Bool) (W:World)=>rO d' (h'+1) first W om om om
    have hal:=gB d' (h'+1) (h'==basic);simp only[show ((h'+1:Nat):Int)=(h':Int)+1 by omega]at cta;have CTA:Hid (∀(first:Bool) (W:World),CS 229 #[I J (d':Int),I J ((h':Int)+1),Z first] W (I J (bB d' (h'+1) first:Int))):=cta;clear cta Q3 Q1
    by_cases hbq:h'=basic
    .subst hbq
     rw[show (h'==h')=true by simp]at Q4 hal;go_wp2_with fail;refine (rP d' b' o' _ w.heap.size _ om om hown hsz om).mono ?_;rintro e w1 ⟨v',rfl,own1,hb1⟩;have B2:Below w.heap.size w w1:=hbel.trans hb1;clear hb1 hown hbel;go_wp2_with fail;refine (CTA.out _ _).mono ?_;rintro e w' ⟨rfl,rfl⟩;go_wp2_with fail;go_roundw
     case rel=>exact ⟨j+1,0,h'+1,_,_,gn,rfl,rfl,gn,om,om,hal,Q5.out,Q2.out,Q4.out,own1,B2⟩
     case measure=>exact j1
    have hbi2:((h':Int)==(basic:Int))=false:=by simp;omega
    rw[show (h'==basic)=false by simpa using hbq]at Q4 hal;clear hbq;go_wp2_with fail;refine (rP d' b' o' _ w.heap.size _ om om hown hsz om).mono ?_;rintro e w1 ⟨v',rfl,own1,hb1⟩;have B2:Below w.heap.size w w1:=hbel.trans hb1;clear hb1 hown hbel;go_wp2_with fail;refine (CTA.out _ _).mono ?_;rintro e w' ⟨rfl,rfl⟩;go_wp2_with fail;go_roundw
    case rel=>exact ⟨j+1,0,h'+1,_,_,gn,rfl,rfl,gn,om,om,hal,Q5.out,Q2.out,Q4.out,own1,B2⟩
    case measure=>exact j1
   have EP:Hid (aH m (l.drop j) d'=aH m (l.drop (j+1)) d'):=by show _=_;rw[HS.out,aH,if_neg om,if_neg om]
   rw[EP.out]at Q1 Q2 Q3;have hci: ¬(c:Int)<(m:Int):=om;have hcn: ¬(c:Int)=(m:Int):=om;go_wp2_with fail;go_roundw
   case rel=>exact ⟨j+1,d',h',b',o',rfl,rfl,rfl,gn,om,om,hb',Q1.out,Q2.out,Q3.out,hown,hbel⟩
   case measure=>exact j1
  have HNI:Hid (l.drop j=[]):=ze (by have:=HL.out;omega);rw[HNI.out]at Q1 Q2 Q3;have z1:h'=hE:=by have:=Q1.out;simpa[aH] using this
  have z2:d'=dE:=by have:=Q2.out;simpa[aH] using this
  have Q4:Hid (o'++(cF basic hE b' (eG l f' (m+1) (dE+1) hE)).map bT=bJ l):=by
   show _=_;rw[HT.out,<-z1];exact Q3.out
  clear Q1 Q2 Q3;subst z1 z2;go_wp2_with fail;go_roundw
  case rel=>exact ⟨f',m+1,d'+1,b',h',o',rfl,gn,gn,rfl,HFE.out,om,om,hb',om,Q4.out,hown,hbel⟩
  case measure=>exact j1
 have HR:Hid (o=bJ l):=by
  show _=_;have h1:=HE.out;have h2:=xP l f n d basic bi (by have:=HL.out;have:=HH.out;omega);rw[HH.out]at h2;rw[h2]at h1;simpa using h1
 have hcv:=bG (P:=prog) wr 22 9 5 underlying22 underlying5 underlying9 hown;go_wp2_with fail;go_ret2;exact ⟨by rw[HR.out];rfl,hbel⟩
theorem jR(ao:Option Addr)(cap:Nat)(w:World):Calls prog 189 #[.slice ao 0 cap] w fun e w'=>e=L (Y #[.string ⟨#[]⟩,Z true])/\Below w.heap.size w w':=by
 have HO:=bG (P:=prog) (w.alloc (.cells #[] 5)) 22 9 5 underlying22 underlying5 underlying9 (l:=[]) (zj w #[] 0 (zd _) de rfl);go_enter func189,ntmps189;go_wp2_with fail;refine wp_loop_rounds 1 ?_;rw[rounds_succ];go_wp2_with fail;refine wp_loop_rounds 1 ?_;rw[rounds_succ];go_wp2_with fail;go_ret2;exact ⟨rfl,(zq _ _).alloc (zd _) _⟩
def FM(zl:List Int):Prop:=zl.length<=60/\ ∀z∈zl,dU z
theorem kI(zl:List Int)(N g cap B:Nat)(w:World)(hno: ¬FM zl)(hN:zl.length=N)(hN1:N<=1048576)(hown0:w.ownsRow B 3 1 (.slice (some ⟨g,0,none⟩) N cap) N (aO zl)):Calls prog 189 #[.slice (some ⟨g,0,none⟩) N cap] w fun e w'=>e=L (Y #[.string ⟨#[]⟩,Z false])/\Below w.heap.size w w':=by
 have HOK:Hid (¬FM zl):=hno;have HL:Hid (zl.length=N):=hN;have HW:Hid (w.ownsRow B 3 1 (.slice (some ⟨g,0,none⟩) N cap) N (aO zl)):=hown0;have hpos:0<N:=by
  rcases Nat.eq_zero_or_pos N with h|h
  .refine absurd ⟨om,fun z hz=> ?_⟩ hno
   rw[List.eq_nil_of_length_eq_zero (hN.trans h)]at hz;simp at hz
  exact h
 clear hno hN hown0;go_enter func189,ntmps189;go_wp2_with fail
 go_loopw[4,5] (fun v i wr=> ∃(k:Nat) (o:List Nat),k<=N/\i=I J k/\o.length<=k/\(0<k->N<=60)/\(∀z∈zl.take k,dU z)/\wr.ownsRow w.heap.size 5 1 v o.length (aD (b8 o))/\Below w.heap.size w wr)
  (fun _ i _=>N-(intOf i).toNat)
 case atStart=>exact ⟨0,[],zf _,rfl,zf _,fun h=>by omega,fun z hz=>by simp at hz,zj w #[] 0 (zd _) de rfl,(zq _ _).alloc (zd _) _⟩
 obtain ⟨k,o,hk,rfl,hol,h60,hall,hown,hbel⟩:=hrel;have H60:Hid (0<k->N<=60):=h60;have HA:Hid (∀z∈zl.take k,dU z):=hall;have hsz:=hbel.size;clear h60 hall
 by_cases hlt:k<N
 .by_cases hbig:60<(N:Int)
  .go_wp2_with fail
   go_ret2;exact ⟨rfl,hbel⟩
  have ca:=pU (aN HW.out hbel) k hlt;have HS:Hid (zl.take (k+1)=zl.take k++[zl.getD k 0]):=nQ zl k (by have:=HL.out;omega);generalize zl.getD k 0=z at ca HS
  by_cases hr:dU z
  .have HR:Hid (dU z):=hr
   have HA2:Hid (∀y∈zl.take (k+1),dU y):=by
    intro y hy;rw[HS.out]at hy
    rcases List.mem_append.1 hy with hy|hy
    .exact HA.out y hy
    rw[List.mem_singleton.1 hy];exact hr
   have hz0:0<=z:=hr.1;have hz1:z<=1114111:=hr.2.1;clear hr
   by_cases hc:z<128
   .obtain ⟨c,rfl⟩:=Int.eq_ofNat_of_zero_le hz0
    go_wp2_with fail;refine j5 (eL _ _ HR.out) ?_;go_wp2_with (first|(at_builtin;refine aC _ rfl _ _ 22 rfl w.heap.size 5 (.int .u8 0) 1 underlying22 info5 rfl _ _ _ rfl hown #[.int .u8 (c:Int)] 1 rfl rfl (eM _) om (by unfold maxLen;omega) om ?_));intro v' w1 hown' hb1;have R:=gO c om rfl hown';have B1:Below w.heap.size w w1:=hbel.trans hb1;clear hown' hb1 hown hbel;go_wp2_with fail;go_roundw
    case rel=>exact ⟨k+1,o++[c],om,gn,by simp;omega,fun _=>by omega,HA2.out,R,B1⟩
    case measure=>exact j1
   go_wp2_with fail;refine j5 (eL _ _ HR.out) ?_;go_wp2_with fail;go_roundw
   case rel=>exact ⟨k+1,o,om,gn,om,fun _=>by omega,HA2.out,hown,hbel⟩
   case measure=>exact j1
  have HR:Hid (¬dU z):=hr;clear hr;go_wp2_with fail;refine j5 (mN _ _ HR.out) ?_;go_wp2_with fail;go_ret2;exact ⟨rfl,hbel⟩
 refine absurd ⟨?_,?_⟩ HOK.out
 .have:=HL.out
  have:=H60.out om
  omega
 have h:=HA.out;rw[zn (by have:=HL.out;omega)]at h;exact h
theorem E9(c:Nat):bC c<=36:=by
 unfold bC;split
 .omega
 split<;>omega
theorem O8(c:Nat)(w:World)(hc:(c:Int)<=255):Calls prog 274 #[.int .u8 (c:Int)] w fun e w'=>e=L (I J (bC c:Int))/\w=w':=by
 by_cases h1:97<=(c:Int)/\(c:Int)<=122
 .obtain ⟨a1,a2⟩:=h1
  have HV:Hid ((bC c:Int)=(c:Int)-97):=by show _=_;unfold bC;rw[if_pos om];omega
  go_enter func274,ntmps274;go_wp2_with fail;refine j5 (aI _ _ _ _ a1 a2) ?_;go_wp2;go_ret;exact ⟨aV (by rw[HV.out]<;>omega),rfl⟩
 have H1:Hid ((c:Int)<97∨122<(c:Int)):=by show _∨_;omega
 by_cases h2:48<=(c:Int)/\(c:Int)<=57
 .obtain ⟨a1,a2⟩:=h2
  have HV:Hid ((bC c:Int)=(c:Int)-22):=by show _=_;unfold bC;rw[if_neg om,if_pos om];omega
  clear h1;go_enter func274,ntmps274;go_wp2_with fail;refine j5 (aP _ _ _ _ H1.out) ?_;go_wp2_with fail;refine j5 (aI _ _ _ _ a1 a2) ?_;go_wp2;go_ret;exact ⟨aV (by rw[HV.out]<;>omega),rfl⟩
 have HV:Hid ((bC c:Int)=36):=by show _=_;unfold bC;rw[if_neg om,if_neg om];rfl
 have H2:Hid ((c:Int)<48∨57<(c:Int)):=by show _∨_;omega
 clear h1 h2;go_enter func274,ntmps274;go_wp2_with fail;refine j5 (aP _ _ _ _ H1.out) ?_;go_wp2_with fail;refine j5 (aP _ _ _ _ H2.out) ?_;go_wp2;go_ret;exact ⟨aV (by rw[HV.out]),rfl⟩
def sN(s:ByteArray):List Nat:=s.data.toList.map UInt8.toNat
theorem cA(s:ByteArray):(sN s).length=s.size:=by simp[sN]
theorem oY(s:ByteArray)(k:Nat)(h:k<s.size):(sN s).drop k=s[k].toNat::(sN s).drop (k+1):=by
 unfold sN;rw[<-List.map_drop,<-List.map_drop,fO s k h];rfl
theorem OI(s:ByteArray)(k:Nat)(h:s.size<=k):(sN s).drop k=[]:=ze (by rw[cA];exact h)
theorem FN: ∀(a:List Nat) (s:List Nat),(∀c∈s.drop (a.length+1),c≠45)->s.take a.length=a->s[a.length]? =some 45->dF s=some (a,s.drop (a.length+1)):=by
 intro a s h1 h2 h3;have hs:s=a++45::s.drop (a.length+1):=by
  obtain ⟨hl,he⟩:=List.getElem?_eq_some_iff.1 h3;rw[<-List.take_append_drop a.length s,h2,zi hl,he];simp
 rw[hs];rw[xN _ h1 a];simp
theorem Bc(s:ByteArray)(w:World)(hs:(s.size:Int)<=1048576):Calls prog 256 #[.string s] w fun e w'=> ∃r:Int,e=L (I J r)/\w=w'/\((r= -1/\dF (sN s)=none)∨ ∃k:Nat,k<s.size/\r=(k:Int)/\dF (sN s)=some ((sN s).take k,(sN s).drop (k+1))):=by
 go_enter func256,ntmps256;go_wp2_with fail
 go_loop[3] (fun i=> ∃k:Nat,k<=s.size/\i=I J ((k:Int)-1)/\ ∀c∈(sN s).drop k,c≠45) (fun i=>(intOf i+1).toNat)
 case atStart=>exact ⟨s.size,zd _,rfl,fun c hc=>by rw[OI s _ (zd _)]at hc;simp at hc⟩
 obtain ⟨k,hk,rfl,hno⟩:=hrel;have HN:Hid (∀c∈(sN s).drop k,c≠45):=hno;clear hno
 by_cases hp:0<k
 .obtain ⟨j,rfl⟩: ∃j,k=j+1:=⟨k-1,om⟩
  have hcast:(((j+1:Nat):Int)-1)=(j:Int):=om;have hjs:j<s.size:=om;obtain ⟨d,hd⟩: ∃d:Nat,s[j].toNat=d:=⟨_,rfl⟩;have hge:0<=(j:Int):=om;rw[hcast]
  by_cases h45:(d:Int)=45
  .have HS:Hid (dF (sN s)=some ((sN s).take j,(sN s).drop (j+1))):=by
    have hl:((sN s).take j).length=j:=by rw[List.length_take,cA];omega
    have h:=FN ((sN s).take j) (sN s) (by rw[hl];exact HN.out) (by rw[hl]) (by
     rw[hl,<-List.head?_drop,oY s j hjs,hd];simp;omega)
    rw[hl]at h;exact h
   have hd45:d=45:=om;subst hd45;clear h45 hcast;go_wp2_with fail;go_ret;exact ⟨_,rfl,rfl,.inr ⟨j,hjs,rfl,HS.out⟩⟩
  have HN2:Hid (∀c∈(sN s).drop j,c≠45):=by
   intro c hc;rw[oY s j hjs,hd]at hc
   rcases List.mem_cons.1 hc with rfl|hc
   .omega
   exact HN.out c hc
  clear hcast;go_wp2_with fail;go_round
  case rel=>exact ⟨j,om,gn,HN2.out⟩
  case measure=>simp[intOf]
 have hk0:k=0:=om;subst hk0;have HS:Hid (dF (sN s)=none):=oA _ (by have h:=HN.out;simpa using h);go_wp2_with fail;go_ret;exact ⟨-1,rfl,rfl,.inl ⟨rfl,HS.out⟩⟩
theorem FO{bias k i w d:Nat}{ds:List Nat}(h:1099511627776<i∨1099511627776<w∨36<=d):dM bias k i w (d::ds)=none:=by rw[dM,if_pos h]
theorem O9{bias k i w d:Nat}{ds:List Nat}(h: ¬(1099511627776<i∨1099511627776<w∨36<=d))(hd:d<bQ k bias):dM bias k i w (d::ds)=some (i+d*w,ds):=by rw[dM,if_neg h,if_pos hd]
theorem XU{bias k i w d:Nat}{ds:List Nat}(h: ¬(1099511627776<i∨1099511627776<w∨36<=d))(hd: ¬d<bQ k bias):dM bias k i w (d::ds)=dM bias (k+36) (i+d*w) (w*(36-bQ k bias)) ds:=by rw[dM,if_neg h,if_neg hd]
def nB(s:ByteArray)(at0 bias:Nat)(e:Ending):Prop:=
 match dM bias 36 0 1 (((sN s).drop at0).map bC)with
 |none=>e=L (Y #[I J 0,I J 0,Z false])
 |some (more,rest)=> ∃next:Nat,at0<next/\next<=s.size/\rest=((sN s).drop next).map bC/\e=L (Y #[I J (more:Int),I J (next:Int),Z true])
theorem nC{s:ByteArray}{at0 bias:Nat}{e:Ending}(h:dM bias 36 0 1 (((sN s).drop at0).map bC)=none)(he:e=L (Y #[I J 0,I J 0,Z false])):nB s at0 bias e:=by
 unfold nB;rw[h];exact he
theorem OJ{s:ByteArray}{at0 bias more next:Nat}{e:Ending}(h:dM bias 36 0 1 (((sN s).drop at0).map bC)=some (more,((sN s).drop next).map bC))(h1:at0<next)(h2:next<=s.size)(he:e=L (Y #[I J (more:Int),I J (next:Int),Z true])):nB s at0 bias e:=by
 unfold nB;rw[h];exact ⟨next,h1,h2,rfl,he⟩
theorem SX(s:ByteArray)(at0 bias:Nat)(w:World)(hs:(s.size:Int)<=600)(hat:at0<=s.size)(hb:(bias:Int)<=2400):Calls prog 257 #[.string s,I J (at0:Int),I J (bias:Int)] w fun e w'=>nB s at0 bias e/\w=w':=by
 go_enter func257,ntmps257;go_wp2_with fail
 go_loop[1,9,10,11] (fun p a b c=> ∃q i v k:Nat,p=I J q/\a=I J i/\b=I J v/\c=I J k/\at0<=q/\q<=s.size/\i<=39582418599936/\v<=38482906972160/\k<=36*(q+1)/\dM bias k i v (((sN s).drop q).map bC)=dM bias 36 0 1 (((sN s).drop at0).map bC)) (fun p _ _ _=>s.size-(intOf p).toNat)
 case atStart=>exact ⟨at0,0,1,36,rfl,rfl,rfl,rfl,zd _,hat,om,om,om,rfl⟩
 obtain ⟨q,i,v,k,rfl,rfl,rfl,rfl,hq0,hq,hi,hv,hk,he⟩:=hrel;have HE:Hid (dM bias k i v (((sN s).drop q).map bC)=dM bias 36 0 1 (((sN s).drop at0).map bC)):=he;clear he
 by_cases hlt:q<s.size
 .have hlti: ¬(s.size:Int)<=(q:Int):=om
  obtain ⟨c,hc⟩: ∃c:Nat,s[q].toNat=c:=⟨_,rfl⟩;have hc255:(c:Int)<=255:=by have:=s[q].toNat_lt;omega
  have HS:Hid (((sN s).drop q).map bC=bC c::((sN s).drop (q+1)).map bC):=by show _=_;rw[oY s q hlt,hc];rfl
  rw[HS.out]at HE;have cv:=fun W=>O8 c W hc255
  have hv36:=E9 c;generalize bC c=d at cv HE hv36;have CV:Hid (∀W,CS 274 #[.int .u8 (c:Int)] W (I J (d:Int))):=cv;clear cv HS
  by_cases hib:1099511627776<(i:Int)
  .have HR:=HE.out.symm.trans (FO (.inl om))
   have HRH:Hid (dM bias 36 0 1 (((sN s).drop at0).map bC)=none):=HR;clear HR;go_wp2_with fail;go_ret3;exact ⟨nC HRH.out rfl,rfl⟩
  by_cases hvb:1099511627776<(v:Int)
  .have HRH:Hid (dM bias 36 0 1 (((sN s).drop at0).map bC)=none):=HE.out.symm.trans (FO (.inr (.inl om)))
   go_wp2_with fail;go_ret3;exact ⟨nC HRH.out rfl,rfl⟩
  by_cases hd36:(d:Int)=36
  .have HRH:Hid (dM bias 36 0 1 (((sN s).drop at0).map bC)=none):=HE.out.symm.trans (FO (.inr (.inr om)))
   have hd37:d=36:=om;subst hd37;clear hd36;go_wp2_with fail;refine (CV.out _).mono ?_;rintro e w' ⟨rfl,rfl⟩;go_wp2_with fail;go_ret3;exact ⟨nC HRH.out rfl,rfl⟩
  have ct:=fun W=>LD k bias W om om
  obtain ⟨l1,l2⟩:=rL k bias;have hpb:d*v<=35*v:=Nat.mul_le_mul_right v om;have hM:(d:Int)*(v:Int)=((d*v:Nat):Int):=by norm_cast
  by_cases hdt:d<bQ k bias
  .have HRH:Hid (dM bias 36 0 1 (((sN s).drop at0).map bC)=some (i+d*v,((sN s).drop (q+1)).map bC)):=HE.out.symm.trans (O9 om hdt)
   generalize bQ k bias=t at ct hdt l1 l2;generalize d*v=p at hM HRH hpb;have hdti:(d:Int)<(t:Int):=om;have CT:Hid (∀W,CS 254 #[I J (k:Int),I J (bias:Int)] W (I J (t:Int))):=ct;clear ct;go_wp2_with fail;refine (CV.out _).mono ?_;rintro e w' ⟨rfl,rfl⟩;go_wp2_with fail;refine (CT.out _).mono ?_;rintro e w' ⟨rfl,rfl⟩;go_wp2_with fail;go_ret3;exact ⟨OJ HRH.out om om j2,rfl⟩
  have HN:Hid (dM bias (k+36) (i+d*v) (v*(36-bQ k bias)) (((sN s).drop (q+1)).map bC)=dM bias 36 0 1 (((sN s).drop at0).map bC)):=(XU om hdt).symm.trans HE.out;have hwb:v*(36-bQ k bias)<=v*35:=zg v om;have hc2:((36-bQ k bias:Nat):Int)=36-(bQ k bias:Int):=om;have hW:(v:Int)*(36-(bQ k bias:Int))=((v*(36-bQ k bias):Nat):Int):=by rw[<-hc2];norm_cast
  clear hc2;generalize hlim:bQ k bias=t at ct hdt l1 l2 HN hwb hW;clear hlim;generalize d*v=p at hM HN hpb;generalize v*(36-t)=v' at hW HN hwb;have hdti: ¬(d:Int)<(t:Int):=om;have CT:Hid (∀W,CS 254 #[I J (k:Int),I J (bias:Int)] W (I J (t:Int))):=ct;clear ct;go_wp2_with fail;refine (CV.out _).mono ?_;rintro e w' ⟨rfl,rfl⟩;go_wp2_with fail;refine (CT.out _).mono ?_;rintro e w' ⟨rfl,rfl⟩;go_wp2_with fail;go_round
  case rel=>exact ⟨q+1,i+p,v',k+36,gn,gn,rfl,gn,om,om,om,om,om,HN.out⟩
  case measure=>exact j1
 have hlti:(s.size:Int)<=(q:Int):=om;have HRH:Hid (dM bias 36 0 1 (((sN s).drop at0).map bC)=none):=by
  show _=_;rw[<-HE.out,OI s q om];rfl
 go_wp2_with fail;go_ret3;exact ⟨nC HRH.out rfl,rfl⟩
