/- JoinPlain, RowMore, DropWalk, FieldSpl, Bits, LooseWalk. -/
import Derived.Test.YtgcbaphbiaimoaaGreatDoorQF02
import Derived.Laws.BitsAllLaws
set_option maxHeartbeats 1000000
namespace Go.Proofs.YtgcbaphbiaimoaaGreatDoor
open Go.Value renaming int->I,string->L
open Go.IntKind renaming i64->J
open _root_.ByteArray renaming empty->za,ext->zs,size_extract->zk
open _root_.Go.ByteArray renaming toList_eq->zf
open _root_.Int renaming eq_ofNat_of_zero_le->zg
open _root_.List renaming drop_eq_getElem_cons->ze,eq_nil_of_length_eq_zero->zd,isEmpty_iff_length_eq_zero->zh,isPrefixOf->zl,length_take->zi,map_append->zq,mem_append->zp,mem_singleton->zo,take_append_drop->zm
open _root_.Nat renaming le_refl->zc,mod_eq_of_lt->zj
open _root_.UInt8 renaming ofNat->zn,toNat_inj->zr
open _root_.Go.Proofs.Tryz
open _root_.Go.Proofs.YtgcbaphbiaimoaaGreatDoor.Tryz
section
open Go.RowKit
def jn(sep:UInt8):List ByteArray->List UInt8
 |[]=>[]
 |x::xs=>x.data.toList++xs.flatMap fun y=>sep::y.data.toList
theorem BT(sep:UInt8)(x:ByteArray):jn sep ([]++[x])=x.data.toList:=by simp[jn]
theorem vJ(sep:UInt8)(l:List ByteArray)(x:ByteArray)(h:l≠[]):jn sep (l++[x])=jn sep l++[sep]++x.data.toList:=by
 cases l with
 |nil=>exact absurd rfl h
 |cons y ys=>simp[jn,List.flatMap_append]
theorem zF(s:ByteArray)(b:Int)(hb0:0<=b)(hb1:b<=255): ∀k,k<=s.size->
  (aI s b k).2<=k/\((aI s b k).1=[]->(aI s b k).2=0)/\((aI s b k).1≠[]->jn (zn b.toNat) (aI s b k).1++[zn b.toNat]=s.data.toList.take (aI s b k).2)
 |0,_=>by simp[aI]
 |k+1,hk=>by
  obtain ⟨h1,h2,h3⟩:=zF s b hb0 hb1 k om
  by_cases e:(s[k].toNat:Int)=b
  .rw[gN s b k om e]
   refine ⟨zc _,fun h=>by simp at h,fun _=> ?_⟩;have hsep:s[k]=zn b.toNat:=by
    rw[<-e];simp
   have hx:(s.extract (aI s b k).2 k).data.toList=(s.data.toList.take k).drop (aI s b k).2:=aZ s _ _;have hcat:s.data.toList.take (aI s b k).2++(s.data.toList.take k).drop (aI s b k).2=s.data.toList.take k:=by
    have:=zm (aI s b k).2 (s.data.toList.take k)
    rw[List.take_take,Nat.min_eq_left h1]at this;exact this
   simp only
   by_cases hn:(aI s b k).1=[]
   .rw[hn,BT,hx,h2 hn,eI s k om,hsep]
    simp
   rw[vJ _ _ _ hn,h3 hn,hx,hcat,eI s k om,hsep]
  rw[fD s b k om e];exact ⟨om,h2,h3⟩
theorem vK(s:ByteArray)(b:Int)(hb0:0<=b)(hb1:b<=255):jn (zn b.toNat) (aA s b)=s.data.toList:=by
 obtain ⟨h1,h2,h3⟩:=zF s b hb0 hb1 s.size (zc _);have hx:=aZ s (aI s b s.size).2 s.size;rw[cS s s.size (zc _)]at hx;unfold aA
 by_cases hn:(aI s b s.size).1=[]
 .rw[hn,BT,hx,h2 hn];rfl
 rw[vJ _ _ _ hn,h3 hn,hx,zm]
theorem mY(s:ByteArray)(b:Int): ∀k,∀x∈(aI s b k).1,x.size<=s.size
 |0,x,hx=>by simp[aI]at hx
 |k+1,x,hx=>by
  rw[aI]at hx;split at hx
  .rcases zp.1 hx with h|h
   .exact mY s b k x h
   rw[zo.1 h,zk];omega
  exact mY s b k x hx
theorem kI(s:ByteArray)(b:Int): ∀x∈aA s b,x.size<=s.size:=by
 intro x hx;unfold aA at hx
 rcases zp.1 hx with h|h
 .exact mY s b _ x h
 rw[zo.1 h,zk];omega
theorem uF(l:List ByteArray)(k:Nat)(h:k<l.length):l.take (k+1)=l.take k++[l.getD k za]:=by
 rw[List.take_succ_eq_append_getElem h];simp[List.getD,h]
theorem mZ{a b:ByteArray}(h: ¬a=b):(a.toList==b.toList)=false:=by
 rw[beq_eq_false_iff_ne];intro e;apply h;apply zs;apply Array.ext';rw[<-zf,<-zf,e]
theorem xU{a b:ByteArray}(h:a=b):(a.toList==b.toList)=true:=by rw[h];exact beq_self_eq_true _
theorem aV{u:ByteArray}(h:u.size=0):u.toList.isEmpty=true:=by
 rw[zf,zh];simpa using h
theorem aX{u:ByteArray}(h:0<u.size):u.toList.isEmpty=false:=by
 cases he:u.toList.isEmpty with
 |false=>rfl
 |true=>
  rw[zf,zh]at he
  have:u.size=0:=by simpa using he
  omega
theorem rL{w:World}{B:Nat}{e:TypeId}{g n cap:Nat}{xs:List Value}(h:w.ownsRow B e 1 (.slice (some ⟨g,0,none⟩) n cap) n xs)(m:Nat)(hm:m<=n):
  w.ownsRow B e 1 (.slice (some ⟨g,0,none⟩) m cap) m (xs.take m):=by
 have hl:=h.1
 rcases h.2 with ⟨hh,_⟩|⟨g',cap',cur,hh,h1,h2,h3,h4,h5,h6⟩
 .cases hh
 cases hh
 refine ⟨by rw[zi];omega,.inr ⟨g,cap,cur,rfl,h1,h2,om,h4,h5,?_⟩⟩;rw[<-h6,List.take_take,Nat.mul_one,Nat.mul_one,Nat.min_eq_left hm]
theorem kX(fs:List ByteArray)(m:Nat):(aM fs).take m=aM (fs.take m):=by
 unfold aM;rw[List.map_take]
theorem lV{w:World}{B:Nat}{e:TypeId}{g n cap:Nat}{xs:List Value}(h:w.ownsRow B e 1 (.slice (some ⟨g,0,none⟩) n cap) n xs):n<=cap:=by
 rcases h.2 with ⟨h,_⟩|⟨_,_,_,h,_,_,h3,_⟩
 .cases h
 cases h;exact h3
def dP(fs:List ByteArray):List ByteArray:=if 1<fs.length/\(fs.getD (fs.length-1) za).size=0 then fs.take (fs.length-1)else fs
theorem xV{fs:List ByteArray}(h:0<fs.length):0<(dP fs).length:=by
 unfold dP;split
 .rw[zi];omega
 exact h
theorem NW(fs:List ByteArray):(dP fs).length<=fs.length:=by
 unfold dP;split
 .rw[zi];omega
 exact zc _
theorem zG{fs:List ByteArray}{n:Nat}(h: ∀x∈fs,x.size<=n): ∀x∈dP fs,x.size<=n:=by
 intro x hx;unfold dP at hx;split at hx
 .exact h x (List.mem_of_mem_take hx)
 exact h x hx
theorem gE(s:ByteArray)(hs:s.size<=1048576): ∀x∈aA s 46,x.size<=1048576:=fun x hx=>Nat.le_trans (kI s 46 x hx) hs
theorem zH(f0:List ByteArray)(B:Nat)(v:Value)(w:World)(hpos:0<f0.length)(hlen:f0.length<=1048577)(hown:w.ownsRow B 9 1 v f0.length (aM f0)):Calls prog 280 #[v] w fun e w'=> ∃v',e=.returned v'/\w.ownsRow B 9 1 v' (dP f0).length (aM (dP f0))/\w=w':=by
 rcases aQ hown with ⟨h,_⟩|⟨_,g,cap,rfl⟩
 .omega
 have hcap:=lV hown
 by_cases hd:1<f0.length/\(f0.getD (f0.length-1) za).size=0
 .have OV:=rL hown (f0.length-1) om
  rw[kX]at OV;have HD:Hid (dP f0=f0.take (f0.length-1)):=by show _=_;unfold dP;rw[if_pos hd]
  have HL:Hid ((f0.take (f0.length-1)).length=f0.length-1):=by show _=_;rw[zi];omega
  have hl1:0<(f0.length:Int)-1:=om;have hem:=aV hd.2;have hc:=bY hown (f0.length-1) om;have hi:((f0.length:Int)-1)=((f0.length-1:Nat):Int):=om;generalize f0.getD (f0.length-1) za=q at hc hem;have HOV:Hid (w.ownsRow B 9 1 (.slice (some ⟨g,0,none⟩) (f0.length-1) cap) (f0.length-1) (aM (f0.take (f0.length-1)))):=OV;clear OV hown hd;go_enter func280,ntmps280;go_wp2_with fail;go_ret;rw[HD.out,HL.out];exact ⟨_,rfl,HOV.out,rfl⟩
 have HD:Hid (dP f0=f0):=by show _=_;unfold dP;rw[if_neg hd]
 have HOV:Hid (w.ownsRow B 9 1 (.slice (some ⟨g,0,none⟩) f0.length cap) f0.length (aM f0)):=hown
 by_cases hl1:1<f0.length
 .have hl1':0<(f0.length:Int)-1:=om
  have hem:=aX (u:=f0.getD (f0.length-1) za) (by apply Nat.pos_of_ne_zero;intro h;exact hd ⟨hl1,h⟩);have hc:=bY hown (f0.length-1) om;have hi:((f0.length:Int)-1)=((f0.length-1:Nat):Int):=om;generalize f0.getD (f0.length-1) za=q at hc hem;clear hown hd;go_enter func280,ntmps280;go_wp2_with fail;go_ret;rw[HD.out];exact ⟨_,rfl,HOV.out,rfl⟩
 have hl1': ¬0<(f0.length:Int)-1:=om;clear hown hd;go_enter func280,ntmps280;go_wp2_with fail;go_ret;rw[HD.out];exact ⟨_,rfl,HOV.out,rfl⟩
def toL(x:ByteArray):List UInt8:=x.data.toList
theorem vL(s:ByteArray)(b:UInt8): ∀k,k<=s.size->(aI s (b.toNat:Int) k).2<=k/\spl b (s.data.toList.take k)=(aI s (b.toNat:Int) k).1.map toL++[(s.data.toList.take k).drop (aI s (b.toNat:Int) k).2]
 |0,_=>by simp[aI,spl]
 |k+1,hk=>by
  obtain ⟨h0,h1⟩:=vL s b k om;rw[eI s k om,Ci b h1 s[k]]
  by_cases e:s[k]=b
  .rw[if_pos e,gN s _ k om (by rw[e])]
   refine ⟨zc _,?_⟩;simp only[zq,List.map_cons,List.map_nil,toL,aZ];rw[List.drop_of_length_le (i:=k+1) (by simp;omega)];simp
  have e': ¬(s[k].toNat:Int)=(b.toNat:Int):=fun h=>e (zr.1 om)
  rw[if_neg e,fD s _ k om e'];refine ⟨om,?_⟩;rw[List.drop_append_of_le_length (by simp;omega)]
theorem rM(s:ByteArray)(b:UInt8):(aA s (b.toNat:Int)).map toL=spl b s.data.toList:=by
 obtain ⟨_,h⟩:=vL s b s.size (zc _);rw[cS s s.size (zc _)]at h;rw[h];unfold aA;rw[zq];simp only[List.map_cons,List.map_nil,toL,aZ,cS s s.size (zc _)]
theorem uG(s:ByteArray):(aA s 46).map toL=spl 46 s.data.toList:=rM s 46
theorem TR(s:ByteArray):(aA s 58).map toL=spl 58 s.data.toList:=rM s 58
def loA(s:ByteArray):Option Nat:=lo4 ((dP (aA s 46)).map toL)
theorem TS{s:ByteArray}{n:Nat}(h:loA s=some n):n<4294967296:=Gl h
theorem bX{a b:ByteArray}(h:toL a=toL b):a=b:=by
 apply zs;exact Array.toList_inj.1 h
theorem KW{s:ByteArray}{n:Nat}(hn:n<4294967296)(h:s.data.toList=hF n):loA s=some n:=by
 have h1:=uG s;rw[h,AM hn]at h1;have hd:dP (aA s 46)=aA s 46:=by
  unfold dP;rw[if_neg];rintro ⟨_,h2⟩;have hl:(aA s 46).length=4:=by
   have:=congrArg List.length h1
   simpa using this
  rw[hl]at h2;have h3:toL ((aA s 46).getD (4-1) za)=bP (n%256):=by
   have:=congrArg (fun l=>l.getD 3 []) h1
   simp only[List.getD_eq_getElem?_getD,List.getElem?_map]at this⊢;rw[List.getElem?_eq_getElem om]at this⊢;simpa using this
  have h4:=Ck (n%256) om;apply h4;rw[<-h3];exact zd (by simpa[toL] using h2)
 unfold loA;rw[hd,h1,<-AM hn];exact Cl hn
theorem ZJ{s:ByteArray}{n:Nat}(h:loA s=some n)(h2:hF n=s.data.toList):p4 s.data.toList=some n:=by
 rw[<-h2];exact Gk (TS h)
theorem K7{s:ByteArray}{n:Nat}(h:loA s=some n)(h2: ¬hF n=s.data.toList):p4 s.data.toList=none:=by
 cases hp:p4 s.data.toList with
 |none=>rfl
 |some m=>
  obtain ⟨h3,h4⟩:=nX hp;rw[KW h3 h4]at h
  cases h
  exact absurd h4.symm h2
theorem TU{s:ByteArray}(h:loA s=none):p4 s.data.toList=none:=by
 cases hp:p4 s.data.toList with
 |none=>rfl
 |some m=>
  obtain ⟨h3,h4⟩:=nX hp;rw[KW h3 h4]at h
  cases h
end
section
theorem gF(n:Int)(h0:0<=n)(h1:n<9223372036854775808):IntKind.i64.wrap n=n:=by
 simp[IntKind.wrap,IntKind.bits,IntKind.signed];omega
theorem NX(a b:Nat)(ha:a<9223372036854775808)(hb:b<9223372036854775808):bits .and .i64 (a:Int) (b:Int)=((a&&&b:Nat):Int):=by
 have hx:a&&&b<2^63:=Nat.and_lt_two_pow _ om;have h1:(BitVec.ofInt 64 (a:Int)).toNat=a:=by
  rw[BitVec.ofInt_natCast,BitVec.toNat_ofNat];exact zj om
 have h2:(BitVec.ofInt 64 (b:Int)).toNat=b:=by
  rw[BitVec.ofInt_natCast,BitVec.toNat_ofNat];exact zj om
 show IntKind.i64.wrap ((BitVec.ofInt 64 (a:Int)&&&BitVec.ofInt 64 (b:Int)).toNat:Int)=_;rw[BitVec.toNat_and,h1,h2,gF _ om om]
theorem TV(a b:Nat)(ha:a<9223372036854775808)(hb:b<9223372036854775808):bits .or .i64 (a:Int) (b:Int)=((a|||b:Nat):Int):=by
 have hx:a|||b<2^63:=Nat.or_lt_two_pow om om;have h1:(BitVec.ofInt 64 (a:Int)).toNat=a:=by
  rw[BitVec.ofInt_natCast,BitVec.toNat_ofNat];exact zj om
 have h2:(BitVec.ofInt 64 (b:Int)).toNat=b:=by
  rw[BitVec.ofInt_natCast,BitVec.toNat_ofNat];exact zj om
 show IntKind.i64.wrap ((BitVec.ofInt 64 (a:Int)|||BitVec.ofInt 64 (b:Int)).toNat:Int)=_;rw[BitVec.toNat_or,h1,h2,gF _ om om]
theorem sM(i:Nat)(m:Nat)(hm:m=2^i-1)(x:Int)(h0:0<=x)(h1:x<9223372036854775808)(hi:m<9223372036854775808):bits .and .i64 x (m:Int)=x%((2^i:Nat):Int):=by
 obtain ⟨a,rfl⟩:=zg h0;rw[NX a m om hi,hm,Nat.and_two_pow_sub_one_eq_mod];omega
theorem xW(x:Int)(h0:0<=x)(h1:x<9223372036854775808):bits .and .i64 x 63=x%64:=sM 6 63 rfl x h0 h1 om
theorem ZK(x:Int)(h0:0<=x)(h1:x<9223372036854775808):bits .and .i64 x 31=x%32:=sM 5 31 rfl x h0 h1 om
theorem ZL(x:Int)(h0:0<=x)(h1:x<9223372036854775808):bits .and .i64 x 15=x%16:=sM 4 15 rfl x h0 h1 om
theorem K8(x:Int)(h0:0<=x)(h1:x<9223372036854775808):bits .and .i64 x 7=x%8:=sM 3 7 rfl x h0 h1 om
theorem hG(i:Nat)(x y:Int)(hx0:0<=x)(hx1:x<9223372036854775808)(hx:x.toNat%2^i=0)(hy0:0<=y)(hy1:y<9223372036854775808)(hy:y.toNat<2^i):bits .or .i64 x y=x+y:=by
 obtain ⟨a,rfl⟩:=zg hx0;obtain ⟨b,rfl⟩:=zg hy0;rw[TV a b om om,nat_join i a b (by simpa using hx) (by simpa using hy)];omega
end
section
open Go.RowKit
theorem lW(s:ByteArray)(h:0<s.size):s.data.toList=s[0]::(s.extract 1 s.size).data.toList:=by
 rw[aZ,cS s s.size (zc _)];exact (List.drop_zero (l:=s.data.toList)).symm.trans (ze (by simpa using h))
theorem KX(s:ByteArray)(h:1<s.size):s.data.toList=s[0]::s[1]::(s.extract 2 s.size).data.toList:=by
 rw[aZ,cS s s.size (zc _)];have h1:s.data.toList.drop 0=s[0]::s.data.toList.drop (0+1):=ze (by simp;omega);have h2:s.data.toList.drop 1=s[1]::s.data.toList.drop (1+1):=ze (by simpa using h);rw[List.drop_zero]at h1;rw[show 0+1=1 from rfl,h2]at h1;exact h1
theorem lN{c d:UInt8}(h:c.toNat=d.toNat):c=d:=zr.1 h
theorem K9{c d:UInt8}(h: ¬c.toNat=d.toNat):c≠d:=fun e=>h (by rw[e])
theorem GX{s:ByteArray}(h:s.size=0):bZ s.data.toList=none:=by
 have:s.data.toList=[]:=zd (by simpa using h)
 rw[this];rfl
theorem WY{s:ByteArray}(h:1<s.size)(h0:s[0].toNat=48)(h1:s[1].toNat=120∨s[1].toNat=88):bZ s.data.toList=cU 16 8 (s.extract 2 s.size).data.toList:=by
 rw[KX s h,bZ,if_pos (lN h0),TQ,if_pos]
 rcases h1 with h1|h1
 .exact .inl (lN h1)
 exact .inr (lN h1)
theorem WZ{s:ByteArray}(h:0<s.size)(h0:s[0].toNat=48)(h1: ¬ ∃h1:1<s.size,s[1].toNat=120∨s[1].toNat=88):bZ s.data.toList=cU 8 11 (s.extract 1 s.size).data.toList:=by
 rw[lW s h,bZ,if_pos (lN h0)]
 by_cases h2:1<s.size
 .have e:=KX s h2
  rw[lW s h]at e;have e':(s.extract 1 s.size).data.toList=s[1]::(s.extract 2 s.size).data.toList:=(List.cons.inj e).2;rw[e',TQ,if_neg];rintro (e|e)
  .exact h1 ⟨h2,.inl (by rw[e];rfl)⟩
  exact h1 ⟨h2,.inr (by rw[e];rfl)⟩
 have:(s.extract 1 s.size).data.toList=[]:=zd (by simp;omega)
 rw[this];rfl
theorem NY{s:ByteArray}(h:0<s.size)(h0: ¬s[0].toNat=48):bZ s.data.toList=cU 10 10 s.data.toList:=by
 have e:=lW s h;rw[e,bZ,if_neg (K9 h0)]
theorem sO(s:ByteArray)(w:World)(hs:s.size<=1048576):Calls prog 169 #[L s] w fun e w'=>e=.returned (I J (eM (bZ s.data.toList)))/\w=w':=by
 by_cases h:s.size=0
 .have HL:Hid (bZ s.data.toList=none):=GX h
  have hem:=aV h;clear h;go_enter func169,ntmps169;go_wp2_with fail;go_ret;exact ⟨by rw[HL.out];rfl,rfl⟩
 have hpos:0<s.size:=om;have hem:=aX hpos;clear h;obtain ⟨d,hd⟩: ∃d:Nat,s[0].toNat=d:=⟨_,rfl⟩
 by_cases h0:d=48
 .subst h0
  by_cases h1: ∃h1:1<s.size,s[1].toNat=120∨s[1].toNat=88
  .obtain ⟨h1,hx⟩:=h1
   have HL:Hid (bZ s.data.toList=cU 16 8 (s.extract 2 s.size).data.toList):=WY h1 hd hx;have CN:Hid (∀W,CS 57 #[L (s.extract 2 s.size),I J 16,I J 8] W (I J (eM (cU 16 8 (s.extract 2 s.size).data.toList)))):=fun W=>kW (s.extract 2 s.size) 16 8 W om om
   generalize cU 16 8 (s.extract 2 s.size).data.toList=R at HL CN;have h1':1<(s.size:Int):=om;obtain ⟨c,hc⟩: ∃c:Nat,s[1].toNat=c:=⟨_,rfl⟩;rw[hc]at hx
   rcases hx with rfl|rfl
   .go_enter func169,ntmps169
    go_wp2_with fail;refine (CN.out _).mono ?_;rintro e w' ⟨rfl,rfl⟩;go_wp2_with fail;go_ret;exact ⟨by rw[HL.out];rfl,rfl⟩
   go_enter func169,ntmps169;go_wp2_with fail;refine (CN.out _).mono ?_;rintro e w' ⟨rfl,rfl⟩;go_wp2_with fail;go_ret;exact ⟨by rw[HL.out];rfl,rfl⟩
  have HL:Hid (bZ s.data.toList=cU 8 11 (s.extract 1 s.size).data.toList):=WZ hpos hd h1;have CN:Hid (∀W,CS 57 #[L (s.extract 1 s.size),I J 8,I J 11] W (I J (eM (cU 8 11 (s.extract 1 s.size).data.toList)))):=fun W=>kW (s.extract 1 s.size) 8 11 W om om
  generalize cU 8 11 (s.extract 1 s.size).data.toList=R at HL CN
  by_cases h2:1<s.size
  .obtain ⟨c,hc⟩: ∃c:Nat,s[1].toNat=c:=⟨_,rfl⟩
   have q1:((c:Int)==120)=false:=beq_eq_false_iff_ne.2 (fun e=>h1 ⟨h2,.inl om⟩);have q2:((c:Int)==88)=false:=beq_eq_false_iff_ne.2 (fun e=>h1 ⟨h2,.inr om⟩);have h2':1<(s.size:Int):=om;clear h1;go_enter func169,ntmps169;go_wp2_with fail;refine (CN.out _).mono ?_;rintro e w' ⟨rfl,rfl⟩;go_wp2_with fail;go_ret;exact ⟨by rw[HL.out];rfl,rfl⟩
  have h2': ¬1<(s.size:Int):=om;clear h1;go_enter func169,ntmps169;go_wp2_with fail;refine (CN.out _).mono ?_;rintro e w' ⟨rfl,rfl⟩;go_wp2_with fail;go_ret;exact ⟨by rw[HL.out];rfl,rfl⟩
 have HL:Hid (bZ s.data.toList=cU 10 10 s.data.toList):=NY hpos (by rw[hd];exact h0);have CN:Hid (∀W,CS 57 #[L s,I J 10,I J 10] W (I J (eM (cU 10 10 s.data.toList)))):=fun W=>kW s 10 10 W om om
 generalize cU 10 10 s.data.toList=R at HL CN;have q0:((d:Int)==48)=false:=beq_eq_false_iff_ne.2 om;clear h0
 by_cases h2:1<(s.size:Int)
 .go_enter func169,ntmps169
  go_wp2_with fail;refine (CN.out _).mono ?_;rintro e w' ⟨rfl,rfl⟩;go_wp2_with fail;go_ret;exact ⟨by rw[HL.out];rfl,rfl⟩
 go_enter func169,ntmps169;go_wp2_with fail;refine (CN.out _).mono ?_;rintro e w' ⟨rfl,rfl⟩;go_wp2_with fail;go_ret;exact ⟨by rw[HL.out];rfl,rfl⟩
theorem Cm(s:ByteArray)(c:UInt8):Lib.hasPrefix s.data.toList [48,c]=decide (∃h:1<s.size,s[0]=48/\s[1]=c):=by
 unfold Lib.hasPrefix
 by_cases h:1<s.size
 .rw[KX s h]
  generalize (s.extract 2 s.size).data.toList=r
  by_cases h1:s[0]=48/\s[1]=c
  .rw[decide_eq_true ⟨h,h1⟩,h1.1,h1.2]
   simp[zl]
  rw[decide_eq_false (fun ⟨_,e⟩=>h1 e)];simp only[zl,Bool.and_eq_false_iff,beq_eq_false_iff_ne]
  by_cases h2:s[0]=48
  .exact .inr (.inl fun e=>h1 ⟨h2,e.symm⟩)
  exact .inl fun e=>h2 e.symm
 rw[decide_eq_false (fun ⟨e,_⟩=>h e)]
 match hl:s.data.toList with
 |[]=>rfl
 |[a]=>simp[zl]
 |a::b::r=>
  have:s.data.toList.length=s.size:=by simp
  rw[hl]at this;simp at this;omega
def hxA(s:ByteArray):Bool:=decide (∃h:1<s.size,s[0].toNat=48/\(s[1].toNat=120∨s[1].toNat=88))
theorem vM(s:ByteArray)(w:World):Calls prog 283 #[L s] w fun e w'=>e=.returned (.bool (hxA s))/\w=w':=by
 have CP:Hid (∀W (c:UInt8) (b:Bool),(decide (∃h:1<s.size,s[0]=48/\s[1]=c))=b->CS 83 #[L s,L ⟨#[48,c]⟩] W (.bool b)):=fun W c b hb=>
  (strings_HasPrefix s ⟨#[48,c]⟩ W).mono fun e w' h=>⟨by rw[h.1,<-hb,<-Cm s c],h.2.symm⟩
 by_cases h1: ∃h:1<s.size,s[0]=48/\s[1]=120
 .have HP:Hid (decide (∃h:1<s.size,s[0]=48/\s[1]=120)=true):=decide_eq_true h1
  have HZ:Hid (hxA s=true):=decide_eq_true (by obtain ⟨a,b,c⟩:=h1;exact ⟨a,by rw[b];rfl,.inl (by rw[c];rfl)⟩);clear h1;go_enter func283,ntmps283;go_wp2_with fail;refine (CP.out _ _ _ HP.out).mono ?_;rintro e w' ⟨rfl,rfl⟩;go_wp2_with fail;go_ret;exact ⟨by rw[HZ.out];rfl,rfl⟩
 have HP:Hid (decide (∃h:1<s.size,s[0]=48/\s[1]=120)=false):=decide_eq_false h1;have HZ:Hid (hxA s=decide (∃h:1<s.size,s[0]=48/\s[1]=88)):=by
  show _=_;unfold hxA;refine decide_eq_decide.2 ⟨?_,?_⟩
  .rintro ⟨a,b,c|c⟩
   .exact absurd ⟨a,lN b,lN c⟩ h1
   exact ⟨a,lN b,lN c⟩
  rintro ⟨a,b,c⟩;exact ⟨a,by rw[b];rfl,.inr (by rw[c];rfl)⟩
 clear h1;generalize hb:decide (∃h:1<s.size,s[0]=48/\s[1]=88)=b at HZ;have HB:Hid (decide (∃h:1<s.size,s[0]=48/\s[1]=88)=b):=hb;clear hb;go_enter func283,ntmps283;go_wp2_with fail;refine (CP.out _ _ _ HP.out).mono ?_;rintro e w' ⟨rfl,rfl⟩;go_wp2_with fail;refine (CP.out _ _ _ HB.out).mono ?_;rintro e w' ⟨rfl,rfl⟩;go_wp2_with fail;go_ret;exact ⟨by rw[HZ.out];rfl,rfl⟩
theorem ZM(s:ByteArray)(w:World)(hs:s.size<=1048576):Calls prog 284 #[L s] w fun e w'=>e=.returned (eN (bZ s.data.toList))/\w=w':=by
 have CP:Hid (∀W (b:Bool),hxA s=b->CS 283 #[L s] W (.bool b)):=fun W b hb=>by
  rw[<-hb];exact vM s W
 by_cases h:s.size=0
 .have HL:Hid (bZ s.data.toList=none):=GX h
  have hem:=aV h;clear h;go_enter func284,ntmps284;go_wp2_with fail;go_ret2;exact ⟨by rw[HL.out];rfl,rfl⟩
 have hpos:0<s.size:=om;have hem:=aX hpos;clear h;obtain ⟨d,hd⟩: ∃d:Nat,s[0].toNat=d:=⟨_,rfl⟩
 by_cases h0:d=48
 .subst h0
  by_cases h1: ∃h1:1<s.size,s[1].toNat=120∨s[1].toNat=88
  .obtain ⟨h1,hx⟩:=h1
   have HL:Hid (bZ s.data.toList=cU 16 8 (s.extract 2 s.size).data.toList):=WY h1 hd hx;have CN:Hid (∀W,CS 211 #[L (s.extract 2 s.size),I J 16,I J 8] W (eN (cU 16 8 (s.extract 2 s.size).data.toList))):=fun W=>mW (s.extract 2 s.size) 16 8 W om om
   generalize cU 16 8 (s.extract 2 s.size).data.toList=R at HL CN;have HP:Hid (hxA s=true):=decide_eq_true ⟨h1,hd,hx⟩;clear hx;go_enter func284,ntmps284;go_wp2_with fail;refine (CP.out _ _ HP.out).mono ?_;rintro e w' ⟨rfl,rfl⟩;go_wp2_with fail;refine (CN.out _).mono ?_;rintro e w' ⟨rfl,rfl⟩
   cases R<;>(simp only[eN]at HL⊢;go_wp2_with fail;go_ret2;exact ⟨by rw[HL.out];rfl,rfl⟩)
  have HL:Hid (bZ s.data.toList=cU 8 11 (s.extract 1 s.size).data.toList):=WZ hpos hd h1;have CN:Hid (∀W,CS 211 #[L (s.extract 1 s.size),I J 8,I J 11] W (eN (cU 8 11 (s.extract 1 s.size).data.toList))):=fun W=>mW (s.extract 1 s.size) 8 11 W om om
  generalize cU 8 11 (s.extract 1 s.size).data.toList=R at HL CN;have HP:Hid (hxA s=false):=decide_eq_false (fun ⟨h,_,e⟩=>h1 ⟨h,e⟩);clear h1;go_enter func284,ntmps284;go_wp2_with fail;refine (CP.out _ _ HP.out).mono ?_;rintro e w' ⟨rfl,rfl⟩;go_wp2_with fail;refine (CN.out _).mono ?_;rintro e w' ⟨rfl,rfl⟩
  cases R<;>(simp only[eN]at HL⊢;go_wp2_with fail;go_ret2;exact ⟨by rw[HL.out];rfl,rfl⟩)
 have HL:Hid (bZ s.data.toList=cU 10 10 s.data.toList):=NY hpos (by rw[hd];exact h0);have CN:Hid (∀W,CS 211 #[L s,I J 10,I J 10] W (eN (cU 10 10 s.data.toList))):=fun W=>mW s 10 10 W om om
 generalize cU 10 10 s.data.toList=R at HL CN;have HP:Hid (hxA s=false):=decide_eq_false (fun ⟨h,e,_⟩=>h0 (by rw[<-hd,e]));have q0:((d:Int)==48)=false:=beq_eq_false_iff_ne.2 om;clear h0;go_enter func284,ntmps284;go_wp2_with fail;refine (CP.out _ _ HP.out).mono ?_;rintro e w' ⟨rfl,rfl⟩;go_wp2_with fail;refine (CN.out _).mono ?_;rintro e w' ⟨rfl,rfl⟩
 cases R<;>(simp only[eN]at HL⊢;go_wp2_with fail;go_ret2;exact ⟨by rw[HL.out];rfl,rfl⟩)
