/- UrlWay, TrimWalk, KeepSpec, UntilWalk, PctWalk, UnWalk, PutPct. -/
import Derived.Test.YtgcbaphbiaimoaaGreatDoorQF15
import Derived.Lib.IndexAny
import Derived.Lib.Replace
import Derived.Lib.LastIndexByte
import Derived.Deep.RegionLaw
set_option maxHeartbeats 2000000
namespace Go.Proofs.YtgcbaphbiaimoaaGreatDoor
open Go.Value renaming int->I,string->L,bool->H
open Go.IntKind renaming i64->J
open Go.Ending renaming returned->Y
open Go.Obj renaming cells->Z
open _root_.Go.RowKit.Below renaming refl->zc
open _root_.Bool renaming eq_iff_iff->zo
open _root_.List renaming contains_iff_mem->zi,count_append->zw,count_cons_self->zp,count_eq_zero->zt,dropWhile_cons->zk,drop_left'->zg,drop_of_length_le->zn,findIdx?_cons->zv,getD_eq_getElem?_getD->za,getElem?_drop->zu,getElem?_eq_getElem->zh,length_append->zf,length_cons->zm,length_reverse->zs,mem_of_mem_take->zq,takeWhile_cons->zd,take_left'->zx
open _root_.Nat renaming le_refl->ze,zero_le->zl
open _root_.UInt8 renaming ofNat->zj,toNat_inj->zy
open _root_.Go.World renaming cell?_alloc_at->zr
open _root_.Go.Proofs.Tryz
open _root_.Go.Proofs.YtgcbaphbiaimoaaGreatDoor.Tryz
section
open Go.RowKit
set_option linter.unusedVariables false
theorem oV(c:UInt8): ∀(n:Nat) (l:List UInt8),l.length<n->Lib.countFrom [c] n l=l.count c
 |0,l,h=>by omega
 |n+1,l,h=>by
  have hu:=yP c l;rw[Lib.countFrom,lF]
  cases hc:l.contains c with
  |false=>
   have:l.count c=0:=zt.2 (fun hm=>by rw[zi.2 hm]at hc;cases hc)
   rw[this];rfl
  |true=>
   have e:=hu.1 hc;have h0:(((upB c l).length:Int)== -1)=false:=beq_eq_false_iff_ne.2 om;simp only[if_true,h0];have e1:((upB c l).length:Int).toNat+[c].length=(upB c l++[c]).length:=by simp
   have e2:l.drop ((upB c l).length+1)=cZ c l:=by
    conv=>lhs;arg 2;rw[e]
    rw[show (upB c l).length+1=(upB c l++[c]).length by simp,show upB c l++c::cZ c l=(upB c l++[c])++cZ c l by simp,zg];rfl
   have hl:(cZ c l).length<n:=by
    have:=congrArg List.length e
    rw[zf,zm]at this;omega
   have e3:((upB c l).length:Int).toNat+[c].length=(upB c l).length+1:=by simp
   rw[e3,e2,oV c n _ hl]
   conv=>rhs;rw[e]
   rw[zw,zp,zt.2 hu.2.2];simp only[Bool.false_eq_true,if_false];omega
theorem UW{a b:UInt8}{l:List UInt8}(h:a∉l):(l.map fun x=>if x=a then b else x)=l:=by
 conv=>rhs;rw[<-List.map_id l]
 refine List.map_congr_left fun x hx=> ?_
 by_cases e:x=a
 .exact absurd (e▸hx) h
 rw[if_neg e];rfl
theorem wP(a b:UInt8): ∀(k:Nat) (l:List UInt8),l.count a<=k->Lib.replaceK [a] [b] k l=l.map fun x=>if x=a then b else x
 |0,l,h=>by
  rw[Lib.replaceK,UW (fun hm=>by have:=List.count_pos_iff.2 hm;omega)]
 |k+1,l,h=>by
  have hu:=yP a l
  cases hc:l.contains a with
  |false=>
   rw[Lib.replaceK,lF,hc,UW (fun hm=>by rw[zi.2 hm]at hc;cases hc)];rfl
  |true=>
   have e:=hu.1 hc;have hi:Lib.index l [a]=((upB a l).length:Int):=by rw[lF,hc];rfl
   rw[Lib.replaceK_hit [a] [b] k l _ hi];have e2:l.drop ((upB a l).length+[a].length)=cZ a l:=by
    conv=>lhs;arg 2;rw[e]
    rw[show (upB a l).length+[a].length=(upB a l++[a]).length by simp,show upB a l++a::cZ a l=(upB a l++[a])++cZ a l by simp,zg];rfl
   have e3:l.take (upB a l).length=upB a l:=by
    conv=>lhs;arg 2;rw[e]
    rw[zx];rfl
   have hk:(cZ a l).count a<=k:=by
    have:=congrArg (List.count a) e
    rw[zw,zp]at this;omega
   rw[e2,e3,wP a b k _ hk]
   conv=>rhs;rw[e]
   rw[List.map_append,List.map_cons,if_pos rfl,UW hu.2.2];simp
theorem QT{a b:UInt8}(h:a≠b)(l:List UInt8):Lib.replaceAll l [a] [b]=l.map fun x=>if x=a then b else x:=by
 unfold Lib.replaceAll Lib.replace Lib.replaceNum Lib.count;have h1:(([a]:List UInt8)==[b])=false:=by simp[h]
 rw[h1,if_neg de,if_pos (.inl de),oV a _ l om,wP a b _ l (ze _)]
theorem JI(chars:List UInt8)(p:UInt8->Bool)(hp: ∀c,chars.contains c= !p c): ∀l:List UInt8,Lib.indexAny l chars=if l.all p then-1 else ((l.takeWhile p).length:Int)
 |[]=>rfl
 |b::l=>by
  have ih:=JI chars p hp l;unfold Lib.indexAny;rw[hp b,List.all_cons,zd]
  cases hb:p b with
  |false=>rfl
  |true=>
   rw[ih]
   cases hl:l.all p
   .have h4:(((l.takeWhile p).length:Int)== -1)=false:=beq_eq_false_iff_ne.2 om
    simp[h4]
   simp
theorem UX(p:UInt8->Bool)(l:List UInt8):l.take (l.takeWhile p).length=l.takeWhile p/\l.drop (l.takeWhile p).length=l.dropWhile p:=by
 have e:=List.takeWhile_append_dropWhile (p:=p) (l:=l);constructor
 .conv=>lhs;arg 2;rw[<-e]
  rw[zx];rfl
 conv=>lhs;arg 2;rw[<-e]
 rw[zg];rfl
theorem JJ(p:UInt8->Bool): ∀l:List UInt8,l.all p=true->l.takeWhile p=l/\l.dropWhile p=[]
 |[],_=>⟨rfl,rfl⟩
 |b::l,h=>by
  rw[List.all_cons,Bool.and_eq_true]at h;have ih:=JJ p l h.2;rw[zd,zk,h.1];simp[ih.1,ih.2]
theorem wQ(p q:UInt8->Bool)(h: ∀c,q c=false->p c=true): ∀l:List UInt8,(l.filter p).takeWhile q=(l.takeWhile q).filter p
 |[]=>rfl
 |b::l=>by
  have ih:=wQ p q h l;rw[List.filter_cons,zd]
  cases hq:q b with
  |false=>rw[h b hq];simp[hq]
  |true=>
   cases hp:p b with
   |false=>simp[hp,ih]
   |true=>simp[hp,hq,ih]
def nU(c:UInt8):Bool:=c !=9&&c !=10&&c !=13
theorem E5(l:List UInt8):eC l=upB 35 ((Lib.trimS l kN).filter nU):=by
 unfold eC upB;rw[wQ nU (fun x=>x !=35) (fun c h=>by
  have:c=35:=by simpa using h
  subst this
  decide)]
 rfl
def tL(l:List UInt8):Int:=if aF l=[104,116,116,112]then 1 else if aF l=[104,116,116,112,115]then 2 else 0
theorem Ga(c:UInt8)(h:c≠58):dG c≠58:=by
 have key: ∀n:Nat,n<256->n≠58->dG (zj n)≠58:=by decide+kernel
 have h1:=key c.toNat c.toNat_lt (fun e=>h (zy.1 e));simpa using h1
theorem yQ:dG 58=58:=de
theorem U8{nm be:List UInt8}(hn:58∉nm):(((aF (nm++58::be)).take 5=pL)↔aF nm=[104,116,116,112])/\(((aF (nm++58::be)).take 6=kE)↔aF nm=[104,116,116,112,115]):=by
 have hm: ∀c∈nm,dG c≠58:=fun c hc=>Ga c (fun e=>hn (e▸hc))
 unfold aF pL kE
 match nm,hm with
 |[],_=>simp[yQ]
 |[a],hm=>simp[yQ]
 |[a,b],hm=>simp[yQ]
 |[a,b,c],hm=>simp[yQ]
 |[a,b,c,d],hm=>
  have:=hm d j2
  simp[yQ]
 |[a,b,c,d,e],hm=>
  have:=hm e j2
  simp[yQ,this]
 |a::b::c::d::e::f::r,hm=>
  have h1:=hm e j2;have h2:=hm f j2;simp[h1,h2]
theorem QU(be:List UInt8):(2<=be.length-(be.dropWhile slB).length)↔(1<be.length/\slB (be.getD 0 0)=true/\slB (be.getD 1 0)=true):=by
 have key: ∀l:List UInt8,(l.dropWhile slB).length<=l.length:=fun l=>(List.dropWhile_suffix slB).length_le
 match be with
 |[]=>simp
 |[a]=>
  have h1:([a].dropWhile slB).length<=1:=key [a];simp;omega
 |a::b::r=>
  have hr:=key r
  cases ha:slB a with
  |false=>simp[ha]
  |true=>
   cases hb:slB b with
   |false=>simp[ha,hb]
   |true=>simp[ha,hb];omega
theorem UY(t:List UInt8):eT t=if tL (upB 58 t)=0∨(cZ 58 t).length-((cZ 58 t).dropWhile slB).length<2 then none else some (tL (upB 58 t),cZ 58 t):=by
 have hu:=yP 58 t
 cases hc:t.contains 58 with
 |false=>
  rw[(hu.2.1 hc).2,if_pos (.inr j2)];have hn: ∀k,(58:UInt8)∉(aF t).take k:=fun k hm=>by
   have h1:=zq hm;unfold aF at h1;obtain ⟨c,h2,h3⟩:=List.mem_map.1 h1
   by_cases h4:c=58
   .subst h4;rw[zi.2 h2]at hc;cases hc
   exact Ga c h4 h3
  unfold eT;rw[if_neg (fun h=>hn 5 (by rw[h.2.1];decide)),if_neg (fun h=>hn 6 (by rw[h.2.1];decide))]
 |true=>
  have e:=hu.1 hc;obtain ⟨h5,h6⟩:=U8 (be:=cZ 58 t) hu.2.2;rw[<-e]at h5 h6;have hw:=QU (cZ 58 t);generalize upB 58 t=nm at*;generalize cZ 58 t=be at*;unfold eT tL;have hlen:(aF nm).length=nm.length:=by simp[aF]
  by_cases g5:aF nm=[104,116,116,112]
  .have hn4:nm.length=4:=by rw[<-hlen,g5];rfl
   have ht:t.length=5+be.length:=by rw[e,zf,zm,hn4];omega
   have hd:t.drop 5=be:=by rw[e,show 5=(nm++[58]).length by simp[hn4],show nm++58::be=(nm++[58])++be by simp,zg];rfl
   have hg: ∀i,t.getD (5+i) 0=be.getD i 0:=fun i=>by
    rw[<-hd,za,za,zu]
   have h0:=hg 0;have h1:=hg 1;simp only[Nat.add_zero]at h0 h1;have hne: ¬(aF t).take 6=kE:=fun h=>by
    have:=h6.1 h
    rw[g5]at this
    cases this
   rw[if_pos g5,h0,show t.getD 6 0=be.getD 1 0 from h1,ht,hd]
   by_cases hp:1<be.length/\slB (be.getD 0 0)=true/\slB (be.getD 1 0)=true
   .rw[if_pos ⟨om,h5.2 g5,hp.2⟩,if_neg (by have:=hw.2 hp;omega)]
   rw[if_neg (fun h=>hp ⟨om,h.2.2⟩),if_neg (fun h=>hne h.2.1),if_pos (.inr (by have:=mt hw.1 hp;omega))]
  rw[if_neg g5,if_neg (fun h=>g5 (h5.1 h.2.1))]
  by_cases g6:aF nm=[104,116,116,112,115]
  .have hn4:nm.length=5:=by rw[<-hlen,g6];rfl
   have ht:t.length=6+be.length:=by rw[e,zf,zm,hn4];omega
   have hd:t.drop 6=be:=by rw[e,show 6=(nm++[58]).length by simp[hn4],show nm++58::be=(nm++[58])++be by simp,zg];rfl
   have hg: ∀i,t.getD (6+i) 0=be.getD i 0:=fun i=>by
    rw[<-hd,za,za,zu]
   have h0:=hg 0;have h1:=hg 1;simp only[Nat.add_zero]at h0 h1;rw[if_pos g6,h0,show t.getD 7 0=be.getD 1 0 from h1,ht,hd]
   by_cases hp:1<be.length/\slB (be.getD 0 0)=true/\slB (be.getD 1 0)=true
   .rw[if_pos ⟨om,h6.2 g6,hp.2⟩,if_neg (by have:=hw.2 hp;omega)]
   rw[if_neg (fun h=>hp ⟨om,h.2.2⟩),if_pos (.inr (by have:=mt hw.1 hp;omega))]
  rw[if_neg g6,if_neg (fun h=>g6 (h6.1 h.2.1)),if_pos (.inl rfl)]
theorem EE(A:ByteArray): ∀k,k<=A.size->(Lib.lastIdx A 93 k= -1/\pM A.data.toList k=0)∨ ∃i,i<k/\Lib.lastIdx A 93 k=(i:Int)/\pM A.data.toList k=i/\A.data.toList[i]? =some 93
 |0,_=> .inl ⟨rfl,rfl⟩
 |k+1,h=>by
  have ih:=EE A k om;have hk:k<A.data.size:=h;have e1:A.data[k]! =A.data.toList.getD k 0:=by
   rw[getElem!_pos A.data k hk,za,zh (by simpa using hk)];simp
  have e2:A.data.toList[k]? =some (A.data.toList.getD k 0):=by
   rw[za,zh (by simpa using hk)];rfl
  unfold Lib.lastIdx pM;rw[e1]
  by_cases h9:A.data.toList.getD k 0=93
  .rw[if_pos h9,if_pos (by rw[h9];rfl)]
   exact .inr ⟨k,om,rfl,rfl,by rw[e2,h9]⟩
  rw[if_neg h9,if_neg (fun h=>h9 (zy.1 (by show _=93;omega)))]
  rcases ih with h|⟨i,h1,h2⟩
  .exact .inl h
  exact .inr ⟨i,om,h2⟩
def frB(A:ByteArray):Nat:=(Lib.lastIndexByte A 93+1).toNat
theorem Gb(A:ByteArray):frB A<=A.size/\Lib.lastIndexByte A 93+1=(frB A:Int):=by
 unfold frB Lib.lastIndexByte
 rcases EE A A.size (ze _)with ⟨h1,_⟩|⟨i,h1,h2,_⟩
 .rw[h1];exact ⟨by simp,de⟩
 rw[h2];exact ⟨om,om⟩
theorem Hc(A:ByteArray):yN A.data.toList=((A.data.toList.drop (frB A)).findIdx? fun c=>c==58).map fun k=>k+frB A:=by
 have hz:A.data.toList.length=A.size:=by simp
 unfold yN;rw[hz]
 rcases EE A A.size (ze _)with ⟨h1,h2⟩|⟨i,h1,h2,h3,h4⟩
 .have:frB A=0:=by unfold frB Lib.lastIndexByte;rw[h1];rfl
  rw[this,h2]
 have hf:frB A=i+1:=by unfold frB Lib.lastIndexByte;rw[h2];omega
 have hd:A.data.toList.drop i=93::A.data.toList.drop (i+1):=by
  have hi:i<A.data.toList.length:=om;rw[List.drop_eq_getElem_cons hi];rw[zh hi]at h4;injection h4 with h4;rw[h4]
 rw[h3,hf,hd,zv];have h9:((93:UInt8)==58)=false:=de;simp only[h9]
 cases (A.data.toList.drop (i+1)).findIdx? fun c=>c==58 with
 |none=>rfl
 |some j=>show some (j+1+i)=some (j+(i+1));congr 1;omega
theorem XV: ∀l:List UInt8,(l.findIdx? (fun c=>c==58)=none/\upB 58 l=l/\cZ 58 l=[])∨ ∃j,l.findIdx? (fun c=>c==58)=some j/\upB 58 l=l.take j/\cZ 58 l=l.drop (j+1)
 |[]=> .inl ⟨rfl,rfl,rfl⟩
 |b::l=>by
  have ih:=XV l;unfold upB cZ at ih⊢;rw[zv,zd,zk]
  by_cases h:b=58
  .subst h
   exact .inr ⟨0,by simp⟩
  have h1:(b==58)=false:=beq_eq_false_iff_ne.2 h;have h2:(b !=58)=true:=bne_iff_ne.2 h;rw[h1,h2]
  rcases ih with ⟨h3,h4,h5⟩|⟨j,h3,h4,h5⟩
  .rw[h3];exact .inl ⟨rfl,by simp[h4],by simpa using h5⟩
  rw[h3];exact .inr ⟨j+1,rfl,by simp[h4],by simpa using h5⟩
def hoB(A:ByteArray):List UInt8:=A.data.toList.take (frB A)++upB 58 (A.data.toList.drop (frB A))
def poB(A:ByteArray):List UInt8:=cZ 58 (A.data.toList.drop (frB A))
theorem Du{s:Int}(hs:s=1∨s=2)(A:ByteArray)(r:List UInt8):MJ s A.data.toList r=if 1<=eP s (poB A)/\eP s (poB A)<=65535 then tK s (eP s (poB A)) (hoB A) r else (5,fJ):=by
 unfold MJ;rw[Hc A];unfold poB hoB
 rcases XV (A.data.toList.drop (frB A))with ⟨h1,h2,h3⟩|⟨j,h1,h2,h3⟩
 .rw[h1,h2,h3,List.take_append_drop]
  have hd:1<=eP s []/\eP s []<=65535:=by rcases hs with rfl|rfl<;>decide
  rw[if_pos hd];rfl
 rw[h1,h2,h3];have e1:A.data.toList.take (frB A)++(A.data.toList.drop (frB A)).take j=A.data.toList.take (j+frB A):=by rw[Nat.add_comm j,List.take_add]
 have e2:(A.data.toList.drop (frB A)).drop (j+1)=A.data.toList.drop (j+frB A+1):=by rw[List.drop_drop];congr 1;omega
 rw[e1,e2];rfl
theorem QV{set:Int}(h:set=1∨set=2)(l:List UInt8)(hp:plL set l=l):okL set l=true:=by
 rw[<-hp]
 rcases h with rfl|rfl
 .exact NU 1 de l
 exact NU 2 de l
def UZ(a:ByteArray):Bool:=bR a&&(decide (plB 1 a=a)&&decide (cE a=a))
def VA(r:ByteArray)(q:Bool):Bool:=decide (plB 2 r=r)&&(q||decide (r.size=0))
theorem U9(set:Int)(a:ByteArray):(plB set a=a)↔plL set (toL a)=toL a:=⟨fun h=>congrArg toL h,fun h=>bX h⟩
theorem V0(u:UV):uOk u=(decide (cJ u.s≠0)&&(hOk u.h&&(decide (1<=u.p/\u.p<=65535)&&(UZ u.a&&VA u.r u.q)))):=by
 unfold uOk UZ VA;have e1:decide (plB 1 u.a=u.a)=decide (plL 1 (toL u.a)=toL u.a):=decide_eq_decide.2 (U9 1 u.a);have e2:decide (plB 2 u.r=u.r)=decide (plL 2 (toL u.r)=toL u.r):=decide_eq_decide.2 (U9 2 u.r);have e3:decide (cE u.a=u.a)=decide (toL (cE u.a)=toL u.a):=decide_eq_decide.2 ⟨fun h=>congrArg toL h,fun h=>bX h⟩;rw[e1,e2,e3]
 by_cases h1:plL 1 (toL u.a)=toL u.a
 .by_cases h2:plL 2 (toL u.r)=toL u.r
  .rw[QV (.inl rfl) _ h1,QV (.inr rfl) _ h2,decide_eq_true h1,decide_eq_true h2]
   simp only[Bool.and_true,Bool.true_and];simp only[Bool.and_assoc]
   congr 1;congr 1;congr 1;congr 1
   rw[Bool.and_comm]
  rw[decide_eq_false h2];simp
 rw[decide_eq_false h1];simp
theorem V1(x y:List UInt8):Lib.trimPrefix (x++y) x=y:=by
 unfold Lib.trimPrefix Lib.hasPrefix;rw[if_pos (List.isPrefixOf_iff_prefix.2 (List.prefix_append x y)),zg];rfl
end
section
open Go.RowKit
def gD:List UInt8:=[32,9,10,13]
theorem EF (l cs : List UInt8) : (Lib.trimS l cs).length <= l.length := by
 have a : ∀ m : List UInt8, (m.dropWhile (cs.contains ·)).length <= m.length := fun m => (List.dropWhile_sublist _).length_le
 unfold Lib.trimS Lib.trimLeftS Lib.trimRightS;refine Nat.le_trans (a _) ?_;rw [zs];refine Nat.le_trans (a _) ?_;rw [zs];exact ze _
theorem V3(s:ByteArray)(w:World)(hs:s.size<=1099511627776):Calls prog 148 #[L s] w fun e w'=>e=Y (L ⟨(Lib.trimS s.data.toList gD).toArray⟩)/\Below w.heap.size w w':=by
 have hle:(⟨(Lib.trimS s.data.toList gD).toArray⟩:ByteArray).size<=281474976710656:=by
  have:=EF s.data.toList gD
  have e:(⟨(Lib.trimS s.data.toList gD).toArray⟩:ByteArray).size=(Lib.trimS s.data.toList gD).length:=by simp[ByteArray.size]
  have e2:s.data.toList.length=s.size:=by simp
  omega
 have ct:=fun W=>Any.strings_Trim_laid lays160 kr s ⟨#[32,9,10,13]⟩ W om de (ascii_of_all de)
 have HT:Hid (∀W,CB 205 #[L s,L ⟨#[32,9,10,13]⟩] W (L ⟨(Lib.trimS s.data.toList gD).toArray⟩)):=ct;clear ct;go_enter func148,ntmps148;go_wp2_with fail;refine (HT.out _).mono ?_;rintro e wa ⟨rfl,ba⟩;go_wp2_with fail;refine j6 (jB _ _ hle) fun wb bb=>?_
 go_wp2;go_ret;exact ⟨rfl,ba.trans (bb.mono ba.size)⟩
def tM(c:Int):Bool:=decide (0<=c)&&eF c.toNat
theorem V4(c:Int):eW [45,46,95,126] c=(decide (0<=c)&&iZ c.toNat):=by
 rw[zo];simp[eW,iZ];omega
theorem Dv(c:Int):eW [33,36,38,39,40,41,42,43,44,59,61,58,64] c=(decide (0<=c)&&oY c.toNat):=by
 rw[zo];simp[eW,oY];omega
theorem Dw(c:Int):tM c=(kK c||decide (48<=c/\c<=57)||eW [45,46,95,126] c):=by
 rw[V4,zo];simp[tM,kK,eF,cD,fZ,iZ];omega
theorem EG(c:Int)(w:World):Calls prog 91 #[I J c] w fun e w'=>e=Y (H (tM c))/\w=w':=by
 have HV:Hid (tM c=(kK c||decide (48<=c/\c<=57)||eW [45,46,95,126] c)):=Dw c;have cl:=fun W=>UD c W
 have ca:=fun W=>xX ⟨#[45,46,95,126]⟩ c W de
 have CL:Hid (∀W,CS 125 #[I J c] W (H (kK c))):=cl;have CA:Hid (∀W,CS 55 #[L ⟨#[45,46,95,126]⟩,I J c] W (H (eW [45,46,95,126] c))):=ca;clear cl ca;generalize kK c=b1 at HV CL;generalize eW [45,46,95,126] c=b3 at HV CA
 cases b1 with
 |true=>
  go_enter func91,ntmps91;go_wp2_with fail;refine (CL.out _).mono ?_;rintro e w' ⟨rfl,rfl⟩;go_wp2;go_ret;exact ⟨aG (by rw[HV.out];rfl),rfl⟩
 |false=>
  by_cases h2:48<=c/\c<=57
  .rw[decide_eq_true h2]at HV
   have H2:Hid (48<=c/\c<=57):=h2;clear h2;go_enter func91,ntmps91;go_wp2_with fail;refine (CL.out _).mono ?_;rintro e w' ⟨rfl,rfl⟩;go_wp2_with fail;refine j5 (aJ _ _ _ _ H2.out.1 H2.out.2) ?_;go_wp2;go_ret;exact ⟨aG (by rw[HV.out];rfl),rfl⟩
  rw[decide_eq_false h2]at HV;have H2:Hid (c<48∨57<c):=by show _∨_;omega
  clear h2;go_enter func91,ntmps91;go_wp2_with fail;refine (CL.out _).mono ?_;rintro e w' ⟨rfl,rfl⟩;go_wp2_with fail;refine j5 (aN _ _ _ _ H2.out) ?_;go_wp2_with fail;refine (CA.out _).mono ?_;rintro e w' ⟨rfl,rfl⟩;go_wp2;go_ret;exact ⟨aG (by rw[HV.out];rfl),rfl⟩
theorem V5{set:Int}(h:1<=set/\set<=3)(c:Int):jU set c=(tM c||eW [33,36,38,39,40,41,42,43,44,59,61,58,64] c||(decide (c=47)&&decide (set≠3))||(decide (c=63)&&decide (set=2))):=by
 rw[Dv];unfold jU dV tM;rw[decide_eq_true h]
 by_cases h0:0<=c
 .have e1:decide (c.toNat=47)=decide (c=47):=decide_eq_decide.2 om
  have e2:decide (c.toNat=63)=decide (c=63):=decide_eq_decide.2 om;rw[e1,e2,decide_eq_true h0];rfl
 have e1:decide (c=47)=false:=decide_eq_false om;have e2:decide (c=63)=false:=decide_eq_false om;rw[e1,e2,decide_eq_false h0];rfl
theorem E6(set c:Int)(w:World):Calls prog 90 #[I J set,I J c] w fun e w'=>e=Y (H (jU set c))/\w=w':=by
 by_cases h:1<=set/\set<=3
 .have HV:Hid (jU set c=_):=V5 h c
  have H1:Hid (1<=set/\set<=3):=h;clear h;have cl:=fun W=>EG c W
  have ca:=fun W=>xX ⟨#[33,36,38,39,40,41,42,43,44,59,61,58,64]⟩ c W de
  have CL:Hid (∀W,CS 91 #[I J c] W (H (tM c))):=cl;have CA:Hid (∀W,CS 55 #[L ⟨#[33,36,38,39,40,41,42,43,44,59,61,58,64]⟩,I J c] W (H (eW [33,36,38,39,40,41,42,43,44,59,61,58,64] c))):=ca;clear cl ca;generalize tM c=b1 at HV CL;generalize eW [33,36,38,39,40,41,42,43,44,59,61,58,64] c=b2 at HV CA
  cases b1 with
  |true=>
   go_enter func90,ntmps90;go_wp2_with fail;refine j5 (aJ _ _ _ _ H1.out.1 H1.out.2) ?_;go_wp2_with fail;refine (CL.out _).mono ?_;rintro e w' ⟨rfl,rfl⟩;go_wp2;go_ret;exact ⟨aG (by rw[HV.out];rfl),rfl⟩
  |false=>
   cases b2 with
   |true=>
    go_enter func90,ntmps90;go_wp2_with fail;refine j5 (aJ _ _ _ _ H1.out.1 H1.out.2) ?_;go_wp2_with fail;refine (CL.out _).mono ?_;rintro e w' ⟨rfl,rfl⟩;go_wp2_with fail;refine (CA.out _).mono ?_;rintro e w' ⟨rfl,rfl⟩;go_wp2;go_ret;exact ⟨aG (by rw[HV.out];rfl),rfl⟩
   |false=>
    by_cases hs:c=47
    .subst hs
     by_cases he:set=3
     .subst he
      go_enter func90,ntmps90;go_wp2_with fail;refine j5 (aJ _ _ _ _ H1.out.1 H1.out.2) ?_;go_wp2_with fail;refine (CL.out _).mono ?_;rintro e w' ⟨rfl,rfl⟩;go_wp2_with fail;refine (CA.out _).mono ?_;rintro e w' ⟨rfl,rfl⟩;go_wp2;go_ret;exact ⟨aG (by first|(rw[HV.out];simp)|(rw[HV.out];decide)|decide),rfl⟩
     go_enter func90,ntmps90;go_wp2_with fail;refine j5 (aJ _ _ _ _ H1.out.1 H1.out.2) ?_;go_wp2_with fail;refine (CL.out _).mono ?_;rintro e w' ⟨rfl,rfl⟩;go_wp2_with fail;refine (CA.out _).mono ?_;rintro e w' ⟨rfl,rfl⟩;go_wp2;go_ret;exact ⟨aG (by first|(rw[HV.out];simp[he])|(rw[HV.out];decide)|decide),rfl⟩
    by_cases hq:c=63
    .subst hq
     by_cases he:set=2
     .subst he
      go_enter func90,ntmps90;go_wp2_with fail;refine j5 (aJ _ _ _ _ H1.out.1 H1.out.2) ?_;go_wp2_with fail;refine (CL.out _).mono ?_;rintro e w' ⟨rfl,rfl⟩;go_wp2_with fail;refine (CA.out _).mono ?_;rintro e w' ⟨rfl,rfl⟩;go_wp2;go_ret;exact ⟨aG (by first|(rw[HV.out];simp)|(rw[HV.out];decide)|decide),rfl⟩
     go_enter func90,ntmps90;go_wp2_with fail;refine j5 (aJ _ _ _ _ H1.out.1 H1.out.2) ?_;go_wp2_with fail;refine (CL.out _).mono ?_;rintro e w' ⟨rfl,rfl⟩;go_wp2_with fail;refine (CA.out _).mono ?_;rintro e w' ⟨rfl,rfl⟩;go_wp2;go_ret;exact ⟨aG (by first|(rw[HV.out];simp[he])|(rw[HV.out];decide)|decide),rfl⟩
    go_enter func90,ntmps90;go_wp2_with fail;refine j5 (aJ _ _ _ _ H1.out.1 H1.out.2) ?_;go_wp2_with fail;refine (CL.out _).mono ?_;rintro e w' ⟨rfl,rfl⟩;go_wp2_with fail;refine (CA.out _).mono ?_;rintro e w' ⟨rfl,rfl⟩;go_wp2;go_ret;exact ⟨aG (by first|(rw[HV.out];simp[hs,hq])|(rw[HV.out];decide)|decide),rfl⟩
 have HV:Hid (jU set c=false):=xY c h;have H1:Hid (set<1∨3<set):=by show _∨_;omega
 clear h;go_enter func90,ntmps90;go_wp2_with fail;refine j5 (aN _ _ _ _ H1.out) ?_;go_wp2;go_ret;exact ⟨aG (by rw[HV.out]),rfl⟩
theorem E7(p:UInt8->Bool)(m s:ByteArray)(w:World)(hm:m.size<=1000)(hp: ∀c:UInt8,eW m.data.toList (c.toNat:Int)= !p c)(hs:s.size<=16777216):Calls prog 54 #[L s,L m] w fun e w'=>e=Y (.tuple #[L ⟨(s.data.toList.takeWhile p).toArray⟩,L ⟨(s.data.toList.dropWhile p).toArray⟩])/\Below w.heap.size w w':=by
 go_enter func54,ntmps54;go_wp2
 go_loop[6] (fun i=> ∃k:Nat,k<=s.size/\i=I J k/\ ∀c∈s.data.toList.take k,p c=true) (fun i=>s.size-(intOf i).toNat)
 case atStart=>exact ⟨0,zl _,rfl,fun c hc=>by cases hc⟩
 obtain ⟨k,hk,rfl,hall⟩:=hrel;have HA:Hid (∀c∈s.data.toList.take k,p c=true):=hall;clear hall
 by_cases hlt:k<s.size
 .have hdr:=gC s k hlt
  have hpc:=hp s[k];obtain ⟨d,hd⟩: ∃d:Nat,s[k].toNat=d:=⟨_,rfl⟩;rw[hd]at hpc;have CA:Hid (∀W,CS 55 #[L m,I J (d:Int)] W (H (!p s[k]))):=fun W=>by
   have h:=xX m (d:Int) W om;rw[hpc]at h;exact h
  clear hpc;have hd2:(d:Int)<256:=by have:=s[k].toNat_lt;omega
  cases hb:p s[k]with
  |true=>
   have HN:Hid (∀c∈s.data.toList.take (k+1),p c=true):=fun c hc=>by
    rw[eI s k hlt]at hc
    rcases List.mem_append.1 hc with h|h
    .exact HA.out c h
    rw[List.mem_singleton.1 h];exact hb
   rw[hb]at CA;clear hb hdr;go_wp2_with fail;refine (CA.out _).mono ?_;rintro e w' ⟨rfl,rfl⟩;go_wp2_with fail;go_round
   case rel=>exact ⟨k+1,om,gn,HN.out⟩
   case measure=>exact j1
  |false=>
   obtain ⟨h1,h2⟩:=GW HA.out;rw[hdr,zd,hb,if_neg de,List.append_nil]at h1;rw[hdr,zk,hb,if_neg de,<-hdr]at h2;have H1:Hid (s.extract 0 k=⟨(s.data.toList.takeWhile p).toArray⟩):=by show _=_;rw[h1,<-mM,sL]
   have H2:Hid (s.extract k s.size=⟨(s.data.toList.dropWhile p).toArray⟩):=by show _=_;rw[h2,<-iL,sL]
   rw[hb]at CA;clear hb hdr h1 h2;go_wp2_with fail;refine (CA.out _).mono ?_;rintro e w' ⟨rfl,rfl⟩;go_wp2
   go_region
   all_goals (try go_wp2)
   all_goals go_ret2
   all_goals exact ⟨by rw[<-H1.out,<-H2.out];rfl,(zc _ _).drew⟩
 have HN:Hid (∀c∈s.data.toList,p c=true):=fun c hc=>HA.out c (by rw[cS s k om];exact hc)
 obtain ⟨h1,h2⟩:=GW (p:=p) (l:=s.data.toList) (k:=s.size) (fun c hc=>HN.out c (zq hc));rw[cS s s.size (ze _),zn j2]at h1;rw[zn j2]at h2;have h3:s.data.toList.takeWhile p=s.data.toList:=by rw[h1];simp
 have H1:Hid (s=⟨(s.data.toList.takeWhile p).toArray⟩):=by show _=_;rw[h3]
 have H2:Hid ((⟨#[]⟩:ByteArray)=⟨(s.data.toList.dropWhile p).toArray⟩):=by show _=_;rw[h2];rfl
 clear h1 h2 h3;go_wp2;go_ret2;exact ⟨by rw[<-H1.out,<-H2.out];rfl,zc _ _⟩
theorem oF{B:Nat}{w w':World}(h:Below B w w')(n:Nat):Below B w (w'.drewN n):=⟨h.os,h.tape,h.output,h.size,h.block⟩
theorem JK{s:ByteArray}{k:Nat}(h:k+2<s.size)(h1:s[k].toNat≠37):cM s k= -1:=by
 rw[mT s k h];unfold gX;rw[if_neg (fun h=>h1 h.1)]
theorem JL{s:ByteArray}{k d1 d2:Nat}(h:k+2<s.size)(h1:s[k].toNat=37)(e1:s[k+1].toNat=d1)(e2:s[k+2].toNat=d2):cM s k=if 0<=bE d1/\0<=bE d2 then bE d1*16+bE d2 else-1:=by
 rw[mT s k h,e1,e2];unfold gX;simp[h1]
theorem yR(P:Program)(t:TypeId)(h:P.underlying t=some .string)(s:ByteArray)(i:Int)(j d:Nat)(hj:j<s.size)(hi:i=(j:Int))(hd:s[j].toNat=d)(W:World):
  (Instr.index t (L s) (I J i)).run P W=.ok (.int .u8 (d:Int)) W:=by
 subst hi;rw[run_index_string W t s .i64 _ h,dif_pos om];simp[hd]
theorem JM(s:ByteArray)(k:Nat)(w:World)(hk:k<s.size)(hs:s.size<=1099511627776):Calls prog 156 #[L s,I J (k:Int)] w fun e w'=>e=Y (I J (cM s k))/\Below w.heap.size w w':=by
 have hki:(k:Int)<=1099511627776:=om;have hk0:0<=(k:Int):=om;have hw1:IntKind.i64.wrap ((k:Int)+1)=((k+1:Nat):Int):=by rw[IntKind.wrap_i64];omega
 have hw2:IntKind.i64.wrap ((k:Int)+2)=((k+2:Nat):Int):=by rw[IntKind.wrap_i64];omega
 by_cases h2:k+2<s.size
 .have h2i: ¬(s.size:Int)<=(k:Int)+2:=om
  by_cases h37:s[k].toNat=37
  .obtain ⟨d1,e1⟩: ∃d:Nat,s[k+1].toNat=d:=⟨_,rfl⟩
   obtain ⟨d2,e2⟩: ∃d:Nat,s[k+2].toNat=d:=⟨_,rfl⟩;have i1:=yR prog 9 underlying9 s ((k:Int)+1) (k+1) d1 om om e1;have i2:=yR prog 9 underlying9 s ((k:Int)+2) (k+2) d2 om om e2;have b1:d1<=255:=by have:=s[k+1].toNat_lt;omega
   have b2:d2<=255:=by have:=s[k+2].toNat_lt;omega
   have HV:Hid (cM s k=if 0<=bE d1/\0<=bE d2 then bE d1*16+bE d2 else-1):=JL h2 h37 e1 e2;have c1:=fun n:Nat=>Calls.quiet_of_same (w:=w) (n:=n) (v:=I J (bE d1)) ((AK d1 (w.drewN n) b1).mono fun _ _ ⟨a,b⟩=>⟨a,b.symm⟩)
   have c2:=fun n:Nat=>Calls.quiet_of_same (w:=w) (n:=n) (v:=I J (bE d2)) ((AK d2 (w.drewN n) b2).mono fun _ _ ⟨a,b⟩=>⟨a,b.symm⟩)
   have l1:=gM d1;have l2:=gM d2;generalize bE d1=x at HV c1 l1;generalize bE d2=y at HV c2 l2;have C1:Hid (∀n,Calls prog 215 #[.int .u8 (d1:Int)] (w.drewN n) fun e w''=>e=Y (I J x)/\ ∃m,w''=w.drewN m):=c1;have C2:Hid (∀n,Calls prog 215 #[.int .u8 (d2:Int)] (w.drewN n) fun e w''=>e=Y (I J y)/\ ∃m,w''=w.drewN m):=c2;clear c1 c2;obtain ⟨l1a,l1b⟩:=l1;obtain ⟨l2a,l2b⟩:=l2
   by_cases hx:0<=x
   .by_cases hy:0<=y
    .go_enter func156,ntmps156
     go_wp2_with fail
     go_quiet ((go_at_call 215;first|with_reducible exact C1.out _|with_reducible exact C2.out _))
     go_wp2;go_ret;exact ⟨aR (by rw[HV.out,if_pos ⟨hx,hy⟩]),oF (zc _ _) _⟩
    go_enter func156,ntmps156;go_wp2_with fail
    go_quiet ((go_at_call 215;first|with_reducible exact C1.out _|with_reducible exact C2.out _))
    go_wp2;go_ret;exact ⟨aR (by rw[HV.out,if_neg om]),oF (zc _ _) _⟩
   go_enter func156,ntmps156;go_wp2_with fail
   go_quiet ((go_at_call 215;first|with_reducible exact C1.out _|with_reducible exact C2.out _))
   go_wp2;go_ret;exact ⟨aR (by rw[HV.out,if_neg om]),oF (zc _ _) _⟩
  have HV:Hid (cM s k= -1):=JK h2 h37;obtain ⟨d0,e0⟩: ∃d:Nat,s[k].toNat=d:=⟨_,rfl⟩;have hne: ¬(d0:Int)=37:=om;clear h37;go_enter func156,ntmps156;go_wp2;go_ret;exact ⟨aR (by rw[HV.out]),zc _ _⟩
 have h2i:(s.size:Int)<=(k:Int)+2:=om;have HV:Hid (cM s k= -1):=pA s k om;go_enter func156,ntmps156;go_wp2;go_ret;exact ⟨aR (by rw[HV.out]),zc _ _⟩
theorem QW(s:ByteArray)(k:Nat)(w:World)(hk:k<s.size)(hs:s.size<=1099511627776):Calls prog 89 #[L s,I J (k:Int)] w fun e w'=>e=Y (I J (cM s k))/\Below w.heap.size w w':=by
 have hki:(k:Int)<=1099511627776:=om;have hk0:0<=(k:Int):=om;have hw1:IntKind.i64.wrap ((k:Int)+1)=((k+1:Nat):Int):=by rw[IntKind.wrap_i64];omega
 have hw2:IntKind.i64.wrap ((k:Int)+2)=((k+2:Nat):Int):=by rw[IntKind.wrap_i64];omega
 by_cases h2:k+2<s.size
 .have h2i: ¬(s.size:Int)<=(k:Int)+2:=om
  by_cases h37:s[k].toNat=37
  .obtain ⟨d1,e1⟩: ∃d:Nat,s[k+1].toNat=d:=⟨_,rfl⟩
   obtain ⟨d2,e2⟩: ∃d:Nat,s[k+2].toNat=d:=⟨_,rfl⟩;have i1:=yR prog 9 underlying9 s ((k:Int)+1) (k+1) d1 om om e1;have i2:=yR prog 9 underlying9 s ((k:Int)+2) (k+2) d2 om om e2;have b1:d1<=255:=by have:=s[k+1].toNat_lt;omega
   have b2:d2<=255:=by have:=s[k+2].toNat_lt;omega
   have HV:Hid (cM s k=if 0<=bE d1/\0<=bE d2 then bE d1*16+bE d2 else-1):=JL h2 h37 e1 e2;have c1:=fun n:Nat=>Calls.quiet_of_same (w:=w) (n:=n) (v:=I J (bE d1)) ((sI d1 (w.drewN n) om).mono fun _ _ ⟨a,b⟩=>⟨a,b.symm⟩)
   have c2:=fun n:Nat=>Calls.quiet_of_same (w:=w) (n:=n) (v:=I J (bE d2)) ((sI d2 (w.drewN n) om).mono fun _ _ ⟨a,b⟩=>⟨a,b.symm⟩)
   have q1:=fun W:World=>sI d1 W om
   have q2:=fun W:World=>sI d2 W om
   have l1:=gM d1;have l2:=gM d2;generalize bE d1=x at HV c1 l1 q1;generalize bE d2=y at HV c2 l2 q2;have C1:Hid (∀n,Calls prog 113 #[.int .u8 (d1:Int)] (w.drewN n) fun e w''=>e=Y (I J x)/\ ∃m,w''=w.drewN m):=c1;have C2:Hid (∀n,Calls prog 113 #[.int .u8 (d2:Int)] (w.drewN n) fun e w''=>e=Y (I J y)/\ ∃m,w''=w.drewN m):=c2;have D1:Hid (∀W,CS 113 #[.int .u8 (d1:Int)] W (I J x)):=q1;have D2:Hid (∀W,CS 113 #[.int .u8 (d2:Int)] W (I J y)):=q2;clear c1 c2 q1 q2;obtain ⟨l1a,l1b⟩:=l1;obtain ⟨l2a,l2b⟩:=l2
   by_cases hx:0<=x
   .by_cases hy:0<=y
    .go_enter func89,ntmps89
     go_wp2_with fail;refine (D1.out _).mono ?_;rintro e w' ⟨rfl,rfl⟩;go_wp2_with fail;refine (D2.out _).mono ?_;rintro e w' ⟨rfl,rfl⟩;go_wp2_with fail
     go_quiet ((go_at_call 113;first|with_reducible exact C1.out _|with_reducible exact C2.out _))
     go_wp2;go_ret;exact ⟨aR (by rw[HV.out,if_pos ⟨hx,hy⟩]),oF (zc _ _) _⟩
    go_enter func89,ntmps89;go_wp2_with fail;refine (D1.out _).mono ?_;rintro e w' ⟨rfl,rfl⟩;go_wp2_with fail;refine (D2.out _).mono ?_;rintro e w' ⟨rfl,rfl⟩;go_wp2;go_ret;exact ⟨aR (by rw[HV.out,if_neg om]),zc _ _⟩
   go_enter func89,ntmps89;go_wp2_with fail;refine (D1.out _).mono ?_;rintro e w' ⟨rfl,rfl⟩;go_wp2;go_ret;exact ⟨aR (by rw[HV.out,if_neg om]),zc _ _⟩
  have HV:Hid (cM s k= -1):=JK h2 h37;obtain ⟨d0,e0⟩: ∃d:Nat,s[k].toNat=d:=⟨_,rfl⟩;have hne: ¬(d0:Int)=37:=om;clear h37;go_enter func89,ntmps89;go_wp2;go_ret;exact ⟨aR (by rw[HV.out]),zc _ _⟩
 have h2i:(s.size:Int)<=(k:Int)+2:=om;have HV:Hid (cM s k= -1):=pA s k om;go_enter func89,ntmps89;go_wp2;go_ret;exact ⟨aR (by rw[HV.out]),zc _ _⟩
theorem jI{w1:World}{B:Nat}{e:TypeId}{v:Value}{o:List UInt8}{x:Int}(c:UInt8)(hx:x=(c.toNat:Int))
  (h:w1.ownsRow B e 1 v (o.length+1) (aD o++ #[Value.int .u8 x].toList)):w1.ownsRow B e 1 v (o++[c]).length (aD (o++[c])):=by
 subst hx;rw[kR,zf];exact h
theorem jJ(x:Int): ∀u∈ #[Value.int .u8 x].toList,u.oneCell'=true:=by
 intro u hu;simp at hu;subst hu;rfl
theorem JN{c:Int}(h0:0<=c)(h1:c<=255):c=((zj c.toNat).toNat:Int):=by
 have:(zj c.toNat).toNat=c.toNat%256:=by simp
 omega
theorem V6(s:ByteArray)(k:Nat)(o:List UInt8)(h:0<=cM s k)(he:o++unL (s.data.toList.drop k)=unL s.data.toList):
  (o++[zj (cM s k).toNat])++unL (s.data.toList.drop (k+3))=unL s.data.toList:=by
 rw[<-he];unfold unL;rw[AJ _ _ s k h];simp
theorem XW(s:ByteArray)(k:Nat)(hk:k<s.size)(o:List UInt8)(h:cM s k<0)(he:o++unL (s.data.toList.drop k)=unL s.data.toList):
  (o++[s[k]])++unL (s.data.toList.drop (k+1))=unL s.data.toList:=by
 rw[<-he];unfold unL;rw[vF _ _ s k hk h];simp
theorem V7(s:ByteArray)(k:Nat)(hk:s.size<=k)(o:List UInt8)(he:o++unL (s.data.toList.drop k)=unL s.data.toList):o=unL s.data.toList:=by
 rw[<-he];unfold unL;rw[WQ _ _ s k hk];simp
theorem GH(s:ByteArray)(w:World)(hs:s.size<=1099511627776):Calls prog 115 #[L s] w fun e w'=>e=Y (L ⟨(unL s.data.toList).toArray⟩)/\Below w.heap.size w w':=by
 go_enter func115,ntmps115;go_wp2
 go_loopw[3,4] (fun v i wr=> ∃(k:Nat) (o:List UInt8),k<=s.size/\i=I J k/\o.length<=k/\wr.ownsRow w.heap.size 5 1 v o.length (aD o)/\o++unL (s.data.toList.drop k)=unL s.data.toList/\Below w.heap.size w wr)
  (fun _ i _=>s.size-(intOf i).toNat)
 case atStart=>exact ⟨0,[],zl _,rfl,zl _,World.ownsRow_lit w #[] 0 (ze _) de rfl,rfl,(zc _ _).alloc (ze _) _⟩
 obtain ⟨k,o,hk,rfl,hol,hown,he,hbel⟩:=hrel;have HE:Hid (o++unL (s.data.toList.drop k)=unL s.data.toList):=he;clear he;have hsz:=hbel.size
 by_cases hlt:k<s.size
 .have hct:=fun W=>QW s k W hlt hs
  have hcl:=rJ s k
  by_cases hc:0<=cM s k
  .have HN:Hid ((o++[zj (cM s k).toNat])++unL (s.data.toList.drop (k+3))=unL s.data.toList):=V6 s k o hc HE.out
   have hk3:=pB hc;generalize cM s k=c at hct hcl hc HN;obtain ⟨hc0,hc1⟩:=hcl;have HC:Hid (∀W,CB 89 #[L s,I J (k:Int)] W (I J c)):=hct;clear hct;go_wp2_with fail;refine (HC.out _).mono ?_;rintro e wb ⟨rfl,bb⟩;have ob:=aH hown bb;have hsb:=bb.size;go_wp2_with (at_builtin;refine aB _ rfl _ _ 22 rfl w.heap.size 5 (.int .u8 0) 1 underlying22 info5 rfl _ _ _ rfl ob #[.int .u8 c] 1 rfl rfl (jJ _) om (by unfold maxLen;omega) om ?_);intro v' w1 hown' hb1;have R:=jI _ (JN hc hc1) hown';have B1:Below w.heap.size w w1:=(hbel.trans (bb.mono hsz)).trans hb1;clear hown' hb1 hown hbel ob bb;go_wp2;go_roundw
   case rel=>exact ⟨k+3,_,om,gn,by simp;omega,R,HN.out,B1⟩
   case measure=>exact j1
  have HN:Hid ((o++[s[k]])++unL (s.data.toList.drop (k+1))=unL s.data.toList):=XW s k hlt o om HE.out;generalize cM s k=c at hct hcl hc;obtain ⟨hc0,hc1⟩:=hcl;have HC:Hid (∀W,CB 89 #[L s,I J (k:Int)] W (I J c)):=hct;clear hct;go_wp2_with fail;refine (HC.out _).mono ?_;rintro e wb ⟨rfl,bb⟩;have ob:=aH hown bb;have hsb:=bb.size;go_wp2_with (at_builtin;refine aB _ rfl _ _ 22 rfl w.heap.size 5 (.int .u8 0) 1 underlying22 info5 rfl _ _ _ rfl ob #[.int .u8 (s[k].toNat:Int)] 1 rfl rfl (jJ _) om (by unfold maxLen;omega) om ?_);intro v' w1 hown' hb1;have R:=jI s[k] rfl hown';have B1:Below w.heap.size w w1:=(hbel.trans (bb.mono hsz)).trans hb1;clear hown' hb1 hown hbel ob bb;go_wp2;go_roundw
  case rel=>exact ⟨k+1,_,om,gn,by simp;omega,R,HN.out,B1⟩
  case measure=>exact j1
 have HO:=bG (P:=prog) wr 22 9 5 underlying22 underlying5 underlying9 hown;go_wp2;go_ret;exact ⟨sH (V7 s k om o HE.out),hbel⟩
theorem tN(s:ByteArray)(w:World)(hs:s.size<=1099511627776):Calls prog 186 #[L s] w fun e w'=>e=Y (L ⟨(unL s.data.toList).toArray⟩)/\Below w.heap.size w w':=by
 obtain ⟨i0,hi,hz0,hz1,hz2⟩:=info_parts info5;go_enter func186,ntmps186;go_wp2_with (at_make;refine wpList_make_own _ rfl _ _ 22 rfl w.heap.size 5 i0 (.int .u8 0) 1 underlying22 hi hz0 hz1 _ _ _ s.size rfl rfl om (by rw[hz2];omega) (by unfold maxLen;omega) (ze _) ?_);intro wm hmo hgm;have Bm:Below w.heap.size w wm:=(zc _ _).grown hgm (ze _) (fun k hk=>by cases hk);clear hgm;go_wp2
 go_loopw[3,4] (fun v i wr=> ∃(k:Nat) (o:List UInt8),k<=s.size/\i=I J k/\o.length<=k/\wr.ownsRow w.heap.size 5 1 v o.length (aD o)/\o++unL (s.data.toList.drop k)=unL s.data.toList/\Below w.heap.size w wr)
  (fun _ i _=>s.size-(intOf i).toNat)
 case atStart=>exact ⟨0,[],zl _,rfl,zl _,hmo,rfl,Bm⟩
 clear hmo Bm hi hz0 hz1 hz2;obtain ⟨k,o,hk,rfl,hol,hown,he,hbel⟩:=hrel;have HE:Hid (o++unL (s.data.toList.drop k)=unL s.data.toList):=he;clear he;have hsz:=hbel.size
 by_cases hlt:k<s.size
 .have hct:=fun W=>JM s k W hlt hs
  have hcl:=rJ s k
  by_cases hc:0<=cM s k
  .have HN:Hid ((o++[zj (cM s k).toNat])++unL (s.data.toList.drop (k+3))=unL s.data.toList):=V6 s k o hc HE.out
   have hk3:=pB hc;generalize cM s k=c at hct hcl hc HN;obtain ⟨hc0,hc1⟩:=hcl;have HC:Hid (∀W,CB 156 #[L s,I J (k:Int)] W (I J c)):=hct;clear hct;go_wp2_with fail;refine (HC.out _).mono ?_;rintro e wb ⟨rfl,bb⟩;have ob:=aH hown bb;have hsb:=bb.size;go_wp2_with (at_builtin;refine aB _ rfl _ _ 22 rfl w.heap.size 5 (.int .u8 0) 1 underlying22 info5 rfl _ _ _ rfl ob #[.int .u8 c] 1 rfl rfl (jJ _) om (by unfold maxLen;omega) om ?_);intro v' w1 hown' hb1;have R:=jI _ (JN hc hc1) hown';have B1:Below w.heap.size w w1:=(hbel.trans (bb.mono hsz)).trans hb1;clear hown' hb1 hown hbel ob bb;go_wp2;go_roundw
   case rel=>exact ⟨k+3,_,om,gn,by simp;omega,R,HN.out,B1⟩
   case measure=>exact j1
  have HN:Hid ((o++[s[k]])++unL (s.data.toList.drop (k+1))=unL s.data.toList):=XW s k hlt o om HE.out;generalize cM s k=c at hct hcl hc;obtain ⟨hc0,hc1⟩:=hcl;have HC:Hid (∀W,CB 156 #[L s,I J (k:Int)] W (I J c)):=hct;clear hct;go_wp2_with fail;refine (HC.out _).mono ?_;rintro e wb ⟨rfl,bb⟩;have ob:=aH hown bb;have hsb:=bb.size;go_wp2_with (at_builtin;refine aB _ rfl _ _ 22 rfl w.heap.size 5 (.int .u8 0) 1 underlying22 info5 rfl _ _ _ rfl ob #[.int .u8 (s[k].toNat:Int)] 1 rfl rfl (jJ _) om (by unfold maxLen;omega) om ?_);intro v' w1 hown' hb1;have R:=jI s[k] rfl hown';have B1:Below w.heap.size w w1:=(hbel.trans (bb.mono hsz)).trans hb1;clear hown' hb1 hown hbel ob bb;go_wp2;go_roundw
  case rel=>exact ⟨k+1,_,om,gn,by simp;omega,R,HN.out,B1⟩
  case measure=>exact j1
 have HO:=bG (P:=prog) wr 22 9 5 underlying22 underlying5 underlying9 hown;go_wp2;go_ret;exact ⟨sH (V7 s k om o HE.out),hbel⟩
theorem pN{P:Program}{w:World}{ops:Array Oper}{o:Oper}{a:Act}{K:Act->World->Prop}{Q:Exit->Act->World->Prop}{E:Prop}(hg:o.guard=none)(s x:Operand)(t:TypeId)
  (hop:o.op=.call {callee:=.builtin .append,args:= #[s,x],argTypes:= #[t,t]})
  (B:Nat) (e:TypeId) (z:Value) (bytes:Nat) (ht:P.underlying t=some (.slice e)) (hinfo:(P.info? e).map (fun i=>(i.zero,i.size,i.bytes))=some (some z,1,bytes)) (hz:z.cells.size=1)
  (v:Value) (n:Nat) (xs:List Value) (hs:a.eval s=v) (hown:w.ownsRow B e 1 v n xs)
  (ad:Addr) (m c:Nat) (news:List Value) (hx:a.eval x=.slice (some ad) m c) (hl:news.length=m*1) (hnews: ∀j u,news[j]? =some u->w.cell? (ad.add j)=some u) (h1: ∀u∈news,u.oneCell'=true)
  (h63:n+m<=maxLen) (hbytes:(n+m)*bytes<=140737488355328) (hbase:B<=w.heap.size)
  (hK: ∀v' w',w'.ownsRow B e 1 v' (n+m) (xs++news)->w.grownBy w' v.ownBlock->K (a.put o.dst v') w'):
  if Region.wanted o (yielded ops a.tmps)=true then Oper.wp P o a w K Q else E:=by
 obtain ⟨i0,hi,hz0,hz1,hz2⟩:=info_parts hinfo;have hw:Region.wanted o (yielded ops a.tmps)=true:=by simp[Region.wanted,hg]
 rw[if_pos hw];exact wp_append_own w s x t hop B e i0 z 1 bytes ht hi hz0 hz1 hz2 hz de v n xs hs hown ad m c news hx hl hnews h1 h63 hbytes hbase fun v' w' a b _=>hK v' w' a b
def V8:ByteArray:=⟨#[48,49,50,51,52,53,54,55,56,57,65,66,67,68,69,70]⟩
theorem Hd: ∀n,(h:n<16)->(V8[n]'h).toNat=(oS n).toNat:=by decide+kernel
theorem BF(P:Program)(t:TypeId)(h:P.underlying t=some .string)(k:IntKind)(n:Nat)(hn:n<16)(i:Int)(hi:i=(n:Int))(W:World):
  (Instr.index t (L ⟨#[48,49,50,51,52,53,54,55,56,57,65,66,67,68,69,70]⟩) (.int k i)).run P W=.ok (.int .u8 ((oS n).toNat:Int)) W:=by
 subst hi;have hs:(⟨#[48,49,50,51,52,53,54,55,56,57,65,66,67,68,69,70]⟩:ByteArray).size=16:=rfl;rw[run_index_string W t _ k _ h,dif_pos om];simp only[Int.toNat_natCast];exact congrArg (fun d:Nat=>Result.ok (Value.int .u8 (d:Int)) W) (Hd n hn)
theorem JO: ∀n:Nat,n<256->bits .and .u8 (n:Int) 15=(n:Int)%16:=by decide+kernel
theorem XX{w1:World}{B:Nat}{e:TypeId}{v:Value}{o:List UInt8}(c:UInt8){x y:Int}(hx:x=((oS (c.toNat/16)).toNat:Int))(hy:y=((oS (c.toNat%16)).toNat:Int))
  (h:w1.ownsRow B e 1 v (o.length+3) (aD o++[Value.int .u8 37,.int .u8 x,.int .u8 y])):w1.ownsRow B e 1 v (o++oZ c).length (aD (o++oZ c)):=by
 subst hx hy;rw[fC,zf];exact h
theorem tP(c:UInt8)(d:Nat)(hd:c.toNat=d)(v:Value)(o:List UInt8)(B:Nat)(w:World)(hown:w.ownsRow B 5 1 v o.length (aD o))(hB:B<=w.heap.size)(hl:o.length<=1099511627776):Calls prog 159 #[v,.int .u8 (d:Int)] w fun e w'=> ∃v',e=Y v'/\w'.ownsRow B 5 1 v' (o++oZ c).length (aD (o++oZ c))/\Below B w w':=by
 have hd1:(d:Int)<=255:=by have:=c.toNat_lt;omega
 have hd0:0<=(d:Int):=om;have hb:=JO d om;have i1:=BF prog 9 underlying9 .u8 (d/16) om ((d:Int)/16) om;have i2:=BF prog 9 underlying9 .u8 (d%16) om ((d:Int)%16) om;obtain ⟨p,hp⟩: ∃p:Int,((oS (d/16)).toNat:Int)=p:=⟨_,rfl⟩;obtain ⟨q,hq⟩: ∃q:Int,((oS (d%16)).toNat:Int)=q:=⟨_,rfl⟩;rw[hp]at i1;rw[hq]at i2;have HP:Hid (p=((oS (c.toNat/16)).toNat:Int)):=by show _=_;rw[hd,hp]
 have HQ:Hid (q=((oS (c.toNat%16)).toNat:Int)):=by show _=_;rw[hd,hq]
 clear hp hq;have HA:Hid ((w.alloc (Z #[.int .u8 37,.int .u8 p,.int .u8 q] 5)).drew.ownsRow B 5 1 v o.length (aD o)):=hown.alloc _;have HN:Hid (∀j u,[Value.int .u8 37,.int .u8 p,.int .u8 q][j]? =some u->(w.alloc (Z #[.int .u8 37,.int .u8 p,.int .u8 q] 5)).drew.cell? ((⟨w.heap.size,0,none⟩:Addr).add j)=some u):=by
  intro j u hj;show (w.alloc (Z #[.int .u8 37,.int .u8 p,.int .u8 q] 5)).cell? _=_;rw[Addr.add_lit,Nat.zero_add,zr _ _ _ _ rfl];simpa using hj
 have H1:Hid (∀u∈[Value.int .u8 37,.int .u8 p,.int .u8 q],u.oneCell'=true):=by
  intro u hu;simp at hu
  rcases hu with rfl|rfl|rfl<;>rfl
 have HB:Hid (∀w1:World,(w.alloc (Z #[.int .u8 37,.int .u8 p,.int .u8 q] 5)).drew.grownBy w1 v.ownBlock->Below B w w1):=fun w1 hg=>
  (((zc B w).alloc hB _).drew).grown hg (by simp;omega) (fun k hk=>(hown.lt k hk).1)
 have HL:Hid (B<=(w.alloc (Z #[.int .u8 37,.int .u8 p,.int .u8 q] 5)).drew.heap.size):=by show B<=_;simp;omega
 go_enter func159,ntmps159;go_wp2_with fail
 go_region_law ((refine pN rfl (.tmp 5) (.tmp 12) 22 rfl B 5 (.int .u8 0) 1 underlying22 info5 rfl v o.length (aD o) rfl HA.out ⟨w.heap.size,0,none⟩ 3 3 [.int .u8 37,.int .u8 p,.int .u8 q] rfl rfl HN.out H1.out (by unfold maxLen;omega) om HL.out ?_;intro v' w1 hown' hgrow))
 all_goals
  go_wp2;go_ret;exact ⟨_,rfl,XX c HP.out HQ.out hown',HB.out _ hgrow⟩
theorem XY(c:UInt8)(d:Nat)(hd:c.toNat=d)(v:Value)(o:List UInt8)(B:Nat)(w:World)(hown:w.ownsRow B 5 1 v o.length (aD o))(hB:B<=w.heap.size)(hl:o.length<=1099511627776):Calls prog 92 #[v,.int .u8 (d:Int)] w fun e w'=> ∃v',e=Y v'/\w'.ownsRow B 5 1 v' (o++oZ c).length (aD (o++oZ c))/\Below B w w':=by
 have hd1:(d:Int)<=255:=by have:=c.toNat_lt;omega
 have hd0:0<=(d:Int):=om;have hb:=JO d om;have i1:=BF prog 9 underlying9 .u8 (d/16) om ((d:Int)/16) om;have i2:=BF prog 9 underlying9 .u8 (d%16) om ((d:Int)%16) om;obtain ⟨p,hp⟩: ∃p:Int,((oS (d/16)).toNat:Int)=p:=⟨_,rfl⟩;obtain ⟨q,hq⟩: ∃q:Int,((oS (d%16)).toNat:Int)=q:=⟨_,rfl⟩;rw[hp]at i1;rw[hq]at i2;have HP:Hid (p=((oS (c.toNat/16)).toNat:Int)):=by show _=_;rw[hd,hp]
 have HQ:Hid (q=((oS (c.toNat%16)).toNat:Int)):=by show _=_;rw[hd,hq]
 clear hp hq;have HA:Hid ((w.alloc (Z #[.int .u8 37,.int .u8 p,.int .u8 q] 5)).drew.ownsRow B 5 1 v o.length (aD o)):=hown.alloc _;have HN:Hid (∀j u,[Value.int .u8 37,.int .u8 p,.int .u8 q][j]? =some u->(w.alloc (Z #[.int .u8 37,.int .u8 p,.int .u8 q] 5)).drew.cell? ((⟨w.heap.size,0,none⟩:Addr).add j)=some u):=by
  intro j u hj;show (w.alloc (Z #[.int .u8 37,.int .u8 p,.int .u8 q] 5)).cell? _=_;rw[Addr.add_lit,Nat.zero_add,zr _ _ _ _ rfl];simpa using hj
 have H1:Hid (∀u∈[Value.int .u8 37,.int .u8 p,.int .u8 q],u.oneCell'=true):=by
  intro u hu;simp at hu
  rcases hu with rfl|rfl|rfl<;>rfl
 have HB:Hid (∀w1:World,(w.alloc (Z #[.int .u8 37,.int .u8 p,.int .u8 q] 5)).drew.grownBy w1 v.ownBlock->Below B w w1):=fun w1 hg=>
  (((zc B w).alloc hB _).drew).grown hg (by simp;omega) (fun k hk=>(hown.lt k hk).1)
 have HL:Hid (B<=(w.alloc (Z #[.int .u8 37,.int .u8 p,.int .u8 q] 5)).drew.heap.size):=by show B<=_;simp;omega
 go_enter func92,ntmps92;go_wp2_with fail
 go_region_law ((refine pN rfl (.tmp 5) (.tmp 12) 22 rfl B 5 (.int .u8 0) 1 underlying22 info5 rfl v o.length (aD o) rfl HA.out ⟨w.heap.size,0,none⟩ 3 3 [.int .u8 37,.int .u8 p,.int .u8 q] rfl rfl HN.out H1.out (by unfold maxLen;omega) om HL.out ?_;intro v' w1 hown' hgrow))
 all_goals
  go_wp2;go_ret;exact ⟨_,rfl,XX c HP.out HQ.out hown',HB.out _ hgrow⟩
