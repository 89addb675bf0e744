/- NamesPlain, EndWalk, GroupsText, RowWalk, Ip6Impl, HostPlain, AppAt, PartsWalk. -/
import Derived.Test.YtgcbaphbiaimoaaGreatDoorQB07
import Derived.Lib.Join
import Derived.Maps.AppendAt
import Derived.Sort.OwnSorted
set_option maxHeartbeats 4000000
set_option maxRecDepth 20000
namespace Go.Proofs.YtgcbaphbiaimoaaGreatDoor
open Go.Value renaming int->I,string->Y,bool->H,agg->G
open Go.IntKind renaming i64->J
open Go.Ending renaming returned->Z
open _root_.Go.RowKit.Below renaming refl->zi
open _root_.ByteArray renaming empty->z7,size_extract->zh
open _root_.Int renaming toNat->za
open _root_.List renaming all_eq_true->z5,cons_append->zn,drop_of_length_le->zc,drop_zero->zs,flatMap_cons->zw,flatten_cons->zx,getD_eq_getElem?_getD->ze,getElem?_eq_getElem->zf,getElem_mem->zr,getElem_of_mem->zu,intercalate->zz,length_append->zg,length_cons->zk,length_drop->z4,length_take->zq,map_append->z8,map_cons->zv,mem_cons_of_mem->zj,mem_cons_self->zl,nil_append->z6,size_toArray->zp,take_of_length_le->zm
open _root_.Nat renaming le_refl->zd,le_trans->zy,zero_le->zo
open _root_.Go.World renaming cell?_alloc_at->zt
open _root_.Go.Proofs.Tryz
open _root_.Go.Proofs.YtgcbaphbiaimoaaGreatDoor.Tryz
open Go.RowKit
def oQ(s:ByteArray):Option ByteArray:=match fQ s.data.toList with
 |some t=>some ⟨t.toArray⟩
 |none=>none
def fI:List ByteArray->Option (List ByteArray)
 |[]=>some []
 |s::r=>match oQ s,fI r with
  |some a,some b=>some (a::b)
  |_,_=>none
def kJ(fs:List ByteArray):Option (List UInt8):=match fI fs with
 |some ls=>if (jn 46 ls).length<=253 then some (jn 46 ls)else none
 |none=>none
def cX(s:ByteArray):Option (List UInt8):=kJ (eJ (aB s 46))
theorem sT(a b:List ByteArray):fI (a++b)=match fI a,fI b with
  |some x,some y=>some (x++y)
  |_,_=>none:=by
 induction a with
 |nil=>
  simp only[z6,fI]
  cases fI b<;>rfl
 |cons s r ih=>
  simp only[zn,fI,ih]
  cases oQ s<;>cases fI r<;>cases fI b<;>rfl
theorem oC: ∀{fs ls:List ByteArray},fI fs=some ls->ls.length=fs.length
 |[],ls,h=>by cases h;rfl
 |s::r,ls,h=>by
  rw[fI]at h
  cases h1:oQ s with
  |none=>rw[h1]at h;cases h
  |some a=>
   cases h2:fI r with
   |none=>rw[h1,h2]at h;cases h
   |some b=>
    rw[h1,h2]at h
    cases h
    rw[zk,zk,oC h2]
theorem TG: ∀{fs ls:List ByteArray},fI fs=some ls-> ∀a∈ls,∃s∈fs,oQ s=some a
 |[],ls,h=>by cases h;intro a ha;simp at ha
 |s::r,ls,h=>by
  rw[fI]at h
  cases h1:oQ s with
  |none=>rw[h1]at h;cases h
  |some x=>
   cases h2:fI r with
   |none=>rw[h1,h2]at h;cases h
   |some b=>
    rw[h1,h2]at h
    cases h
    intro a ha
    rcases List.mem_cons.1 ha with rfl|hb
    .exact ⟨s,zl,h1⟩
    obtain ⟨q,hq,e⟩:=TG h2 a hb;exact ⟨q,zj _ hq,e⟩
theorem xV{s a:ByteArray}(h:oQ s=some a):eS a.data.toList=true/\oQ a=some a:=by
 unfold oQ at h
 cases hs:fQ s.data.toList with
 |none=>rw[hs]at h;cases h
 |some t=>
  rw[hs]at h
  cases h
  refine ⟨Bf hs,?_⟩;unfold oQ;rw[show (⟨t.toArray⟩:ByteArray).data.toList=t from rfl,P5 hs]
theorem LL{fs ls:List ByteArray}(h:fI fs=some ls): ∀a∈ls,eS a.data.toList=true/\oQ a=some a:=fun a ha=>by
 obtain ⟨s,_,e⟩:=TG h a ha;exact xV e
theorem AG: ∀{ls:List ByteArray},(∀a∈ls,oQ a=some a)->fI ls=some ls
 |[],_=>rfl
 |a::r,h=>by
  rw[fI,h a zl,AG fun b hb=>h b (zj _ hb)]
theorem jn_le(sep:UInt8)(a b:List ByteArray):(jn sep a).length<=(jn sep (a++b)).length:=by
 cases a with
 |nil=>simp[jn]
 |cons x xs=>simp[jn,List.flatMap_append]
theorem FU(sep:UInt8): ∀(ys:List ByteArray),(∀a∈ys,a.size<=63)->(ys.flatMap fun y=>sep::y.data.toList).length<=64*ys.length
 |[],_=>by simp
 |y::ys,hh=>by
  have h2:=hh y zl;have hy:y.data.toList.length=y.size:=by simp
  have h3:=FU sep ys fun a ha=>hh a (zj _ ha)
  rw[zw,zg,zk,zk];omega
theorem Bh(sep:UInt8)(ls:List ByteArray)(h: ∀a∈ls,a.size<=63):(jn sep ls).length<=64*ls.length:=by
 cases ls with
 |nil=>simp[jn]
 |cons x xs=>
  have h1:=h x zl;have hx:x.data.toList.length=x.size:=by simp
  have h3:=FU sep xs fun a ha=>h a (zj _ ha)
  unfold jn;rw[zg,zk];omega
theorem F3(ls:List ByteArray):Lib.join (ls.map (·.data.toList)) [46]=jn 46 ls:=by
 cases ls with
 |nil=>rfl
 |cons x xs=>
  unfold jn
  induction xs generalizing x with
  |nil=>simp[Lib.join,zz]
  |cons y ys ih=>
   have h:=ih y;simp only[Lib.join,zz,zv]at h⊢;rw[List.intersperse_cons_cons,zx,zx,h,zw];simp
theorem LM{ls:List ByteArray}(h: ∀a∈ls,eS a.data.toList=true/\oQ a=some a): ∀a∈ls,a.size<=63:=fun a ha=>by
 have:=(dO (h a ha).1).2.1
 simpa using this
theorem qH{fs:List ByteArray}(h:fI fs=none):kJ fs=none:=by unfold kJ;rw[h]
theorem FV{fs ls:List ByteArray}(h:fI fs=some ls)(h2: ¬(jn 46 ls).length<=253):kJ fs=none:=by unfold kJ;rw[h];exact if_neg h2
theorem lF{fs ls:List ByteArray}(h:fI fs=some ls)(h2:(jn 46 ls).length<=253):kJ fs=some (jn 46 ls):=by unfold kJ;rw[h];exact if_pos h2
def xW(s:ByteArray):Bool:=if hxA s=true then alD 16 (s.extract 2 s.size).data.toList else if s.size=0 then false else alD 10 s.data.toList
def qI(s:ByteArray):ByteArray:=s.extract (aK s 46 s.size).2 s.size
def nD(s:ByteArray):Bool:=xW (qI s)
theorem XV(s:ByteArray):(qI s).size<=s.size:=by
 unfold qI;rw[zh];omega
theorem Bj(s:ByteArray):(aB s 46).getD ((aB s 46).length-1) z7=qI s:=by
 unfold aB;rw[zg,List.length_singleton,Nat.add_sub_cancel,ze,List.getElem?_append_right (zd _)];simp[qI]
theorem LN(s:ByteArray)(p tl:List UInt8)(h:s.data.toList=p++tl)(hp:p=[]∨ ∃q,p=q++[46])(ht: ∀c∈tl,c≠46):(qI s).data.toList=tl:=by
 have h1:=vT s;have h2: ∃xs,spl 46 s.data.toList=xs++[tl]:=by
  rw[h]
  rcases hp with rfl|⟨q,rfl⟩
  .exact ⟨[],by rw[z6,lV 46 ht];rfl⟩
  refine ⟨spl 46 q,?_⟩;rw[List.append_assoc,List.singleton_append,DR,lV 46 ht]
 obtain ⟨xs,h2⟩:=h2;rw[h2]at h1;unfold aB at h1;rw[z8,zv,List.map_nil]at h1;have h3:=(List.append_inj' h1 rfl).2;exact (List.cons.inj h3).1
theorem Bl(s:ByteArray): ∃b:Nat,b<=s.size/\Lib.lastIndexByte s 46+1=(b:Int)/\s.extract b s.size=qI s:=by
 have key: ∃b:Nat,b<=s.size/\Lib.lastIndexByte s 46+1=(b:Int)/\(s.data.toList.take b=[]∨ ∃q,s.data.toList.take b=q++[46])/\ ∀c∈s.data.toList.drop b,c≠46:=by
  rcases Lib.lastIndexByte_spec s 46 with ⟨h1,h2⟩|⟨i,h0,h1,h2,h3⟩
  .refine ⟨0,zo _,by rw[h1];rfl,.inl j2,?_⟩
   intro c hc e;rw[zs]at hc;obtain ⟨j,hj,rfl⟩:=zu hc;have hj':j<s.size:=by simpa using hj
   apply h2 j hj';rw[getElem!_pos s.data j hj']
   have:s.data[j]=46:=by simpa using e
   rw[this];rfl
  refine ⟨i+1,h0,by rw[h1];simp,.inr ⟨s.data.toList.take i,?_⟩,?_⟩
  .rw[eW s i h0]
   congr 2
   apply mP;rw[getElem!_pos s.data i h0]at h2;show s.data[i].toNat=46;omega
  intro c hc e;obtain ⟨j,hj,rfl⟩:=zu hc;rw[z4]at hj;have hj':i+1+j<s.size:=by simp at hj;omega
  apply h3 (i+1+j) om hj';rw[getElem!_pos s.data _ hj']
  have:s.data[i+1+j]=46:=by simpa using e
  rw[this];rfl
 obtain ⟨b,h1,h2,h3,h4⟩:=key;refine ⟨b,h1,h2,bL ?_⟩;show (s.extract b s.size).data.toList=(qI s).data.toList;rw[LN s _ _ (List.take_append_drop b _).symm h3 h4,bE,dD s s.size (zd _)]
theorem qJ(s:ByteArray)(w:World)(hs:s.size<=1048576):Calls prog 267 #[Y s] w fun e w'=>e=Z (H (nD s))/\w=w':=by
 obtain ⟨b,hb,hlb,he⟩:=Bl s;have CL:Hid (∀W,CS 210 #[Y s,.int .u8 46] W (I J (Lib.lastIndexByte s 46))):=fun W=>(strings_LastIndexByte s 46 om W).mono fun e w' h=>⟨h.1,h.2.symm⟩
 have hl0:Lib.lastIndexByte s 46=(b:Int)-1:=om;rw[hl0]at CL;have hbi:(b:Int)<=(s.size:Int):=om;have HT:Hid (nD s=xW (s.extract b s.size)):=by
  show _=_;rw[he];rfl
 have hts:(s.extract b s.size).size<=1048576:=by rw[zh];omega
 clear hlb hl0 he;go_enter func267,ntmps267;go_wp2_with fail;refine (CL.out _).mono ?_;rintro e w' ⟨rfl,rfl⟩;go_wp2_with fail;generalize s.extract b s.size=t at HT hts⊢;have CP:Hid (∀W,CS 283 #[Y t] W (H (hxA t))):=fun W=>xE t W
 cases hx:hxA t with
 |true=>
  have h2:1<t.size:=by
   have h:=of_decide_eq_true hx;exact h.1
  have HZ:Hid (xW t=alD 16 (t.extract 2 t.size).data.toList):=by
   show _=_;unfold xW;rw[if_pos hx]
  have CD:Hid (∀W,CS 247 #[Y (t.extract 2 t.size),I J 16] W (H (alD 16 (t.extract 2 t.size).data.toList))):=fun W=>mM _ 16 W (by rw[zh];omega)
  generalize alD 16 (t.extract 2 t.size).data.toList=R at HZ CD;rw[hx]at CP;clear hx;refine (CP.out _).mono ?_;rintro e w' ⟨rfl,rfl⟩;go_wp2_with fail;refine (CD.out _).mono ?_;rintro e w' ⟨rfl,rfl⟩;go_wp2_with fail;go_ret;exact ⟨by rw[HT.out,HZ.out];rfl,rfl⟩
 |false=>
  rw[hx]at CP
  by_cases h0:t.size=0
  .have HZ:Hid (xW t=false):=by
    show _=_;unfold xW;rw[hx,if_neg de,if_pos h0]
   have hem:=aS h0;clear hx h0;refine (CP.out _).mono ?_;rintro e w' ⟨rfl,rfl⟩;go_wp2_with fail;go_ret;exact ⟨by rw[HT.out,HZ.out];rfl,rfl⟩
  have HZ:Hid (xW t=alD 10 t.data.toList):=by
   show _=_;unfold xW;rw[hx,if_neg de,if_neg h0]
  have hem:=aW (by omega:0<t.size);have CD:Hid (∀W,CS 247 #[Y t,I J 10] W (H (alD 10 t.data.toList))):=fun W=>mM _ 10 W hts
  clear hx h0;refine (CP.out _).mono ?_;rintro e w' ⟨rfl,rfl⟩;go_wp2_with fail;refine (CD.out _).mono ?_;rintro e w' ⟨rfl,rfl⟩;go_wp2_with fail;go_ret;exact ⟨by rw[HT.out,HZ.out];rfl,rfl⟩
theorem XW(s:ByteArray)(k:Nat)(h:k<s.size):alD 16 (s.data.toList.drop k)=(decide (0<=bP s[k].toNat)&&alD 16 (s.data.toList.drop (k+1))):=by
 rw[ET s k h]
 congr 1
 have:=(iN s[k].toNat).2
 refine decide_eq_decide.2 ⟨fun h=>h.1,fun h=>⟨h,?_⟩⟩;omega
theorem Bn(s:ByteArray)(w:World)(hs:s.size<=1048576):Calls prog 138 #[Y s] w fun e w'=>e=Z (H (alD 16 s.data.toList))/\w=w':=by
 go_enter func138,ntmps138;go_wp2
 go_loop[3] (fun i=> ∃k:Nat,k<=s.size/\i=I J k/\alD 16 (s.data.toList.drop k)=alD 16 s.data.toList) (fun i=>s.size-(intOf i).toNat)
 case atStart=>exact ⟨0,zo _,rfl,rfl⟩
 obtain ⟨k,hk,rfl,hf⟩:=hrel;have HR:Hid (alD 16 (s.data.toList.drop k)=alD 16 s.data.toList):=hf;clear hf
 by_cases hlt:k<s.size
 .obtain ⟨d,hd⟩: ∃d:Nat,s[k].toNat=d:=⟨_,rfl⟩
  have hd1:(d:Int)<=255:=by have:=s[k].toNat_lt;omega
  have HD:Hid (alD 16 (s.data.toList.drop k)=(decide (0<=bP d)&&alD 16 (s.data.toList.drop (k+1)))):=by
   show _=_;rw[XW s k hlt,hd]
  obtain ⟨hx1,hx2⟩:=iN d;have CH:Hid (∀W,CS 113 #[.int .u8 (d:Int)] W (I J (bP d))):=fun W=>tQ d W hd1
  generalize bP d=x at HD CH hx1 hx2;have hki:(k:Int)<(s.size:Int):=om
  by_cases hx0:x<0
  .have HZ:Hid (alD 16 s.data.toList=false):=by
    show _=_;rw[<-HR.out,HD.out,decide_eq_false om];rfl
   go_wp2_with fail;refine (CH.out _).mono ?_;rintro e w' ⟨rfl,rfl⟩;go_wp2_with fail;go_ret;exact ⟨by rw[HZ.out];rfl,rfl⟩
  have HZ:Hid (alD 16 (s.data.toList.drop (k+1))=alD 16 s.data.toList):=by
   show _=_;rw[<-HR.out,HD.out,decide_eq_true om];rfl
  go_wp2_with fail;refine (CH.out _).mono ?_;rintro e w' ⟨rfl,rfl⟩;go_wp2_with fail;go_round
  case rel=>exact ⟨k+1,om,gn,HZ.out⟩
  case measure=>exact j1
 have HZ:Hid (alD 16 s.data.toList=true):=by
  show _=_;rw[<-HR.out,zc (by simp;omega)];rfl
 have hki: ¬(k:Int)<(s.size:Int):=om;go_wp2_with fail;go_ret;exact ⟨by rw[HZ.out];rfl,rfl⟩
theorem vY(s:ByteArray)(k:Nat)(h:k<s.size):alD 10 (s.data.toList.drop k)=(decide (48<=s[k].toNat/\s[k].toNat<=57)&&alD 10 (s.data.toList.drop (k+1))):=by
 rw[ET s k h]
 congr 1
 have:=s[k].toNat_lt
 generalize s[k].toNat=c at this;refine decide_eq_decide.2 ?_;unfold bP;split
 .omega
 split
 .omega
 split<;>omega
theorem qK(s:ByteArray)(w:World)(hs:s.size<=1048576):Calls prog 87 #[Y s] w fun e w'=>e=Z (H (nD s))/\Below w.heap.size w w':=by
 have CF:Hid (Calls prog 93 #[Y s,.int .u8 46] w fun e w'=> ∃v,e=Z v/\w'.ownsRow w.heap.size 9 1 v (aB s 46).length (aZ (aB s 46))/\Below w.heap.size w w'):=nU s 46 w hs;have hpos:0<(aB s 46).length:=by simp[aB]
 have hlen:(aB s 46).length<=1048577:=by
  have:=(eF s 46 s.size).2
  simp[aB];omega
 have hL:(aB s 46).getD ((aB s 46).length-1) z7=qI s:=Bj s;have hts:(qI s).size<=1048576:=zy (XV s) hs;have HT:Hid (nD s=xW (qI s)):=rfl;generalize qI s=t at hL hts HT;generalize aB s 46=fs at CF hpos hlen hL;go_enter func87,ntmps87;go_wp2_with fail;refine CF.out.mono ?_;rintro e wa ⟨va,rfl,oa,ba⟩
 rcases aY oa with ⟨h,_⟩|⟨_,g,cap,rfl⟩
 .omega
 have hc:=cO oa (fs.length-1) om;rw[hL]at hc;have hi:((fs.length:Int)-1)=((fs.length-1:Nat):Int):=om;clear oa hL
 cases hx:hxA t with
 |true=>
  obtain ⟨h2,h48,hxx⟩:=of_decide_eq_true hx;have HZ:Hid (xW t=alD 16 (t.extract 2 t.size).data.toList):=by
   show _=_;unfold xW;rw[if_pos hx]
  have CD:Hid (∀W,CS 138 #[Y (t.extract 2 t.size)] W (H (alD 16 (t.extract 2 t.size).data.toList))):=fun W=>Bn _ W (by rw[zh];omega)
  generalize alD 16 (t.extract 2 t.size).data.toList=R at HZ CD;have h1':1<(t.size:Int):=om;obtain ⟨c,hcc⟩: ∃c:Nat,t[1].toNat=c:=⟨_,rfl⟩;rw[hcc]at hxx;clear hx
  rcases hxx with rfl|rfl
  .go_wp2_with fail
   refine (CD.out _).mono ?_;rintro e w' ⟨rfl,rfl⟩;go_wp2_with fail;go_ret;exact ⟨by rw[HT.out,HZ.out];rfl,ba⟩
  go_wp2_with fail;refine (CD.out _).mono ?_;rintro e w' ⟨rfl,rfl⟩;go_wp2_with fail;go_ret;exact ⟨by rw[HT.out,HZ.out];rfl,ba⟩
 |false=>
  have HZ:Hid (xW t=if t.size=0 then false else alD 10 t.data.toList):=by
   show _=_;unfold xW;rw[hx,if_neg de]
  have hno:=of_decide_eq_false hx;clear hx
  by_cases h2:1<t.size
  .have h1':1<(t.size:Int):=om
   obtain ⟨d,hd⟩: ∃d:Nat,t[0].toNat=d:=⟨_,rfl⟩
   by_cases hd0:d=48
   .obtain ⟨c,hcc⟩: ∃c:Nat,t[1].toNat=c:=⟨_,rfl⟩
    have q1:((c:Int)==120)=false:=beq_eq_false_iff_ne.2 (fun e=>hno ⟨h2,om,.inl om⟩);have q2:((c:Int)==88)=false:=beq_eq_false_iff_ne.2 (fun e=>hno ⟨h2,om,.inr om⟩);subst hd0;clear hno;go_wp2_with fail;clear q1 q2 hd hcc hc hi
    go_loop[5] (fun i=> ∃k:Nat,k<=t.size/\i=I J k/\alD 10 (t.data.toList.drop k)=alD 10 t.data.toList) (fun i=>t.size-(intOf i).toNat)
    case atStart=>exact ⟨0,zo _,rfl,rfl⟩
    obtain ⟨k,hk,rfl,hf⟩:=hrel;have HR:Hid (alD 10 (t.data.toList.drop k)=alD 10 t.data.toList):=hf;clear hf
    by_cases hlt:k<t.size
    .obtain ⟨y,hy⟩: ∃y:Nat,t[k].toNat=y:=⟨_,rfl⟩
     have hy1:(y:Int)<=255:=by have:=t[k].toNat_lt;omega
     have HD:Hid (alD 10 (t.data.toList.drop k)=(decide (48<=y/\y<=57)&&alD 10 (t.data.toList.drop (k+1)))):=by
      show _=_;rw[vY t k hlt,hy]
     have hki:(k:Int)<(t.size:Int):=om
     by_cases hin:48<=y/\y<=57
     .have CI:Hid (∀W,CS 39 #[I J (y:Int),I J 48,I J 57] W (H true)):=fun W=>iT _ _ _ W om om
      have HZ2:Hid (alD 10 (t.data.toList.drop (k+1))=alD 10 t.data.toList):=by
       show _=_;rw[<-HR.out,HD.out,decide_eq_true hin];rfl
      clear hin;go_wp2_with fail;refine (CI.out _).mono ?_;rintro e w' ⟨rfl,rfl⟩;go_wp2_with fail;go_round
      case rel=>exact ⟨k+1,om,gn,HZ2.out⟩
      case measure=>exact j1
     have CI:Hid (∀W,CS 39 #[I J (y:Int),I J 48,I J 57] W (H false)):=fun W=>iG _ _ _ W om
     have HZ2:Hid (alD 10 t.data.toList=false):=by
      show _=_;rw[<-HR.out,HD.out,decide_eq_false hin];rfl
     have hne: ¬t.size=0:=om;clear hin;go_wp2_with fail;refine (CI.out _).mono ?_;rintro e w' ⟨rfl,rfl⟩;go_wp2_with fail;go_ret;exact ⟨by rw[HT.out,HZ.out,if_neg hne,HZ2.out];rfl,ba⟩
    have HZ2:Hid (alD 10 t.data.toList=true):=by
     show _=_;rw[<-HR.out,zc (by simp;omega)];rfl
    have hki: ¬(k:Int)<(t.size:Int):=om
    by_cases h00:t.size=0
    .have HE:Hid (t.size=0):=h00
     have hem:=aS h00;clear h00;go_wp2_with fail;go_ret;exact ⟨by rw[HT.out,HZ.out,if_pos HE.out];rfl,ba⟩
    have HE:Hid (¬t.size=0):=h00;have hem:=aW (by omega:0<t.size);clear h00;go_wp2_with fail;go_ret;exact ⟨by rw[HT.out,HZ.out,if_neg HE.out,HZ2.out];rfl,ba⟩
   have q0:((d:Int)==48)=false:=beq_eq_false_iff_ne.2 om;clear hno hd0;go_wp2_with fail;clear q0 hd hc hi
   go_loop[5] (fun i=> ∃k:Nat,k<=t.size/\i=I J k/\alD 10 (t.data.toList.drop k)=alD 10 t.data.toList) (fun i=>t.size-(intOf i).toNat)
   case atStart=>exact ⟨0,zo _,rfl,rfl⟩
   obtain ⟨k,hk,rfl,hf⟩:=hrel;have HR:Hid (alD 10 (t.data.toList.drop k)=alD 10 t.data.toList):=hf;clear hf
   by_cases hlt:k<t.size
   .obtain ⟨y,hy⟩: ∃y:Nat,t[k].toNat=y:=⟨_,rfl⟩
    have hy1:(y:Int)<=255:=by have:=t[k].toNat_lt;omega
    have HD:Hid (alD 10 (t.data.toList.drop k)=(decide (48<=y/\y<=57)&&alD 10 (t.data.toList.drop (k+1)))):=by
     show _=_;rw[vY t k hlt,hy]
    have hki:(k:Int)<(t.size:Int):=om
    by_cases hin:48<=y/\y<=57
    .have CI:Hid (∀W,CS 39 #[I J (y:Int),I J 48,I J 57] W (H true)):=fun W=>iT _ _ _ W om om
     have HZ2:Hid (alD 10 (t.data.toList.drop (k+1))=alD 10 t.data.toList):=by
      show _=_;rw[<-HR.out,HD.out,decide_eq_true hin];rfl
     clear hin;go_wp2_with fail;refine (CI.out _).mono ?_;rintro e w' ⟨rfl,rfl⟩;go_wp2_with fail;go_round
     case rel=>exact ⟨k+1,om,gn,HZ2.out⟩
     case measure=>exact j1
    have CI:Hid (∀W,CS 39 #[I J (y:Int),I J 48,I J 57] W (H false)):=fun W=>iG _ _ _ W om
    have HZ2:Hid (alD 10 t.data.toList=false):=by
     show _=_;rw[<-HR.out,HD.out,decide_eq_false hin];rfl
    have hne: ¬t.size=0:=om;clear hin;go_wp2_with fail;refine (CI.out _).mono ?_;rintro e w' ⟨rfl,rfl⟩;go_wp2_with fail;go_ret;exact ⟨by rw[HT.out,HZ.out,if_neg hne,HZ2.out];rfl,ba⟩
   have HZ2:Hid (alD 10 t.data.toList=true):=by
    show _=_;rw[<-HR.out,zc (by simp;omega)];rfl
   have hki: ¬(k:Int)<(t.size:Int):=om
   by_cases h00:t.size=0
   .have HE:Hid (t.size=0):=h00
    have hem:=aS h00;clear h00;go_wp2_with fail;go_ret;exact ⟨by rw[HT.out,HZ.out,if_pos HE.out];rfl,ba⟩
   have HE:Hid (¬t.size=0):=h00;have hem:=aW (by omega:0<t.size);clear h00;go_wp2_with fail;go_ret;exact ⟨by rw[HT.out,HZ.out,if_neg HE.out,HZ2.out];rfl,ba⟩
  have h1': ¬1<(t.size:Int):=om;clear hno;go_wp2_with fail;clear hc hi
  go_loop[5] (fun i=> ∃k:Nat,k<=t.size/\i=I J k/\alD 10 (t.data.toList.drop k)=alD 10 t.data.toList) (fun i=>t.size-(intOf i).toNat)
  case atStart=>exact ⟨0,zo _,rfl,rfl⟩
  obtain ⟨k,hk,rfl,hf⟩:=hrel;have HR:Hid (alD 10 (t.data.toList.drop k)=alD 10 t.data.toList):=hf;clear hf
  by_cases hlt:k<t.size
  .obtain ⟨y,hy⟩: ∃y:Nat,t[k].toNat=y:=⟨_,rfl⟩
   have hy1:(y:Int)<=255:=by have:=t[k].toNat_lt;omega
   have HD:Hid (alD 10 (t.data.toList.drop k)=(decide (48<=y/\y<=57)&&alD 10 (t.data.toList.drop (k+1)))):=by
    show _=_;rw[vY t k hlt,hy]
   have hki:(k:Int)<(t.size:Int):=om
   by_cases hin:48<=y/\y<=57
   .have CI:Hid (∀W,CS 39 #[I J (y:Int),I J 48,I J 57] W (H true)):=fun W=>iT _ _ _ W om om
    have HZ2:Hid (alD 10 (t.data.toList.drop (k+1))=alD 10 t.data.toList):=by
     show _=_;rw[<-HR.out,HD.out,decide_eq_true hin];rfl
    clear hin;go_wp2_with fail;refine (CI.out _).mono ?_;rintro e w' ⟨rfl,rfl⟩;go_wp2_with fail;go_round
    case rel=>exact ⟨k+1,om,gn,HZ2.out⟩
    case measure=>exact j1
   have CI:Hid (∀W,CS 39 #[I J (y:Int),I J 48,I J 57] W (H false)):=fun W=>iG _ _ _ W om
   have HZ2:Hid (alD 10 t.data.toList=false):=by
    show _=_;rw[<-HR.out,HD.out,decide_eq_false hin];rfl
   have hne: ¬t.size=0:=om;clear hin;go_wp2_with fail;refine (CI.out _).mono ?_;rintro e w' ⟨rfl,rfl⟩;go_wp2_with fail;go_ret;exact ⟨by rw[HT.out,HZ.out,if_neg hne,HZ2.out];rfl,ba⟩
  have HZ2:Hid (alD 10 t.data.toList=true):=by
   show _=_;rw[<-HR.out,zc (by simp;omega)];rfl
  have hki: ¬(k:Int)<(t.size:Int):=om
  by_cases h00:t.size=0
  .have HE:Hid (t.size=0):=h00
   have hem:=aS h00;clear h00;go_wp2_with fail;go_ret;exact ⟨by rw[HT.out,HZ.out,if_pos HE.out];rfl,ba⟩
  have HE:Hid (¬t.size=0):=h00;have hem:=aW (by omega:0<t.size);clear h00;go_wp2_with fail;go_ret;exact ⟨by rw[HT.out,HZ.out,if_neg HE.out,HZ2.out];rfl,ba⟩
theorem F4(b:UInt8): ∀{l:List (List UInt8)} {x:List UInt8},l≠[]->jl b (l++[x])=jl b l++b::x
 |[],_,h=>absurd rfl h
 |[y],x,_=>rfl
 |y::z::r,x,_=>by
  have ih:=F4 b (l:=z::r) (x:=x) j2;rw[zn,zn,jl,jl,<-zn,ih];simp
theorem ON(gs:List Nat)(h:0<gs.length):gtL (gs.take 1)=bM (gs.getD 0 0):=by
 cases gs with
 |nil=>simp at h
 |cons g r=>rfl
theorem OP(gs:List Nat)(k:Nat)(h:k<gs.length)(hk:0<k):gtL (gs.take (k+1))=gtL (gs.take k)++[58]++bM (gs.getD k 0):=by
 unfold gtL;rw[List.take_succ_eq_append_getElem h,z8,zv,List.map_nil,F4]
 .simp[List.getD,h]
 intro e;have h1:((gs.take k).map bM).length=0:=by rw[e];rfl
 rw[List.length_map,zq]at h1;omega
def FW(w:World)(g off:Nat)(gs:List Nat):Prop:= ∀j,j<gs.length->w.cell? ⟨g,off+j,none⟩=some (I J ((gs.getD j 0:Nat):Int))
theorem FW.later{w w':World}{g off:Nat}{gs:List Nat}(h:FW w g off gs)(hb:Below w.heap.size w w'):FW w' g off gs:=fun j hj=>cell_later hb (h j hj)
theorem iH(g off cap:Nat)(gs:List Nat)(w:World)(hl:gs.length<=8)(hg: ∀x∈gs,x<65536)(hc:FW w g off gs)(hT:cC w):Calls prog 195 #[.slice (some ⟨g,off,none⟩) gs.length cap] w fun e w'=>e=Z (Y ⟨(gtL gs).toArray⟩)/\Below w.heap.size w w':=by
 have HT:Hid (cC w):=hT;have HC:Hid (FW w g off gs):=hc;have HG:Hid (∀x∈gs,x<65536):=hg;clear hT hc hg;go_enter func195,ntmps195;go_wp2
 go_loopw[3,9] (fun b i wr=> ∃k:Nat,k<=gs.length/\i=I J k/\wr.ownsRow w.heap.size 5 1 b (gtL (gs.take k)).length (aD (gtL (gs.take k)))/\Below w.heap.size w wr)
  (fun _ i _=>gs.length-(intOf i).toNat)
 case atStart=>exact ⟨0,zo _,rfl,World.ownsRow_lit w #[] 0 (zd _) de rfl,(zi _ _).alloc (zd _) _⟩
 obtain ⟨k,hk,rfl,hown,hbel⟩:=hrel;have hsz:=hbel.size;have HTW:Hid (cC wr):=bF HT.out hbel;have hlen:(gtL (gs.take k)).length<=100:=by
  have:=(pN (gs.take k)).1
  rw[zq]at this;omega
 by_cases hlt:k<gs.length
 .have hce:=(HC.out.later hbel) k hlt
  have hm:gs.getD k 0<65536:=HG.out _ (by
   rw[ze,zf hlt];exact zr hlt)
  have HS:Hid (0<k->gtL (gs.take (k+1))=gtL (gs.take k)++[58]++bM (gs.getD k 0)):=fun h=>OP gs k hlt h
  have HZ:Hid (k=0->gtL (gs.take (k+1))=gtL (gs.take k)++bM (gs.getD k 0)):=fun h=>by
   subst h;rw[ON gs hlt];rfl
  have CA:Hid (∀(v:Value) (l:List UInt8) (W:World),cC W->W.ownsRow w.heap.size 5 1 v l.length (aD l)->w.heap.size<=W.heap.size->l.length<=1000->Calls prog 192 #[v,I J ((gs.getD k 0:Nat):Int),I J 16] W fun e w'=> ∃v',e=Z v'/\w'.ownsRow w.heap.size 5 1 v' (l++bM (gs.getD k 0)).length (aD (l++bM (gs.getD k 0)))/\Below w.heap.size W w'):=fun v l W a b c d=>XS _ _ v l W om om a b c d
  obtain ⟨x,hx⟩: ∃x:Int,((gs.getD k 0:Nat):Int)=x:=⟨_,rfl⟩;rw[hx]at hce CA;have hx0:0<=x:=om;have hx1:x<65536:=om;generalize gs.getD k 0=y at hx CA HS HZ hm;clear hx hm
  by_cases h0:k=0
  .subst h0
   rw[Nat.add_zero]at hce;go_wp2_with fail;refine (CA.out _ _ _ HTW.out hown hsz om).mono ?_;rintro e wb ⟨vb,rfl,o2,b2⟩;have B2:=hbel.trans b2;clear hown hbel b2;go_wp2_with fail;go_roundw
   case rel=>
    refine ⟨1,om,gn,?_,B2⟩;rw[show gtL (gs.take 1)=gtL (gs.take 0)++bM y from HZ.out (by trivial)];exact o2
   case measure=>exact j1
  have hki:0<(k:Int):=om;have HS2:Hid (gtL (gs.take (k+1))=gtL (gs.take k)++[58]++bM y):=HS.out om;clear HS HZ h0;go_wp2_with (at_builtin;refine aC _ rfl _ _ 22 rfl w.heap.size 5 (.int .u8 0) 1 underlying22 info5 rfl _ _ _ rfl hown #[.int .u8 58] 1 rfl rfl (by intro u hu;simp at hu;subst hu;rfl) om (by unfold maxLen;omega) hsz ?_);intro v' w1 o3 b3;have R:w1.ownsRow w.heap.size 5 1 v' (gtL (gs.take k)++[58]).length (aD (gtL (gs.take k)++[58])):=by
   rw[lR,zg];exact o3
  have B3:=hbel.trans b3;have HT3:Hid (cC w1):=bF HT.out B3;have z3:=B3.size;have hl3:(gtL (gs.take k)++[58]).length<=1000:=by rw[zg];simp;omega
  clear o3 b3 hown hbel;go_wp2_with fail;refine (CA.out _ _ _ HT3.out R z3 hl3).mono ?_;rintro e wb ⟨vb,rfl,o2,b2⟩;have B2:=B3.trans b2;clear R b2 B3;go_wp2_with fail;go_roundw
  case rel=>
   refine ⟨k+1,om,gn,?_,B2⟩;rw[HS2.out];exact o2
  case measure=>exact j1
 have he:gs.take k=gs:=zm om;rw[he]at hown;have hcv:=bG (P:=prog) wr 22 9 5 underlying22 underlying5 underlying9 hown;clear he hlen;have hki: ¬(k:Int)<(gs.length:Int):=om;go_wp2_with fail;go_ret;exact ⟨rfl,hbel⟩
def okG(z:List Int):Bool:=z.all fun x=>decide (0<=x/\x<=65535)
def zb(z:List Int):List Bool:=z.map fun x=>decide (x=0)
theorem Bo{z:List Int}{y:Int}(hy:y∈z)(h: ¬(0<=y/\y<=65535)):okG z=false:=List.all_eq_false.2 ⟨y,hy,by simpa using h⟩
theorem DX{z:List Int}(h: ∀x∈z,0<=x/\x<=65535):okG z=true:=z5.2 fun x hx=>decide_eq_true (h x hx)
theorem Bp(x0 x1 x2 x3 x4 x5 x6 x7:Int)(k:Nat)(hk:k<8)(W:World):
  (Instr.index 24 (G #[I J x0,I J x1,I J x2,I J x3,I J x4,I J x5,I J x6,I J x7]) (I J (k:Int))).run prog W=.ok (I J ([x0,x1,x2,x3,x4,x5,x6,x7].getD k 0)) W:=by
 have h:k=0∨k=1∨k=2∨k=3∨k=4∨k=5∨k=6∨k=7:=om
 rcases h with rfl|rfl|rfl|rfl|rfl|rfl|rfl|rfl<;>simp[Instr.index,run_underlying underlying24,asIntOf,go_sem,part,sizeOf3,isAgg3]
theorem FX(w:World)(x0 x1 x2 x3 x4 x5 x6 x7:Int)(k:Nat)(hk:k<8):
  (w.alloc (.cells #[I J x0,I J x1,I J x2,I J x3,I J x4,I J x5,I J x6,I J x7] 24)).cell? ⟨w.heap.size,k,none⟩=some (I J ([x0,x1,x2,x3,x4,x5,x6,x7].getD k 0)):=by
 rw[zt _ _ _ _ rfl];have h:k=0∨k=1∨k=2∨k=3∨k=4∨k=5∨k=6∨k=7:=om
 rcases h with rfl|rfl|rfl|rfl|rfl|rfl|rfl|rfl<;>rfl
theorem xX(x0 x1 x2 x3 x4 x5 x6 x7:Int)(w:World):Calls prog 193 #[G #[I J x0,I J x1,I J x2,I J x3,I J x4,I J x5,I J x6,I J x7]] w fun e w'=>e=Z (H (okG [x0,x1,x2,x3,x4,x5,x6,x7]))/\Below w.heap.size w w':=by
 have HI:Hid (∀k W,k<8->_):=fun k W hk=>Bp x0 x1 x2 x3 x4 x5 x6 x7 k hk W
 generalize hz:[x0,x1,x2,x3,x4,x5,x6,x7]=z at HI⊢;have hzl:z.length=8:=by rw[<-hz];rfl
 clear hz;have HZL:Hid (z.length=8):=hzl;clear hzl;go_enter func193,ntmps193;go_wp2
 go_loop[6] (fun i=> ∃k:Nat,k<=8/\i=I J k/\ ∀x∈z.take k,0<=x/\x<=65535) (fun i=>8-(intOf i).toNat)
 case atStart=>exact ⟨0,om,rfl,fun x hx=>by simp at hx⟩
 obtain ⟨k,hk,rfl,hall⟩:=hrel;have HA:Hid (∀x∈z.take k,0<=x/\x<=65535):=hall;clear hall
 by_cases hlt:k<8
 .have hix:=fun W=>HI.out k W hlt
  have HT:Hid (z.take (k+1)=z.take k++[z.getD k 0]):=nQ z k (by have:=HZL.out;omega);have HM:Hid (z.getD k 0∈z):=by
   show _∈_;rw[ze,zf (by have:=HZL.out;omega)];exact zr _
  generalize z.getD k 0=y at hix HT HM
  by_cases hy:0<=y/\y<=65535
  .obtain ⟨hy0,hy1⟩:=hy
   go_wp2_with fail;go_round
   case rel=>
    refine ⟨k+1,om,gn,fun x hx=> ?_⟩;rw[HT.out]at hx
    rcases List.mem_append.1 hx with h|h
    .exact HA.out x h
    rw[List.mem_singleton.1 h];exact ⟨hy0,hy1⟩
   case measure=>exact j1
  have HF:Hid (okG z=false):=Bo HM.out hy
  by_cases hy0:y<0
  .clear hy
   go_wp2_with fail;go_ret;exact ⟨by rw[HF.out];rfl,(zi _ _).alloc (zd _) _⟩
  have hy1:65535<y:=om;clear hy;go_wp2_with fail;go_ret;exact ⟨by rw[HF.out];rfl,(zi _ _).alloc (zd _) _⟩
 have HF:Hid (okG z=true):=DX fun x hx=>HA.out x (by rw[zm (by have:=HZL.out;omega)];exact hx)
 go_wp2_with fail;go_ret;exact ⟨by rw[HF.out];rfl,(zi _ _).alloc (zd _) _⟩
theorem DY(z:List Int)(k:Nat)(h:k<z.length):(zb z).drop k=decide (z.getD k 0=0)::(zb z).drop (k+1):=by
 unfold zb;rw[List.drop_eq_getElem_cons (by simpa using h)];simp[List.getD,h]
theorem XX(z:List Int)(k:Nat)(h:z.length<=k):(zb z).drop k=[]:=zc (by simpa[zb] using h)
theorem P7(k f t b:Nat)(z:List Int)(h:k<z.length):kG k (f,t,b) ((zb z).drop k)=kG (k+1) (if z.getD k 0=0 then (if t-f<k+1-b then (b,k+1,b)else (f,t,b))else (f,t,k+1)) ((zb z).drop (k+1)):=by
 rw[DY z k h,kG]
 by_cases h0:z.getD k 0=0
 .rw[if_pos h0,decide_eq_true h0];rfl
 rw[if_neg h0,decide_eq_false h0];rfl
def rowV(r:Nat×Nat×Nat):Value:=.tuple #[I J (r.1:Int),I J (r.2.1:Int)]
theorem TI(x0 x1 x2 x3 x4 x5 x6 x7:Int)(w:World):Calls prog 194 #[G #[I J x0,I J x1,I J x2,I J x3,I J x4,I J x5,I J x6,I J x7]] w fun e w'=>e=Z (rowV (kG 0 (0,0,0) (zb [x0,x1,x2,x3,x4,x5,x6,x7])))/\Below w.heap.size w w':=by
 have HI:Hid (∀k W,k<8->_):=fun k W hk=>Bp x0 x1 x2 x3 x4 x5 x6 x7 k hk W
 generalize hz:[x0,x1,x2,x3,x4,x5,x6,x7]=z at HI⊢;have hzl:z.length=8:=by rw[<-hz];rfl
 clear hz;have HZL:Hid (z.length=8):=hzl;clear hzl;go_enter func194,ntmps194;go_wp2
 go_loop[4,5,6,10] (fun x y v i=> ∃k f t b:Nat,k<=8/\i=I J k/\x=I J f/\y=I J t/\v=I J b/\f<=t/\t<=k/\b<=k/\kG k (f,t,b) ((zb z).drop k)=kG 0 (0,0,0) (zb z)) (fun _ _ _ i=>8-(intOf i).toNat)
 case atStart=>exact ⟨0,0,0,0,om,rfl,rfl,rfl,rfl,om,om,om,rfl⟩
 obtain ⟨k,f,t,b,hk,rfl,rfl,rfl,rfl,h1,h2,h3,hr⟩:=hrel;have HR:Hid (kG k (f,t,b) ((zb z).drop k)=kG 0 (0,0,0) (zb z)):=hr;clear hr
 by_cases hlt:k<8
 .have hix:=fun W=>HI.out k W hlt
  have HS:Hid (_=_):=P7 k f t b z (by have:=HZL.out;omega);generalize z.getD k 0=y at hix HS
  by_cases hy:y=0
  .subst hy
   by_cases hc:t-f<k+1-b
   .have HG:Hid (kG (k+1) (b,k+1,b) ((zb z).drop (k+1))=kG 0 (0,0,0) (zb z)):=by
     show _=_;rw[<-HR.out,HS.out,if_pos rfl,if_pos hc]
    have hc':(t:Int)-f<(k:Int)+1-b:=om;clear hc;go_wp2_with fail;go_round
    case rel=>exact ⟨k+1,b,k+1,b,om,gn,gn,gn,gn,om,om,om,HG.out⟩
    case measure=>exact j1
   have HG:Hid (kG (k+1) (f,t,b) ((zb z).drop (k+1))=kG 0 (0,0,0) (zb z)):=by
    show _=_;rw[<-HR.out,HS.out,if_pos rfl,if_neg hc]
   have hc': ¬(t:Int)-f<(k:Int)+1-b:=om;clear hc;go_wp2_with fail;go_round
   case rel=>exact ⟨k+1,f,t,b,om,gn,gn,gn,gn,om,om,om,HG.out⟩
   case measure=>exact j1
  have HG:Hid (kG (k+1) (f,t,k+1) ((zb z).drop (k+1))=kG 0 (0,0,0) (zb z)):=by
   show _=_;rw[<-HR.out,HS.out,if_neg hy]
  have hy':(y==0)=false:=by simpa using hy
  clear hy;go_wp2_with fail;go_round
  case rel=>exact ⟨k+1,f,t,k+1,om,gn,gn,gn,gn,om,om,om,HG.out⟩
  case measure=>exact j1
 have HG:Hid (kG 0 (0,0,0) (zb z)=(f,t,b)):=by
  show _=_;rw[<-HR.out,XX z k (by have:=HZL.out;omega)];rfl
 have hki: ¬(k:Int)<8:=om;go_wp2_with fail;go_ret2;exact ⟨by rw[HG.out];rfl,(zi _ _).alloc (zd _) _⟩
theorem Bq{z:List Int}{k:Nat}(h:k<z.length)(h0:z.getD k 0=0):qA ((zb z).drop k)=qA ((zb z).drop (k+1))+1:=by
 rw[DY z k h,decide_eq_true h0];rfl
theorem Ia{z:List Int}{k:Nat}(h:k<z.length)(h0: ¬z.getD k 0=0):qA ((zb z).drop k)=0:=by
 rw[DY z k h,decide_eq_false h0];rfl
theorem Br{z:List Int}{k:Nat}(h:z.length<=k):qA ((zb z).drop k)=0:=by
 rw[XX z k h];rfl
theorem P8(a f t:Nat)(z:List Int)(h:a<z.length):hF a (f,t) ((zb z).drop a)=hF (a+1) (if 1<qA ((zb z).drop a)/\t-f<qA ((zb z).drop a)then (a,a+qA ((zb z).drop a))else (f,t)) ((zb z).drop (a+1)):=by
 rw[DY z a h,hF]
def rowW(r:Nat×Nat):Value:=.tuple #[I J (r.1:Int),I J (r.2:Int)]
theorem Ib(x0 x1 x2 x3 x4 x5 x6 x7:Int)(w:World):Calls prog 139 #[G #[I J x0,I J x1,I J x2,I J x3,I J x4,I J x5,I J x6,I J x7]] w fun e w'=>e=Z (rowW (hF 0 (8,8) (zb [x0,x1,x2,x3,x4,x5,x6,x7])))/\Below w.heap.size w w':=by
 have HC:Hid (∀k,k<8->(w.alloc (.cells #[I J x0,I J x1,I J x2,I J x3,I J x4,I J x5,I J x6,I J x7] 24)).cell? ⟨w.heap.size,k,none⟩=some (I J ([x0,x1,x2,x3,x4,x5,x6,x7].getD k 0))):=fun k hk=>FX w x0 x1 x2 x3 x4 x5 x6 x7 k hk
 generalize hz:[x0,x1,x2,x3,x4,x5,x6,x7]=z at HC⊢;have hzl:z.length=8:=by rw[<-hz];rfl
 clear hz;have HZL:Hid (z.length=8):=hzl;clear hzl;go_enter func139,ntmps139;go_wp2
 go_loop[4,5,6] (fun x y i=> ∃a f t:Nat,a<=8/\i=I J a/\x=I J f/\y=I J t/\f<=t/\t<=8/\hF a (f,t) ((zb z).drop a)=hF 0 (8,8) (zb z)) (fun _ _ i=>8-(intOf i).toNat)
 case atStart=>exact ⟨0,8,8,om,rfl,rfl,rfl,om,om,rfl⟩
 obtain ⟨a,f,t,ha,rfl,rfl,rfl,h1,h2,hr⟩:=hrel;have HR:Hid (hF a (f,t) ((zb z).drop a)=hF 0 (8,8) (zb z)):=hr;clear hr
 by_cases hlt:a<8
 .have hai:(a:Int)<8:=om
  have HS:Hid (_=_):=P8 a f t z (by have:=HZL.out;omega);go_wp2_with fail
  go_loop[7] (fun b=> ∃j:Nat,a<=j/\j<=8/\b=I J j/\j-a+qA ((zb z).drop j)=qA ((zb z).drop a)) (fun b=>8-(intOf b).toNat)
  case atStart=>exact ⟨a,om,om,rfl,om⟩
  obtain ⟨j,hj1,hj2,rfl,hz⟩:=hrel;have HZ:Hid (j-a+qA ((zb z).drop j)=qA ((zb z).drop a)):=hz;clear hz
  by_cases hjlt:j<8
  .have hc:=HC.out j hjlt
   have HY:Hid (z.getD j 0=0->qA ((zb z).drop j)=qA ((zb z).drop (j+1))+1):=fun h=>Bq (by have:=HZL.out;omega) h
   have HN:Hid (¬z.getD j 0=0->qA ((zb z).drop j)=0):=fun h=>Ia (by have:=HZL.out;omega) h
   have hji:(j:Int)<8:=om;generalize z.getD j 0=y at hc HY HN
   by_cases hy:y=0
   .subst hy
    go_wp2_with fail;go_round
    case rel=>exact ⟨j+1,om,om,gn,by have h1:=HZ.out;have h2:=HY.out rfl;omega⟩
    case measure=>exact j1
   have HE:Hid (qA ((zb z).drop a)=j-a):=by
    show _=_;have h1:=HZ.out;have h2:=HN.out hy;omega
   have hy':(y==0)=false:=by simpa using hy
   clear hy
   by_cases hq:1<j-a/\t-f<j-a
   .have HG:Hid (hF (a+1) (a,j) ((zb z).drop (a+1))=hF 0 (8,8) (zb z)):=by
     show _=_;rw[<-HR.out,HS.out,HE.out,if_pos hq,show a+(j-a)=j by omega]
    have hq1:1<(j:Int)-a:=om;have hq2:(t:Int)-f<(j:Int)-a:=om;clear hq;go_wp2_with fail;go_round
    case rel=>exact ⟨a+1,a,j,om,gn,gn,gn,om,om,HG.out⟩
    case measure=>exact j1
   have HG:Hid (hF (a+1) (f,t) ((zb z).drop (a+1))=hF 0 (8,8) (zb z)):=by
    show _=_;rw[<-HR.out,HS.out,HE.out,if_neg hq]
   by_cases hq0:1<j-a
   .have hq1:1<(j:Int)-a:=om
    have hq2: ¬(t:Int)-f<(j:Int)-a:=om;clear hq hq0;go_wp2_with fail;go_round
    case rel=>exact ⟨a+1,f,t,om,gn,gn,gn,om,om,HG.out⟩
    case measure=>exact j1
   have hq1: ¬1<(j:Int)-a:=om;clear hq hq0;go_wp2_with fail;go_round
   case rel=>exact ⟨a+1,f,t,om,gn,gn,gn,om,om,HG.out⟩
   case measure=>exact j1
  have HE:Hid (qA ((zb z).drop a)=j-a):=by
   show _=_;have h1:=HZ.out;have h2:=Br (z:=z) (k:=j) (by have:=HZL.out;omega);omega
  have hji: ¬(j:Int)<8:=om
  by_cases hq:1<j-a/\t-f<j-a
  .have HG:Hid (hF (a+1) (a,j) ((zb z).drop (a+1))=hF 0 (8,8) (zb z)):=by
    show _=_;rw[<-HR.out,HS.out,HE.out,if_pos hq,show a+(j-a)=j by omega]
   have hq1:1<(j:Int)-a:=om;have hq2:(t:Int)-f<(j:Int)-a:=om;clear hq;go_wp2_with fail;go_round
   case rel=>exact ⟨a+1,a,j,om,gn,gn,gn,om,om,HG.out⟩
   case measure=>exact j1
  have HG:Hid (hF (a+1) (f,t) ((zb z).drop (a+1))=hF 0 (8,8) (zb z)):=by
   show _=_;rw[<-HR.out,HS.out,HE.out,if_neg hq]
  by_cases hq0:1<j-a
  .have hq1:1<(j:Int)-a:=om
   have hq2: ¬(t:Int)-f<(j:Int)-a:=om;clear hq hq0;go_wp2_with fail;go_round
   case rel=>exact ⟨a+1,f,t,om,gn,gn,gn,om,om,HG.out⟩
   case measure=>exact j1
  have hq1: ¬1<(j:Int)-a:=om;clear hq hq0;go_wp2_with fail;go_round
  case rel=>exact ⟨a+1,f,t,om,gn,gn,gn,om,om,HG.out⟩
  case measure=>exact j1
 have HG:Hid (hF 0 (8,8) (zb z)=(f,t)):=by
  show _=_;rw[<-HR.out,XX z a (by have:=HZL.out;omega)];rfl
 have hai: ¬(a:Int)<8:=om;go_wp2_with fail;go_ret2;exact ⟨by rw[HG.out];rfl,(zi _ _).alloc (zd _) _⟩
def fS(z:List Int):List UInt8:=if okG z=true then xJ (z.map za) (kG 0 (0,0,0) (zb z)).1 (kG 0 (0,0,0) (zb z)).2.1 else []
theorem OQ{z:List Int}(h:okG z=true): ∀x∈z,0<=x/\x<=65535:=by
 unfold okG at h;rw[z5]at h;intro x hx;simpa using h x hx
theorem AH(x0 x1 x2 x3 x4 x5 x6 x7:Int):vV (zb [x0,x1,x2,x3,x4,x5,x6,x7])=true:=Ht _ _ _ _ _ _ _ _
theorem OR{z:List Int}(h:vV (zb z)=true):(kG 0 (0,0,0) (zb z)).1<=(kG 0 (0,0,0) (zb z)).2.1/\(kG 0 (0,0,0) (zb z)).2.1<=8:=by
 unfold vV at h;simp only[Bool.and_eq_true,decide_eq_true_eq]at h;exact h.1
theorem FY{w:World}{B:Nat}{z:List Int}(hc: ∀k,k<8->w.cell? ⟨B,k,none⟩=some (I J (z.getD k 0)))(hz:z.length=8)(ha: ∀x∈z,0<=x/\x<=65535)(off m:Nat)(h:off+m<=8):
  FW w B off (((z.map za).drop off).take m)/\(((z.map za).drop off).take m).length=m/\ ∀x∈((z.map za).drop off).take m,x<65536:=by
 have hl:(((z.map za).drop off).take m).length=m:=by simp;omega
 refine ⟨fun j hj=> ?_,hl,fun x hx=> ?_⟩
 .rw[hl]at hj
  rw[hc (off+j) om];have h1:z[off+j]'om∈z:=zr _;have h2:=ha _ h1;simp only[ze];rw[zf om,zf om,List.getElem_take,List.getElem_drop,List.getElem_map];simp only[Option.getD_some]
  congr 2
  omega
 have h1:=List.mem_of_mem_drop (List.mem_of_mem_take hx);obtain ⟨y,hy,rfl⟩:=List.mem_map.1 h1
 have:=ha y hy
 omega
theorem len8:prog.arrayLen 24=8:=kr
theorem Ld:prog.elem 24=3:=kr
theorem Bs:prog.underlying 24=some (.array (prog.arrayLen 24) (prog.elem 24)):=kr
theorem TJ(B f:Nat)(hf:f<=8)(W:World):(Instr.sliceAt 24 (.pointer (some ⟨B,0,none⟩)) none (some (I J (f:Int))) (some (I J (f:Int)))).run prog W=.ok (.slice (some ⟨B,0,none⟩) f f) W:=by
 rw[run_sliceAt_array_hm (P:=prog) W 24 ⟨B,0,none⟩ Bs .i64 .i64 f f om om (by rw[len8];omega),Ld];simp[slicedAt,sizeOf3,Result.andThen,Addr.add_lit]
theorem F5(B t:Nat)(ht:t<=8)(W:World):(Instr.sliceAt 24 (.pointer (some ⟨B,0,none⟩)) (some (I J (t:Int))) none none).run prog W=.ok (.slice (some ⟨B,if 8=t then 0 else t,none⟩) (8-t) (8-t)) W:=by
 rw[run_sliceAt_array_l (P:=prog) W 24 ⟨B,0,none⟩ Bs .i64 t om (by rw[len8];omega),Ld,len8]
 by_cases h:8=t
 .subst h
  simp[slicedAt,sizeOf3,Result.andThen]
 simp[slicedAt,sizeOf3,Result.andThen,Addr.add_lit,h]
theorem TK(x0 x1 x2 x3 x4 x5 x6 x7:Int)(w:World)(hT:cC w):Calls prog 143 #[G #[I J x0,I J x1,I J x2,I J x3,I J x4,I J x5,I J x6,I J x7]] w fun e w'=>e=Z (Y ⟨(fS [x0,x1,x2,x3,x4,x5,x6,x7]).toArray⟩)/\Below w.heap.size w w':=by
 have CG:Hid (∀W,CB 193 #[G #[I J x0,I J x1,I J x2,I J x3,I J x4,I J x5,I J x6,I J x7]] W (H (okG [x0,x1,x2,x3,x4,x5,x6,x7]))):=fun W=>xX x0 x1 x2 x3 x4 x5 x6 x7 W
 have CR:Hid (∀W,CB 194 #[G #[I J x0,I J x1,I J x2,I J x3,I J x4,I J x5,I J x6,I J x7]] W (rowV (kG 0 (0,0,0) (zb [x0,x1,x2,x3,x4,x5,x6,x7])))):=fun W=>TI x0 x1 x2 x3 x4 x5 x6 x7 W
 have HT:Hid (cC w):=hT;clear hT;have hrow:=OR (AH x0 x1 x2 x3 x4 x5 x6 x7)
 cases hok:okG [x0,x1,x2,x3,x4,x5,x6,x7]with
 |false=>
  have HL:Hid (fS [x0,x1,x2,x3,x4,x5,x6,x7]=[]):=by show _=_;unfold fS;rw[hok];rfl
  rw[hok]at CG;generalize fS [x0,x1,x2,x3,x4,x5,x6,x7]=L at HL⊢;clear hok hrow CR;go_enter func143,ntmps143;go_wp2_with fail;refine (CG.out _).mono ?_;rintro e w1 ⟨rfl,b1⟩;have B1:Below w.heap.size w w1:=((zi _ w).alloc (zd _) _).trans (b1.mono j2);clear b1;go_wp2_with fail;go_ret;exact ⟨by rw[HL.out];rfl,B1⟩
 |true=>
  have HL:Hid (fS [x0,x1,x2,x3,x4,x5,x6,x7]=xJ ([x0,x1,x2,x3,x4,x5,x6,x7].map za) (kG 0 (0,0,0) (zb [x0,x1,x2,x3,x4,x5,x6,x7])).1 (kG 0 (0,0,0) (zb [x0,x1,x2,x3,x4,x5,x6,x7])).2.1):=by show _=_;unfold fS;rw[if_pos hok]
  have HA:Hid (∀x∈[x0,x1,x2,x3,x4,x5,x6,x7],0<=x/\x<=65535):=OQ hok;rw[hok]at CG;clear hok;generalize kG 0 (0,0,0) (zb [x0,x1,x2,x3,x4,x5,x6,x7])=r at HL CR hrow;obtain ⟨f,t,b⟩:=r;simp only[rowV]at HL CR hrow;obtain ⟨hr1,hr2⟩:=hrow;generalize fS [x0,x1,x2,x3,x4,x5,x6,x7]=L at HL⊢;go_enter func143,ntmps143;go_wp2_with fail;refine (CG.out _).mono ?_;rintro e w1 ⟨rfl,b1⟩;have B1:Below w.heap.size w w1:=((zi _ w).alloc (zd _) _).trans (b1.mono j2);have HC1:Hid (∀k,k<8->w1.cell? ⟨w.heap.size,k,none⟩=some (I J ([x0,x1,x2,x3,x4,x5,x6,x7].getD k 0))):=fun k hk=>cell_later b1 (FX w x0 x1 x2 x3 x4 x5 x6 x7 k hk)
  clear b1;have a0:w1.cell? ⟨w.heap.size,0,none⟩=some (I J x0):=HC1.out 0 de;have a1:w1.cell? ⟨w.heap.size,1,none⟩=some (I J x1):=HC1.out 1 de;have a2:w1.cell? ⟨w.heap.size,2,none⟩=some (I J x2):=HC1.out 2 de;have a3:w1.cell? ⟨w.heap.size,3,none⟩=some (I J x3):=HC1.out 3 de;have a4:w1.cell? ⟨w.heap.size,4,none⟩=some (I J x4):=HC1.out 4 de;have a5:w1.cell? ⟨w.heap.size,5,none⟩=some (I J x5):=HC1.out 5 de;have a6:w1.cell? ⟨w.heap.size,6,none⟩=some (I J x6):=HC1.out 6 de;have a7:w1.cell? ⟨w.heap.size,7,none⟩=some (I J x7):=HC1.out 7 de;go_wp2_with fail;refine (CR.out _).mono ?_;rintro e w2 ⟨rfl,b2⟩;have B2:Below w.heap.size w w2:=B1.trans (b2.mono B1.size);have HC2:Hid (∀k,k<8->w2.cell? ⟨w.heap.size,k,none⟩=some (I J ([x0,x1,x2,x3,x4,x5,x6,x7].getD k 0))):=fun k hk=>cell_later b2 (HC1.out k hk)
  have HT2:Hid (cC w2):=bF HT.out B2;clear a0 a1 a2 a3 a4 a5 a6 a7 b2 B1 HC1 CG CR
  by_cases h2:(t:Int)-f<2
  .obtain ⟨g1,g2,g3⟩:=FY HC2.out rfl HA.out 0 8 de
   have CT:=iH w.heap.size 0 8 _ w2 om g3 g1 HT2.out;rw[g2]at CT;have CT:Hid (CB 195 #[.slice (some ⟨w.heap.size,0,none⟩) 8 8] w2 (Y ⟨L.toArray⟩)):=by
    rw[HL.out];unfold xJ;rw[if_pos om];exact CT
   clear g1 g2 g3 HL;go_wp2_with fail;refine CT.out.mono ?_;rintro e w3 ⟨rfl,b3⟩;have B3:=B2.trans (b3.mono B2.size);clear b3;go_wp2_with fail;go_ret;exact ⟨rfl,B3⟩
  obtain ⟨g1,g2,g3⟩:=FY HC2.out rfl HA.out 0 f om;have CT1:=iH w.heap.size 0 f _ w2 om g3 g1 HT2.out;rw[g2,zs]at CT1;clear CT1;have CT1:Hid (∀W,Below w2.heap.size w2 W->CB 195 #[.slice (some ⟨w.heap.size,0,none⟩) f f] W (Y ⟨(gtL (([x0,x1,x2,x3,x4,x5,x6,x7].map za).take f)).toArray⟩)):=fun W hb=>by
   have h:=iH w.heap.size 0 f _ W om g3 (g1.later hb) (bF HT2.out hb);rw[g2,zs]at h;exact h
  have CT2:Hid (∀W,Below w2.heap.size w2 W->CB 195 #[.slice (some ⟨w.heap.size,if 8=t then 0 else t,none⟩) (8-t) (8-t)] W (Y ⟨(gtL (([x0,x1,x2,x3,x4,x5,x6,x7].map za).drop t)).toArray⟩)):=fun W hb=>by
   obtain ⟨k1,k2,k3⟩:=FY HC2.out rfl HA.out t (8-t) om;have k4:FW w2 w.heap.size (if 8=t then 0 else t) ((([x0,x1,x2,x3,x4,x5,x6,x7].map za).drop t).take (8-t)):=by
    by_cases h8:8=t
    .intro j hj
     rw[k2]at hj;omega
    rw[if_neg h8];exact k1
   have h:=iH w.heap.size (if 8=t then 0 else t) (8-t) _ W om k3 (k4.later hb) (bF HT2.out hb);rw[k2,zm j2]at h;exact h
  have HLL:Hid (L=gtL (([x0,x1,x2,x3,x4,x5,x6,x7].map za).take f)++58::58::gtL (([x0,x1,x2,x3,x4,x5,x6,x7].map za).drop t)):=by
   show _=_;rw[HL.out];unfold xJ;rw[if_neg om]
  clear g1 g2 g3 HL;have s1:=(pN (([x0,x1,x2,x3,x4,x5,x6,x7].map za).take f)).1;have s2:=(pN (([x0,x1,x2,x3,x4,x5,x6,x7].map za).drop t)).1;rw[zq]at s1;rw[z4]at s2;have h8:([x0,x1,x2,x3,x4,x5,x6,x7].map za).length=8:=rfl;rw[h8]at s1 s2;clear h8;generalize gtL (([x0,x1,x2,x3,x4,x5,x6,x7].map za).take f)=L1 at CT1 HLL s1;generalize gtL (([x0,x1,x2,x3,x4,x5,x6,x7].map za).drop t)=L2 at CT2 HLL s2;have z1:(⟨L1.toArray⟩:ByteArray).size<=100:=by show L1.toArray.size<=100;rw[zp];omega
  have z2:(⟨L2.toArray⟩:ByteArray).size<=100:=by show L2.toArray.size<=100;rw[zp];omega
  have HLT:Hid ((⟨L.toArray⟩:ByteArray)=⟨L1.toArray⟩++⟨#[58,58]⟩++⟨L2.toArray⟩):=by
   show _=_;rw[HLL.out,show (⟨#[58,58]⟩:ByteArray)=⟨[58,58].toArray⟩ from rfl,dP,dP];simp
  generalize (⟨L1.toArray⟩:ByteArray)=T1 at CT1 HLT z1;generalize (⟨L2.toArray⟩:ByteArray)=T2 at CT2 HLT z2;clear HLL s1 s2;have z0:(⟨#[58,58]⟩:ByteArray).size=2:=rfl;have CT1d:Hid (Calls prog 195 #[.slice (some ⟨w.heap.size,0,none⟩) f f] w2.drew fun e w'=>e=Z (Y T1)/\Below w2.heap.size w2 w'):=(CT1.out w2.drew (Below.drew (zi _ w2))).mono fun e w' h=>⟨h.1,(Below.drew (zi _ w2)).trans h.2⟩
  have sl1:=TJ w.heap.size f om;have sl2:=F5 w.heap.size t hr2;generalize (if 8=t then 0 else t)=o2 at sl2 CT2;go_wp2_with fail
  go_region_with (go_at_call 195;first|(with_reducible refine CT1d.out.mono ?_;rintro e w3 ⟨rfl,k3⟩)|(with_reducible refine (CT2.out _ k3).mono ?_;rintro e w4 ⟨rfl,b4⟩))
  all_goals
   go_wp2_with fail;go_ret;exact ⟨by rw[HLT.out];rfl,(B2.trans (k3.mono B2.size)).trans (b4.mono (zy B2.size k3.size))⟩
structure HV where
 k:Int
 s:ByteArray
 n:Int
 z:List Int
def gI:List Int:=[0,0,0,0,0,0,0,0]
def hOk(h:HV):Bool:=
 if h.k=1 then decide (cX h.s=some h.s.data.toList)&& !nD h.s&&decide (h.n=0)&&decide (h.z=gI)
 else if h.k=2 then decide (h.s.size=0)&&decide (0<=h.n/\h.n<4294967296)&&decide (h.z=gI)
 else if h.k=3 then decide (h.s.size=0)&&decide (h.n=0)&&okG h.z
 else false
def hTx(h:HV):ByteArray:=if hOk h=true then (if h.k=1 then h.s else if h.k=2 then fR h.n else ⟨(91::(fS h.z++[93])).toArray⟩)else ⟨#[]⟩
structure mQ where
 t:Nat
 c:Int
 l:List UInt8
 n:Nat
 g:List Nat
def mQ.bad(c:Int):mQ:=⟨0,c,[],0,[]⟩
def mQ.nm(l:List UInt8):mQ:=⟨1,0,l,0,[]⟩
def mQ.fo(n:Nat):mQ:=⟨2,0,[],n,[]⟩
def mQ.si(g:List Nat):mQ:=⟨3,0,[],0,g⟩
def unB(s:ByteArray):ByteArray:=⟨(unL s.data.toList).toArray⟩
def jY(n:List UInt8):mQ:=if nD ⟨n.toArray⟩=true then (match loA ⟨n.toArray⟩with
 |none=> .bad 4
 |some v=> .fo v)else .nm n
def gW(s:ByteArray):mQ:=match cX (unB s)with
 |none=> .bad 3
 |some n=>jY n
def LO(r:Option (List Nat)):mQ:=match r with
 |none=> .bad 2
 |some g=> .si g
def iI(r:List UInt8):mQ:=if r.getLast? =some 93 then LO (eK r.dropLast)else .bad 2
def aR(s:ByteArray):mQ:=match s.data.toList with
 |[]=> .bad 1
 |c::r=>if c=91 then iI r else gW s
def rV(r:mQ):HV:=match r.t with
 |0=>⟨0,⟨#[]⟩,0,gI⟩
 |1=>⟨1,⟨r.l.toArray⟩,0,gI⟩
 |2=>⟨2,⟨#[]⟩,r.n,gI⟩
 |_=>⟨3,⟨#[]⟩,0,r.g.map fun (x:Nat)=>(x:Int)⟩
def rC(r:mQ):Int:=r.c
theorem LP{s:ByteArray}(h:s.size=0):aR s=.bad 1:=by
 have e:s.data.toList=[]:=List.eq_nil_of_length_eq_zero (by simpa using h);unfold aR;rw[e]
theorem LQ{s:ByteArray}(h:0<s.size)(h0:s[0].toNat=91):aR s=iI (s.extract 1 s.size).data.toList:=by
 have e:=nA s h;unfold aR;rw[e];simp only;rw[if_pos (mP h0)]
theorem vZ{s:ByteArray}(h:0<s.size)(h0: ¬s[0].toNat=91):aR s=gW s:=by
 have e:=nA s h;unfold aR;rw[e];simp only;rw[if_neg (Ad h0)]
theorem TL(s:ByteArray):(unB s).size<=s.size:=by
 unfold unB;show (unL s.data.toList).toArray.size<=s.size;rw[zp]
 have:=Lr s.data.toList
 simpa using this
theorem sU(s:ByteArray):(⟨s.data.toList.toArray⟩:ByteArray)=s:=by
 apply bL;simp[toL]
theorem xY{s:ByteArray}{n:List UInt8}(h:cX s=some n):n.length<=253:=by
 unfold cX kJ at h;split at h
 .split at h
  .cases h;assumption
  cases h
 cases h
def DK(s:ByteArray):Bool:=decide (cX s=some s.data.toList)&& !nD s
theorem eZ{P:Program}(wr:World){ops:Array Oper}{rest:List Oper}{o:Oper}{a:Act}{Q:Exit->Act->World->Prop}
  (hg:o.guard=none) (s x:Operand) (t:TypeId) (hop:o.op=.call {callee:=.builtin .append,args:= #[s,x],argTypes:= #[t,t]})
  (B:Nat) (e:TypeId) (z:Value) (bytes:Nat) (ht:P.underlying t=some (.slice e)) (hinfo:(P.info? e).map (fun i=>(i.zero,i.size,i.bytes))=some (some z,1,bytes)) (hz:z.cells.size=1)
  (v:Value) (n:Nat) (xs:List Value) (hs:a.eval s=v) (hown:wr.ownsRow B e 1 v n xs)
  (cs:Array Value) (m:Nat) (hm:cs.size=m) (hx:a.eval x=.slice (some ⟨wr.heap.size,0,none⟩) m m) (h1: ∀u∈cs.toList,u.oneCell'=true)
  (hroom:(n+m)*bytes<=140737488355328) (hroom':n+m<=maxLen) (hB:B<=wr.heap.size)
  (hK: ∀v' w1,w1.ownsRow B e 1 v' (n+m) (xs++cs.toList)->wr.grownBy w1 v.ownBlock->(v'.ownBlock=v.ownBlock∨v'.ownBlock=some (wr.heap.size+1))->wpList P ops Q rest (a.put o.dst v') w1):
  wpList P ops Q (o::rest) a (wr.alloc (.cells cs e)):=by
 obtain ⟨i0,hi,hz0,hz1,hz2⟩:=info_parts hinfo;refine wpList_append_own_at (wr.alloc (.cells cs e)) hg s x t hop B e i0 z 1 bytes ht hi hz0 hz1 hz2 hz de v n xs hs (hown.alloc _) ⟨wr.heap.size,0,none⟩ m m cs.toList hx (by simp[hm]) ?_ h1 hroom' hroom (by simp;omega) ?_
 .intro j u hj
  rw[Addr.add_lit,Nat.zero_add];rw[zt _ _ _ _ rfl];simpa using hj
 intro v' w1 h1 h2 _ h4;refine hK v' w1 h1 ⟨h2.os,h2.tape,h2.output,?_,fun k hk hne=>(h2.block k (by simp;omega) hne).trans (Below.heap_alloc wr _ k hk)⟩ (by simpa using h4)
 have:=h2.size
 simp at this;omega
theorem Bt{w:World}{B B':Nat}{e:TypeId}{size:Nat}{v:Value}{n:Nat}{xs:List Value}(h:w.ownsRow B e size v n xs)(hb:B'<=B):w.ownsRow B' e size v n xs:=
 ⟨h.1,h.2.imp id fun ⟨g,cap,cur,h1,h2,h3⟩=>⟨g,cap,cur,h1,zy hb h2,h3⟩⟩
def Bu(s:ByteArray):List ByteArray:=if s.size=0 then []else (aB s 46).reverse
theorem BP(s:ByteArray)(b:Int):0<(aB s b).length:=by simp[aB]
