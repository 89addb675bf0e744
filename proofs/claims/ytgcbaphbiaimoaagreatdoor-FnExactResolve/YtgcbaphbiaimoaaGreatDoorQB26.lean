/- DropDotsImpl, CutOne, UrlImpl1. -/
import Derived.Test.YtgcbaphbiaimoaaGreatDoorQB23
import Derived.Test.YtgcbaphbiaimoaaGreatDoorQB25
import Derived.Lib.IndexBytes
set_option maxHeartbeats 4000000
set_option maxRecDepth 100000
namespace Go.Proofs.YtgcbaphbiaimoaaGreatDoor
open Go.Value renaming int->I,string->Y,tuple->E,bool->D
open Go.IntKind renaming i64->J
open Go.Ending renaming returned->H
open Go.Obj renaming cells->G
open _root_.Go.RowKit.Below renaming refl->zf
open _root_.ByteArray renaming empty->zd,size_extract->zg
open _root_.Go.ByteArray renaming toList_eq->zl
open _root_.List renaming dropWhile_suffix->zi,eq_nil_of_length_eq_zero->ze,filter_cons->zp,isPrefixOf->zt,length->zs,length_append->zm,length_drop->zq,size_toArray->zn,takeWhile_prefix->zh,take_length->zo
open _root_.Nat renaming le_refl->zj,zero_le->zr
open _root_.UInt8 renaming ofNat->zk
open _root_.Go.Proofs.Tryz
open _root_.Go.Proofs.YtgcbaphbiaimoaaGreatDoor.Tryz
section
open Go.RowKit
theorem vK(p:ByteArray):Lib.hasPrefix p.data.toList (⟨#[47]⟩:ByteArray).data.toList=bZ p:=by
 unfold Lib.hasPrefix bZ;show zt [47] p.data.toList=_
 cases p.data.toList with
 |nil=>rfl
 |cons a r=>
  simp only[zt,List.head?_cons,Bool.and_true];rw[Bool.eq_iff_iff];simp only[beq_iff_eq,Option.some.injEq];exact eq_comm
theorem Jz{tb te:TypeId}{w:World}: ∃v,Boxed (((w.alloc (G #[] te)).alloc (G #[.slice (some ⟨w.heap.size,0,none⟩) 0 0] tb))) (w.heap.size+1) tb v/\(((w.alloc (G #[] te)).alloc (G #[.slice (some ⟨w.heap.size,0,none⟩) 0 0] tb))).ownsRow w.heap.size te 1 v 0 []:=by
 refine ⟨.slice (some ⟨w.heap.size,0,none⟩) 0 0,?_,?_⟩
 .have h:=Boxed.new (w.alloc (G #[] te)) tb (.slice (some ⟨w.heap.size,0,none⟩) 0 0)
  rwa[World.size_alloc]at h
 exact (World.ownsRow_lit w #[] 0 (zj _) de rfl).alloc _
theorem WP(w:World):Calls prog 134 #[] w fun e w'=>e=H (E #[.func (.func 183) #[] #[.pointer (some ⟨w.heap.size+1,0,none⟩)],.func (.func 184) #[] #[.pointer (some ⟨w.heap.size+1,0,none⟩)]])/\
   (∃v,Boxed w' (w.heap.size+1) 86 v/\w'.ownsRow w.heap.size 9 1 v 0 [])/\w'.heap.size=w.heap.size+2/\Below w.heap.size w w':=by
 have hmf: ∀(fn:Fn) (first cap:Array Value) (w:World),(Instr.makeFunc fn first cap).run prog w=.ok (.func fn first cap) w:=fun _ _ _ _=>rfl
 go_enter func134,ntmps134;go_wp2;go_ret2;refine ⟨rfl,Jz,by simp,((zf _ w).alloc (zj _) _).alloc j2 _⟩
theorem V7{l:List ByteArray}(h:isd (toL (sE l))=0):eV l=dN l:=by unfold dN;rw[if_pos h]
theorem Fd{l:List ByteArray}(h:isd (toL (sE l))≠0):fM (eV l) ⟨#[]⟩=dN l:=by
 unfold dN;rw[if_neg h,uD (show isd (toL (⟨#[]⟩:ByteArray))=0 from ED)];rfl
theorem vL(p:ByteArray)(w:World)(hs:p.size<=16777216):Calls prog 85 #[Y p] w fun e w'=>e=H (Y (cD p))/\Below w.heap.size w w':=by
 have CP:Hid (∀W,CS 83 #[Y p,Y ⟨#[47]⟩] W (D (bZ p))):=fun W=>
  (strings_HasPrefix p ⟨#[47]⟩ W).mono fun e w' h=>⟨by rw[h.1,vK],h.2.symm⟩
 cases hr:bZ p with
 |false=>
  have HD:Hid (p=cD p):=(GW hr).symm;rw[hr]at CP;clear hr;go_enter func85,ntmps85;go_wp2_with fail;refine (CP.out _).mono ?_;rintro e w' ⟨rfl,rfl⟩;go_wp2_with fail;refine j6 (kF _ _ om) fun wa ba=>?_
  go_wp2;go_ret;exact ⟨bH HD.out,ba⟩
 |true=>
  rw[hr]at CP;have HD:Hid ((⟨(slL (dN (bN p))).toArray⟩:ByteArray)=cD p):=MI hr;have hfp:=yE hr;have hlp:=AK hr;have hll:(bN p).length<=16777217:=by
   have h1:=(eF p 47 p.size).2;have h2:(aB p 47).length=(bN p).length+1:=by rw[hfp];rfl
   unfold aB at h2;rw[zm,List.length_singleton]at h2;omega
  have hxs: ∀j,j<(bN p).length->((bN p).getD j zd).size<=16777216:=fun j hj=>by
   have hm:(bN p).getD j zd∈aB p 47:=by
    rw[hfp,List.getD_eq_getElem?_getD,List.getElem?_eq_getElem hj];exact List.mem_cons_of_mem _ (List.getElem_mem hj)
   have h1:=lK _ _ _ hm;omega
  have hkz:((slL (dN (bN p))).length:Int)<=16777217:=by
   have h1:=AL (bN p);rw[yF hr]at h1;have h2:p.data.toList.length=p.size:=by simp
   omega
  have CF:Hid (∀W,Calls prog 135 #[Y p,.int .u8 47] W fun e w'=> ∃v,e=H v/\w'.ownsRow W.heap.size 9 1 v ((bN p).length+1) (aZ (zd::bN p))/\Below W.heap.size W w'):=fun W=>by
   have h1:=BJ p 47 W hs;rw[hfp]at h1;exact h1
  clear hfp hr;generalize bN p=l at HD hlp hll hxs hkz CF;have HX:Hid (∀j,j<l.length->(l.getD j zd).size<=16777216):=hxs;have HKZ:Hid (((slL (dN l)).length:Int)<=16777217):=hkz;clear hxs hkz;go_enter func85,ntmps85;go_wp2_with fail;refine (CP.out _).mono ?_;rintro e w' ⟨rfl,rfl⟩;go_wp2_with fail;refine (WP _).mono ?_;rintro e wa ⟨rfl,⟨v0,hb0,ho0⟩,za,ba⟩;go_wp2_with fail;refine (CF.out _).mono ?_;rintro e wb ⟨vb,rfl,ob,bb⟩;have zb:=bb.size
  rcases aY ob with ⟨h,_⟩|⟨_,g,cp,rfl⟩
  .omega
  have hglt:=ob.lt g rfl;have hcap:=mY ob;have HC:Hid (∀j,j<l.length->wb.cell? ⟨g,j+1,none⟩=some (Y (l.getD j zd))):=fun j hj=>by
   have h1:=cO ob (j+1) om;rw[h1];rfl
  have hgB:g≠w.heap.size+1:=om;have K0:kX 86 9 w.heap.size (w.heap.size+1) g [] wb:=by
   refine ⟨v0,MG hb0 bb,?_,?_,hglt.2⟩
   .exact ho0.kept (GU bb) (by cases hv:v0.ownBlock<;>simp)
   intro e
   have:=(ho0.lt g e.symm).2
   omega
  have B0:Below w.heap.size w wb:=ba.trans (bb.mono om);clear ob hb0 ho0 ba bb;have hl0:0<(l.length:Int):=om;have HG:Hid (wa.heap.size<=g/\g<wb.heap.size):=hglt;have HK0:Hid (kX 86 9 w.heap.size (w.heap.size+1) g [] wb):=K0;have HB0:Hid (Below w.heap.size w wb):=B0;have HGB:Hid (g≠w.heap.size+1):=hgB;clear hglt K0 B0 hgB;go_wp2_with fail
  go_loopw[22] (fun i wr=> ∃k:Nat,k<=l.length/\i=I J k/\kX 86 9 w.heap.size (w.heap.size+1) g (eV (l.take k)) wr/\wr.heap[g]? =wb.heap[g]? /\Below w.heap.size w wr)
   (fun i _=>l.length-(intOf i).toNat)
  case atStart=>exact ⟨0,zr _,rfl,HK0.out,rfl,HB0.out⟩
  obtain ⟨k,hk,rfl,hkeep,hgs,hbel⟩:=hrel;have HKP:Hid (kX 86 9 w.heap.size (w.heap.size+1) g (eV (l.take k)) wr):=hkeep;have HGS:Hid (wr.heap[g]? =wb.heap[g]?):=hgs;have HBL:Hid (Below w.heap.size w wr):=hbel;have hfl:(eV (l.take k)).length<=16777217:=by
   have h1:=BR (l.take k);rw[List.length_take]at h1;omega
  clear hkeep hgs hbel
  by_cases hlt:k<l.length
  .have hc:wr.cell? ⟨g,1+k,none⟩=some (Y (l.getD k zd)):=by
    rw[AS HGS.out,Nat.add_comm 1 k];exact HC.out k hlt
   have hx:=HX.out k hlt;have HF:Hid (eV (l.take (k+1))=fM (eV (l.take k)) (l.getD k zd)):=AM l k hlt;generalize l.getD k zd=x at hc hx HF;have hxi:(x.size:Int)<=16777216:=om;go_wp2_with fail;refine (WB w.heap.size (w.heap.size+1) g (eV (l.take k)) x wr hx hfl HGB.out om HKP.out).mono ?_;rintro e wc ⟨rfl,kc,gc,bc⟩;have KC:Hid (kX 86 9 w.heap.size (w.heap.size+1) g (eV (l.take (k+1))) wc):=by show kX _ _ _ _ _ _ _;rw[HF.out];exact kc
   have GC:Hid (wc.heap[g]? =wb.heap[g]?):=gc.trans HGS.out;have BC:Hid (Below w.heap.size w wc):=HBL.out.trans bc;clear kc gc bc;go_wp2_with fail;go_roundw
   case rel=>exact ⟨k+1,om,gn,KC.out,GC.out,BC.out⟩
   case measure=>exact j1
  have hke:k=l.length:=om;rw[hke,zo]at HKP;rw[hke,zo]at hfl;have hc:wr.cell? ⟨g,1+(l.length-1),none⟩=some (Y (sE l)):=by
   rw[AS HGS.out,Nat.add_comm 1 _];exact HC.out (l.length-1) om
  have hx:(sE l).size<=16777216:=HX.out (l.length-1) om;have HZ:Hid (∀h:isd (toL (sE l))=0,eV l=dN l):=V7;have HT:Hid (∀h:isd (toL (sE l))≠0,fM (eV l) ⟨#[]⟩=dN l):=Fd;have HKN:Hid (dN l≠[]):=PK hlp;have HKL:Hid (((dN l).length:Int)<=16777217):=by
   show _<=_
   have:=sZ l
   omega
  generalize sE l=x at hc hx HZ HT;have CI:Hid (∀W,CB 136 #[Y x] W (I J (isd x.data.toList:Int))):=fun W=>IT x W hx
  have hd:=YG x.data.toList;clear hke
  by_cases d0:isd x.data.toList=0
  .have HN:Hid (eV l=dN l):=HZ.out d0
   have hdi: ¬0<(isd x.data.toList:Int):=om;clear d0 HZ HT hd;go_wp2_with fail;refine (CI.out _).mono ?_;rintro e wc ⟨rfl,bc⟩;have zc:=bc.size;have KC:Hid (kX 86 9 w.heap.size (w.heap.size+1) g (dN l) wc):=by show kX _ _ _ _ _ _ _;rw[<-HN.out];exact tB HKP.out bc
   have BC:Hid (Below w.heap.size w wc):=HBL.out.trans (bc.mono HBL.out.size);clear bc;go_wp2_with fail;refine j6 (zC w.heap.size (w.heap.size+1) g (dN l) wc HKN.out HKL.out HKZ.out KC.out) fun wd bd=>?_
   have BD:Hid (Below w.heap.size w wd):=BC.out.trans (bd.mono BC.out.size);clear bd;go_wp2;go_ret;exact ⟨bH HD.out,BD.out⟩
  have HN:Hid (fM (eV l) ⟨#[]⟩=dN l):=HT.out d0;have hdi:0<(isd x.data.toList:Int):=om;clear d0 HZ HT hd;go_wp2_with fail;refine (CI.out _).mono ?_;rintro e wc ⟨rfl,bc⟩;have zc:=bc.size;have KC:Hid (kX 86 9 w.heap.size (w.heap.size+1) g (eV l) wc):=tB HKP.out bc;have BC:Hid (Below w.heap.size w wc):=HBL.out.trans (bc.mono HBL.out.size);clear bc;go_wp2_with fail;refine (WB w.heap.size (w.heap.size+1) g (eV l) ⟨#[]⟩ wc de hfl HGB.out om KC.out).mono ?_;rintro e wd ⟨rfl,kd,gd,bd⟩;have KD:Hid (kX 86 9 w.heap.size (w.heap.size+1) g (dN l) wd):=by show kX _ _ _ _ _ _ _;rw[<-HN.out];exact kd
  have BD:Hid (Below w.heap.size w wd):=BC.out.trans bd;clear kd gd bd;go_wp2_with fail;refine j6 (zC w.heap.size (w.heap.size+1) g (dN l) wd HKN.out HKL.out HKZ.out KD.out) fun we be=>?_
  have BE:Hid (Below w.heap.size w we):=BD.out.trans (be.mono BD.out.size);clear be;go_wp2;go_ret;exact ⟨bH HD.out,BE.out⟩
theorem Ka(c:UInt8)(s:ByteArray)(w:World)(hs:s.size<=16777216):Calls prog 154 #[Y s,Y ⟨#[c]⟩] w fun e w'=>e=H (E #[Y ⟨(upB c s.data.toList).toArray⟩,Y ⟨(dL c s.data.toList).toArray⟩,D (s.data.toList.contains c)])/\Below w.heap.size w w':=by
 have hi:Lib.indexByte s.data.toList c=if s.data.toList.contains c then ((upB c s.data.toList).length:Int)else-1:=by rw[<-Lib.index_one,mJ]
 have CI:Hid (∀W,CS 213 #[Y s,Y ⟨#[c]⟩] W (I J (Lib.indexByte s.data.toList c))):=fun W=>(stringslite_Index_one s c W).mono fun e w' h=>⟨h.1,h.2.symm⟩
 obtain ⟨h1,h2,_⟩:=BA c s.data.toList;have hsl:s.data.toList.length=s.size:=by simp
 cases hc:s.data.toList.contains c with
 |false=>
  obtain ⟨e1,e2⟩:=h2 hc;rw[hi,hc]at CI;rw[e1,e2,rF];clear hi h1 h2 e1 e2 hc hsl;go_enter func154,ntmps154;go_wp2_with fail;refine (CI.out _).mono ?_;rintro e w' ⟨rfl,rfl⟩;go_wp2;go_ret3;exact ⟨rfl,zf _ _⟩
 |true=>
  have e:=h1 hc;rw[hi,hc]at CI;obtain ⟨k,hk⟩: ∃k,(upB c s.data.toList).length=k:=⟨_,rfl⟩;have hlt:k+1<=s.size:=by
   have:=congrArg zs e
   rw[zm,List.length_cons,hk]at this;omega
  have H1:Hid (s.extract 0 k=⟨(upB c s.data.toList).toArray⟩):=by
   show _=_
   have:s.data.toList.take k=upB c s.data.toList:=by
    conv=>lhs;arg 2;rw[e]
    rw[<-hk,List.take_left'];rfl
   rw[<-this,<-iP,rF]
  have H2:Hid (s.extract (k+1) s.size=⟨(dL c s.data.toList).toArray⟩):=by
   show _=_
   have:s.data.toList.drop (k+1)=dL c s.data.toList:=by
    conv=>lhs;arg 2;rw[e]
    have h3:k+1=(upB c s.data.toList++[c]).length:=by simp[hk]
    rw[h3,show upB c s.data.toList++c::dL c s.data.toList=(upB c s.data.toList++[c])++dL c s.data.toList by simp,List.drop_left'];rfl
   rw[<-this,<-fV,rF]
  rw[if_pos rfl,hk]at CI;clear hi h1 h2 e hk hc hsl;go_enter func154,ntmps154;go_wp2_with fail;refine (CI.out _).mono ?_;rintro e w' ⟨rfl,rfl⟩;go_wp2
  go_region
  all_goals (try go_wp2)
  all_goals go_ret3
  all_goals exact ⟨by rw[<-H1.out,<-H2.out];rfl,(zf _ _).drew⟩
theorem kB(c:UInt8)(s:ByteArray)(w:World)(hs:s.size<=16777216):Calls prog 102 #[Y s,Y ⟨#[c]⟩] w fun e w'=>e=H (E #[Y ⟨(upB c s.data.toList).toArray⟩,Y ⟨(dL c s.data.toList).toArray⟩,D (s.data.toList.contains c)])/\Below w.heap.size w w':=by
 have CC:Hid (∀W,CB 154 #[Y s,Y ⟨#[c]⟩] W (E #[Y ⟨(upB c s.data.toList).toArray⟩,Y ⟨(dL c s.data.toList).toArray⟩,D (s.data.toList.contains c)])):=fun W=>Ka c s W hs
 generalize (⟨(upB c s.data.toList).toArray⟩:ByteArray)=A at CC⊢;generalize (⟨(dL c s.data.toList).toArray⟩:ByteArray)=B at CC⊢;generalize s.data.toList.contains c=t at CC⊢;go_enter func102,ntmps102;go_wp2_with fail;refine (CC.out _).mono ?_;rintro e w1 ⟨rfl,b1⟩;go_wp2;go_ret3;exact ⟨rfl,b1⟩
end
section
open Go.RowKit
set_option linter.unusedVariables false
theorem NG(a b:ByteArray):(a.toList==b.toList)=decide (a=b):=by
 rw[zl,zl]
 by_cases h:a=b
 .subst h;rw[decide_eq_true rfl];exact beq_self_eq_true _
 rw[decide_eq_false h];exact beq_eq_false_iff_ne.2 (fun e=>h (bL e))
theorem cR(l:List UInt8):(⟨l.toArray⟩:ByteArray).size=l.length:=zn
def uQ(s:Int):ByteArray:=if s=1 then ⟨#[104,116,116,112,58]⟩else if s=2 then ⟨#[104,116,116,112,115,58]⟩else ⟨#[]⟩
theorem Kb(s:Int):(uQ s).toList.isEmpty=decide (bS s=0):=by
 unfold uQ bS
 by_cases h1:s=1
 .rw[if_pos h1,if_pos h1];exact aW (u:=⟨#[104,116,116,112,58]⟩) de
 rw[if_neg h1,if_neg h1]
 by_cases h2:s=2
 .rw[if_pos h2,if_pos h2];exact aW (u:=⟨#[104,116,116,112,115,58]⟩) de
 rw[if_neg h2,if_neg h2];exact aS (u:=⟨#[]⟩) rfl
theorem ZN{s:Int}(h:bS s≠0):uQ s=⟨(gH s).toArray⟩:=by
 unfold bS at h;unfold uQ gH
 by_cases h1:s=1
 .subst h1;rfl
 rw[if_neg h1]at h
 by_cases h2:s=2
 .subst h2;rfl
 rw[if_neg h2]at h;exact absurd rfl h
theorem oO(s:Int)(w:World):Calls prog 32 #[I J s] w fun e w'=>e=H (Y (uQ s))/\w=w':=by
 by_cases h1:s=1
 .subst h1
  go_enter func32,ntmps32;go_wp2;go_ret;exact ⟨rfl,rfl⟩
 have q1:(s==1)=false:=beq_eq_false_iff_ne.2 h1
 by_cases h2:s=2
 .subst h2
  go_enter func32,ntmps32;go_wp2;go_ret;exact ⟨rfl,rfl⟩
 have q2:(s==2)=false:=beq_eq_false_iff_ne.2 h2;have HD:Hid (⟨#[]⟩=uQ s):=by show _=_;unfold uQ;rw[if_neg h1,if_neg h2]
 clear h1 h2;go_enter func32,ntmps32;go_wp2;go_ret;exact ⟨bH HD.out,rfl⟩
theorem JF(n:Int)(w:World):Calls prog 34 #[I J n] w fun e w'=>e=H (D (decide (1<=n/\n<=65535)))/\w=w':=by
 obtain ⟨b,hb⟩: ∃b,decide (1<=n/\n<=65535)=b:=⟨_,rfl⟩;rw[hb]
 by_cases h1:0<n
 .by_cases h2:n<=65535
  .have HD:Hid (b=true):=hb.symm.trans (decide_eq_true ⟨om,h2⟩)
   clear hb;go_enter func34,ntmps34;go_wp2;go_ret;exact ⟨aF HD.out.symm,rfl⟩
  have HD:Hid (b=false):=hb.symm.trans (decide_eq_false om);clear hb;go_enter func34,ntmps34;go_wp2;go_ret;exact ⟨aF HD.out.symm,rfl⟩
 have HD:Hid (b=false):=hb.symm.trans (decide_eq_false om);clear hb;go_enter func34,ntmps34;go_wp2;go_ret;exact ⟨aF HD.out.symm,rfl⟩
theorem vM(s:ByteArray)(set:Int)(w:World)(hM:iX w)(hs:s.size<=4194304):Calls prog 84 #[Y s,I J set] w fun e w'=>e=H (D (decide (plB set s=s)))/\Below w.heap.size w w':=by
 have CP:Hid (CB 104 #[Y s,I J set] w (Y (plB set s))):=pE s set w hM om;have HB:Hid (((plB set s).toList==s.toList)=decide (plB set s=s)):=NG _ _;generalize decide (plB set s=s)=b at HB⊢;generalize plB set s=p at CP HB;clear hM;go_enter func84,ntmps84;go_wp2_with fail;refine CP.out.mono ?_;rintro e wa ⟨rfl,ba⟩;have hb:=HB.out;go_wp2;go_ret;exact ⟨rfl,ba⟩
theorem ZO(p:ByteArray)(w:World)(hM:iX w)(hs:p.size<=4194304):Calls prog 35 #[Y p] w fun e w'=>e=H (D (ZL p))/\Below w.heap.size w w':=by
 have CH:Hid (∀W,CS 83 #[Y p,Y ⟨#[47]⟩] W (D (bZ p))):=fun W=>
  (strings_HasPrefix p ⟨#[47]⟩ W).mono fun e w' h=>⟨by rw[h.1,vK],h.2.symm⟩
 have CI:Hid (CB 84 #[Y p,I J 1] w (D (decide (plB 1 p=p)))):=vM p 1 w hM om;have CD:Hid (∀W,CB 85 #[Y p] W (Y (cD p))):=fun W=>vL p W om
 have HB:Hid (((cD p).toList==p.toList)=decide (cD p=p)):=NG _ _;unfold ZL;generalize decide (cD p=p)=b3 at HB⊢;generalize cD p=q at CD HB;generalize decide (plB 1 p=p)=b2 at CI⊢;generalize bZ p=b1 at CH⊢;clear hM
 cases b1 with
 |false=>
  go_enter func35,ntmps35;go_wp2_with fail;refine (CH.out _).mono ?_;rintro e w' ⟨rfl,rfl⟩;go_wp2;go_ret;exact ⟨rfl,zf _ _⟩
 |true=>
  cases b2 with
  |false=>
   go_enter func35,ntmps35;go_wp2_with fail;refine (CH.out _).mono ?_;rintro e w' ⟨rfl,rfl⟩;go_wp2_with fail;refine CI.out.mono ?_;rintro e wa ⟨rfl,ba⟩;go_wp2;go_ret;exact ⟨rfl,ba⟩
  |true=>
   go_enter func35,ntmps35;go_wp2_with fail;refine (CH.out _).mono ?_;rintro e w' ⟨rfl,rfl⟩;go_wp2_with fail;refine CI.out.mono ?_;rintro e wa ⟨rfl,ba⟩;go_wp2_with fail;refine (CD.out _).mono ?_;rintro e wb ⟨rfl,bb⟩;have hb:=HB.out;go_wp2;go_ret;exact ⟨rfl,ba.trans (bb.mono ba.size)⟩
theorem WQ(r:ByteArray)(q:Bool)(w:World)(hM:iX w)(hs:r.size<=4194304):Calls prog 36 #[Y r,D q] w fun e w'=>e=H (D (ZM r q))/\Below w.heap.size w w':=by
 have CI:Hid (CB 84 #[Y r,I J 2] w (D (decide (plB 2 r=r)))):=vM r 2 w hM hs;have HE:Hid (r.toList.isEmpty=decide (r.size=0)):=by
  show _=_
  by_cases h:r.size=0
  .rw[aS h,decide_eq_true h]
  rw[aW om,decide_eq_false h]
 unfold ZM;generalize decide (plB 2 r=r)=b1 at CI⊢;generalize decide (r.size=0)=b2 at HE⊢;clear hM
 cases b1 with
 |false=>
  go_enter func36,ntmps36;go_wp2_with fail;refine CI.out.mono ?_;rintro e wa ⟨rfl,ba⟩;go_wp2;go_ret;exact ⟨rfl,ba⟩
 |true=>
  cases q with
  |true=>
   go_enter func36,ntmps36;go_wp2_with fail;refine CI.out.mono ?_;rintro e wa ⟨rfl,ba⟩;go_wp2;go_ret;exact ⟨rfl,ba⟩
  |false=>
   go_enter func36,ntmps36;go_wp2_with fail;refine CI.out.mono ?_;rintro e wa ⟨rfl,ba⟩;have he:=HE.out;go_wp2;go_ret;exact ⟨rfl,ba⟩
theorem Mz(c:UInt8):(0<=Lib.indexByte [9,10,13] c->oR c=false)/\(Lib.indexByte [9,10,13] c<0->oR c=true):=by
 have key: ∀n:Nat,n<256->(0<=Lib.indexByte [9,10,13] (zk n)->oR (zk n)=false)/\(Lib.indexByte [9,10,13] (zk n)<0->oR (zk n)=true):=by decide+kernel
 have h:=key c.toNat c.toNat_lt;simpa using h
theorem zM(t:ByteArray)(w:World)(hts:t.size<=1048576):Calls prog 147 #[Y t] w fun e w'=>e=H (Y ⟨(t.data.toList.filter oR).toArray⟩)/\Below w.heap.size w w':=by
 obtain ⟨i0,hi,hz0,hz1,hz2⟩:=info_parts info5;go_enter func147,ntmps147;go_wp2_with (at_make;refine wpList_make_own _ rfl _ _ 22 rfl w.heap.size 5 i0 (.int .u8 0) 1 underlying22 hi hz0 hz1 _ _ _ t.size rfl rfl om (by rw[hz2];omega) (by unfold maxLen;omega) (zj _) ?_);intro wm hmo hgm;have Bm:Below w.heap.size w wm:=(zf _ _).grown hgm (zj _) (fun k hk=>by cases hk);have o9:wm.ownsRow w.heap.size 5 1 (.slice (some ⟨w.heap.size,0,none⟩) 0 t.size) 0 []:=hmo;clear hmo hgm;go_wp2_with fail
 go_loopw[3,10] (fun b i wr=> ∃(k:Nat) (o:List UInt8),k<=t.size/\i=I J k/\o.length<=k/\wr.ownsRow w.heap.size 5 1 b o.length (aD o)/\o++(t.data.toList.drop k).filter oR=t.data.toList.filter oR/\Below w.heap.size w wr)
  (fun _ i _=>t.size-(intOf i).toNat)
 case atStart=>exact ⟨0,[],zr _,rfl,zr _,o9,rfl,Bm⟩
 obtain ⟨k,o,hk,rfl,hol,hown,he,hbel⟩:=hrel;have HE:Hid (o++(t.data.toList.drop k).filter oR=t.data.toList.filter oR):=he;clear he o9 Bm hi hz0 hz1 hz2;have hsz:=hbel.size
 by_cases hlt:k<t.size
 .have hdr:=fO t k hlt
  rw[hdr]at HE;clear hdr;obtain ⟨d,hd⟩: ∃d:Nat,t[k].toNat=d:=⟨_,rfl⟩;have hd2:d<256:=by rw[<-hd];exact t[k].toNat_lt
  have CX:Hid (∀W,CS 204 #[Y ⟨#[9,10,13]⟩,.int .u8 (d:Int)] W (I J (Lib.indexByte [9,10,13] t[k]))):=fun W=>by
   have hu:((d:Int)).toNat.toUInt8=t[k]:=by rw[<-hd];simp
   have h:=strings_IndexByte ⟨#[9,10,13]⟩ (d:Int) W;rw[hu]at h;exact h.mono fun e w' h=>⟨h.1,h.2.symm⟩
  have hx:=Mz t[k]
  by_cases h0:0<=Lib.indexByte [9,10,13] t[k]
  .have hb:=hx.1 h0
   have HN:Hid (o++(t.data.toList.drop (k+1)).filter oR=t.data.toList.filter oR):=by show _=_;rw[<-HE.out,zp,hb];rfl
   clear hx hb;generalize Lib.indexByte [9,10,13] t[k]=z at CX h0;go_wp2_with fail;refine (CX.out _).mono ?_;rintro e w' ⟨rfl,rfl⟩;go_wp2;go_roundw
   case rel=>exact ⟨k+1,o,om,gn,om,hown,HN.out,hbel⟩
   case measure=>exact j1
  have hb:=hx.2 om;have HN:Hid ((o++[t[k]])++(t.data.toList.drop (k+1)).filter oR=t.data.toList.filter oR):=by show _=_;rw[<-HE.out,zp,hb];simp
  have HD:Hid ((d:Int)=(t[k].toNat:Int)):=by show _=_;omega
  clear hx hb;generalize Lib.indexByte [9,10,13] t[k]=z at CX h0;go_wp2_with fail;refine (CX.out _).mono ?_;rintro e w' ⟨rfl,rfl⟩;go_wp2_with (at_builtin;refine aC _ rfl _ _ 22 rfl w.heap.size 5 (.int .u8 0) 1 underlying22 info5 rfl _ _ _ rfl hown #[.int .u8 (d:Int)] 1 rfl rfl (jI _) om (by unfold maxLen;omega) om ?_);intro v' w1 hown' hb1;have R:=jH t[k] HD.out hown';have B1:Below w.heap.size w w1:=hbel.trans hb1;clear hown' hb1 hown hbel;go_wp2;go_roundw
  case rel=>exact ⟨k+1,_,om,gn,by simp;omega,R,HN.out,B1⟩
  case measure=>exact j1
 have HN:Hid (o=t.data.toList.filter oR):=by
  show _=_;rw[<-HE.out,List.drop_of_length_le (by simp;omega)];simp
 have HO:=bG (P:=prog) wr 22 9 5 underlying22 underlying5 underlying9 hown;go_wp2;go_ret;exact ⟨oT HN.out,hbel⟩
theorem sG(s:ByteArray)(w:World)(hs:s.size<=1048576)(hM:rI w):Calls prog 99 #[Y s] w fun e w'=>e=H (Y ⟨(cK s.data.toList).toArray⟩)/\Below w.heap.size w w':=by
 have hsl:s.data.toList.length=s.size:=by simp
 have h1:=yM s.data.toList cQ;have h2:=List.length_filter_le oR (Lib.trimS s.data.toList cQ);have hts:(⟨(Lib.trimS s.data.toList cQ).toArray⟩:ByteArray).size<=1048576:=by rw[cR];omega
 have hfs:(⟨((⟨(Lib.trimS s.data.toList cQ).toArray⟩:ByteArray).data.toList.filter oR).toArray⟩:ByteArray).size<=1048576:=by
  rw[cR];show ((Lib.trimS s.data.toList cQ).filter oR).length<=_;omega
 have CT:Hid (∀W,CB 148 #[Y s] W (Y ⟨(Lib.trimS s.data.toList cQ).toArray⟩)):=fun W=>Ct s W om
 have HC:Hid ((⟨(upB 35 (⟨((⟨(Lib.trimS s.data.toList cQ).toArray⟩:ByteArray).data.toList.filter oR).toArray⟩:ByteArray).data.toList).toArray⟩:ByteArray)=⟨(cK s.data.toList).toArray⟩):=by
  show _=_;rw[V6];rfl
 generalize (⟨(cK s.data.toList).toArray⟩:ByteArray)=C at HC⊢;generalize (⟨(Lib.trimS s.data.toList cQ).toArray⟩:ByteArray)=T at CT hts hfs HC;have CW:Hid (∀W,CB 147 #[Y T] W (Y ⟨(T.data.toList.filter oR).toArray⟩)):=fun W=>zM T W hts
 generalize (⟨(T.data.toList.filter oR).toArray⟩:ByteArray)=F at CW hfs HC;have CC:Hid (∀W,Below w.heap.size w W->CB 102 #[Y F,Y ⟨#[35]⟩] W (E #[Y ⟨(upB 35 F.data.toList).toArray⟩,Y ⟨(dL 35 F.data.toList).toArray⟩,D (F.data.toList.contains 35)])):=fun W hb=>kB 35 F W om
 clear hM h1 h2 hsl;go_enter func99,ntmps99;go_wp2_with fail;refine (CT.out _).mono ?_;rintro e wa ⟨rfl,ba⟩;go_wp2_with fail;refine (CW.out _).mono ?_;rintro e wb ⟨rfl,bb⟩;have b2:=ba.trans (bb.mono ba.size);clear bb ba;go_wp2_with fail;refine (CC.out _ b2).mono ?_;rintro e wc ⟨rfl,bc⟩;go_wp2;go_ret;exact ⟨bH HC.out,b2.trans (bc.mono b2.size)⟩
theorem DO(s:ByteArray)(w:World)(hs:s.size<=1048576):Calls prog 145 #[Y s] w fun e w'=>e=H (I J (vJ s.data.toList))/\Below w.heap.size w w':=by
 have CL:Hid (CB 172 #[Y s] w (Y ⟨(aE s.data.toList).toArray⟩)):=zT s w hs;have HN:Hid (vJ s.data.toList=if (⟨(aE s.data.toList).toArray⟩:ByteArray).data.toList=[104,116,116,112]then 1 else if (⟨(aE s.data.toList).toArray⟩:ByteArray).data.toList=[104,116,116,112,115]then 2 else 0):=rfl;generalize (⟨(aE s.data.toList).toArray⟩:ByteArray)=L at CL HN;generalize vJ s.data.toList=z at HN⊢
 by_cases h1:L.data.toList=[104,116,116,112]
 .have q1:=AW h1
  have HZ:Hid (1=z):=by show _=_;rw[HN.out,if_pos h1]
  clear h1 HN;go_enter func145,ntmps145;go_wp2_with fail;refine CL.out.mono ?_;rintro e wa ⟨rfl,ba⟩;go_wp2;go_ret;exact ⟨aV HZ.out,ba⟩
 have q1:=AX h1
 by_cases h2:L.data.toList=[104,116,116,112,115]
 .have q2:=AW h2
  have HZ:Hid (2=z):=by show _=_;rw[HN.out,if_neg h1,if_pos h2]
  clear h1 h2 HN;go_enter func145,ntmps145;go_wp2_with fail;refine CL.out.mono ?_;rintro e wa ⟨rfl,ba⟩;go_wp2;go_ret;exact ⟨aV HZ.out,ba⟩
 have q2:=AX h2;have HZ:Hid (0=z):=by show _=_;rw[HN.out,if_neg h1,if_neg h2]
 clear h1 h2 HN;go_enter func145,ntmps145;go_wp2_with fail;refine CL.out.mono ?_;rintro e wa ⟨rfl,ba⟩;go_wp2;go_ret;exact ⟨aV HZ.out,ba⟩
def noV(c:Int):Value:=.iface 69 (.agg #[I J c])
def ZP(r:Option (Int×List UInt8)):Value:=match r with
 |none=> E #[I J 0,Y ⟨#[]⟩,noV 2]
 |some (s,t)=> E #[I J s,Y ⟨(t.dropWhile slB).toArray⟩,.nilIface]
theorem WR(l:List UInt8):Lib.trimLeftS l [47,92]=l.dropWhile slB:=by
 unfold Lib.trimLeftS
 congr 1
 funext c
 unfold slB
 by_cases h1:c=47
 .subst h1;rfl
 by_cases h2:c=92
 .subst h2;rfl
 simp[h1,h2]
theorem JG(t:ByteArray)(w:World)(hs:t.size<=1048576)(hM:rI w):Calls prog 98 #[Y t] w fun e w'=>e=H (ZP (dS t.data.toList))/\Below w.heap.size w w':=by
 have hsl:t.data.toList.length=t.size:=by simp
 have hu:(upB 58 t.data.toList).length<=t.size:=by rw[<-hsl];exact (zh _).length_le
 have hb:(dL 58 t.data.toList).length<=t.size:=by
  rw[<-hsl];unfold dL;rw[zq]
  have:=(zi (fun x=>x !=58) (l:=t.data.toList)).length_le
  omega
 have CC:Hid (CB 102 #[Y t,Y ⟨#[58]⟩] w (E #[Y ⟨(upB 58 t.data.toList).toArray⟩,Y ⟨(dL 58 t.data.toList).toArray⟩,D (t.data.toList.contains 58)])):=kB 58 t w om;have HW:Hid (dS t.data.toList=if vJ (⟨(upB 58 t.data.toList).toArray⟩:ByteArray).data.toList=0∨(⟨(dL 58 t.data.toList).toArray⟩:ByteArray).data.toList.length-((⟨(dL 58 t.data.toList).toArray⟩:ByteArray).data.toList.dropWhile slB).length<2 then none else some (vJ (⟨(upB 58 t.data.toList).toArray⟩:ByteArray).data.toList,(⟨(dL 58 t.data.toList).toArray⟩:ByteArray).data.toList)):=ZK _;have hus:(⟨(upB 58 t.data.toList).toArray⟩:ByteArray).size<=1048576:=by rw[cR];omega
 have hbs:(⟨(dL 58 t.data.toList).toArray⟩:ByteArray).size<=1048576:=by rw[cR];omega
 generalize (⟨(upB 58 t.data.toList).toArray⟩:ByteArray)=U at CC HW hus;generalize (⟨(dL 58 t.data.toList).toArray⟩:ByteArray)=B at CC HW hbs;generalize dS t.data.toList=R at HW⊢;generalize t.data.toList.contains 58=fnd at CC;have CN:Hid (∀W,CB 145 #[Y U] W (I J (vJ U.data.toList))):=fun W=>DO U W hus
 have CT:Hid (∀W,CB 146 #[Y B,Y ⟨#[47,92]⟩] W (Y ⟨(B.data.toList.dropWhile slB).toArray⟩)):=fun W=>by
  have h:=Any.strings_TrimLeft_laid lays161 kr B ⟨#[47,92]⟩ W de (ascii_of_all de);rw[show (⟨#[47,92]⟩:ByteArray).data.toList=[47,92] from rfl,WR]at h;exact h
 have hr:(⟨(B.data.toList.dropWhile slB).toArray⟩:ByteArray).size=(B.data.toList.dropWhile slB).length:=cR _;have hB:B.size=B.data.toList.length:=by simp
 have hle:=(zi slB (l:=B.data.toList)).length_le;have HK:Hid (B.data.toList.length-(B.data.toList.dropWhile slB).length=B.size-(⟨(B.data.toList.dropWhile slB).toArray⟩:ByteArray).size):=by show _=_;omega
 have HR0:Hid (∀s:Int,ZP (some (s,B.data.toList))=E #[I J s,Y ⟨(B.data.toList.dropWhile slB).toArray⟩,.nilIface]):=fun s=>rfl
 have hrb:(⟨(B.data.toList.dropWhile slB).toArray⟩:ByteArray).size<=B.size:=om;rw[HK.out]at HW;generalize (⟨(B.data.toList.dropWhile slB).toArray⟩:ByteArray)=Z at CT HW HR0 hrb;generalize vJ U.data.toList=n at CN HW;clear hr hB hle HK hsl hu hb hM;go_enter func98,ntmps98;go_wp2_with fail;refine CC.out.mono ?_;rintro e wa ⟨rfl,ba⟩;go_wp2_with fail;refine (CN.out _).mono ?_;rintro e wb ⟨rfl,bb⟩;have b2:=ba.trans (bb.mono ba.size);clear bb ba;go_wp2_with fail;refine (CT.out _).mono ?_;rintro e wd ⟨rfl,bd⟩;have b3:=b2.trans (bd.mono b2.size);clear bd b2 CC CN CT
 by_cases hn:n=0
 .have HZ:Hid (R=none):=by show _=_;rw[HW.out,if_pos (.inl hn)]
  subst hn;clear HW;go_wp2;go_ret3;exact ⟨by rw[HZ.out];rfl,b3⟩
 have qn:(n==0)=false:=beq_eq_false_iff_ne.2 hn
 by_cases h2:B.size-Z.size<2
 .have HZ:Hid (R=none):=by show _=_;rw[HW.out,if_pos (.inr h2)]
  have h2i:(B.size:Int)-(Z.size:Int)<2:=om;clear HW hn h2;go_wp2;go_ret3;exact ⟨by rw[HZ.out];rfl,b3⟩
 have HZ:Hid (R=some (n,B.data.toList)):=by show _=_;rw[HW.out,if_neg om]
 have h2i: ¬(B.size:Int)-(Z.size:Int)<2:=om;clear HW hn h2;go_wp2;go_ret3;exact ⟨by rw[HZ.out,HR0.out];rfl,b3⟩
theorem WS(A:ByteArray)(w:World)(hs:A.size<=1048576)(hM:rI w):Calls prog 151 #[Y A] w fun e w'=>e=H (E #[Y ⟨(hoB A).toArray⟩,Y ⟨(poB A).toArray⟩])/\Below w.heap.size w w':=by
 have hA:A.data.toList.length=A.size:=by simp
 obtain ⟨hf1,hf2⟩:=Lm A;have CL:Hid (∀W,CS 210 #[Y A,.int .u8 93] W (I J (Lib.lastIndexByte A 93))):=fun W=>(strings_LastIndexByte A 93 om W).mono fun e w' h=>⟨h.1,h.2.symm⟩
 have hd:=fV A (frB A);have ht:=iP A (frB A);have hes:(A.extract (frB A) A.size).size<=1048576:=by rw[zg];omega
 have CC:Hid (CB 102 #[Y (A.extract (frB A) A.size),Y ⟨#[58]⟩] w (E #[Y ⟨(upB 58 (A.extract (frB A) A.size).data.toList).toArray⟩,Y ⟨(poB A).toArray⟩,D ((A.extract (frB A) A.size).data.toList.contains 58)])):=by
  have h:=kB 58 (A.extract (frB A) A.size) w om;have e:dL 58 (A.extract (frB A) A.size).data.toList=poB A:=by rw[hd];rfl
  rw[e]at h;exact h
 have HO:Hid (A.extract 0 (frB A)++(⟨(upB 58 (A.extract (frB A) A.size).data.toList).toArray⟩:ByteArray)=⟨(hoB A).toArray⟩):=by
  apply bL;show toL _=hoB A;unfold hoB;rw[<-ht,<-hd];simp[toL]
 have hus:(⟨(upB 58 (A.extract (frB A) A.size).data.toList).toArray⟩:ByteArray).size<=1048576:=by
  rw[cR,hd]
  have:=(zh (fun x=>x !=58) (l:=A.data.toList.drop (frB A))).length_le
  unfold upB;rw[zq]at this;omega
 have hts:(A.extract 0 (frB A)).size<=1048576:=by rw[zg];omega
 generalize (⟨(upB 58 (A.extract (frB A) A.size).data.toList).toArray⟩:ByteArray)=U at CC HO hus;generalize (⟨(poB A).toArray⟩:ByteArray)=Pt at CC⊢;generalize (⟨(hoB A).toArray⟩:ByteArray)=Ho at HO⊢;generalize (A.extract (frB A) A.size).data.toList.contains 58=fnd at CC;generalize Lib.lastIndexByte A 93=z at CL hf2;generalize frB A=f at*;have hz:z=(f:Int)-1:=om;subst hz;clear hd ht hf2 hM hA hes;have hfi:(f:Int)<=(A.size:Int):=om;go_enter func151,ntmps151;go_wp2_with fail;refine (CL.out _).mono ?_;rintro e w' ⟨rfl,rfl⟩;have e1:(f:Int)-1+1=(f:Int):=om;go_wp2_with fail;refine CC.out.mono ?_;rintro e wa ⟨rfl,ba⟩;go_wp2;go_ret2;exact ⟨by rw[<-HO.out];rfl,ba⟩
def pL(s:Int)(p:List UInt8):Value:=if 1<=eP s p/\eP s p<=65535 then E #[I J (eP s p),.nilIface]else E #[I J 0,noV 5]
theorem QP(p:ByteArray)(s:Int)(w:World)(hs:s=1∨s=2):Calls prog 152 #[Y p,I J s] w fun e w'=>e=H (pL s p.data.toList)/\w=w':=by
 by_cases h0:p.size=0
 .have CD:Hid (∀W,CS 17 #[I J s] W (I J (bS s))):=fun W=>sF s W
  have HP:Hid (pL s p.data.toList=E #[I J (bS s),.nilIface]):=by
   show _=_;have e:p.data.toList=[]:=ze (by simpa using h0);rw[e]
   rcases hs with rfl|rfl<;>rfl
  have hem:=aS h0;generalize bS s=d at CD HP;clear h0 hs;go_enter func152,ntmps152;go_wp2_with fail;refine (CD.out _).mono ?_;rintro e w' ⟨rfl,rfl⟩;go_wp2;go_ret2;exact ⟨by rw[HP.out];rfl,rfl⟩
 have hem:=aW (show 0<p.size by omega);have hne:p.data.toList≠[]:=fun e=>h0 (by have:=congrArg zs e;simpa using this)
 have CG:Hid (∀W,CS 211 #[Y p,I J 10,I J 5] W (fL (cU 10 5 p.data.toList))):=fun W=>nT p 10 5 W de de
 cases hn:cU 10 5 p.data.toList with
 |none=>
  have hpn:eP s p.data.toList= -1:=by unfold eP;rw[if_neg hne,hn]
  rw[hn]at CG;have HP:Hid (pL s p.data.toList=E #[I J 0,noV 5]):=by show _=_;unfold pL;rw[hpn,if_neg de]
  have CG2:Hid (∀W,CS 211 #[Y p,I J 10,I J 5] W (E #[I J 0,D false])):=CG;clear h0 hs hne hn hpn CG;go_enter func152,ntmps152;go_wp2_with fail;refine (CG2.out _).mono ?_;rintro e w' ⟨rfl,rfl⟩;go_wp2;go_ret2;exact ⟨by rw[HP.out];rfl,rfl⟩
 |some n=>
  have hpn:eP s p.data.toList=(n:Int):=by unfold eP;rw[if_neg hne,hn]
  rw[hn]at CG;have CG2:Hid (∀W,CS 211 #[Y p,I J 10,I J 5] W (E #[I J (n:Int),D true])):=CG;have CK:Hid (∀W,CS 34 #[I J (n:Int)] W (D (decide (1<=(n:Int)/\(n:Int)<=65535)))):=fun W=>JF n W
  by_cases hk:1<=(n:Int)/\(n:Int)<=65535
  .have HP:Hid (pL s p.data.toList=E #[I J (n:Int),.nilIface]):=by show _=_;unfold pL;rw[hpn,if_pos hk]
   rw[decide_eq_true hk]at CK;clear h0 hs hne hn hpn CG hk;go_enter func152,ntmps152;go_wp2_with fail;refine (CG2.out _).mono ?_;rintro e w' ⟨rfl,rfl⟩;go_wp2_with fail;refine (CK.out _).mono ?_;rintro e w' ⟨rfl,rfl⟩;go_wp2;go_ret2;exact ⟨by rw[HP.out];rfl,rfl⟩
  have HP:Hid (pL s p.data.toList=E #[I J 0,noV 5]):=by show _=_;unfold pL;rw[hpn,if_neg hk]
  rw[decide_eq_false hk]at CK;clear h0 hs hne hn hpn CG hk;go_enter func152,ntmps152;go_wp2_with fail;refine (CG2.out _).mono ?_;rintro e w' ⟨rfl,rfl⟩;go_wp2_with fail;refine (CK.out _).mono ?_;rintro e w' ⟨rfl,rfl⟩;go_wp2;go_ret2;exact ⟨by rw[HP.out];rfl,rfl⟩
def ptP(l:ByteArray):ByteArray:=cD (plB 1 ⟨(eO (AN l.data.toList)).toArray⟩)
theorem V8:cD (plB 1 ⟨#[47]⟩)=⟨#[47]⟩:=by decide+kernel
theorem Fe(s:ByteArray):Lib.countB s ⟨#[92]⟩<=s.size:=by
 unfold Lib.countB;rw[show (⟨#[92]⟩:ByteArray).data.toList=[92] from rfl];unfold Lib.count;rw[pR 92 _ _ om]
 have:=List.count_le_length (a:=(92:UInt8)) (l:=s.data.toList)
 have e:s.data.toList.length=s.size:=by simp
 omega
theorem vN(s:ByteArray)(w:World)(hs:s.size<=4194304)(hK:iX w)(hM:rI w):Calls prog 103 #[Y s] w fun e w'=>e=H (Y (ptP s))/\Below w.heap.size w w':=by
 by_cases h0:s.size=0
 .have hem:=aS h0
  have HP:Hid (⟨#[47]⟩=ptP s):=by
   show _=_;unfold ptP;rw[ze (show s.data.toList.length=0 by simpa using h0)];exact V8.symm
  clear h0 hK hM;go_enter func103,ntmps103;go_wp2;go_ret;exact ⟨bH HP.out,zf _ _⟩
 have hem:=aW (show 0<s.size by omega);have hne:s.data.toList≠[]:=fun e=>h0 (by have:=congrArg zs e;simpa using this)
 have hbl:(eO s.data.toList).length=s.size:=by unfold eO;simp
 have hor:AN s.data.toList=s.data.toList:=by unfold AN;rw[if_neg hne]
 have CR:Hid (CB 155 #[Y s,Y ⟨#[92]⟩,Y ⟨#[47]⟩] w (Y ⟨(eO s.data.toList).toArray⟩)):=by
  obtain ⟨m,hm⟩:=hM;have hc:=Fe s;have h:=strings_ReplaceAll s ⟨#[92]⟩ ⟨#[47]⟩ m w om hm de (by
   rw[show (⟨#[47]⟩:ByteArray).size=1 from rfl];omega)
  rw[show (⟨#[92]⟩:ByteArray).data.toList=[92] from rfl,show (⟨#[47]⟩:ByteArray).data.toList=[47] from rfl,WM de]at h;exact h
 have hbs:(⟨(eO s.data.toList).toArray⟩:ByteArray).size<=4194304:=by rw[cR];omega
 have HP:Hid (cD (plB 1 ⟨(eO s.data.toList).toArray⟩)=ptP s):=by show _=_;unfold ptP;rw[hor]
 generalize (⟨(eO s.data.toList).toArray⟩:ByteArray)=Bk at CR hbs HP;have CP:Hid (∀W,Below w.heap.size w W->CB 104 #[Y Bk,I J 1] W (Y (plB 1 Bk))):=fun W hb=>pE Bk 1 W (hK.later hb) om
 have hps:(plB 1 Bk).size<=16777216:=by
  show (plL 1 (toL Bk)).toArray.size<=_;rw[zn];have h:=XI 1 (toL Bk);have h2:(toL Bk).length=Bk.size:=by simp[toL]
  omega
 generalize plB 1 Bk=Pl at CP hps HP;have CD:Hid (∀W,CB 85 #[Y Pl] W (Y (cD Pl))):=fun W=>vL Pl W hps
 generalize cD Pl=Dr at CD HP;clear h0 hne hbl hor hK hM;go_enter func103,ntmps103;go_wp2_with fail;refine CR.out.mono ?_;rintro e wa ⟨rfl,ba⟩;go_wp2_with fail;refine (CP.out _ ba).mono ?_;rintro e wb ⟨rfl,bb⟩;have b2:=ba.trans (bb.mono ba.size);clear bb ba;go_wp2_with fail;refine (CD.out _).mono ?_;rintro e wc ⟨rfl,bc⟩;go_wp2;go_ret;exact ⟨bH HP.out,b2.trans (bc.mono b2.size)⟩
