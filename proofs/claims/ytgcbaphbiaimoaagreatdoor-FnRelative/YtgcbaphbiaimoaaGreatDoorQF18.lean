/- DotImpl, DropDotsImpl, CutOne, UrlImpl1. -/
import Derived.Test.YtgcbaphbiaimoaaGreatDoorQF17
import Derived.Lib.IndexBytes
set_option maxHeartbeats 4000000
set_option maxRecDepth 100000
namespace Go.Proofs.YtgcbaphbiaimoaaGreatDoor
open Go.Value renaming int->I,string->Y,tuple->E,bool->D,pointer->Q
open Go.IntKind renaming i64->J
open Go.Ending renaming returned->H
open Go.Obj renaming cells->G
open _root_.Go.RowKit.Below renaming refl->zi
open _root_.ByteArray renaming empty->zd,size_extract->zg
open _root_.Go.ByteArray renaming toList_eq->zf
open _root_.List renaming dropWhile_suffix->zm,eq_nil_of_length_eq_zero->ze,filter_cons->zs,flatten_cons->zp,getD_eq_getElem?_getD->zh,intercalate->zq,isPrefixOf->zw,length->zv,length_append->zo,length_drop->zt,size_toArray->zk,takeWhile_prefix->zl,take_length->zr
open _root_.Nat renaming le_refl->zj,zero_le->zu
open _root_.UInt8 renaming ofNat->zn
open _root_.Go.Proofs.Tryz
open _root_.Go.Proofs.YtgcbaphbiaimoaaGreatDoor.Tryz
section
open Go.RowKit
theorem Ea{l:List UInt8}(h:unL l=[46]):isd l=1:=by unfold isd;rw[if_pos h]
theorem Eb{l:List UInt8}(h:unL l=[46,46]):isd l=2:=by unfold isd;rw[h];decide
theorem X1{l:List UInt8}(h1: ¬unL l=[46])(h2: ¬unL l=[46,46]):isd l=0:=by unfold isd;rw[if_neg h1,if_neg h2]
theorem MM{u:ByteArray}{l:List UInt8}(h:u.data.toList=l):(u.toList==l)=true:=by rw[zf,h];exact beq_self_eq_true _
theorem MN{u:ByteArray}{l:List UInt8}(h: ¬u.data.toList=l):(u.toList==l)=false:=by
 rw[zf];exact beq_eq_false_iff_ne.2 h
theorem RD(b:UInt8)(ls:List ByteArray):Lib.join (ls.map (·.data.toList)) [b]=jn b ls:=by
 cases ls with
 |nil=>rfl
 |cons x xs=>
  unfold jn
  induction xs generalizing x with
  |nil=>simp[Lib.join,zq]
  |cons y ys ih=>
   have h:=ih y;simp only[Lib.join,zq,List.map_cons]at h⊢;rw[List.intersperse_cons_cons,zp,zp,h,List.flatMap_cons];simp
theorem EK(s:ByteArray)(w:World)(hs:s.size<=16777216):Calls prog 136 #[Y s] w fun e w'=>e=H (I J (isd s.data.toList:Int))/\Below w.heap.size w w':=by
 go_enter func136,ntmps136;go_wp2_with fail;refine j6 (tN s _ om) fun wa ba=>?_
 obtain ⟨u,hu⟩: ∃u:ByteArray,u=⟨(unL s.data.toList).toArray⟩:=⟨_,rfl⟩;have hd:u.data.toList=unL s.data.toList:=by rw[hu]
 rw[<-hu];clear hu;have HD:Hid (u.data.toList=unL s.data.toList):=hd
 by_cases h1:unL s.data.toList=[46]
 .have h:=MM (hd.trans h1)
  have HI:Hid (isd s.data.toList=1):=Ea h1;clear hd h1;go_wp2;go_ret;exact ⟨aR (by rw[HI.out];rfl),ba⟩
 have hx1:=MN (u:=u) (l:=[46]) (by rw[hd];exact h1)
 by_cases h2:unL s.data.toList=[46,46]
 .have h:=MM (hd.trans h2)
  have HI:Hid (isd s.data.toList=2):=Eb h2;clear hd h1 h2;go_wp2;go_ret;exact ⟨aR (by rw[HI.out];rfl),ba⟩
 have hx2:=MN (u:=u) (l:=[46,46]) (by rw[hd];exact h2);have HI:Hid (isd s.data.toList=0):=X1 h1 h2;clear hd h1 h2;go_wp2;go_ret;exact ⟨aR (by rw[HI.out];rfl),ba⟩
theorem YD(p:ByteArray): ∀k,k<=p.size->Lib.lastIdx p 47 k+1=(upN p k:Int)
 |0,_=>rfl
 |k+1,hk=>by
  have ih:=YD p k om;have e:p.data[k]! =p[k]:=getElem!_pos p.data k (by have h:p.data.size=p.size:=rfl;omega);unfold Lib.lastIdx;rw[e]
  by_cases h:p[k].toNat=47
  .rw[if_pos om,Dx om h];omega
  rw[if_neg om,W5 om h,ih]
theorem F1(p:ByteArray)(w:World)(hs:p.size<=16777216):Calls prog 221 #[Y p] w fun e w'=>e=H (Y (upT p))/\Below w.heap.size w w':=by
 have hl:=YD p p.size (zj _);have hle:=U3 p p.size;obtain ⟨b,hb⟩: ∃b,upN p p.size=b:=⟨_,rfl⟩;have HU:Hid (p.extract 0 b=upT p):=Dy hb;rw[hb]at hl hle;have hl0:Lib.lastIndexByte p 47=(b:Int)-1:=by show Lib.lastIdx p 47 p.size=_;omega
 have CL:Hid (∀W,CS 210 #[Y p,.int .u8 47] W (I J (Lib.lastIndexByte p 47))):=fun W=>(strings_LastIndexByte p 47 om W).mono fun e w' h=>⟨h.1,h.2.symm⟩
 rw[hl0]at CL;have hbi:(b:Int)<=(p.size:Int):=om;have hes:(p.extract 0 b).size<=281474976710656:=by rw[zg];omega
 clear hl hl0 hb;go_enter func221,ntmps221;go_wp2_with fail;refine (CL.out _).mono ?_;rintro e w' ⟨rfl,rfl⟩;go_wp2_with fail;refine j6 (jB _ _ hes) fun wa ba=>?_
 go_wp2;go_ret;exact ⟨cA HU.out,ba⟩
theorem RE(n0 B g:Nat)(out:List ByteArray)(x:ByteArray)(w:World)(hx:x.size<=16777216)(hlen:out.length<=16777217)(hgB:g≠B)(hB:n0<=B)(h:jV 86 9 n0 B g out w):Calls prog 183 #[Y x,Q (some ⟨B,0,none⟩)] w fun e w'=>e=H (E #[])/\jV 86 9 n0 B g (eO out x) w'/\w'.heap[g]? =w.heap[g]? /\Below n0 w w':=by
 have hBs:B<w.heap.size:=by obtain ⟨v,h1,_⟩:=h;exact h1.lt
 go_enter func183,ntmps183;go_wp2_with fail;refine j6 (EK x _ hx) fun wa ba=>?_
 have za:=ba.size;have ha:=sC h ba;have hg0:wa.heap[g]? =w.heap[g]? :=by obtain ⟨v,_,_,_,h4⟩:=h;exact ba.block g h4
 have hbel:Below n0 w wa:=ba.mono om;clear h ba;have hn:=UT x.data.toList;obtain ⟨v,h1,h2,h3,h4⟩:=ha;have hc:=h1.cell;have hf:=h1.frozen;have HG:Hid (wa.heap[g]? =w.heap[g]?):=hg0;clear hg0
 by_cases d0:isd x.data.toList=0
 .have HS:Hid (eO out x=out++[x]):=sX d0
  have e0:((isd x.data.toList:Int)==0)=true:=by rw[d0];rfl
  clear d0 hn;go_wp2_with (at_builtin;refine eB _ rfl _ _ 86 rfl n0 9 (Y ⟨#[]⟩) 16 underlying86 infoStr rfl _ _ _ rfl h2 #[Y x] 1 rfl rfl (gO _) om (by unfold maxLen;omega) om ?_);intro v' w1 o hgr hat;obtain ⟨k1,k2,k3,k4⟩:=E8 de hgB hB om h1 h2 h3 h4 o hgr hat;obtain ⟨b',cp',rfl⟩:=ownsRow_succ o;have hf1:=k1.frozen;have hc1:=k1.cell;clear h1 h2 h3 h4 hc hf o hgr hat;go_wp2
  go_end0
  exact ⟨rfl,by rw[HS.out];exact k2,k3.trans HG.out,hbel.trans k4⟩
 have e0:((isd x.data.toList:Int)==0)=false:=by rw[beq_eq_false_iff_ne];omega
 by_cases d2:isd x.data.toList=2
 .have HS:Hid (eO out x=out.take (out.length-1)):=QN d2
  have e2:((isd x.data.toList:Int)==2)=true:=by rw[d2];rfl
  clear d0 d2 hn
  rcases aQ h2 with ⟨hl,hnil,ao,cap,rfl⟩|⟨hl,b,cap,rfl⟩
  .go_wp2
   go_end0
   refine ⟨rfl,?_,HG.out,hbel⟩;rw[HS.out,hl,List.take_of_length_le om];exact ⟨_,h1,h2,h3,h4⟩
  obtain ⟨k2,k3,k4⟩:=E9 de (out.length-1) om hgB hB h1 h2 h3 h4;have hcap:=lV h2;clear h1 h2 h3 h4;go_wp2
  go_end0
  exact ⟨rfl,by rw[HS.out];exact k2,k3.trans HG.out,hbel.trans k4⟩
 have HS:Hid (eO out x=out):=QM (by show isd x.data.toList=1;omega);have e2:((isd x.data.toList:Int)==2)=false:=by rw[beq_eq_false_iff_ne];omega
 clear d0 d2 hn;go_wp2
 go_end0
 exact ⟨rfl,by rw[HS.out];exact ⟨v,h1,h2,h3,h4⟩,HG.out,hbel⟩
theorem wV(n0 B g:Nat)(out:List ByteArray)(w:World)(hne:out≠[])(hlen:(out.length:Int)<=16777217)(hsz:((slL out).length:Int)<=16777217)(h:jV 86 9 n0 B g out w):Calls prog 184 #[Q (some ⟨B,0,none⟩)] w fun e w'=>e=H (Y ⟨(slL out).toArray⟩)/\Below w.heap.size w w':=by
 obtain ⟨v,h1,h2,h3,h4⟩:=h;have hc:=h1.cell;have hs:=sl_jn out hne;have hjl:(slL out).length=(jn 47 out).length+1:=by rw[hs];rfl
 have HS:Hid (slL out=47::jn 47 out):=hs;clear hs
 rcases aQ h2 with ⟨hl,_⟩|⟨hl,b,cap,rfl⟩
 .exact absurd (ze hl) hne
 have CJ:=strings_Join b 0 cap out ⟨#[47]⟩ w (fun j x hj=>by
    have hjl:j<out.length:=(List.getElem?_eq_some_iff.1 hj).1;rw[Nat.zero_add,bY h2 j hjl,zh,hj];rfl) (h2.lt b rfl).2 om (lV h2) (by
    rw[show (⟨#[47]⟩:ByteArray).data.toList=[47] from rfl,RD];omega)
 rw[show (⟨#[47]⟩:ByteArray).data.toList=[47] from rfl,RD]at CJ;have CJ:Hid (CB 185 #[.slice (some ⟨b,0,none⟩) out.length cap,Y ⟨#[47]⟩] w (Y ⟨(jn 47 out).toArray⟩)):=CJ;have hT:(⟨(jn 47 out).toArray⟩:ByteArray).size=(jn 47 out).length:=zk;have HF:Hid ((⟨#[47]⟩:ByteArray)++(⟨(jn 47 out).toArray⟩:ByteArray)=⟨(slL out).toArray⟩):=by show _=_;rw[TN,<-HS.out]
 clear h1 h2 h3 h4;generalize (⟨(jn 47 out).toArray⟩:ByteArray)=T at CJ hT HF;have hTs:T.size<=16777217:=om;clear hT hjl;go_enter func184,ntmps184;go_wp2_with fail;refine CJ.out.mono ?_;rintro e wa ⟨rfl,ba⟩;go_wp2;go_ret;exact ⟨cA HF.out,ba⟩
theorem tR(p:ByteArray):Lib.hasPrefix p.data.toList (⟨#[47]⟩:ByteArray).data.toList=bR p:=by
 unfold Lib.hasPrefix bR;show zw [47] p.data.toList=_
 cases p.data.toList with
 |nil=>rfl
 |cons a r=>
  simp only[zw,List.head?_cons,Bool.and_true];rw[Bool.eq_iff_iff];simp only[beq_iff_eq,Option.some.injEq];exact eq_comm
theorem Ec{tb te:TypeId}{w:World}: ∃v,Boxed (((w.alloc (G #[] te)).alloc (G #[.slice (some ⟨w.heap.size,0,none⟩) 0 0] tb))) (w.heap.size+1) tb v/\(((w.alloc (G #[] te)).alloc (G #[.slice (some ⟨w.heap.size,0,none⟩) 0 0] tb))).ownsRow w.heap.size te 1 v 0 []:=by
 refine ⟨.slice (some ⟨w.heap.size,0,none⟩) 0 0,?_,?_⟩
 .have h:=Boxed.new (w.alloc (G #[] te)) tb (.slice (some ⟨w.heap.size,0,none⟩) 0 0)
  rwa[World.size_alloc]at h
 exact (World.ownsRow_lit w #[] 0 (zj _) de rfl).alloc _
theorem RF(w:World):Calls prog 134 #[] w fun e w'=>e=H (E #[.func (.func 183) #[] #[Q (some ⟨w.heap.size+1,0,none⟩)],.func (.func 184) #[] #[Q (some ⟨w.heap.size+1,0,none⟩)]])/\
   (∃v,Boxed w' (w.heap.size+1) 86 v/\w'.ownsRow w.heap.size 9 1 v 0 [])/\w'.heap.size=w.heap.size+2/\Below w.heap.size w w':=by
 have hmf: ∀(fn:Fn) (first cap:Array Value) (w:World),(Instr.makeFunc fn first cap).run prog w=.ok (.func fn first cap) w:=fun _ _ _ _=>rfl
 go_enter func134,ntmps134;go_wp2;go_ret2;refine ⟨rfl,Ec,by simp,((zi _ w).alloc (zj _) _).alloc j2 _⟩
theorem F2{l:List ByteArray}(h:isd (toL (rF l))=0):dZ l=dB l:=by unfold dB;rw[if_pos h]
theorem X2{l:List ByteArray}(h:isd (toL (rF l))≠0):eO (dZ l) ⟨#[]⟩=dB l:=by
 unfold dB;rw[if_neg h,sX (show isd (toL (⟨#[]⟩:ByteArray))=0 from AY)];rfl
theorem tS(p:ByteArray)(w:World)(hs:p.size<=16777216):Calls prog 85 #[Y p] w fun e w'=>e=H (Y (cE p))/\Below w.heap.size w w':=by
 have CP:Hid (∀W,CS 83 #[Y p,Y ⟨#[47]⟩] W (D (bR p))):=fun W=>
  (strings_HasPrefix p ⟨#[47]⟩ W).mono fun e w' h=>⟨by rw[h.1,tR],h.2.symm⟩
 cases hr:bR p with
 |false=>
  have HD:Hid (p=cE p):=(EJ hr).symm;rw[hr]at CP;clear hr;go_enter func85,ntmps85;go_wp2_with fail;refine (CP.out _).mono ?_;rintro e w' ⟨rfl,rfl⟩;go_wp2_with fail;refine j6 (jB _ _ om) fun wa ba=>?_
  go_wp2;go_ret;exact ⟨cA HD.out,ba⟩
 |true=>
  rw[hr]at CP;have HD:Hid ((⟨(slL (dB (bD p))).toArray⟩:ByteArray)=cE p):=JT hr;have hfp:=wL hr;have hlp:=yK hr;have hll:(bD p).length<=16777217:=by
   have h1:=(dL p 47 p.size).2;have h2:(aA p 47).length=(bD p).length+1:=by rw[hfp];rfl
   unfold aA at h2;rw[zo,List.length_singleton]at h2;omega
  have hxs: ∀j,j<(bD p).length->((bD p).getD j zd).size<=16777216:=fun j hj=>by
   have hm:(bD p).getD j zd∈aA p 47:=by
    rw[hfp,zh,List.getElem?_eq_getElem hj];exact List.mem_cons_of_mem _ (List.getElem_mem hj)
   have h1:=kI _ _ _ hm;omega
  have hkz:((slL (dB (bD p))).length:Int)<=16777217:=by
   have h1:=yL (bD p);rw[wM hr]at h1;have h2:p.data.toList.length=p.size:=by simp
   omega
  have CF:Hid (∀W,Calls prog 135 #[Y p,.int .u8 47] W fun e w'=> ∃v,e=H v/\w'.ownsRow W.heap.size 9 1 v ((bD p).length+1) (aM (zd::bD p))/\Below W.heap.size W w'):=fun W=>by
   have h1:=zE p 47 W hs;rw[hfp]at h1;exact h1
  clear hfp hr;generalize bD p=l at HD hlp hll hxs hkz CF;have HX:Hid (∀j,j<l.length->(l.getD j zd).size<=16777216):=hxs;have HKZ:Hid (((slL (dB l)).length:Int)<=16777217):=hkz;clear hxs hkz;go_enter func85,ntmps85;go_wp2_with fail;refine (CP.out _).mono ?_;rintro e w' ⟨rfl,rfl⟩;go_wp2_with fail;refine (RF _).mono ?_;rintro e wa ⟨rfl,⟨v0,hb0,ho0⟩,za,ba⟩;go_wp2_with fail;refine (CF.out _).mono ?_;rintro e wb ⟨vb,rfl,ob,bb⟩;have zb:=bb.size
  rcases aQ ob with ⟨h,_⟩|⟨_,g,cp,rfl⟩
  .omega
  have hglt:=ob.lt g rfl;have hcap:=lV ob;have HC:Hid (∀j,j<l.length->wb.cell? ⟨g,j+1,none⟩=some (Y (l.getD j zd))):=fun j hj=>by
   have h1:=bY ob (j+1) om;rw[h1];rfl
  have hgB:g≠w.heap.size+1:=om;have K0:jV 86 9 w.heap.size (w.heap.size+1) g [] wb:=by
   refine ⟨v0,JS hb0 bb,?_,?_,hglt.2⟩
   .exact ho0.kept (EI bb) (by cases hv:v0.ownBlock<;>simp)
   intro e
   have:=(ho0.lt g e.symm).2
   omega
  have B0:Below w.heap.size w wb:=ba.trans (bb.mono om);clear ob hb0 ho0 ba bb;have hl0:0<(l.length:Int):=om;have HG:Hid (wa.heap.size<=g/\g<wb.heap.size):=hglt;have HK0:Hid (jV 86 9 w.heap.size (w.heap.size+1) g [] wb):=K0;have HB0:Hid (Below w.heap.size w wb):=B0;have HGB:Hid (g≠w.heap.size+1):=hgB;clear hglt K0 B0 hgB;go_wp2_with fail
  go_loopw[22] (fun i wr=> ∃k:Nat,k<=l.length/\i=I J k/\jV 86 9 w.heap.size (w.heap.size+1) g (dZ (l.take k)) wr/\wr.heap[g]? =wb.heap[g]? /\Below w.heap.size w wr)
   (fun i _=>l.length-(intOf i).toNat)
  case atStart=>exact ⟨0,zu _,rfl,HK0.out,rfl,HB0.out⟩
  obtain ⟨k,hk,rfl,hkeep,hgs,hbel⟩:=hrel;have HKP:Hid (jV 86 9 w.heap.size (w.heap.size+1) g (dZ (l.take k)) wr):=hkeep;have HGS:Hid (wr.heap[g]? =wb.heap[g]?):=hgs;have HBL:Hid (Below w.heap.size w wr):=hbel;have hfl:(dZ (l.take k)).length<=16777217:=by
   have h1:=zM (l.take k);rw[List.length_take]at h1;omega
  clear hkeep hgs hbel
  by_cases hlt:k<l.length
  .have hc:wr.cell? ⟨g,1+k,none⟩=some (Y (l.getD k zd)):=by
    rw[yS HGS.out,Nat.add_comm 1 k];exact HC.out k hlt
   have hx:=HX.out k hlt;have HF:Hid (dZ (l.take (k+1))=eO (dZ (l.take k)) (l.getD k zd)):=yM l k hlt;generalize l.getD k zd=x at hc hx HF;have hxi:(x.size:Int)<=16777216:=om;go_wp2_with fail;refine (RE w.heap.size (w.heap.size+1) g (dZ (l.take k)) x wr hx hfl HGB.out om HKP.out).mono ?_;rintro e wc ⟨rfl,kc,gc,bc⟩;have KC:Hid (jV 86 9 w.heap.size (w.heap.size+1) g (dZ (l.take (k+1))) wc):=by show jV _ _ _ _ _ _ _;rw[HF.out];exact kc
   have GC:Hid (wc.heap[g]? =wb.heap[g]?):=gc.trans HGS.out;have BC:Hid (Below w.heap.size w wc):=HBL.out.trans bc;clear kc gc bc;go_wp2_with fail;go_roundw
   case rel=>exact ⟨k+1,om,gn,KC.out,GC.out,BC.out⟩
   case measure=>exact j1
  have hke:k=l.length:=om;rw[hke,zr]at HKP;rw[hke,zr]at hfl;have hc:wr.cell? ⟨g,1+(l.length-1),none⟩=some (Y (rF l)):=by
   rw[yS HGS.out,Nat.add_comm 1 _];exact HC.out (l.length-1) om
  have hx:(rF l).size<=16777216:=HX.out (l.length-1) om;have HZ:Hid (∀h:isd (toL (rF l))=0,dZ l=dB l):=F2;have HT:Hid (∀h:isd (toL (rF l))≠0,eO (dZ l) ⟨#[]⟩=dB l):=X2;have HKN:Hid (dB l≠[]):=MF hlp;have HKL:Hid (((dB l).length:Int)<=16777217):=by
   show _<=_
   have:=sA l
   omega
  generalize rF l=x at hc hx HZ HT;have CI:Hid (∀W,CB 136 #[Y x] W (I J (isd x.data.toList:Int))):=fun W=>EK x W hx
  have hd:=UT x.data.toList;clear hke
  by_cases d0:isd x.data.toList=0
  .have HN:Hid (dZ l=dB l):=HZ.out d0
   have hdi: ¬0<(isd x.data.toList:Int):=om;clear d0 HZ HT hd;go_wp2_with fail;refine (CI.out _).mono ?_;rintro e wc ⟨rfl,bc⟩;have zc:=bc.size;have KC:Hid (jV 86 9 w.heap.size (w.heap.size+1) g (dB l) wc):=by show jV _ _ _ _ _ _ _;rw[<-HN.out];exact sC HKP.out bc
   have BC:Hid (Below w.heap.size w wc):=HBL.out.trans (bc.mono HBL.out.size);clear bc;go_wp2_with fail;refine j6 (wV w.heap.size (w.heap.size+1) g (dB l) wc HKN.out HKL.out HKZ.out KC.out) fun wd bd=>?_
   have BD:Hid (Below w.heap.size w wd):=BC.out.trans (bd.mono BC.out.size);clear bd;go_wp2;go_ret;exact ⟨cA HD.out,BD.out⟩
  have HN:Hid (eO (dZ l) ⟨#[]⟩=dB l):=HT.out d0;have hdi:0<(isd x.data.toList:Int):=om;clear d0 HZ HT hd;go_wp2_with fail;refine (CI.out _).mono ?_;rintro e wc ⟨rfl,bc⟩;have zc:=bc.size;have KC:Hid (jV 86 9 w.heap.size (w.heap.size+1) g (dZ l) wc):=sC HKP.out bc;have BC:Hid (Below w.heap.size w wc):=HBL.out.trans (bc.mono HBL.out.size);clear bc;go_wp2_with fail;refine (RE w.heap.size (w.heap.size+1) g (dZ l) ⟨#[]⟩ wc de hfl HGB.out om KC.out).mono ?_;rintro e wd ⟨rfl,kd,gd,bd⟩;have KD:Hid (jV 86 9 w.heap.size (w.heap.size+1) g (dB l) wd):=by show jV _ _ _ _ _ _ _;rw[<-HN.out];exact kd
  have BD:Hid (Below w.heap.size w wd):=BC.out.trans bd;clear kd gd bd;go_wp2_with fail;refine j6 (wV w.heap.size (w.heap.size+1) g (dB l) wd HKN.out HKL.out HKZ.out KD.out) fun we be=>?_
  have BE:Hid (Below w.heap.size w we):=BD.out.trans (be.mono BD.out.size);clear be;go_wp2;go_ret;exact ⟨cA HD.out,BE.out⟩
theorem Ed(c:UInt8)(s:ByteArray)(w:World)(hs:s.size<=16777216):Calls prog 154 #[Y s,Y ⟨#[c]⟩] w fun e w'=>e=H (E #[Y ⟨(upB c s.data.toList).toArray⟩,Y ⟨(cZ c s.data.toList).toArray⟩,D (s.data.toList.contains c)])/\Below w.heap.size w w':=by
 have hi:Lib.indexByte s.data.toList c=if s.data.toList.contains c then ((upB c s.data.toList).length:Int)else-1:=by rw[<-Lib.index_one,lF]
 have CI:Hid (∀W,CS 213 #[Y s,Y ⟨#[c]⟩] W (I J (Lib.indexByte s.data.toList c))):=fun W=>(stringslite_Index_one s c W).mono fun e w' h=>⟨h.1,h.2.symm⟩
 obtain ⟨h1,h2,_⟩:=yP c s.data.toList;have hsl:s.data.toList.length=s.size:=by simp
 cases hc:s.data.toList.contains c with
 |false=>
  obtain ⟨e1,e2⟩:=h2 hc;rw[hi,hc]at CI;rw[e1,e2,sL];clear hi h1 h2 e1 e2 hc hsl;go_enter func154,ntmps154;go_wp2_with fail;refine (CI.out _).mono ?_;rintro e w' ⟨rfl,rfl⟩;go_wp2;go_ret3;exact ⟨rfl,zi _ _⟩
 |true=>
  have e:=h1 hc;rw[hi,hc]at CI;obtain ⟨k,hk⟩: ∃k,(upB c s.data.toList).length=k:=⟨_,rfl⟩;have hlt:k+1<=s.size:=by
   have:=congrArg zv e
   rw[zo,List.length_cons,hk]at this;omega
  have H1:Hid (s.extract 0 k=⟨(upB c s.data.toList).toArray⟩):=by
   show _=_
   have:s.data.toList.take k=upB c s.data.toList:=by
    conv=>lhs;arg 2;rw[e]
    rw[<-hk,List.take_left'];rfl
   rw[<-this,<-mM,sL]
  have H2:Hid (s.extract (k+1) s.size=⟨(cZ c s.data.toList).toArray⟩):=by
   show _=_
   have:s.data.toList.drop (k+1)=cZ c s.data.toList:=by
    conv=>lhs;arg 2;rw[e]
    have h3:k+1=(upB c s.data.toList++[c]).length:=by simp[hk]
    rw[h3,show upB c s.data.toList++c::cZ c s.data.toList=(upB c s.data.toList++[c])++cZ c s.data.toList by simp,List.drop_left'];rfl
   rw[<-this,<-iL,sL]
  rw[if_pos rfl,hk]at CI;clear hi h1 h2 e hk hc hsl;go_enter func154,ntmps154;go_wp2_with fail;refine (CI.out _).mono ?_;rintro e w' ⟨rfl,rfl⟩;go_wp2
  go_region
  all_goals (try go_wp2)
  all_goals go_ret3
  all_goals exact ⟨by rw[<-H1.out,<-H2.out];rfl,(zi _ _).drew⟩
theorem iS(c:UInt8)(s:ByteArray)(w:World)(hs:s.size<=16777216):Calls prog 102 #[Y s,Y ⟨#[c]⟩] w fun e w'=>e=H (E #[Y ⟨(upB c s.data.toList).toArray⟩,Y ⟨(cZ c s.data.toList).toArray⟩,D (s.data.toList.contains c)])/\Below w.heap.size w w':=by
 have CC:Hid (∀W,CB 154 #[Y s,Y ⟨#[c]⟩] W (E #[Y ⟨(upB c s.data.toList).toArray⟩,Y ⟨(cZ c s.data.toList).toArray⟩,D (s.data.toList.contains c)])):=fun W=>Ed c s W hs
 generalize (⟨(upB c s.data.toList).toArray⟩:ByteArray)=A at CC⊢;generalize (⟨(cZ c s.data.toList).toArray⟩:ByteArray)=B at CC⊢;generalize s.data.toList.contains c=t at CC⊢;go_enter func102,ntmps102;go_wp2_with fail;refine (CC.out _).mono ?_;rintro e w1 ⟨rfl,b1⟩;go_wp2;go_ret3;exact ⟨rfl,b1⟩
end
section
open Go.RowKit
set_option linter.unusedVariables false
theorem pO(a b:ByteArray):(a.toList==b.toList)=decide (a=b):=by
 rw[zf,zf]
 by_cases h:a=b
 .subst h;rw[decide_eq_true rfl];exact beq_self_eq_true _
 rw[decide_eq_false h];exact beq_eq_false_iff_ne.2 (fun e=>h (bX e))
theorem dO(l:List UInt8):(⟨l.toArray⟩:ByteArray).size=l.length:=zk
def qU(s:Int):ByteArray:=if s=1 then ⟨#[104,116,116,112,58]⟩else if s=2 then ⟨#[104,116,116,112,115,58]⟩else ⟨#[]⟩
theorem Ee(s:Int):(qU s).toList.isEmpty=decide (cJ s=0):=by
 unfold qU cJ
 by_cases h1:s=1
 .rw[if_pos h1,if_pos h1];exact aX (u:=⟨#[104,116,116,112,58]⟩) de
 rw[if_neg h1,if_neg h1]
 by_cases h2:s=2
 .rw[if_pos h2,if_pos h2];exact aX (u:=⟨#[104,116,116,112,115,58]⟩) de
 rw[if_neg h2,if_neg h2];exact aV (u:=⟨#[]⟩) rfl
theorem VG{s:Int}(h:cJ s≠0):qU s=⟨(iX s).toArray⟩:=by
 unfold cJ at h;unfold qU iX
 by_cases h1:s=1
 .subst h1;rfl
 rw[if_neg h1]at h
 by_cases h2:s=2
 .subst h2;rfl
 rw[if_neg h2]at h;exact absurd rfl h
theorem jL(s:Int)(w:World):Calls prog 32 #[I J s] w fun e w'=>e=H (Y (qU s))/\w=w':=by
 by_cases h1:s=1
 .subst h1
  go_enter func32,ntmps32;go_wp2;go_ret;exact ⟨rfl,rfl⟩
 have q1:(s==1)=false:=beq_eq_false_iff_ne.2 h1
 by_cases h2:s=2
 .subst h2
  go_enter func32,ntmps32;go_wp2;go_ret;exact ⟨rfl,rfl⟩
 have q2:(s==2)=false:=beq_eq_false_iff_ne.2 h2;have HD:Hid (⟨#[]⟩=qU s):=by show _=_;unfold qU;rw[if_neg h1,if_neg h2]
 clear h1 h2;go_enter func32,ntmps32;go_wp2;go_ret;exact ⟨cA HD.out,rfl⟩
theorem EL(n:Int)(w:World):Calls prog 34 #[I J n] w fun e w'=>e=H (D (decide (1<=n/\n<=65535)))/\w=w':=by
 obtain ⟨b,hb⟩: ∃b,decide (1<=n/\n<=65535)=b:=⟨_,rfl⟩;rw[hb]
 by_cases h1:0<n
 .by_cases h2:n<=65535
  .have HD:Hid (b=true):=hb.symm.trans (decide_eq_true ⟨om,h2⟩)
   clear hb;go_enter func34,ntmps34;go_wp2;go_ret;exact ⟨aG HD.out.symm,rfl⟩
  have HD:Hid (b=false):=hb.symm.trans (decide_eq_false om);clear hb;go_enter func34,ntmps34;go_wp2;go_ret;exact ⟨aG HD.out.symm,rfl⟩
 have HD:Hid (b=false):=hb.symm.trans (decide_eq_false om);clear hb;go_enter func34,ntmps34;go_wp2;go_ret;exact ⟨aG HD.out.symm,rfl⟩
theorem tU(s:ByteArray)(set:Int)(w:World)(hM:gG w)(hs:s.size<=4194304):Calls prog 84 #[Y s,I J set] w fun e w'=>e=H (D (decide (plB set s=s)))/\Below w.heap.size w w':=by
 have CP:Hid (CB 104 #[Y s,I J set] w (Y (plB set s))):=oG s set w hM om;have HB:Hid (((plB set s).toList==s.toList)=decide (plB set s=s)):=pO _ _;generalize decide (plB set s=s)=b at HB⊢;generalize plB set s=p at CP HB;clear hM;go_enter func84,ntmps84;go_wp2_with fail;refine CP.out.mono ?_;rintro e wa ⟨rfl,ba⟩;have hb:=HB.out;go_wp2;go_ret;exact ⟨rfl,ba⟩
theorem VH(p:ByteArray)(w:World)(hM:gG w)(hs:p.size<=4194304):Calls prog 35 #[Y p] w fun e w'=>e=H (D (UZ p))/\Below w.heap.size w w':=by
 have CH:Hid (∀W,CS 83 #[Y p,Y ⟨#[47]⟩] W (D (bR p))):=fun W=>
  (strings_HasPrefix p ⟨#[47]⟩ W).mono fun e w' h=>⟨by rw[h.1,tR],h.2.symm⟩
 have CI:Hid (CB 84 #[Y p,I J 1] w (D (decide (plB 1 p=p)))):=tU p 1 w hM om;have CD:Hid (∀W,CB 85 #[Y p] W (Y (cE p))):=fun W=>tS p W om
 have HB:Hid (((cE p).toList==p.toList)=decide (cE p=p)):=pO _ _;unfold UZ;generalize decide (cE p=p)=b3 at HB⊢;generalize cE p=q at CD HB;generalize decide (plB 1 p=p)=b2 at CI⊢;generalize bR p=b1 at CH⊢;clear hM
 cases b1 with
 |false=>
  go_enter func35,ntmps35;go_wp2_with fail;refine (CH.out _).mono ?_;rintro e w' ⟨rfl,rfl⟩;go_wp2;go_ret;exact ⟨rfl,zi _ _⟩
 |true=>
  cases b2 with
  |false=>
   go_enter func35,ntmps35;go_wp2_with fail;refine (CH.out _).mono ?_;rintro e w' ⟨rfl,rfl⟩;go_wp2_with fail;refine CI.out.mono ?_;rintro e wa ⟨rfl,ba⟩;go_wp2;go_ret;exact ⟨rfl,ba⟩
  |true=>
   go_enter func35,ntmps35;go_wp2_with fail;refine (CH.out _).mono ?_;rintro e w' ⟨rfl,rfl⟩;go_wp2_with fail;refine CI.out.mono ?_;rintro e wa ⟨rfl,ba⟩;go_wp2_with fail;refine (CD.out _).mono ?_;rintro e wb ⟨rfl,bb⟩;have hb:=HB.out;go_wp2;go_ret;exact ⟨rfl,ba.trans (bb.mono ba.size)⟩
theorem RG(r:ByteArray)(q:Bool)(w:World)(hM:gG w)(hs:r.size<=4194304):Calls prog 36 #[Y r,D q] w fun e w'=>e=H (D (VA r q))/\Below w.heap.size w w':=by
 have CI:Hid (CB 84 #[Y r,I J 2] w (D (decide (plB 2 r=r)))):=tU r 2 w hM hs;have HE:Hid (r.toList.isEmpty=decide (r.size=0)):=by
  show _=_
  by_cases h:r.size=0
  .rw[aV h,decide_eq_true h]
  rw[aX om,decide_eq_false h]
 unfold VA;generalize decide (plB 2 r=r)=b1 at CI⊢;generalize decide (r.size=0)=b2 at HE⊢;clear hM
 cases b1 with
 |false=>
  go_enter func36,ntmps36;go_wp2_with fail;refine CI.out.mono ?_;rintro e wa ⟨rfl,ba⟩;go_wp2;go_ret;exact ⟨rfl,ba⟩
 |true=>
  cases q with
  |true=>
   go_enter func36,ntmps36;go_wp2_with fail;refine CI.out.mono ?_;rintro e wa ⟨rfl,ba⟩;go_wp2;go_ret;exact ⟨rfl,ba⟩
  |false=>
   go_enter func36,ntmps36;go_wp2_with fail;refine CI.out.mono ?_;rintro e wa ⟨rfl,ba⟩;have he:=HE.out;go_wp2;go_ret;exact ⟨rfl,ba⟩
theorem He(c:UInt8):(0<=Lib.indexByte [9,10,13] c->nU c=false)/\(Lib.indexByte [9,10,13] c<0->nU c=true):=by
 have key: ∀n:Nat,n<256->(0<=Lib.indexByte [9,10,13] (zn n)->nU (zn n)=false)/\(Lib.indexByte [9,10,13] (zn n)<0->nU (zn n)=true):=by decide+kernel
 have h:=key c.toNat c.toNat_lt;simpa using h
theorem wW(t:ByteArray)(w:World)(hts:t.size<=1048576):Calls prog 147 #[Y t] w fun e w'=>e=H (Y ⟨(t.data.toList.filter nU).toArray⟩)/\Below w.heap.size w w':=by
 obtain ⟨i0,hi,hz0,hz1,hz2⟩:=info_parts info5;go_enter func147,ntmps147;go_wp2_with (at_make;refine wpList_make_own _ rfl _ _ 22 rfl w.heap.size 5 i0 (.int .u8 0) 1 underlying22 hi hz0 hz1 _ _ _ t.size rfl rfl om (by rw[hz2];omega) (by unfold maxLen;omega) (zj _) ?_);intro wm hmo hgm;have Bm:Below w.heap.size w wm:=(zi _ _).grown hgm (zj _) (fun k hk=>by cases hk);have o9:wm.ownsRow w.heap.size 5 1 (.slice (some ⟨w.heap.size,0,none⟩) 0 t.size) 0 []:=hmo;clear hmo hgm;go_wp2_with fail
 go_loopw[3,10] (fun b i wr=> ∃(k:Nat) (o:List UInt8),k<=t.size/\i=I J k/\o.length<=k/\wr.ownsRow w.heap.size 5 1 b o.length (aD o)/\o++(t.data.toList.drop k).filter nU=t.data.toList.filter nU/\Below w.heap.size w wr)
  (fun _ i _=>t.size-(intOf i).toNat)
 case atStart=>exact ⟨0,[],zu _,rfl,zu _,o9,rfl,Bm⟩
 obtain ⟨k,o,hk,rfl,hol,hown,he,hbel⟩:=hrel;have HE:Hid (o++(t.data.toList.drop k).filter nU=t.data.toList.filter nU):=he;clear he o9 Bm hi hz0 hz1 hz2;have hsz:=hbel.size
 by_cases hlt:k<t.size
 .have hdr:=gC t k hlt
  rw[hdr]at HE;clear hdr;obtain ⟨d,hd⟩: ∃d:Nat,t[k].toNat=d:=⟨_,rfl⟩;have hd2:d<256:=by rw[<-hd];exact t[k].toNat_lt
  have CX:Hid (∀W,CS 204 #[Y ⟨#[9,10,13]⟩,.int .u8 (d:Int)] W (I J (Lib.indexByte [9,10,13] t[k]))):=fun W=>by
   have hu:((d:Int)).toNat.toUInt8=t[k]:=by rw[<-hd];simp
   have h:=strings_IndexByte ⟨#[9,10,13]⟩ (d:Int) W;rw[hu]at h;exact h.mono fun e w' h=>⟨h.1,h.2.symm⟩
  have hx:=He t[k]
  by_cases h0:0<=Lib.indexByte [9,10,13] t[k]
  .have hb:=hx.1 h0
   have HN:Hid (o++(t.data.toList.drop (k+1)).filter nU=t.data.toList.filter nU):=by show _=_;rw[<-HE.out,zs,hb];rfl
   clear hx hb;generalize Lib.indexByte [9,10,13] t[k]=z at CX h0;go_wp2_with fail;refine (CX.out _).mono ?_;rintro e w' ⟨rfl,rfl⟩;go_wp2;go_roundw
   case rel=>exact ⟨k+1,o,om,gn,om,hown,HN.out,hbel⟩
   case measure=>exact j1
  have hb:=hx.2 om;have HN:Hid ((o++[t[k]])++(t.data.toList.drop (k+1)).filter nU=t.data.toList.filter nU):=by show _=_;rw[<-HE.out,zs,hb];simp
  have HD:Hid ((d:Int)=(t[k].toNat:Int)):=by show _=_;omega
  clear hx hb;generalize Lib.indexByte [9,10,13] t[k]=z at CX h0;go_wp2_with fail;refine (CX.out _).mono ?_;rintro e w' ⟨rfl,rfl⟩;go_wp2_with (at_builtin;refine aB _ rfl _ _ 22 rfl w.heap.size 5 (.int .u8 0) 1 underlying22 info5 rfl _ _ _ rfl hown #[.int .u8 (d:Int)] 1 rfl rfl (jJ _) om (by unfold maxLen;omega) om ?_);intro v' w1 hown' hb1;have R:=jI t[k] HD.out hown';have B1:Below w.heap.size w w1:=hbel.trans hb1;clear hown' hb1 hown hbel;go_wp2;go_roundw
  case rel=>exact ⟨k+1,_,om,gn,by simp;omega,R,HN.out,B1⟩
  case measure=>exact j1
 have HN:Hid (o=t.data.toList.filter nU):=by
  show _=_;rw[<-HE.out,List.drop_of_length_le (by simp;omega)];simp
 have HO:=bG (P:=prog) wr 22 9 5 underlying22 underlying5 underlying9 hown;go_wp2;go_ret;exact ⟨sH HN.out,hbel⟩
theorem rH(s:ByteArray)(w:World)(hs:s.size<=1048576)(hM:qE w):Calls prog 99 #[Y s] w fun e w'=>e=H (Y ⟨(eC s.data.toList).toArray⟩)/\Below w.heap.size w w':=by
 have hsl:s.data.toList.length=s.size:=by simp
 have h1:=EF s.data.toList gD;have h2:=List.length_filter_le nU (Lib.trimS s.data.toList gD);have hts:(⟨(Lib.trimS s.data.toList gD).toArray⟩:ByteArray).size<=1048576:=by rw[dO];omega
 have hfs:(⟨((⟨(Lib.trimS s.data.toList gD).toArray⟩:ByteArray).data.toList.filter nU).toArray⟩:ByteArray).size<=1048576:=by
  rw[dO];show ((Lib.trimS s.data.toList gD).filter nU).length<=_;omega
 have CT:Hid (∀W,CB 148 #[Y s] W (Y ⟨(Lib.trimS s.data.toList gD).toArray⟩)):=fun W=>V3 s W om
 have HC:Hid ((⟨(upB 35 (⟨((⟨(Lib.trimS s.data.toList gD).toArray⟩:ByteArray).data.toList.filter nU).toArray⟩:ByteArray).data.toList).toArray⟩:ByteArray)=⟨(eC s.data.toList).toArray⟩):=by
  show _=_;rw[E5];rfl
 generalize (⟨(eC s.data.toList).toArray⟩:ByteArray)=C at HC⊢;generalize (⟨(Lib.trimS s.data.toList gD).toArray⟩:ByteArray)=T at CT hts hfs HC;have CW:Hid (∀W,CB 147 #[Y T] W (Y ⟨(T.data.toList.filter nU).toArray⟩)):=fun W=>wW T W hts
 generalize (⟨(T.data.toList.filter nU).toArray⟩:ByteArray)=F at CW hfs HC;have CC:Hid (∀W,Below w.heap.size w W->CB 102 #[Y F,Y ⟨#[35]⟩] W (E #[Y ⟨(upB 35 F.data.toList).toArray⟩,Y ⟨(cZ 35 F.data.toList).toArray⟩,D (F.data.toList.contains 35)])):=fun W hb=>iS 35 F W om
 clear hM h1 h2 hsl;go_enter func99,ntmps99;go_wp2_with fail;refine (CT.out _).mono ?_;rintro e wa ⟨rfl,ba⟩;go_wp2_with fail;refine (CW.out _).mono ?_;rintro e wb ⟨rfl,bb⟩;have b2:=ba.trans (bb.mono ba.size);clear bb ba;go_wp2_with fail;refine (CC.out _ b2).mono ?_;rintro e wc ⟨rfl,bc⟩;go_wp2;go_ret;exact ⟨cA HC.out,b2.trans (bc.mono b2.size)⟩
theorem AF(s:ByteArray)(w:World)(hs:s.size<=1048576):Calls prog 145 #[Y s] w fun e w'=>e=H (I J (tL s.data.toList))/\Below w.heap.size w w':=by
 have CL:Hid (CB 172 #[Y s] w (Y ⟨(aF s.data.toList).toArray⟩)):=xQ s w hs;have HN:Hid (tL s.data.toList=if (⟨(aF s.data.toList).toArray⟩:ByteArray).data.toList=[104,116,116,112]then 1 else if (⟨(aF s.data.toList).toArray⟩:ByteArray).data.toList=[104,116,116,112,115]then 2 else 0):=rfl;generalize (⟨(aF s.data.toList).toArray⟩:ByteArray)=L at CL HN;generalize tL s.data.toList=z at HN⊢
 by_cases h1:L.data.toList=[104,116,116,112]
 .have q1:=MM h1
  have HZ:Hid (1=z):=by show _=_;rw[HN.out,if_pos h1]
  clear h1 HN;go_enter func145,ntmps145;go_wp2_with fail;refine CL.out.mono ?_;rintro e wa ⟨rfl,ba⟩;go_wp2;go_ret;exact ⟨aR HZ.out,ba⟩
 have q1:=MN h1
 by_cases h2:L.data.toList=[104,116,116,112,115]
 .have q2:=MM h2
  have HZ:Hid (2=z):=by show _=_;rw[HN.out,if_neg h1,if_pos h2]
  clear h1 h2 HN;go_enter func145,ntmps145;go_wp2_with fail;refine CL.out.mono ?_;rintro e wa ⟨rfl,ba⟩;go_wp2;go_ret;exact ⟨aR HZ.out,ba⟩
 have q2:=MN h2;have HZ:Hid (0=z):=by show _=_;rw[HN.out,if_neg h1,if_neg h2]
 clear h1 h2 HN;go_enter func145,ntmps145;go_wp2_with fail;refine CL.out.mono ?_;rintro e wa ⟨rfl,ba⟩;go_wp2;go_ret;exact ⟨aR HZ.out,ba⟩
def noV(c:Int):Value:=.iface 69 (.agg #[I J c])
def VI(r:Option (Int×List UInt8)):Value:=match r with
 |none=> E #[I J 0,Y ⟨#[]⟩,noV 2]
 |some (s,t)=> E #[I J s,Y ⟨(t.dropWhile slB).toArray⟩,.nilIface]
theorem RH(l:List UInt8):Lib.trimLeftS l [47,92]=l.dropWhile slB:=by
 unfold Lib.trimLeftS
 congr 1
 funext c
 unfold slB
 by_cases h1:c=47
 .subst h1;rfl
 by_cases h2:c=92
 .subst h2;rfl
 simp[h1,h2]
theorem EM(t:ByteArray)(w:World)(hs:t.size<=1048576)(hM:qE w):Calls prog 98 #[Y t] w fun e w'=>e=H (VI (eT t.data.toList))/\Below w.heap.size w w':=by
 have hsl:t.data.toList.length=t.size:=by simp
 have hu:(upB 58 t.data.toList).length<=t.size:=by rw[<-hsl];exact (zl _).length_le
 have hb:(cZ 58 t.data.toList).length<=t.size:=by
  rw[<-hsl];unfold cZ;rw[zt]
  have:=(zm (fun x=>x !=58) (l:=t.data.toList)).length_le
  omega
 have CC:Hid (CB 102 #[Y t,Y ⟨#[58]⟩] w (E #[Y ⟨(upB 58 t.data.toList).toArray⟩,Y ⟨(cZ 58 t.data.toList).toArray⟩,D (t.data.toList.contains 58)])):=iS 58 t w om;have HW:Hid (eT t.data.toList=if tL (⟨(upB 58 t.data.toList).toArray⟩:ByteArray).data.toList=0∨(⟨(cZ 58 t.data.toList).toArray⟩:ByteArray).data.toList.length-((⟨(cZ 58 t.data.toList).toArray⟩:ByteArray).data.toList.dropWhile slB).length<2 then none else some (tL (⟨(upB 58 t.data.toList).toArray⟩:ByteArray).data.toList,(⟨(cZ 58 t.data.toList).toArray⟩:ByteArray).data.toList)):=UY _;have hus:(⟨(upB 58 t.data.toList).toArray⟩:ByteArray).size<=1048576:=by rw[dO];omega
 have hbs:(⟨(cZ 58 t.data.toList).toArray⟩:ByteArray).size<=1048576:=by rw[dO];omega
 generalize (⟨(upB 58 t.data.toList).toArray⟩:ByteArray)=U at CC HW hus;generalize (⟨(cZ 58 t.data.toList).toArray⟩:ByteArray)=B at CC HW hbs;generalize eT t.data.toList=R at HW⊢;generalize t.data.toList.contains 58=fnd at CC;have CN:Hid (∀W,CB 145 #[Y U] W (I J (tL U.data.toList))):=fun W=>AF U W hus
 have CT:Hid (∀W,CB 146 #[Y B,Y ⟨#[47,92]⟩] W (Y ⟨(B.data.toList.dropWhile slB).toArray⟩)):=fun W=>by
  have h:=Any.strings_TrimLeft_laid lays161 kr B ⟨#[47,92]⟩ W de (ascii_of_all de);rw[show (⟨#[47,92]⟩:ByteArray).data.toList=[47,92] from rfl,RH]at h;exact h
 have hr:(⟨(B.data.toList.dropWhile slB).toArray⟩:ByteArray).size=(B.data.toList.dropWhile slB).length:=dO _;have hB:B.size=B.data.toList.length:=by simp
 have hle:=(zm slB (l:=B.data.toList)).length_le;have HK:Hid (B.data.toList.length-(B.data.toList.dropWhile slB).length=B.size-(⟨(B.data.toList.dropWhile slB).toArray⟩:ByteArray).size):=by show _=_;omega
 have HR0:Hid (∀s:Int,VI (some (s,B.data.toList))=E #[I J s,Y ⟨(B.data.toList.dropWhile slB).toArray⟩,.nilIface]):=fun s=>rfl
 have hrb:(⟨(B.data.toList.dropWhile slB).toArray⟩:ByteArray).size<=B.size:=om;rw[HK.out]at HW;generalize (⟨(B.data.toList.dropWhile slB).toArray⟩:ByteArray)=Z at CT HW HR0 hrb;generalize tL U.data.toList=n at CN HW;clear hr hB hle HK hsl hu hb hM;go_enter func98,ntmps98;go_wp2_with fail;refine CC.out.mono ?_;rintro e wa ⟨rfl,ba⟩;go_wp2_with fail;refine (CN.out _).mono ?_;rintro e wb ⟨rfl,bb⟩;have b2:=ba.trans (bb.mono ba.size);clear bb ba;go_wp2_with fail;refine (CT.out _).mono ?_;rintro e wd ⟨rfl,bd⟩;have b3:=b2.trans (bd.mono b2.size);clear bd b2 CC CN CT
 by_cases hn:n=0
 .have HZ:Hid (R=none):=by show _=_;rw[HW.out,if_pos (.inl hn)]
  subst hn;clear HW;go_wp2;go_ret3;exact ⟨by rw[HZ.out];rfl,b3⟩
 have qn:(n==0)=false:=beq_eq_false_iff_ne.2 hn
 by_cases h2:B.size-Z.size<2
 .have HZ:Hid (R=none):=by show _=_;rw[HW.out,if_pos (.inr h2)]
  have h2i:(B.size:Int)-(Z.size:Int)<2:=om;clear HW hn h2;go_wp2;go_ret3;exact ⟨by rw[HZ.out];rfl,b3⟩
 have HZ:Hid (R=some (n,B.data.toList)):=by show _=_;rw[HW.out,if_neg om]
 have h2i: ¬(B.size:Int)-(Z.size:Int)<2:=om;clear HW hn h2;go_wp2;go_ret3;exact ⟨by rw[HZ.out,HR0.out];rfl,b3⟩
theorem RI(A:ByteArray)(w:World)(hs:A.size<=1048576)(hM:qE w):Calls prog 151 #[Y A] w fun e w'=>e=H (E #[Y ⟨(hoB A).toArray⟩,Y ⟨(poB A).toArray⟩])/\Below w.heap.size w w':=by
 have hA:A.data.toList.length=A.size:=by simp
 obtain ⟨hf1,hf2⟩:=Gb A;have CL:Hid (∀W,CS 210 #[Y A,.int .u8 93] W (I J (Lib.lastIndexByte A 93))):=fun W=>(strings_LastIndexByte A 93 om W).mono fun e w' h=>⟨h.1,h.2.symm⟩
 have hd:=iL A (frB A);have ht:=mM A (frB A);have hes:(A.extract (frB A) A.size).size<=1048576:=by rw[zg];omega
 have CC:Hid (CB 102 #[Y (A.extract (frB A) A.size),Y ⟨#[58]⟩] w (E #[Y ⟨(upB 58 (A.extract (frB A) A.size).data.toList).toArray⟩,Y ⟨(poB A).toArray⟩,D ((A.extract (frB A) A.size).data.toList.contains 58)])):=by
  have h:=iS 58 (A.extract (frB A) A.size) w om;have e:cZ 58 (A.extract (frB A) A.size).data.toList=poB A:=by rw[hd];rfl
  rw[e]at h;exact h
 have HO:Hid (A.extract 0 (frB A)++(⟨(upB 58 (A.extract (frB A) A.size).data.toList).toArray⟩:ByteArray)=⟨(hoB A).toArray⟩):=by
  apply bX;show toL _=hoB A;unfold hoB;rw[<-ht,<-hd];simp[toL]
 have hus:(⟨(upB 58 (A.extract (frB A) A.size).data.toList).toArray⟩:ByteArray).size<=1048576:=by
  rw[dO,hd]
  have:=(zl (fun x=>x !=58) (l:=A.data.toList.drop (frB A))).length_le
  unfold upB;rw[zt]at this;omega
 have hts:(A.extract 0 (frB A)).size<=1048576:=by rw[zg];omega
 generalize (⟨(upB 58 (A.extract (frB A) A.size).data.toList).toArray⟩:ByteArray)=U at CC HO hus;generalize (⟨(poB A).toArray⟩:ByteArray)=Pt at CC⊢;generalize (⟨(hoB A).toArray⟩:ByteArray)=Ho at HO⊢;generalize (A.extract (frB A) A.size).data.toList.contains 58=fnd at CC;generalize Lib.lastIndexByte A 93=z at CL hf2;generalize frB A=f at*;have hz:z=(f:Int)-1:=om;subst hz;clear hd ht hf2 hM hA hes;have hfi:(f:Int)<=(A.size:Int):=om;go_enter func151,ntmps151;go_wp2_with fail;refine (CL.out _).mono ?_;rintro e w' ⟨rfl,rfl⟩;have e1:(f:Int)-1+1=(f:Int):=om;go_wp2_with fail;refine CC.out.mono ?_;rintro e wa ⟨rfl,ba⟩;go_wp2;go_ret2;exact ⟨by rw[<-HO.out];rfl,ba⟩
def oH(s:Int)(p:List UInt8):Value:=if 1<=eP s p/\eP s p<=65535 then E #[I J (eP s p),.nilIface]else E #[I J 0,noV 5]
theorem MO(p:ByteArray)(s:Int)(w:World)(hs:s=1∨s=2):Calls prog 152 #[Y p,I J s] w fun e w'=>e=H (oH s p.data.toList)/\w=w':=by
 by_cases h0:p.size=0
 .have CD:Hid (∀W,CS 17 #[I J s] W (I J (cJ s))):=fun W=>rG s W
  have HP:Hid (oH s p.data.toList=E #[I J (cJ s),.nilIface]):=by
   show _=_;have e:p.data.toList=[]:=ze (by simpa using h0);rw[e]
   rcases hs with rfl|rfl<;>rfl
  have hem:=aV h0;generalize cJ s=d at CD HP;clear h0 hs;go_enter func152,ntmps152;go_wp2_with fail;refine (CD.out _).mono ?_;rintro e w' ⟨rfl,rfl⟩;go_wp2;go_ret2;exact ⟨by rw[HP.out];rfl,rfl⟩
 have hem:=aX (show 0<p.size by omega);have hne:p.data.toList≠[]:=fun e=>h0 (by have:=congrArg zv e;simpa using this)
 have CG:Hid (∀W,CS 211 #[Y p,I J 10,I J 5] W (eN (cU 10 5 p.data.toList))):=fun W=>mW p 10 5 W de de
 cases hn:cU 10 5 p.data.toList with
 |none=>
  have hpn:eP s p.data.toList= -1:=by unfold eP;rw[if_neg hne,hn]
  rw[hn]at CG;have HP:Hid (oH s p.data.toList=E #[I J 0,noV 5]):=by show _=_;unfold oH;rw[hpn,if_neg de]
  have CG2:Hid (∀W,CS 211 #[Y p,I J 10,I J 5] W (E #[I J 0,D false])):=CG;clear h0 hs hne hn hpn CG;go_enter func152,ntmps152;go_wp2_with fail;refine (CG2.out _).mono ?_;rintro e w' ⟨rfl,rfl⟩;go_wp2;go_ret2;exact ⟨by rw[HP.out];rfl,rfl⟩
 |some n=>
  have hpn:eP s p.data.toList=(n:Int):=by unfold eP;rw[if_neg hne,hn]
  rw[hn]at CG;have CG2:Hid (∀W,CS 211 #[Y p,I J 10,I J 5] W (E #[I J (n:Int),D true])):=CG;have CK:Hid (∀W,CS 34 #[I J (n:Int)] W (D (decide (1<=(n:Int)/\(n:Int)<=65535)))):=fun W=>EL n W
  by_cases hk:1<=(n:Int)/\(n:Int)<=65535
  .have HP:Hid (oH s p.data.toList=E #[I J (n:Int),.nilIface]):=by show _=_;unfold oH;rw[hpn,if_pos hk]
   rw[decide_eq_true hk]at CK;clear h0 hs hne hn hpn CG hk;go_enter func152,ntmps152;go_wp2_with fail;refine (CG2.out _).mono ?_;rintro e w' ⟨rfl,rfl⟩;go_wp2_with fail;refine (CK.out _).mono ?_;rintro e w' ⟨rfl,rfl⟩;go_wp2;go_ret2;exact ⟨by rw[HP.out];rfl,rfl⟩
  have HP:Hid (oH s p.data.toList=E #[I J 0,noV 5]):=by show _=_;unfold oH;rw[hpn,if_neg hk]
  rw[decide_eq_false hk]at CK;clear h0 hs hne hn hpn CG hk;go_enter func152,ntmps152;go_wp2_with fail;refine (CG2.out _).mono ?_;rintro e w' ⟨rfl,rfl⟩;go_wp2_with fail;refine (CK.out _).mono ?_;rintro e w' ⟨rfl,rfl⟩;go_wp2;go_ret2;exact ⟨by rw[HP.out];rfl,rfl⟩
def ptP(l:ByteArray):ByteArray:=cE (plB 1 ⟨(eA (yO l.data.toList)).toArray⟩)
theorem F3:cE (plB 1 ⟨#[47]⟩)=⟨#[47]⟩:=by decide+kernel
theorem X3(s:ByteArray):Lib.countB s ⟨#[92]⟩<=s.size:=by
 unfold Lib.countB;rw[show (⟨#[92]⟩:ByteArray).data.toList=[92] from rfl];unfold Lib.count;rw[oV 92 _ _ om]
 have:=List.count_le_length (a:=(92:UInt8)) (l:=s.data.toList)
 have e:s.data.toList.length=s.size:=by simp
 omega
theorem tV(s:ByteArray)(w:World)(hs:s.size<=4194304)(hK:gG w)(hM:qE w):Calls prog 103 #[Y s] w fun e w'=>e=H (Y (ptP s))/\Below w.heap.size w w':=by
 by_cases h0:s.size=0
 .have hem:=aV h0
  have HP:Hid (⟨#[47]⟩=ptP s):=by
   show _=_;unfold ptP;rw[ze (show s.data.toList.length=0 by simpa using h0)];exact F3.symm
  clear h0 hK hM;go_enter func103,ntmps103;go_wp2;go_ret;exact ⟨cA HP.out,zi _ _⟩
 have hem:=aX (show 0<s.size by omega);have hne:s.data.toList≠[]:=fun e=>h0 (by have:=congrArg zv e;simpa using this)
 have hbl:(eA s.data.toList).length=s.size:=by unfold eA;simp
 have hor:yO s.data.toList=s.data.toList:=by unfold yO;rw[if_neg hne]
 have CR:Hid (CB 155 #[Y s,Y ⟨#[92]⟩,Y ⟨#[47]⟩] w (Y ⟨(eA s.data.toList).toArray⟩)):=by
  obtain ⟨m,hm⟩:=hM;have hc:=X3 s;have h:=strings_ReplaceAll s ⟨#[92]⟩ ⟨#[47]⟩ m w om hm de (by
   rw[show (⟨#[47]⟩:ByteArray).size=1 from rfl];omega)
  rw[show (⟨#[92]⟩:ByteArray).data.toList=[92] from rfl,show (⟨#[47]⟩:ByteArray).data.toList=[47] from rfl,QT de]at h;exact h
 have hbs:(⟨(eA s.data.toList).toArray⟩:ByteArray).size<=4194304:=by rw[dO];omega
 have HP:Hid (cE (plB 1 ⟨(eA s.data.toList).toArray⟩)=ptP s):=by show _=_;unfold ptP;rw[hor]
 generalize (⟨(eA s.data.toList).toArray⟩:ByteArray)=Bk at CR hbs HP;have CP:Hid (∀W,Below w.heap.size w W->CB 104 #[Y Bk,I J 1] W (Y (plB 1 Bk))):=fun W hb=>oG Bk 1 W (hK.later hb) om
 have hps:(plB 1 Bk).size<=16777216:=by
  show (plL 1 (toL Bk)).toArray.size<=_;rw[zk];have h:=TO 1 (toL Bk);have h2:(toL Bk).length=Bk.size:=by simp[toL]
  omega
 generalize plB 1 Bk=Pl at CP hps HP;have CD:Hid (∀W,CB 85 #[Y Pl] W (Y (cE Pl))):=fun W=>tS Pl W hps
 generalize cE Pl=Dr at CD HP;clear h0 hne hbl hor hK hM;go_enter func103,ntmps103;go_wp2_with fail;refine CR.out.mono ?_;rintro e wa ⟨rfl,ba⟩;go_wp2_with fail;refine (CP.out _ ba).mono ?_;rintro e wb ⟨rfl,bb⟩;have b2:=ba.trans (bb.mono ba.size);clear bb ba;go_wp2_with fail;refine (CD.out _).mono ?_;rintro e wc ⟨rfl,bc⟩;go_wp2;go_ret;exact ⟨cA HP.out,b2.trans (bc.mono b2.size)⟩
